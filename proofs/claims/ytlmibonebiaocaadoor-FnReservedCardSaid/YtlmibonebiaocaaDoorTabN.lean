/-
  Chapter 4: what the program takes for a NAME, and for a sum of one sign.
-/
import Derived.Test.YtlmibonebiaocaaDoorTabW
import Derived.Test.YtlmibonebiaocaaDoorValIn
namespace Go.Proofs.YtlmibonebiaocaaDoor
open Go.RowKit

theorem words_in : (wordsL.all fun x => (x.toList == [110, 111, 110, 101]) || (nameB x && tabL.any fun y => (headV y).toList == x.toList)) = true := by decide +kernel
theorem heads_in : (tabL.all fun y => !nameB (headV y) || resB (headV y)) = true := by decide +kernel
theorem res_none {s : ByteArray} (h : (s.toList == [110, 111, 110, 101]) = true) : resB s = true := by
  have e : s = ⟨#[110, 111, 110, 101]⟩ := isW_eq h
  rw [e]
  decide +kernel
theorem res_head {s : ByteArray} {k : Nat} (hk : k < tabL.length) (h : ((headV tabL[k]).toList == s.toList) = true) (hn : nameB s = true) : resB s = true := by
  rw [beq_iff_eq, ByteArray.toList_eq, ByteArray.toList_eq] at h
  have e := bytes_ext h
  have := (List.all_eq_true.mp heads_in) _ (List.getElem_mem hk)
  rw [e, hn] at this
  simpa using this
theorem res_not {s : ByteArray} (h0 : (s.toList == [110, 111, 110, 101]) = false) (h : ∀ k (hk : k < tabL.length), ((headV tabL[k]).toList == s.toList && nameB s) = false) : resB s = false := by
  cases hr : resB s
  · rfl
  · have hm := (resB_iff s).mp hr
    have := (List.all_eq_true.mp words_in) _ hm
    rw [h0, Bool.false_or, Bool.and_eq_true, List.any_eq_true] at this
    obtain ⟨hn, y, hy, he⟩ := this
    obtain ⟨k, hk, rfl⟩ := List.getElem_of_mem hy
    have := h k hk
    rw [he, hn] at this
    exact absurd this (by decide)
theorem sgn_none : sgn 0 0 ⟨#[]⟩ = ⟨#[110, 111, 110, 101]⟩ := by rw [sgn_other (by decide)]; simp [txt, okV, emB, ByteArray.toList_eq]

set_option maxHeartbeats 2000000 in
theorem reserved_any (g : Nat) (s : ByteArray) (w : World) (hT : TabT w g) (ht : Tab w) (hs : s.size ≤ maxLen) :
    Calls Tryd.prog 17 #[.slice (some ⟨g, 0, none⟩) 34 34, .string s] w fun e w' => e = .returned (.bool (resB s)) ∧ Below w.heap.size w w' := by
  have HG : Hid (sgn 0 0 ⟨#[]⟩ = ⟨#[110, 111, 110, 101]⟩) := sgn_none
  have hlit : (⟨#[110, 111, 110, 101]⟩ : ByteArray).toList = [110, 111, 110, 101] := lit_list [110, 111, 110, 101]
  cases hq : (s.toList == [110, 111, 110, 101])
  · have hq2 : (s.toList == (⟨#[110, 111, 110, 101]⟩ : ByteArray).toList) = false := by rw [hlit]; exact hq
    have HQ : Hid ((s.toList == [110, 111, 110, 101]) = false) := hq
    clear hlit
    go_enter Tryd.func17, Tryd.ntmps17
    go_wp2_with fail
    refine (signOfI_any 0 0 ⟨#[]⟩ _ (by decide) ht).mono ?_
    rintro e w1 ⟨rfl, hb1⟩
    rw [HG.out]
    have hT1 := hT.call hb1
    go_wp2
    go_loopw [13] (fun v wr => ∃ k : Nat, k ≤ 34 ∧ v = .int .i64 (k : Int) ∧ Below w1.heap.size w1 wr ∧ Hid (∀ j (hj : j < tabL.length), j < k → ((headV tabL[j]).toList == s.toList && nameB s) = false)) (fun v _ => 34 - (intOf v).toNat)
    case atStart => exact ⟨0, by omega, rfl, Below.refl _ _, fun j _ hj => absurd hj (Nat.not_lt_zero _)⟩
    case round =>
      obtain ⟨k, hk, rfl, hB, HA⟩ := hrel
      by_cases hkl : k < 34
      · obtain ⟨c0, c1, c2⟩ := hT1.2 k hkl
        have hg := hT1.1
        have d0 := (hB.cell (p := ⟨g, k * 3, none⟩) hg).trans c0
        have d1 := (hB.cell (p := ⟨g, k * 3 + 1, none⟩) hg).trans c1
        have d2 := (hB.cell (p := ⟨g, k * 3 + 2, none⟩) hg).trans c2
        clear c0 c1 c2 hq hq2
        have HR : Hid (((headV (tabL[k]'hkl)).toList == s.toList && nameB s) = false → ∀ j (hj : j < tabL.length), j < k + 1 → ((headV tabL[j]).toList == s.toList && nameB s) = false) := fun hx j hj hjk => by
          by_cases e : j = k
          · subst e; exact hx
          · exact HA.out j hj (by omega)
        have HY : Hid (((headV (tabL[k]'hkl)).toList == s.toList) = true → nameB s = true → resB s = true) := fun h1 h2 => res_head hkl h1 h2
        generalize headV (tabL[k]'hkl) = x at d0 HR HY
        generalize (tabL[k]'hkl).1.2.1 = kk at d1
        generalize (tabL[k]'hkl).2 = fn at d2
        cases he : (x.toList == s.toList)
        · have HN : Hid (∀ j (hj : j < tabL.length), j < k + 1 → ((headV tabL[j]).toList == s.toList && nameB s) = false) := HR.out (by rw [he]; rfl)
          clear HR HY
          go_wp2
          go_roundw
          case rel => exact ⟨k + 1, by omega, by go_num, (by repeat' (first | (with_reducible exact Below.refl _ _) | (with_reducible refine Below.drew ?_) | (with_reducible refine balloc ?_ _) | (with_reducible refine bset ?_ _ ?_) | (with_reducible assumption) | (with_reducible refine bstep ?_ (by with_reducible assumption)) | go_size)), HN.out⟩
          case measure => simp [intOf]; omega
        · cases hn : nameB s
          · have HM : Hid (nameB s = false) := hn
            clear HR HY hn
            go_wp2_with fail
            refine (nameOkI_any s _ hs).mono ?_
            rintro e w2 ⟨rfl, rfl⟩
            rw [HM.out]
            go_wp2
            go_roundw
            case rel => exact ⟨k + 1, by omega, by go_num, (by repeat' (first | (with_reducible exact Below.refl _ _) | (with_reducible refine Below.drew ?_) | (with_reducible refine balloc ?_ _) | (with_reducible refine bset ?_ _ ?_) | (with_reducible assumption) | (with_reducible refine bstep ?_ (by with_reducible assumption)) | go_size)), fun j hj _ => Bool.and_false _⟩
            case measure => simp [intOf]; omega
          · have HZ : Hid (resB s = true) := HY.out he hn
            have HM : Hid (nameB s = true) := hn
            clear HR HY hn
            go_wp2_with fail
            refine (nameOkI_any s _ hs).mono ?_
            rintro e w2 ⟨rfl, rfl⟩
            rw [HM.out]
            go_wp2
            go_ret
            exact ⟨by rw [HZ.out]; rfl, (by repeat' (first | (with_reducible exact Below.refl _ _) | (with_reducible refine Below.drew ?_) | (with_reducible refine balloc ?_ _) | (with_reducible refine bset ?_ _ ?_) | (with_reducible refine bstep ?_ (by with_reducible assumption)) | go_size))⟩
      · have HZ : Hid (resB s = false) := res_not HQ.out fun j hj => HA.out j hj (by have := tab_len; omega)
        clear hq hq2
        go_wp2
        go_ret
        exact ⟨by rw [HZ.out]; rfl, bstep hb1 hB⟩
  · have hq2 : (s.toList == (⟨#[110, 111, 110, 101]⟩ : ByteArray).toList) = true := by rw [hlit]; exact hq
    have HZ : Hid (resB s = true) := res_none hq
    clear hlit
    go_enter Tryd.func17, Tryd.ntmps17
    go_wp2_with fail
    refine (signOfI_any 0 0 ⟨#[]⟩ _ (by decide) ht).mono ?_
    rintro e w1 ⟨rfl, hb1⟩
    rw [HG.out]
    go_wp2
    go_ret
    exact ⟨by rw [HZ.out]; rfl, hb1⟩

set_option maxHeartbeats 1000000 in
theorem nameFits_any (g : Nat) (s : ByteArray) (w : World) (hT : TabT w g) (ht : Tab w) (hs : s.size ≤ maxLen) :
    Calls Tryd.prog 53 #[.slice (some ⟨g, 0, none⟩) 34 34, .string s] w fun e w' => e = .returned (.bool (nmB s)) ∧ Below w.heap.size w w' := by
  cases hn : nameB s
  · have HN : Hid (nameB s = false) := hn
    have HB : Hid (nmB s = false) := (by unfold nmB; rw [hn]; rfl : nmB s = false)
    clear hn
    go_enter Tryd.func53, Tryd.ntmps53
    go_wp2_with fail
    refine (nameOkI_any s _ hs).mono ?_
    rintro e w1 ⟨rfl, rfl⟩
    rw [HN.out]
    go_wp2
    go_ret
    exact ⟨by rw [HB.out]; rfl, Below.refl _ _⟩
  · have HN : Hid (nameB s = true) := hn
    have HB : Hid (nmB s = !resB s) := (by unfold nmB; rw [hn]; rfl : nmB s = !resB s)
    clear hn
    go_enter Tryd.func53, Tryd.ntmps53
    go_wp2_with fail
    refine (nameOkI_any s _ hs).mono ?_
    rintro e w1 ⟨rfl, rfl⟩
    rw [HN.out]
    go_wp2_with fail
    refine (reserved_any g s _ hT ht hs).mono ?_
    rintro e w2 ⟨rfl, hb⟩
    generalize resB s = q at HB ⊢
    go_wp2
    go_ret
    exact ⟨by rw [HB.out]; rfl, hb⟩

theorem one_vi (s : ByteArray) : oneB s = (viB s || nmB s) := by
  unfold oneB viB noneB isW
  rfl

set_option maxHeartbeats 1000000 in
theorem fitsAlone_any (g : Nat) (s : ByteArray) (q : Nat) (w : World) (hT : TabT w g) (ht : Tab w) (hs : s.size ≤ maxLen) :
    Calls Tryd.prog 44 #[.slice (some ⟨g, 0, none⟩) 34 34, .string s, .int .i64 (q : Int)] w fun e w' => e = .returned (.bool (aloneB s q)) ∧ Below w.heap.size w w' := by
  by_cases h1 : q = 1
  · subst h1
    have e1 := one_vi s
    cases hv : viB s
    · have HA : Hid (aloneB s 1 = nmB s) := (by show oneB s = nmB s; rw [e1, hv]; rfl : aloneB s 1 = nmB s)
      have HV : Hid (viB s = false) := hv
      clear hv e1
      go_enter Tryd.func44, Tryd.ntmps44
      go_wp2_with fail
      refine (valueInI_any s _ hs ht).mono ?_
      rintro e w1 ⟨rfl, hb1⟩
      rw [HV.out]
      generalize viK s = tk
      generalize viN s = tn
      generalize viT s = tt
      have hW : Below w1.heap.size w1 (w1.alloc (.cells #[.int .i64 tk, .int .i64 tn, .string tt] 49)) := balloc (Below.refl _ _) _
      have hB := bstep hb1 hW
      go_wp2_with fail
      refine (nameFits_any g s _ (hT.call hB) (tab_call ht hB) hs).mono ?_
      rintro e w2 ⟨rfl, hb2⟩
      generalize nmB s = n at HA ⊢
      go_wp2
      go_ret
      exact ⟨by rw [HA.out]; rfl, bstep hB hb2⟩
    · have HA : Hid (aloneB s 1 = true) := (by show oneB s = true; rw [e1, hv]; rfl : aloneB s 1 = true)
      have HV : Hid (viB s = true) := hv
      clear hv e1
      go_enter Tryd.func44, Tryd.ntmps44
      go_wp2_with fail
      refine (valueInI_any s _ hs ht).mono ?_
      rintro e w1 ⟨rfl, hb1⟩
      rw [HV.out]
      generalize viK s = tk
      generalize viN s = tn
      generalize viT s = tt
      go_wp2
      go_ret
      exact ⟨by rw [HA.out]; rfl, (by repeat' (first | (with_reducible exact Below.refl _ _) | (with_reducible refine Below.drew ?_) | (with_reducible refine balloc ?_ _) | (with_reducible refine bset ?_ _ ?_) | (with_reducible assumption) | (with_reducible refine bstep ?_ (by with_reducible assumption)) | go_size))⟩
  have b1 : ((q : Int) == 1) = false := by simp; omega
  by_cases h46 : q = 4 ∨ q = 6
  · have HA : Hid (aloneB s q = nmB s) := (by unfold aloneB; rw [if_neg h1, if_pos h46] : aloneB s q = nmB s)
    rcases h46 with rfl | rfl
    · clear h1 b1
      go_enter Tryd.func44, Tryd.ntmps44
      go_wp2_with fail
      refine (nameFits_any g s _ hT ht hs).mono ?_
      rintro e w2 ⟨rfl, hb2⟩
      generalize nmB s = n at HA ⊢
      go_wp2
      go_ret
      exact ⟨by rw [HA.out]; rfl, hb2⟩
    · clear h1 b1
      go_enter Tryd.func44, Tryd.ntmps44
      go_wp2_with fail
      refine (nameFits_any g s _ hT ht hs).mono ?_
      rintro e w2 ⟨rfl, hb2⟩
      generalize nmB s = n at HA ⊢
      go_wp2
      go_ret
      exact ⟨by rw [HA.out]; rfl, hb2⟩
  · have HA : Hid (aloneB s q = false) := (by unfold aloneB; rw [if_neg h1, if_neg h46] : aloneB s q = false)
    have b4 : ((q : Int) == 4) = false := by simp; omega
    have b6 : ((q : Int) == 6) = false := by simp; omega
    clear h1 h46
    go_enter Tryd.func44, Tryd.ntmps44
    go_wp2
    go_ret
    exact ⟨by rw [HA.out]; rfl, Below.refl _ _⟩

end Go.Proofs.YtlmibonebiaocaaDoor
