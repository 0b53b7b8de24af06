/-
  The law of words, walked: whatever bytes it draws from, it answers true, and turns nothing that was there.
-/
import Derived.Test.YtlmibonebiaocaaDoorEndJ
import Derived.Test.YtlmibonebiaocaaDoorFormW
import Derived.Test.YtlmibonebiaocaaDoorDrawS
namespace Go.Proofs.YtlmibonebiaocaaDoor
open Go.RowKit

theorem wordsL_size : ∀ i (h : i < wordsL.length), wordsL[i].size ≤ 10 := by decide

set_option maxHeartbeats 1000000 in
theorem DrawReserved_any (a : Option Addr) (len cap : Nat) (w : World) (hcode : Code w.heap.size a len w) (hlen : len ≤ 4096) :
    Calls Tryd.prog 6 #[.slice a len cap] w fun e w' => ∃ s : ByteArray, e = .returned (.string s) ∧ s.size ≤ 10 ∧ Below w.heap.size w w' := by
  have hml : len ≤ maxLen := by unfold maxLen; omega
  go_enter Tryd.func6, Tryd.ntmps6
  go_wp2_with fail
  refine (l1New_any a len cap _ hcode hlen).mono ?_
  rintro e w1 ⟨rfl, hb1, hc1⟩
  have hcz := hc1.lt
  go_wp2_with fail
  refine (l4Words_any _).mono ?_
  rintro e w2 ⟨rfl, hT, hb2⟩
  have hc2 := hc1.call hb2
  have hz2 : w1.heap.size < w2.heap.size := by
    obtain ⟨_, h⟩ : ∃ v, w2.cell? ⟨w1.heap.size, 0 + 0, none⟩ = some v := ⟨_, hT 0 (by decide)⟩
    exact World.block_lt_of_cell? w2 _ h
  have hB2 := bstep hb1 hb2
  go_wp2_with fail
  refine (l1Once_any _ a len cap 2 _ hc2 hml (by decide) (by decide)).mono ?_
  rintro e w3 ⟨b, rfl, hb3, hc3⟩
  cases b
  · go_wp2_with fail
    refine (l2DrawAny_any _ a len cap _ hc3 hml).mono ?_
    rintro e w4 ⟨s, rfl, hs, hb4, hc4⟩
    go_wp2
    go_ret
    exact ⟨_, rfl, hs, But.below hB2 (Nat.le_refl _) (hb3.call hb4)⟩
  · go_wp2_with fail
    refine (l1Below_any _ a len cap 26 _ hc3 hml (by decide) (by decide)).mono ?_
    rintro e w4 ⟨x, rfl, hx0, hx1, hb4, hc4⟩
    have hb34 := hb3.call hb4
    have hT4 := hT.but hz2 (by omega) hb34
    obtain ⟨k, rfl⟩ : ∃ k : Nat, x = k := ⟨x.toNat, by omega⟩
    have hk : k < wordsL.length := by show k < 26; omega
    have hcell := hT4 k hk
    rw [Nat.zero_add] at hcell
    have hsz := wordsL_size k hk
    generalize wordsL[k] = t at hcell hsz
    clear hT4 hk hT
    go_wp2
    go_ret
    exact ⟨_, rfl, hsz, But.below hB2 (Nat.le_refl _) hb34⟩

theorem words_name : (wordsL.all fun x => nameB x) = true := by decide +kernel
theorem res_name {s : ByteArray} (h : resB s = true) : nameB s = true := (List.all_eq_true.mp words_name) _ ((resB_iff s).mp h)
theorem one_lit : isW ⟨#[49]⟩ [40] = false ∧ oneB ⟨#[49]⟩ = true := ⟨by decide +kernel, by decide +kernel⟩
theorem lit_small : (⟨#[40]⟩ : ByteArray).size ≤ maxLen ∧ (⟨#[115, 101, 116]⟩ : ByteArray).size ≤ maxLen ∧ (⟨#[49]⟩ : ByteArray).size ≤ maxLen ∧ (⟨#[41]⟩ : ByteArray).size ≤ maxLen := ⟨by decide, by decide, by decide, by decide⟩
/-- (set s 1) is a deed just where s is a NAME. -/
theorem set_end (s : ByteArray) : fm [⟨#[40]⟩, ⟨#[115, 101, 116]⟩, s, ⟨#[49]⟩, ⟨#[41]⟩] 1 0 = if nmB s then 5 else -1 := by
  have g : ∀ (i : Int) (k : Nat) (hk : k < 5), i = (k : Int) → sgAt [⟨#[40]⟩, ⟨#[115, 101, 116]⟩, s, ⟨#[49]⟩, ⟨#[41]⟩] i = [⟨#[40]⟩, ⟨#[115, 101, 116]⟩, s, ⟨#[49]⟩, ⟨#[41]⟩][k] := fun i k hk hi => by
    subst hi
    rw [sgAt_in (by omega) (by simp; omega)]
    rfl
  rw [fm_deed]
  unfold deedS
  rw [g 0 0 (by decide) rfl, g (0 + 1) 1 (by decide) rfl]
  show (if isW ⟨#[40]⟩ [40] then (if decB ⟨#[115, 101, 116]⟩ && !true then -1 else deedH _ _ ⟨#[115, 101, 116]⟩ (0 + 2)) else -1) = _
  rw [isW_same [40], decB_set, deedH_set]
  show isE _ (fm _ 0 (nmE _ 2)) [41] = _
  unfold nmE
  rw [g 2 2 (by decide) rfl]
  show isE _ (fm _ 0 (if nmB s then 2 + 1 else -1)) [41] = _
  cases nmB s
  · show isE _ (fm _ 0 (-1)) [41] = -1
    have h := endW_neg (L := [⟨#[40]⟩, ⟨#[115, 101, 116]⟩, s, ⟨#[49]⟩, ⟨#[41]⟩]) 1
    rw [show fm [⟨#[40]⟩, ⟨#[115, 101, 116]⟩, s, ⟨#[49]⟩, ⟨#[41]⟩] 0 (-1) = -1 from h]
    exact isE_neg (by decide) (by decide)
  · show isE _ (fm _ 0 3) [41] = 5
    rw [fm_sum, sumS_one (by rw [g 3 3 (by decide) rfl]; exact one_lit.1) (by rw [g 3 3 (by decide) rfl]; exact one_lit.2)]
    exact isE_is (by rw [g (3 + 1) 4 (by decide) rfl]; exact isW_same [41])

set_option maxRecDepth 100000 in
set_option maxHeartbeats 4000000 in
theorem lawResv (a : Option Addr) (len cap : Nat) (w : World) (ht : Tab w) (hcode : Code w.heap.size a len w) (_hml : len ≤ maxLen) :
    Calls Tryd.prog 3 #[.slice a len cap] w fun e w' => e = .returned (.bool true) ∧ Below w.heap.size w w' := by
  by_cases hbig : (4096 : Int) < len
  · go_enter Tryd.func3, Tryd.ntmps3
    go_wp2_with fail
    refine (big_any a len cap _).mono ?_
    rintro e w1 ⟨rfl, rfl⟩
    rw [decide_eq_true hbig]
    go_wp2
    go_ret
    exact ⟨rfl, Below.refl _ _⟩
  have hlen : len ≤ 4096 := by omega
  go_enter Tryd.func3, Tryd.ntmps3
  go_wp2_with fail
  refine (big_any a len cap _).mono ?_
  rintro e w0 ⟨rfl, hw0⟩
  rw [hw0]
  clear hw0
  rw [decide_eq_false (by omega)]
  go_wp2_with fail
  refine (DrawReserved_any a len cap _ hcode hlen).mono ?_
  rintro e w1 ⟨s, rfl, hs10, hB⟩
  have hss : s.size ≤ maxLen := by unfold maxLen; omega
  go_wp2_with fail
  refine (reservedI_any s _ (tab_call ht hB) hss).mono ?_
  rintro e w2 ⟨rfl, hb2⟩
  replace hB := bstep hB hb2
  clear hb2
  go_wp2_with fail
  refine (reservedS_any s _).mono ?_
  rintro e w3 ⟨rfl, hb3⟩
  replace hB := bstep hB hb3
  clear hb3
  have HF : Hid (fm [⟨#[40]⟩, ⟨#[115, 101, 116]⟩, s, ⟨#[49]⟩, ⟨#[41]⟩] 1 0 = if nmB s then 5 else -1) := set_end s
  have hA : ArgT (w3.alloc (.cells #[.string ⟨#[40]⟩, .string ⟨#[115, 101, 116]⟩, .string s, .string ⟨#[49]⟩, .string ⟨#[41]⟩] 9)) (some ⟨w3.heap.size, 0, none⟩) [⟨#[40]⟩, ⟨#[115, 101, 116]⟩, s, ⟨#[49]⟩, ⟨#[41]⟩] := fun i hi => by
    have h5 : i < 5 := hi
    refine ⟨w3.heap.size, 0, rfl, by simp, ?_⟩
    match i, h5 with
    | 0, _ => exact ⟨by simp [go_sem], lit_small.1⟩
    | 1, _ => exact ⟨by simp [go_sem], lit_small.2.1⟩
    | 2, _ => exact ⟨by simp [go_sem], hss⟩
    | 3, _ => exact ⟨by simp [go_sem], lit_small.2.2.1⟩
    | 4, _ => exact ⟨by simp [go_sem], lit_small.2.2.2⟩
  have hB3 := balloc hB (.cells #[.string ⟨#[40]⟩, .string ⟨#[115, 101, 116]⟩, .string s, .string ⟨#[49]⟩, .string ⟨#[41]⟩] 9)
  cases hr : resB s
  · cases hn : nameB s
    · have HR : Hid (resB s = false) := hr
      have HM : Hid (nameB s = false) := hn
      have HE : Hid (fm [⟨#[40]⟩, ⟨#[115, 101, 116]⟩, s, ⟨#[49]⟩, ⟨#[41]⟩] 1 0 = -1) := (by rw [HF.out]; unfold nmB; rw [hr, hn]; rfl : fm [⟨#[40]⟩, ⟨#[115, 101, 116]⟩, s, ⟨#[49]⟩, ⟨#[41]⟩] 1 0 = -1)
      clear hr hn HF
      go_wp2_with fail
      refine (deedEndI_any (some ⟨w3.heap.size, 0, none⟩) 5 [⟨#[40]⟩, ⟨#[115, 101, 116]⟩, s, ⟨#[49]⟩, ⟨#[41]⟩] 0 _ (tab_call ht hB3) hA (by show 5 ≤ 1048576; decide)).mono ?_
      rintro e w4 ⟨rfl, hb4⟩
      rw [HE.out]
      replace hB := bstep hB3 hb4
      clear hA hb4 HE hB3
      go_wp2_with fail
      refine (reservedI_any s _ (tab_call ht hB) hss).mono ?_
      rintro e w5 ⟨rfl, hb5⟩
      rw [HR.out]
      replace hB := bstep hB hb5
      clear hb5
      go_wp2_with fail
      refine (nameOkI_any s _ hss).mono ?_
      rintro e w6 ⟨rfl, rfl⟩
      rw [HM.out]
      go_wp2
      go_ret
      exact ⟨rfl, hB⟩
    · have HR : Hid (resB s = false) := hr
      have HM : Hid (nameB s = true) := hn
      have HE : Hid (fm [⟨#[40]⟩, ⟨#[115, 101, 116]⟩, s, ⟨#[49]⟩, ⟨#[41]⟩] 1 0 = 5) := (by rw [HF.out]; unfold nmB; rw [hr, hn]; rfl : fm [⟨#[40]⟩, ⟨#[115, 101, 116]⟩, s, ⟨#[49]⟩, ⟨#[41]⟩] 1 0 = 5)
      clear hr hn HF
      go_wp2_with fail
      refine (deedEndI_any (some ⟨w3.heap.size, 0, none⟩) 5 [⟨#[40]⟩, ⟨#[115, 101, 116]⟩, s, ⟨#[49]⟩, ⟨#[41]⟩] 0 _ (tab_call ht hB3) hA (by show 5 ≤ 1048576; decide)).mono ?_
      rintro e w4 ⟨rfl, hb4⟩
      rw [HE.out]
      replace hB := bstep hB3 hb4
      clear hA hb4 HE hB3
      go_wp2_with fail
      refine (reservedI_any s _ (tab_call ht hB) hss).mono ?_
      rintro e w5 ⟨rfl, hb5⟩
      rw [HR.out]
      replace hB := bstep hB hb5
      clear hb5
      go_wp2_with fail
      refine (nameOkI_any s _ hss).mono ?_
      rintro e w6 ⟨rfl, rfl⟩
      rw [HM.out]
      go_wp2
      go_ret
      exact ⟨rfl, hB⟩
  · have HR : Hid (resB s = true) := hr
    have HM : Hid (nameB s = true) := res_name hr
    have HN : Hid (nmB s = false) := (by unfold nmB; rw [hr]; simp : nmB s = false)
    clear hr
    go_wp2_with fail
    refine (deedEndI_any (some ⟨w3.heap.size, 0, none⟩) 5 [⟨#[40]⟩, ⟨#[115, 101, 116]⟩, s, ⟨#[49]⟩, ⟨#[41]⟩] 0 _ (tab_call ht hB3) hA (by show 5 ≤ 1048576; decide)).mono ?_
    rintro e w4 ⟨rfl, hb4⟩
    rw [HF.out, HN.out]
    replace hB := bstep hB3 hb4
    clear hA hb4 HF HN hB3
    go_wp2_with fail
    refine (reservedI_any s _ (tab_call ht hB) hss).mono ?_
    rintro e w5 ⟨rfl, hb5⟩
    rw [HR.out]
    replace hB := bstep hB hb5
    clear hb5
    go_wp2_with fail
    refine (nameOkI_any s _ hss).mono ?_
    rintro e w6 ⟨rfl, rfl⟩
    rw [HM.out]
    go_wp2
    go_ret
    exact ⟨rfl, hB⟩

end Go.Proofs.YtlmibonebiaocaaDoor
