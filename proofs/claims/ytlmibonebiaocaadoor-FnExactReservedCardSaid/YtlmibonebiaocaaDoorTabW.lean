/-
  Chapter 4: the program looks a form up in its table.
-/
import Derived.Test.YtlmibonebiaocaaDoorTabF
import Derived.Test.YtlmibonebiaocaaDoorPair
import Derived.Laws.EntriesVeiled
namespace Go.Proofs.YtlmibonebiaocaaDoor
open Go.RowKit

set_option maxHeartbeats 1000000 in
theorem fits_any (s : ByteArray) (k q : Nat) (F : Value) (w : World) :
    Calls Tryd.prog 51 #[.agg #[.string s, .int .i64 (k : Int), F], .int .i64 (q : Int)] w fun e w' => e = .returned (.bool (fitB k q)) ∧ Below w.heap.size w w' := by
  by_cases h1 : k = q
  · have HF : Hid (fitB k q = true) := (by simp [fitB, h1] : fitB k q = true)
    have b1 : ((k : Int) == (q : Int)) = true := by simp [h1]
    clear h1
    go_enter Tryd.func51, Tryd.ntmps51
    go_wp2
    go_ret
    exact ⟨by rw [HF.out]; rfl, by go_grown⟩
  have b1 : ((k : Int) == (q : Int)) = false := by simp; omega
  by_cases h2 : k = 2
  · have b2 : ((k : Int) == 2) = true := by simp; omega
    by_cases h3 : q = 3
    · have HF : Hid (fitB k q = true) := (by simp [fitB, h2, h3] : fitB k q = true)
      have b3 : ((q : Int) == 3) = true := by simp; omega
      clear h1 h2 h3
      go_enter Tryd.func51, Tryd.ntmps51
      go_wp2
      go_ret
      exact ⟨by rw [HF.out]; rfl, by go_grown⟩
    · have HF : Hid (fitB k q = false) := (by simp [fitB, h2, h3]; omega : fitB k q = false)
      have b3 : ((q : Int) == 3) = false := by simp; omega
      clear h1 h2 h3
      go_enter Tryd.func51, Tryd.ntmps51
      go_wp2
      go_ret
      exact ⟨by rw [HF.out]; rfl, by go_grown⟩
  · have HF : Hid (fitB k q = false) := (by simp [fitB, h1, h2] : fitB k q = false)
    have b2 : ((k : Int) == 2) = false := by simp; omega
    clear h1 h2
    go_enter Tryd.func51, Tryd.ntmps51
    go_wp2
    go_ret
    exact ⟨by rw [HF.out]; rfl, by go_grown⟩

/-- What the look-up hands back: a form of the table, or none. -/
def OpenP (h : List UInt8) (q : Nat) (v : Value) : Prop :=
  (∃ k, ∃ hk : k < tabL.length, hitB h q tabL[k].1 = true ∧ (∀ j (hj : j < tabL.length), j < k → hitB h q tabL[j].1 = false) ∧ v = .tuple #[.agg #[.string (headV tabL[k]), .int .i64 (tabL[k].1.2.1 : Int), .func (.func tabL[k].2) #[] #[]], .bool true]) ∨
  ((∀ j (hj : j < tabL.length), hitB h q tabL[j].1 = false) ∧ v = .tuple #[.agg #[.string ⟨#[]⟩, .int .i64 0, .nilFunc], .bool false])

theorem headV_list (x : (List UInt8 × Nat × List Nat × Option Nat) × Nat) : (headV x).toList = x.1.1 := lit_list _
theorem hit_no {h : List UInt8} {q : Nat} {x : (List UInt8 × Nat × List Nat × Option Nat) × Nat} (hf : fitB x.1.2.1 q = false) : hitB h q x.1 = false := by
  unfold hitB
  rw [hf]
  rfl
theorem hit_any {h : List UInt8} {q : Nat} {x : (List UInt8 × Nat × List Nat × Option Nat) × Nat} (hf : fitB x.1.2.1 q = true) (he : (headV x).toList.isEmpty = true) : hitB h q x.1 = true := by
  rw [headV_list] at he
  unfold hitB
  rw [hf, he]
  rfl
theorem hit_word {h : List UInt8} {q : Nat} {x : (List UInt8 × Nat × List Nat × Option Nat) × Nat} (hf : fitB x.1.2.1 q = true) (he : (headV x).toList.isEmpty = false) : hitB h q x.1 = ((headV x).toList == h) := by
  rw [headV_list] at he ⊢
  unfold hitB
  rw [hf, he]
  rfl

set_option maxHeartbeats 4000000 in
theorem openedR_any (g : Nat) (a : Option Addr) (cap len : Nat) (i q : Nat) (hd : ByteArray) (w : World) (hT : TabT w g) (hL : len ≤ 1048576) (hi : i < len) (hc : i + 1 < len → ∃ sb off, a = some ⟨sb, off, none⟩ ∧ w.cell? ⟨sb, off + (i + 1), none⟩ = some (.string hd) ∧ sb < w.heap.size) (hn : ¬ i + 1 < len → hd = ⟨#[]⟩) :
    Calls Tryd.prog 43 #[.slice (some ⟨g, 0, none⟩) 34 34, .slice a len cap, .int .i64 (i : Int), .int .i64 (q : Int)] w fun e w' => ∃ v, e = .returned v ∧ OpenP hd.toList q v ∧ Below w.heap.size w w' := by
  have HR : Hid (∀ k, ∀ hk : k < tabL.length, (∀ j (hj : j < tabL.length), j < k → hitB hd.toList q tabL[j].1 = false) → hitB hd.toList q tabL[k].1 = false → ∀ j (hj : j < tabL.length), j < k + 1 → hitB hd.toList q tabL[j].1 = false) := fun k hk hA hq j hj hjk => by
    by_cases e : j = k
    · subst e; exact hq
    · exact hA j hj (by omega)
  by_cases hlt : i + 1 < len
  · obtain ⟨sb, off, rfl, hc, hsb⟩ := hc hlt
    have hdec : decide ((i : Int) + 1 < (len : Int)) = true := decide_eq_true (by omega)
    clear hn
    go_enter Tryd.func43, Tryd.ntmps43
    go_wp2
    go_loopw [25] (fun v wr => ∃ k : Nat, k ≤ 34 ∧ v = .int .i64 (k : Int) ∧ Below w.heap.size w wr ∧ Own w.heap.size wr ∧ Hid (∀ j (hj : j < tabL.length), j < k → hitB hd.toList q tabL[j].1 = false)) (fun v _ => 34 - (intOf v).toNat)
    case atStart => exact ⟨0, by omega, rfl, by go_grown, own0 _ _ _ _ _, fun j _ hj => absurd hj (Nat.not_lt_zero _)⟩
    case round =>
      obtain ⟨k, hk, rfl, hB, hO, HA⟩ := hrel
      by_cases hkl : k < 34
      · obtain ⟨c0, c1, c2⟩ := hT.2 k hkl
        have hg := hT.1
        have d0 := (hB.cell (p := ⟨g, k * 3, none⟩) hg).trans c0
        have d1 := (hB.cell (p := ⟨g, k * 3 + 1, none⟩) hg).trans c1
        have d2 := (hB.cell (p := ⟨g, k * 3 + 2, none⟩) hg).trans c2
        clear c0 c1 c2
        obtain ⟨⟨r0, o0⟩, ⟨r1, o1⟩, ⟨r2, o2⟩, f0, f1, f2, hz⟩ := hO
        have hO : Own w.heap.size wr := ⟨⟨r0, o0⟩, ⟨r1, o1⟩, ⟨r2, o2⟩, f0, f1, f2, hz⟩
        cases hf : fitB (tabL[k]'hkl).1.2.1 q
        · have HN : Hid (∀ j (hj : j < tabL.length), j < k + 1 → hitB hd.toList q tabL[j].1 = false) := HR.out k hkl HA.out (hit_no hf)
          have HF : Hid (fitB (tabL[k]'hkl).1.2.1 q = false) := hf
          clear hf
          generalize headV (tabL[k]'hkl) = s at d0
          generalize (tabL[k]'hkl).1.2.1 = kk at d1 HF
          generalize (tabL[k]'hkl).2 = fn at d2
          go_wp2_with fail
          refine (fits_any s kk q (.func (.func fn) #[] #[]) _).mono ?_
          rintro e w1 ⟨rfl, hb1⟩
          rw [HF.out]
          have hW : Below wr.heap.size wr w1 := (by repeat' (first | (with_reducible exact Below.refl _ _) | (with_reducible refine Below.drew ?_) | (with_reducible refine balloc ?_ _) | (with_reducible refine bset ?_ _ ?_) | (with_reducible refine bstep ?_ (by with_reducible assumption)) | go_size))
          clear hb1
          go_wp2
          go_roundw
          case rel =>
            exact ⟨k + 1, by omega, by go_num, bstep hB hW, hO.call hW, HN.out⟩
          case measure => simp [intOf]; omega
        · cases he : (headV (tabL[k]'hkl)).toList.isEmpty
          · have hw := hit_word (h := hd.toList) hf he
            cases hq : ((headV (tabL[k]'hkl)).toList == hd.toList)
            · have HN : Hid (∀ j (hj : j < tabL.length), j < k + 1 → hitB hd.toList q tabL[j].1 = false) := HR.out k hkl HA.out (hw.trans hq)
              have HF : Hid (fitB (tabL[k]'hkl).1.2.1 q = true) := hf
              clear hf hw
              generalize headV (tabL[k]'hkl) = s at d0 he hq
              generalize (tabL[k]'hkl).1.2.1 = kk at d1 HF
              generalize (tabL[k]'hkl).2 = fn at d2
              go_wp2_with fail
              refine (fits_any s kk q (.func (.func fn) #[] #[]) _).mono ?_
              rintro e w1 ⟨rfl, hb1⟩
              rw [HF.out]
              have hW : Below wr.heap.size wr w1 := (by repeat' (first | (with_reducible exact Below.refl _ _) | (with_reducible refine Below.drew ?_) | (with_reducible refine balloc ?_ _) | (with_reducible refine bset ?_ _ ?_) | (with_reducible refine bstep ?_ (by with_reducible assumption)) | go_size))
              obtain ⟨hc1, hf1⟩ := bcell hb1
              go_wp2
              go_roundw
              case rel => exact ⟨k + 1, by omega, by go_num, bstep hB hW, hO.call hW, HN.out⟩
              case measure => simp [intOf]; omega
            · have HH : Hid (hitB hd.toList q (tabL[k]'hkl).1 = true) := hw.trans hq
              have HF : Hid (fitB (tabL[k]'hkl).1.2.1 q = true) := hf
              have HE : Hid (∀ v, v = .tuple #[.agg #[.string (headV (tabL[k]'hkl)), .int .i64 ((tabL[k]'hkl).1.2.1 : Int), .func (.func (tabL[k]'hkl).2) #[] #[]], .bool true] → OpenP hd.toList q v) := fun v hv => Or.inl ⟨k, hkl, HH.out, HA.out, hv⟩
              clear hf hw HH
              generalize headV (tabL[k]'hkl) = s at d0 he hq HE
              generalize (tabL[k]'hkl).1.2.1 = kk at d1 HF HE
              generalize (tabL[k]'hkl).2 = fn at d2 HE
              go_wp2_with fail
              refine (fits_any s kk q (.func (.func fn) #[] #[]) _).mono ?_
              rintro e w1 ⟨rfl, hb1⟩
              rw [HF.out]
              have hW : Below wr.heap.size wr w1 := (by repeat' (first | (with_reducible exact Below.refl _ _) | (with_reducible refine Below.drew ?_) | (with_reducible refine balloc ?_ _) | (with_reducible refine bset ?_ _ ?_) | (with_reducible refine bstep ?_ (by with_reducible assumption)) | go_size))
              obtain ⟨hc1, hf1⟩ := bcell hb1
              have hB1 := bstep hB hW
              have hz1 : wr.heap.size < w1.heap.size := bsize hb1 _ (by simp)
              obtain ⟨⟨x0, y0⟩, ⟨x1, y1⟩, ⟨x2, y2⟩, g0, g1, g2, yz⟩ := hO.call hW
              go_wp2
              refine bodyPost_ret (v := .tuple #[.agg #[.string s, .int .i64 (kk : Int), .func (.func fn) #[] #[]], .bool true]) (by simp [results, Tryd.results43, go_sem, y0, y1, y2]) rfl ?_
              refine ⟨_, rfl, HE.out _ rfl, ?_⟩
              exact (by repeat' (first | (with_reducible exact Below.refl _ _) | (with_reducible refine Below.drew ?_) | (with_reducible refine balloc ?_ _) | (with_reducible refine bset ?_ _ ?_) | (with_reducible refine bstep ?_ (by with_reducible assumption)) | go_size))
          · have HH : Hid (hitB hd.toList q (tabL[k]'hkl).1 = true) := hit_any hf he
            have HF : Hid (fitB (tabL[k]'hkl).1.2.1 q = true) := hf
            have HE : Hid (∀ v, v = .tuple #[.agg #[.string (headV (tabL[k]'hkl)), .int .i64 ((tabL[k]'hkl).1.2.1 : Int), .func (.func (tabL[k]'hkl).2) #[] #[]], .bool true] → OpenP hd.toList q v) := fun v hv => Or.inl ⟨k, hkl, HH.out, HA.out, hv⟩
            clear hf HH
            generalize headV (tabL[k]'hkl) = s at d0 he HE
            generalize (tabL[k]'hkl).1.2.1 = kk at d1 HF HE
            generalize (tabL[k]'hkl).2 = fn at d2 HE
            go_wp2_with fail
            refine (fits_any s kk q (.func (.func fn) #[] #[]) _).mono ?_
            rintro e w1 ⟨rfl, hb1⟩
            rw [HF.out]
            have hW : Below wr.heap.size wr w1 := (by repeat' (first | (with_reducible exact Below.refl _ _) | (with_reducible refine Below.drew ?_) | (with_reducible refine balloc ?_ _) | (with_reducible refine bset ?_ _ ?_) | (with_reducible refine bstep ?_ (by with_reducible assumption)) | go_size))
            obtain ⟨hc1, hf1⟩ := bcell hb1
            have hB1 := bstep hB hW
            have hz1 : wr.heap.size < w1.heap.size := bsize hb1 _ (by simp)
            obtain ⟨⟨x0, y0⟩, ⟨x1, y1⟩, ⟨x2, y2⟩, g0, g1, g2, yz⟩ := hO.call hW
            go_wp2
            refine bodyPost_ret (v := .tuple #[.agg #[.string s, .int .i64 (kk : Int), .func (.func fn) #[] #[]], .bool true]) (by simp [results, Tryd.results43, go_sem, y0, y1, y2]) rfl ?_
            refine ⟨_, rfl, HE.out _ rfl, ?_⟩
            exact (by repeat' (first | (with_reducible exact Below.refl _ _) | (with_reducible refine Below.drew ?_) | (with_reducible refine balloc ?_ _) | (with_reducible refine bset ?_ _ ?_) | (with_reducible refine bstep ?_ (by with_reducible assumption)) | go_size))
      · have HE : Hid (OpenP hd.toList q (.tuple #[.agg #[.string ⟨#[]⟩, .int .i64 0, .nilFunc], .bool false])) := Or.inr ⟨fun j hj => HA.out j hj (by have := tab_len; omega), rfl⟩
        obtain ⟨⟨r0, o0⟩, ⟨r1, o1⟩, ⟨r2, o2⟩, f0, f1, f2, hz⟩ := hO
        go_wp2
        refine bodyPost_ret (v := .tuple #[.agg #[.string ⟨#[]⟩, .int .i64 0, .nilFunc], .bool false]) (by simp [results, Tryd.results43, go_sem, o0, o1, o2]) rfl ?_
        refine ⟨_, rfl, HE.out, ?_⟩
        exact (by repeat' (first | (with_reducible exact Below.refl _ _) | (with_reducible refine Below.drew ?_) | (with_reducible refine balloc ?_ _) | (with_reducible refine bset ?_ _ ?_) | (with_reducible refine bstep ?_ (by with_reducible assumption)) | go_size))
  · obtain rfl := hn hlt
    have hdec : decide ((i : Int) + 1 < (len : Int)) = false := decide_eq_false (by omega)
    clear hc hn
    go_enter Tryd.func43, Tryd.ntmps43
    go_wp2
    go_loopw [25] (fun v wr => ∃ k : Nat, k ≤ 34 ∧ v = .int .i64 (k : Int) ∧ Below w.heap.size w wr ∧ Own w.heap.size wr ∧ Hid (∀ j (hj : j < tabL.length), j < k → hitB (⟨#[]⟩ : ByteArray).toList q tabL[j].1 = false)) (fun v _ => 34 - (intOf v).toNat)
    case atStart => exact ⟨0, by omega, rfl, by go_grown, own0 _ _ _ _ _, fun j _ hj => absurd hj (Nat.not_lt_zero _)⟩
    case round =>
      obtain ⟨k, hk, rfl, hB, hO, HA⟩ := hrel
      by_cases hkl : k < 34
      · obtain ⟨c0, c1, c2⟩ := hT.2 k hkl
        have hg := hT.1
        have d0 := (hB.cell (p := ⟨g, k * 3, none⟩) hg).trans c0
        have d1 := (hB.cell (p := ⟨g, k * 3 + 1, none⟩) hg).trans c1
        have d2 := (hB.cell (p := ⟨g, k * 3 + 2, none⟩) hg).trans c2
        clear c0 c1 c2
        obtain ⟨⟨r0, o0⟩, ⟨r1, o1⟩, ⟨r2, o2⟩, f0, f1, f2, hz⟩ := hO
        have hO : Own w.heap.size wr := ⟨⟨r0, o0⟩, ⟨r1, o1⟩, ⟨r2, o2⟩, f0, f1, f2, hz⟩
        cases hf : fitB (tabL[k]'hkl).1.2.1 q
        · have HN : Hid (∀ j (hj : j < tabL.length), j < k + 1 → hitB (⟨#[]⟩ : ByteArray).toList q tabL[j].1 = false) := HR.out k hkl HA.out (hit_no hf)
          have HF : Hid (fitB (tabL[k]'hkl).1.2.1 q = false) := hf
          clear hf
          generalize headV (tabL[k]'hkl) = s at d0
          generalize (tabL[k]'hkl).1.2.1 = kk at d1 HF
          generalize (tabL[k]'hkl).2 = fn at d2
          go_wp2_with fail
          refine (fits_any s kk q (.func (.func fn) #[] #[]) _).mono ?_
          rintro e w1 ⟨rfl, hb1⟩
          rw [HF.out]
          have hW : Below wr.heap.size wr w1 := (by repeat' (first | (with_reducible exact Below.refl _ _) | (with_reducible refine Below.drew ?_) | (with_reducible refine balloc ?_ _) | (with_reducible refine bset ?_ _ ?_) | (with_reducible refine bstep ?_ (by with_reducible assumption)) | go_size))
          clear hb1
          go_wp2
          go_roundw
          case rel => exact ⟨k + 1, by omega, by go_num, bstep hB hW, hO.call hW, HN.out⟩
          case measure => simp [intOf]; omega
        · cases he : (headV (tabL[k]'hkl)).toList.isEmpty
          · have hw := hit_word (h := (⟨#[]⟩ : ByteArray).toList) hf he
            cases hq : ((headV (tabL[k]'hkl)).toList == (⟨#[]⟩ : ByteArray).toList)
            · have HN : Hid (∀ j (hj : j < tabL.length), j < k + 1 → hitB (⟨#[]⟩ : ByteArray).toList q tabL[j].1 = false) := HR.out k hkl HA.out (hw.trans hq)
              have HF : Hid (fitB (tabL[k]'hkl).1.2.1 q = true) := hf
              clear hf hw
              generalize headV (tabL[k]'hkl) = s at d0 he hq
              generalize (tabL[k]'hkl).1.2.1 = kk at d1 HF
              generalize (tabL[k]'hkl).2 = fn at d2
              go_wp2_with fail
              refine (fits_any s kk q (.func (.func fn) #[] #[]) _).mono ?_
              rintro e w1 ⟨rfl, hb1⟩
              rw [HF.out]
              have hW : Below wr.heap.size wr w1 := (by repeat' (first | (with_reducible exact Below.refl _ _) | (with_reducible refine Below.drew ?_) | (with_reducible refine balloc ?_ _) | (with_reducible refine bset ?_ _ ?_) | (with_reducible refine bstep ?_ (by with_reducible assumption)) | go_size))
              obtain ⟨hc1, hf1⟩ := bcell hb1
              go_wp2
              go_roundw
              case rel => exact ⟨k + 1, by omega, by go_num, bstep hB hW, hO.call hW, HN.out⟩
              case measure => simp [intOf]; omega
            · exfalso
              rw [beq_iff_eq] at hq
              rw [hq] at he
              rw [lit_list []] at he
              exact absurd he (by decide)
          · have HH : Hid (hitB (⟨#[]⟩ : ByteArray).toList q (tabL[k]'hkl).1 = true) := hit_any hf he
            have HF : Hid (fitB (tabL[k]'hkl).1.2.1 q = true) := hf
            have HE : Hid (∀ v, v = .tuple #[.agg #[.string (headV (tabL[k]'hkl)), .int .i64 ((tabL[k]'hkl).1.2.1 : Int), .func (.func (tabL[k]'hkl).2) #[] #[]], .bool true] → OpenP (⟨#[]⟩ : ByteArray).toList q v) := fun v hv => Or.inl ⟨k, hkl, HH.out, HA.out, hv⟩
            clear hf HH
            generalize headV (tabL[k]'hkl) = s at d0 he HE
            generalize (tabL[k]'hkl).1.2.1 = kk at d1 HF HE
            generalize (tabL[k]'hkl).2 = fn at d2 HE
            go_wp2_with fail
            refine (fits_any s kk q (.func (.func fn) #[] #[]) _).mono ?_
            rintro e w1 ⟨rfl, hb1⟩
            rw [HF.out]
            have hW : Below wr.heap.size wr w1 := (by repeat' (first | (with_reducible exact Below.refl _ _) | (with_reducible refine Below.drew ?_) | (with_reducible refine balloc ?_ _) | (with_reducible refine bset ?_ _ ?_) | (with_reducible refine bstep ?_ (by with_reducible assumption)) | go_size))
            obtain ⟨hc1, hf1⟩ := bcell hb1
            have hB1 := bstep hB hW
            have hz1 : wr.heap.size < w1.heap.size := bsize hb1 _ (by simp)
            obtain ⟨⟨x0, y0⟩, ⟨x1, y1⟩, ⟨x2, y2⟩, g0, g1, g2, yz⟩ := hO.call hW
            go_wp2
            refine bodyPost_ret (v := .tuple #[.agg #[.string s, .int .i64 (kk : Int), .func (.func fn) #[] #[]], .bool true]) (by simp [results, Tryd.results43, go_sem, y0, y1, y2]) rfl ?_
            refine ⟨_, rfl, HE.out _ rfl, ?_⟩
            exact (by repeat' (first | (with_reducible exact Below.refl _ _) | (with_reducible refine Below.drew ?_) | (with_reducible refine balloc ?_ _) | (with_reducible refine bset ?_ _ ?_) | (with_reducible refine bstep ?_ (by with_reducible assumption)) | go_size))
      · have HE : Hid (OpenP (⟨#[]⟩ : ByteArray).toList q (.tuple #[.agg #[.string ⟨#[]⟩, .int .i64 0, .nilFunc], .bool false])) := Or.inr ⟨fun j hj => HA.out j hj (by have := tab_len; omega), rfl⟩
        obtain ⟨⟨r0, o0⟩, ⟨r1, o1⟩, ⟨r2, o2⟩, f0, f1, f2, hz⟩ := hO
        go_wp2
        refine bodyPost_ret (v := .tuple #[.agg #[.string ⟨#[]⟩, .int .i64 0, .nilFunc], .bool false]) (by simp [results, Tryd.results43, go_sem, o0, o1, o2]) rfl ?_
        refine ⟨_, rfl, HE.out, ?_⟩
        exact (by repeat' (first | (with_reducible exact Below.refl _ _) | (with_reducible refine Below.drew ?_) | (with_reducible refine balloc ?_ _) | (with_reducible refine bset ?_ _ ?_) | (with_reducible refine bstep ?_ (by with_reducible assumption)) | go_size))

end Go.Proofs.YtlmibonebiaocaaDoor
