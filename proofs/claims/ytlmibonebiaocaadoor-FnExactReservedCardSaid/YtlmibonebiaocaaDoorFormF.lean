/-
  Chapter 4 in plain words: with steps enough it does not matter how many: so each of them is told by the others.
-/
import Derived.Test.YtlmibonebiaocaaDoorFormB
namespace Go.Proofs.YtlmibonebiaocaaDoor
open Go.RowKit

section
variable {L : List ByteArray} {r r' : Nat → Int → Int} {i x : Int}
/-- They agree on what is not ahead of j. -/
def Same (L : List ByteArray) (j : Int) (r r' : Nat → Int → Int) : Prop := ∀ m x, m ≤ 11 → Fw L j x → r m x = r' m x
theorem sumS_same (hr : Good L r) (hs : 0 ≤ i → i < (L.length : Int) → Same L (i + 2) r r') : sumS L r i = sumS L r' i := by
  unfold sumS
  cases ho : isW (sgAt L i) [40]
  · rfl
  · obtain ⟨h0, h1⟩ := sgAt_open ho
    have hs := hs h0 h1
    have F0 : Fw L (i + 2) (i + 2) := fw_at (by omega)
    have e10 := hs 10 (i + 2) (by decide) F0
    have e4 := hs 4 (i + 2) (by decide) F0
    have e0 := hs 0 (i + 2) (by decide) F0
    have e40 := hs 4 (r 0 (i + 2)) (by decide) (hr.ends (by decide) F0).fw
    have en := hs 0 (nmE L (i + 2)) (by decide) (nmE_ends F0).fw
    have F7 := (isE_ends (c := [40]) (by decide) F0).fw
    have e7 := hs 7 _ (by decide) F7
    have F6 := (isE_ends (c := [41]) (by decide) (hr.fw (m := 7) (by decide) F7)).fw
    have e6 := hs 6 _ (by decide) F6
    simp only [if_true]
    rw [e10, e4, en]
    rw [e40, e0, e6, e7]
theorem deedH_same (hr : Good L r) (h : ByteArray) (h0 : 0 ≤ i) (hs : Same L i r r') : deedH L r h i = deedH L r' h i := by
  have F0 : Fw L i i := fw_at h0
  have e0 := hs 0 i (by decide) F0
  have e5 := hs 5 i (by decide) F0
  have e6 := hs 6 i (by decide) F0
  have e11 := hs 11 i (by decide) F0
  have Fn := (nmE_ends (L := L) F0).fw
  have en := hs 0 _ (by decide) Fn
  have e10 := hs 10 _ (by decide) Fn
  have F1 := (hr.ends (m := 0) (by decide) F0).fw
  have e2 := hs 2 _ (by decide) F1
  have F2 := (hr.ends (m := 2) (by decide) F1).fw
  have e22 := hs 2 _ (by decide) F2
  have e210 := hs 2 _ (by decide) (hr.fw (m := 10) (by decide) Fn)
  have F5 := (nmE_ends (L := L) (isE_ends (c := [40]) (by decide) F0).fw).fw
  have e5t := hs 5 _ (by decide) F5
  have e0t := hs 0 _ (by decide) (isE_ends (c := [41]) (by decide) (hr.fw (m := 5) (by decide) F5)).fw
  unfold deedH
  rw [en, e0t, e5t, e5, e6, e22, e2, e210, e10, e0, e11]
theorem deedS_same (hr : Good L r) (f : Bool) (hs : 0 ≤ i → i < (L.length : Int) → Same L (i + 2) r r') : deedS L r f i = deedS L r' f i := by
  unfold deedS
  cases ho : isW (sgAt L i) [40]
  · rfl
  · obtain ⟨h0, h1⟩ := sgAt_open ho
    rw [deedH_same hr _ (by omega) (hs h0 h1)]
theorem parS_same (hs : 0 ≤ i → i < (L.length : Int) → Same L (i + 1) r r') : parS L r i = parS L r' i := by
  unfold parS
  cases ho : isW (sgAt L i) [40]
  · rfl
  · obtain ⟨h0, h1⟩ := sgAt_open ho
    have F0 : Fw L (i + 1) (i + 1) := fw_at (by omega)
    rw [hs h0 h1 0 _ (by decide) (nmE_ends F0).fw]
end

/-- How many steps are enough for it. -/
def needN (L : List ByteArray) (m : Nat) (i : Int) : Nat := 8 * farN L i + (if m < 4 then 1 else if m < 8 then 2 else m - 6)
theorem far_fw {L : List ByteArray} {i j x : Int} (h0 : 0 ≤ i) (h1 : i ≤ (L.length : Int) + 1) (hj : i < j) (h : Fw L j x) : farN L x + 1 ≤ farN L i := by
  unfold Fw at h
  unfold farN
  rw [if_neg (show ¬ i < 0 by omega)]
  split <;> omega
theorem need_le {L : List ByteArray} (m : Nat) (hm : m ≤ 11) (i : Int) : 8 * farN L i + 1 ≤ needN L m i ∧ needN L m i ≤ 8 * farN L i + 5 := by
  unfold needN
  split
  · omega
  · split <;> omega
theorem frm_same (L : List ByteArray) : ∀ n n' m i, m ≤ 11 → (4 ≤ m → -1 ≤ i ∧ i ≤ (L.length : Int) + 1) → needN L m i ≤ n → needN L m i ≤ n' → frm L n m i = frm L n' m i
  | 0, n', m, i, hm, _, h, _ => by have := (need_le (L := L) m hm i).1; omega
  | n + 1, 0, m, i, hm, _, _, h => by have := (need_le (L := L) m hm i).1; omega
  | n + 1, n' + 1, m, i, hm, hi, h, h' => by
    have IH := frm_same L n
    have hg := frm_good L n
    have hnl := need_le (L := L) m hm i
    have key : ∀ j, i < j → j ≤ i + 2 → 0 ≤ i → i < (L.length : Int) → Same L j (frm L n) (frm L n') := fun j hj hj2 h0 h1 q x hq hF => by
      have hf := far_fw h0 (by omega) hj hF
      have hq' := need_le (L := L) q hq x
      refine IH n' q x hq (fun _ => ?_) (by omega) (by omega)
      unfold Fw at hF
      omega
    by_cases c0 : m = 0
    · subst c0
      exact sumS_same hg (key (i + 2) (by omega) (by omega))
    by_cases c1 : m = 1
    · subst c1
      exact deedS_same hg true (key (i + 2) (by omega) (by omega))
    by_cases c2 : m = 2
    · subst c2
      exact deedS_same hg false (key (i + 2) (by omega) (by omega))
    by_cases c3 : m = 3
    · subst c3
      exact parS_same (key (i + 1) (by omega) (by omega))
    obtain ⟨i0, i1⟩ := hi (by omega)
    unfold frm
    rw [if_neg c0, if_neg c1, if_neg c2, if_neg c3, if_neg c0, if_neg c1, if_neg c2, if_neg c3]
    by_cases c8 : m < 8
    · rw [if_pos c8, if_pos c8]
      obtain ⟨q, rfl⟩ : ∃ q, m = 4 + q := ⟨m - 4, by omega⟩
      rw [show 4 + q - 4 = q by omega]
      unfold needN at h h'
      rw [if_neg (by omega), if_pos (by omega)] at h h'
      unfold manyS
      split
      · rfl
      · rename_i hgo
        have hpos : 1 ≤ farN L i := by unfold farN; rw [if_neg (by omega)]; omega
        have hin : ∀ t, t < 4 → frm L n t i = frm L n' t i := fun t ht => IH n' t i (by omega) (fun h4 => by omega) (by unfold needN; rw [if_pos ht]; omega) (by unfold needN; rw [if_pos ht]; omega)
        have ho : oneS L (frm L n) q i = oneS L (frm L n') q i := by
          unfold oneS
          rw [hin 0 (by decide), hin 1 (by decide), hin 3 (by decide)]
        rw [← ho]
        have hE := oneS_ends hg q i0
        generalize oneS L (frm L n) q i = y at hE
        have hfe := far_ends hE i1
        unfold Ends at hE
        exact IH n' (4 + q) y hm (fun _ => by omega) (by unfold needN; rw [if_neg (by omega), if_pos (by omega)]; omega) (by unfold needN; rw [if_neg (by omega), if_pos (by omega)]; omega)
    · rw [if_neg c8, if_neg c8]
      obtain ⟨k, rfl⟩ : ∃ k, m = 8 + k := ⟨m - 8, by omega⟩
      rw [show 8 + k - 8 = k by omega]
      unfold needN at h h'
      rw [if_neg (by omega), if_neg (by omega)] at h h'
      cases k with
      | zero => rfl
      | succ k =>
        show (if i < 0 then i else frm L n (8 + k) (frm L n 0 i)) = (if i < 0 then i else frm L n' (8 + k) (frm L n' 0 i))
        split
        · rfl
        · have h0' : frm L n 0 i = frm L n' 0 i := IH n' 0 i (by decide) (fun h4 => by omega) (by unfold needN; rw [if_pos (by decide)]; omega) (by unfold needN; rw [if_pos (by decide)]; omega)
          rw [← h0']
          have hE := hg.1 0 i (by decide)
          generalize frm L n 0 i = y at hE
          have hfe := far_ends hE i1
          unfold Ends at hE
          exact IH n' (8 + k) y (by omega) (fun _ => by omega) (by unfold needN; rw [if_neg (by omega), if_neg (by omega)]; omega) (by unfold needN; rw [if_neg (by omega), if_neg (by omega)]; omega)

/-- Where it ends. -/
theorem fm_ex (L : List ByteArray) : ∃ F : Nat → Int → Int, F = frm L (8 * L.length + 40) := ⟨_, rfl⟩
noncomputable def fm (L : List ByteArray) : Nat → Int → Int := Classical.choose (fm_ex L)
theorem fm_fun (L : List ByteArray) : frm L (8 * L.length + 40) = fm L := (Classical.choose_spec (fm_ex L)).symm
theorem far_top (L : List ByteArray) (i : Int) : farN L i ≤ L.length + 2 := by
  unfold farN
  split <;> omega
theorem fm_of {L : List ByteArray} {n m : Nat} {i : Int} (hm : m ≤ 11) (hi : 4 ≤ m → -1 ≤ i ∧ i ≤ (L.length : Int) + 1) (hn : needN L m i ≤ n) : frm L n m i = fm L m i := by
  rw [← fm_fun]
  refine frm_same L n _ m i hm hi hn ?_
  have := need_le (L := L) m hm i
  have := far_top L i
  omega
theorem fm_next {L : List ByteArray} {m : Nat} {i : Int} (hm : m ≤ 11) (hi : 4 ≤ m → -1 ≤ i ∧ i ≤ (L.length : Int) + 1) : fm L m i = frm L (8 * L.length + 40 + 1) m i := by
  refine (fm_of hm hi ?_).symm
  have := need_le (L := L) m hm i
  have := far_top L i
  omega
theorem frm_0 (L : List ByteArray) (n : Nat) (i : Int) : frm L (n + 1) 0 i = sumS L (frm L n) i := rfl
theorem frm_1 (L : List ByteArray) (n : Nat) (i : Int) : frm L (n + 1) 1 i = deedS L (frm L n) true i := rfl
theorem frm_2 (L : List ByteArray) (n : Nat) (i : Int) : frm L (n + 1) 2 i = deedS L (frm L n) false i := rfl
theorem frm_3 (L : List ByteArray) (n : Nat) (i : Int) : frm L (n + 1) 3 i = parS L (frm L n) i := rfl
theorem frm_4 (L : List ByteArray) (n q : Nat) (hq : q ≤ 3) (i : Int) : frm L (n + 1) (4 + q) i = manyS L (frm L n) q i := by
  obtain rfl | rfl | rfl | rfl : q = 0 ∨ q = 1 ∨ q = 2 ∨ q = 3 := by omega
  all_goals rfl
theorem frm_8 (L : List ByteArray) (n q : Nat) (i : Int) : frm L (n + 1) (8 + q) i = sumsS (frm L n) q i := by
  unfold frm
  rw [if_neg (by omega), if_neg (by omega), if_neg (by omega), if_neg (by omega), if_neg (by omega), show 8 + q - 8 = q by omega]
theorem fm_sum (L : List ByteArray) (i : Int) : fm L 0 i = sumS L (fm L) i := by rw [fm_next (by decide) (fun h => absurd h (by decide)), frm_0, fm_fun]
theorem fm_deed (L : List ByteArray) (i : Int) : fm L 1 i = deedS L (fm L) true i := by rw [fm_next (by decide) (fun h => absurd h (by decide)), frm_1, fm_fun]
theorem fm_deed2 (L : List ByteArray) (i : Int) : fm L 2 i = deedS L (fm L) false i := by rw [fm_next (by decide) (fun h => absurd h (by decide)), frm_2, fm_fun]
theorem fm_par (L : List ByteArray) (i : Int) : fm L 3 i = parS L (fm L) i := by rw [fm_next (by decide) (fun h => absurd h (by decide)), frm_3, fm_fun]
theorem fm_many {L : List ByteArray} {i : Int} (q : Nat) (hq : q ≤ 3) (h0 : -1 ≤ i) (h1 : i ≤ (L.length : Int) + 1) : fm L (4 + q) i = manyS L (fm L) q i := by
  rw [fm_next (by omega) (fun _ => ⟨h0, h1⟩), frm_4 L _ q hq, fm_fun]
theorem fm_sums {L : List ByteArray} {i : Int} (q : Nat) (hq : q ≤ 3) (h0 : -1 ≤ i) (h1 : i ≤ (L.length : Int) + 1) : fm L (8 + q) i = sumsS (fm L) q i := by
  rw [fm_next (by omega) (fun _ => ⟨h0, h1⟩), frm_8, fm_fun]
theorem fm_good (L : List ByteArray) : Good L (fm L) := by rw [← fm_fun]; exact frm_good L _

end Go.Proofs.YtlmibonebiaocaaDoor
