/-
  Numbers and their signs go back and forth: what a numeral spells is the number that it is the numeral of.
-/
import Derived.Test.YtmlopiphcnhcpaaDoorSign
import Derived.Test.YtmlopiphcnhcpaaDoorSignK
import Derived.Lib.ItoaNum
namespace Go.Proofs.YtmlopiphcnhcpaaDoor
open Go.RowKit

/-- A digit more. -/
def dstep (a : Nat) (c : UInt8) : Nat := a * 10 + (c.toNat - 48)
def isDig (c : UInt8) : Prop := 48 ≤ c.toNat ∧ c.toNat ≤ 57

theorem dig_of (u : Nat) (h : u < 10) : (UInt8.ofNat (48 + u)).toNat = 48 + u := by
  simp [UInt8.toNat_ofNat']; omega

theorem dec_val (u : Nat) : (Lib.decDigits u).foldl dstep 0 = u := by
  induction u using Nat.strongRecOn with
  | _ u ih =>
    rw [Lib.decDigits]
    by_cases h : u < 10
    · rw [dif_pos h]
      show 0 * 10 + ((UInt8.ofNat (48 + u)).toNat - 48) = u
      rw [dig_of u h]; omega
    · rw [dif_neg h, List.foldl_append, ih (u / 10) (by omega)]
      show u / 10 * 10 + ((UInt8.ofNat (48 + u % 10)).toNat - 48) = u
      rw [dig_of _ (by omega)]; omega

theorem dec_dig (u : Nat) : ∀ c ∈ Lib.decDigits u, isDig c := by
  induction u using Nat.strongRecOn with
  | _ u ih =>
    rw [Lib.decDigits]
    by_cases h : u < 10
    · rw [dif_pos h]
      intro c hc
      rw [List.mem_singleton] at hc
      rw [hc]
      unfold isDig
      rw [dig_of u h]; omega
    · rw [dif_neg h]
      intro c hc
      rcases List.mem_append.mp hc with hc | hc
      · exact ih (u / 10) (by omega) c hc
      · rw [List.mem_singleton] at hc
        rw [hc]
        unfold isDig
        rw [dig_of _ (by omega)]; omega

theorem dec_head (u : Nat) : ∃ c r, Lib.decDigits u = c :: r ∧ (u ≠ 0 → c.toNat ≠ 48) := by
  induction u using Nat.strongRecOn with
  | _ u ih =>
    rw [Lib.decDigits]
    by_cases h : u < 10
    · rw [dif_pos h]
      refine ⟨_, _, rfl, fun hu => ?_⟩
      rw [dig_of u h]; omega
    · rw [dif_neg h]
      obtain ⟨c, r, e, hc⟩ := ih (u / 10) (by omega)
      rw [e]
      exact ⟨c, _, rfl, fun _ => hc (by omega)⟩

theorem nd_le : ∀ k u, u < 10 ^ (k + 1) → Lib.nDigits u ≤ k + 1
  | 0, u, h => by rw [Lib.nDigits_small (by simpa using h)]; omega
  | k + 1, u, h => by
    by_cases h10 : u < 10
    · rw [Lib.nDigits_small h10]; omega
    · rw [Lib.nDigits_big h10]
      have := nd_le k (u / 10) (by rw [Nat.pow_succ] at h; omega)
      omega
theorem dec_len9 (u : Nat) (h : u ≤ 999999999) : (Lib.decDigits u).length ≤ 9 := by
  rw [Lib.decDigits_length]
  exact nd_le 8 u (by omega)

/-- A numeral that goes on. -/
theorem dec_more (a : Nat) (c : UInt8) (ha : 0 < a) (hc : isDig c) : Lib.decDigits (dstep a c) = Lib.decDigits a ++ [c] := by
  unfold isDig at hc
  unfold dstep
  rw [Lib.decDigits, dif_neg (by omega)]
  have e1 : (a * 10 + (c.toNat - 48)) / 10 = a := by omega
  have e2 : 48 + (a * 10 + (c.toNat - 48)) % 10 = c.toNat := by omega
  rw [e1, e2]
  simp
theorem dec_fold : ∀ (l : List UInt8) (a : Nat), 0 < a → (∀ c ∈ l, isDig c) → Lib.decDigits (l.foldl dstep a) = Lib.decDigits a ++ l
  | [], a, _, _ => by simp
  | c :: r, a, ha, h => by
    have hc := h c (List.mem_cons_self ..)
    rw [List.foldl_cons, dec_fold r (dstep a c) (by unfold dstep; omega) (fun x hx => h x (List.mem_cons_of_mem _ hx)), dec_more a c ha hc]
    simp

theorem byt_list {s : ByteArray} {l : List UInt8} (h : s.data.toList = l) {k : Nat} (hk : k < l.length) : byt s k = (l[k].toNat : Int) := by
  subst h
  have hk' : k < s.size := by simpa using hk
  rw [byt_eq hk', ByteArray.getElem_eq_getElem_data]
  simp
theorem size_list {s : ByteArray} {l : List UInt8} (h : s.data.toList = l) : s.size = l.length := by subst h; simp

theorem accN_fold {s : ByteArray} {l : List UInt8} (h : s.data.toList = l) : ∀ m a k, k + m = l.length → accN s a k m = (l.drop k).foldl dstep a
  | 0, a, k, hk => by rw [List.drop_of_length_le (by omega)]; rfl
  | m + 1, a, k, hk => by
    have hlt : k < l.length := by omega
    rw [List.drop_eq_getElem_cons hlt, List.foldl_cons]
    show accN s (a * 10 + ((byt s k).toNat - 48)) (k + 1) m = _
    rw [accN_fold h m _ (k + 1) (by omega), byt_list h hlt]
    rfl

theorem digB_iff (c : UInt8) : digB (c.toNat : Int) = true ↔ isDig c := by
  unfold digB isDig
  simp
  omega

/-- A number's numeral is read as that number. -/
theorem numer_itoa {s : ByteArray} {n : Int} (h : s.data.toList = Lib.itoa n) (h0 : -999999999 ≤ n) (h1 : n ≤ 999999999) : isNumer s ∧ readN s = n := by
  by_cases hn : n < 0
  · obtain ⟨c, r, e, hc⟩ := dec_head n.natAbs
    have hl : s.data.toList = 45 :: Lib.decDigits n.natAbs := by rw [h]; unfold Lib.itoa; rw [if_pos hn]
    have hz := size_list hl
    have h9 := dec_len9 n.natAbs (by omega)
    have h45 : byt s 0 = 45 := by rw [byt_list hl (by simp)]; rfl
    have hf : fromD s = 1 := by unfold fromD; rw [if_pos h45]
    have hpos : 1 ≤ (Lib.decDigits n.natAbs).length := by rw [e]; simp
    rw [List.length_cons] at hz
    refine ⟨⟨by rw [hf]; omega, by rw [hf]; omega, ?_, ?_⟩, ?_⟩
    · rw [hf]
      intro j hj hlt
      rw [byt_list hl (by rw [List.length_cons]; omega), digB_iff]
      refine dec_dig n.natAbs _ ?_
      obtain ⟨i, rfl⟩ : ∃ i, j = i + 1 := ⟨j - 1, by omega⟩
      rw [List.getElem_cons_succ]
      exact List.getElem_mem _
    · rw [hf]
      rintro ⟨q, _⟩
      rw [byt_list hl (by rw [List.length_cons]; omega), List.getElem_cons_succ] at q
      have : (Lib.decDigits n.natAbs)[0]'(by omega) = c := by simp [e]
      rw [this] at q
      have := hc (by omega)
      omega
    · unfold readN
      rw [if_pos hf, accN_fold hl (s.size - 1) 0 1 (by rw [List.length_cons]; omega), List.drop_succ_cons, List.drop_zero, dec_val]
      omega
  · obtain ⟨c, r, e, hc⟩ := dec_head n.toNat
    have hl : s.data.toList = Lib.decDigits n.toNat := by rw [h]; unfold Lib.itoa; rw [if_neg hn]
    have hz := size_list hl
    have h9 := dec_len9 n.toNat (by omega)
    have hpos : 1 ≤ (Lib.decDigits n.toNat).length := by rw [e]; simp
    have hb0 : byt s 0 = (c.toNat : Int) := by
      rw [byt_list hl (by omega)]
      simp [e]
    have hd : isDig c := dec_dig n.toNat c (by rw [e]; exact List.mem_cons_self ..)
    have hf : fromD s = 0 := by unfold fromD; rw [if_neg (by rw [hb0]; unfold isDig at hd; omega)]
    refine ⟨⟨by rw [hf]; omega, by rw [hf]; omega, ?_, ?_⟩, ?_⟩
    · rw [hf]
      intro j hj hlt
      rw [byt_list hl (by omega), digB_iff]
      exact dec_dig n.toNat _ (List.getElem_mem _)
    · rw [hf]
      rintro ⟨q, q2 | q2⟩
      · omega
      · rw [hb0] at q
        by_cases hu : n.toNat = 0
        · rw [hu] at hz
          have : (Lib.decDigits 0).length = 1 := by rw [Lib.decDigits_one (by decide)]; rfl
          omega
        · have := hc hu
          omega
    · unfold readN
      rw [if_neg (by rw [hf]; decide), accN_fold hl s.size 0 0 (by omega), List.drop_zero, dec_val]
      omega

/-- What is read of a sign has that sign for its numeral. -/
theorem itoa_numer {s : ByteArray} (h : isNumer s) : Lib.itoa (readN s) = s.data.toList := by
  obtain ⟨h1, h2, h3, h4⟩ := h
  have hl : s.data.toList.length = s.size := by simp
  have hdig : ∀ j, fromD s ≤ j → (hj : j < s.data.toList.length) → isDig s.data.toList[j] := fun j ha hj => by
    have := h3 j ha (by omega)
    rw [byt_list rfl hj, digB_iff] at this
    exact this
  by_cases e : byt s 0 = 45
  · have hf : fromD s = 1 := by unfold fromD; rw [if_pos e]
    rw [hf] at h1 h2 h4 hdig
    have e45 : s.data.toList[0]'(by omega) = 45 := by
      rw [byt_list rfl (by omega)] at e
      have q : (s.data.toList[0]'(by omega)).toNat = 45 := by omega
      exact UInt8.toNat_inj.mp (q.trans rfl)
    have hd1 := hdig 1 (Nat.le_refl _) (by omega)
    have hnz : (s.data.toList[1]'(by omega)).toNat ≠ 48 := fun q => h4 ⟨by rw [byt_list rfl (by omega), q]; rfl, Or.inl rfl⟩
    have hr : readN s = -(((s.data.toList.drop 1).foldl dstep 0 : Nat) : Int) := by
      unfold readN
      rw [if_pos hf, accN_fold rfl (s.size - 1) 0 1 (by omega)]
    have ed : s.data.toList.drop 1 = s.data.toList[1]'(by omega) :: s.data.toList.drop 2 := List.drop_eq_getElem_cons (by omega)
    have e0 : s.data.toList = s.data.toList[0]'(by omega) :: s.data.toList.drop 1 := by
      have := List.drop_eq_getElem_cons (l := s.data.toList) (i := 0) (by omega)
      rwa [List.drop_zero] at this
    unfold isDig at hd1
    have hpos : 0 < dstep 0 (s.data.toList[1]'(by omega)) := by unfold dstep; omega
    have hdec : Lib.decDigits ((s.data.toList.drop 1).foldl dstep 0) = s.data.toList.drop 1 := by
      rw [ed, List.foldl_cons, dec_fold _ _ hpos]
      · have : Lib.decDigits (dstep 0 (s.data.toList[1]'(by omega))) = [s.data.toList[1]'(by omega)] := by
          unfold dstep
          rw [Lib.decDigits_one (by omega), show 48 + (0 * 10 + ((s.data.toList[1]'(by omega)).toNat - 48)) = (s.data.toList[1]'(by omega)).toNat by omega]
          simp
        rw [this]; rfl
      · intro c hc
        obtain ⟨i, hi, rfl⟩ := List.getElem_of_mem hc
        rw [List.getElem_drop]
        exact hdig _ (by omega) _
    have hp2 : 0 < (s.data.toList.drop 1).foldl dstep 0 := by
      rcases Nat.eq_zero_or_pos ((s.data.toList.drop 1).foldl dstep 0) with q | q
      · rw [q, Lib.decDigits_one (by decide)] at hdec
        have := congrArg List.head? hdec
        rw [ed] at this
        simp only [List.head?_cons, Option.some.injEq] at this
        exact absurd (by rw [← this]; rfl) hnz
      · exact q
    rw [hr]
    unfold Lib.itoa
    rw [if_pos (by omega), show (-(((s.data.toList.drop 1).foldl dstep 0 : Nat) : Int)).natAbs = (s.data.toList.drop 1).foldl dstep 0 by omega, hdec]
    conv => rhs; rw [e0, e45]
  · have hf : fromD s = 0 := by unfold fromD; rw [if_neg e]
    rw [hf] at h1 h2 h4 hdig
    have hd0 := hdig 0 (Nat.le_refl _) (by omega)
    have e0 : s.data.toList = s.data.toList[0]'(by omega) :: s.data.toList.drop 1 := by
      have := List.drop_eq_getElem_cons (l := s.data.toList) (i := 0) (by omega)
      rwa [List.drop_zero] at this
    have hr : readN s = ((s.data.toList.foldl dstep 0 : Nat) : Int) := by
      unfold readN
      rw [if_neg (by rw [hf]; decide), accN_fold rfl s.size 0 0 (by omega), List.drop_zero]
    unfold isDig at hd0
    have hone : Lib.decDigits (dstep 0 (s.data.toList[0]'(by omega))) = [s.data.toList[0]'(by omega)] := by
      unfold dstep
      rw [Lib.decDigits_one (by omega), show 48 + (0 * 10 + ((s.data.toList[0]'(by omega)).toNat - 48)) = (s.data.toList[0]'(by omega)).toNat by omega]
      simp
    have hdec : Lib.decDigits (s.data.toList.foldl dstep 0) = s.data.toList := by
      by_cases q : (s.data.toList[0]'(by omega)).toNat = 48
      · have hs1 : s.size = 1 := by
          rcases Nat.lt_or_ge 1 s.size with q1 | q1
          · exact absurd ⟨by rw [byt_list rfl (by omega), q]; rfl, Or.inr q1⟩ h4
          · omega
        have : s.data.toList.drop 1 = [] := List.drop_of_length_le (by omega)
        rw [this] at e0
        conv => lhs; rw [e0]
        rw [List.foldl_cons, List.foldl_nil, hone]
        exact e0.symm
      · conv => lhs; rw [e0]
        rw [List.foldl_cons, dec_fold _ _ (by unfold dstep; omega), hone]
        · exact e0.symm
        · intro c hc
          obtain ⟨i, hi, rfl⟩ := List.getElem_of_mem hc
          rw [List.getElem_drop]
          exact hdig _ (by omega) _
    rw [hr]
    unfold Lib.itoa
    rw [if_neg (by omega), show ((s.data.toList.foldl dstep 0 : Nat) : Int).toNat = s.data.toList.foldl dstep 0 by omega, hdec]

end Go.Proofs.YtmlopiphcnhcpaaDoor
