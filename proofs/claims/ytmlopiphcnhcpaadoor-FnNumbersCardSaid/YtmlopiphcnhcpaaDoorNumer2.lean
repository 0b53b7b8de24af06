/-
  Values and their signs go back and forth.
-/
import Derived.Test.YtmlopiphcnhcpaaDoorNumer
import Derived.Test.YtmlopiphcnhcpaaDoorValIn
namespace Go.Proofs.YtmlopiphcnhcpaaDoor
open Go.RowKit

theorem quo_list (t : ByteArray) : (quo t).data.toList = 39 :: (t.data.toList ++ [39]) := by
  unfold quo
  simp [ByteArray.data_append]
theorem em_of {s : ByteArray} (h : emB s = true) : s = ⟨#[]⟩ := by
  rcases em_cases s with h1 | ⟨_, h1⟩
  · exact h1
  · rw [h1] at h; exact absurd h (by decide)

theorem quo_ext {s : ByteArray} (h : isQuot s) : quo (s.extract 1 (s.size - 1)) = s := by
  obtain ⟨h1, h2, h3, _⟩ := h
  apply bytes_ext
  rw [quo_list]
  have hl : s.data.toList.length = s.size := by simp
  rw [byt_list rfl (by omega)] at h2 h3
  have e0 : s.data.toList[0]'(by omega) = 39 := by
    have q : (s.data.toList[0]'(by omega)).toNat = 39 := by omega
    exact UInt8.toNat_inj.mp (q.trans rfl)
  have e1 : s.data.toList[s.size - 1]'(by omega) = 39 := by
    have q : (s.data.toList[s.size - 1]'(by omega)).toNat = 39 := by omega
    exact UInt8.toNat_inj.mp (q.trans rfl)
  have ex : (s.extract 1 (s.size - 1)).data.toList = (s.data.toList.drop 1).take (s.size - 1 - 1) := by
    simp [ByteArray.data_extract]
  rw [ex]
  apply List.ext_getElem
  · simp; omega
  · intro i hi1 hi2
    by_cases q0 : i = 0
    · subst q0; simpa using e0.symm
    · obtain ⟨j, rfl⟩ : ∃ j, i = j + 1 := ⟨i - 1, by omega⟩
      rw [List.getElem_cons_succ]
      by_cases q1 : j < s.size - 1 - 1
      · rw [List.getElem_append_left (by simp; omega)]
        simp [List.getElem_take]
      · have ej : j + 1 = s.size - 1 := by omega
        rw [List.getElem_append_right (by simp; omega)]
        have : s.data.toList[j + 1]'(by omega) = s.data.toList[s.size - 1]'(by omega) := by congr 1
        rw [this, e1]
        simp

theorem quot_quo {t : ByteArray} (h : textB t = true) : isQuot (quo t) ∧ (quo t).extract 1 ((quo t).size - 1) = t := by
  have hl := quo_list t
  have hz : (quo t).size = t.data.toList.length + 2 := by rw [size_list hl]; simp
  have ee : (quo t).extract 1 ((quo t).size - 1) = t := by
    apply bytes_ext
    have : ((quo t).extract 1 ((quo t).size - 1)).data.toList = ((quo t).data.toList.drop 1).take ((quo t).size - 1 - 1) := by
      simp [ByteArray.data_extract]
    rw [this, hl, List.drop_succ_cons, List.drop_zero, hz]
    rw [show t.data.toList.length + 2 - 1 - 1 = t.data.toList.length by omega]
    simp
  refine ⟨⟨by omega, ?_, ?_, by rw [ee]; exact h⟩, ee⟩
  · rw [byt_list hl (by simp)]; rfl
  · rw [byt_list hl (by rw [hz]; simp)]
    have : (39 :: (t.data.toList ++ [39]))[(quo t).size - 1]'(by rw [hz]; simp) = 39 := by
      have e : (quo t).size - 1 = t.data.toList.length + 1 := by omega
      simp only [e]
      rw [List.getElem_cons_succ, List.getElem_append_right (by omega)]
      simp
    rw [this]; rfl

theorem none_of {s : ByteArray} (h : noneB s = true) : s = ⟨#[110, 111, 110, 101]⟩ := by
  unfold noneB at h
  rw [ByteArray.toList_eq, beq_iff_eq] at h
  exact bytes_ext h

/-- The sign of what is read of a sign is that sign. -/
theorem sgn_vi {s : ByteArray} (h : viB s = true) : sgn (viK s) (viN s) (viT s) = s ∧ signB s = true := by
  cases hn : numerB s
  · cases hq : quotB s
    · obtain ⟨a, b, c, d⟩ := vi_rest hn hq
      rw [d] at h
      rw [a, b, c]
      refine ⟨?_, sign_yes (none_kind h) (by decide)⟩
      rw [none_of h, sgn_other (by decide)]
      simp [txt, okV, emB, ByteArray.toList_eq]
    · obtain ⟨a, b, c, d⟩ := vi_quot hn hq
      have hQ := (quotB_iff s).mp hq
      rw [a, b, c]
      refine ⟨?_, sign_yes (kind_quot hQ) (by decide)⟩
      have ho : okV 2 0 (s.extract 1 (s.size - 1)) = true := by
        unfold okV
        rw [if_neg (by decide), if_neg (by decide), if_pos rfl, hQ.2.2.2]
        rfl
      rw [(sgn_text ho).2.2, quo_ext hQ]
  · obtain ⟨a, b, c, d⟩ := vi_num hn
    have hN := (numerB_iff s).mp hn
    have hp := parse_numer hN
    rw [a, b, c]
    refine ⟨?_, sign_yes (kind_numer hN) (by decide)⟩
    have ho : okV 1 (readN s) ⟨#[]⟩ = true := by simp [okV, emB, ByteArray.toList_eq, numB, hp.2.1, hp.2.2]
    rw [sgn_other (by decide)]
    have : txt 1 (readN s) ⟨#[]⟩ = ⟨(Lib.itoa (readN s)).toArray⟩ := by simp [txt, ho]
    rw [this]
    apply bytes_ext
    simp [itoa_numer hN]

theorem vi_numer {s : ByteArray} (h : numerB s = true) : viB s = true ∧ viN s = numN s := by
  obtain ⟨a, b, c, d⟩ := vi_num h
  exact ⟨d, by rw [b, (num_yes h rfl).2]⟩

/-- What is written is read again. -/
theorem vi_sgn {k n : Int} {t : ByteArray} (ho : okV k n t = true) (hk : k < 3) : viK (sgn k n t) = k ∧ viN (sgn k n t) = n ∧ viT (sgn k n t) = t ∧ viB (sgn k n t) = true ∧ sgn k n t ≠ ⟨#[]⟩ := by
  obtain ⟨hk0, _⟩ := okV_lo ho
  by_cases h0 : k = 0
  · subst h0
    have hs : sgn 0 n t = ⟨#[110, 111, 110, 101]⟩ := by rw [sgn_other (by decide)]; simp [txt, ho]
    unfold okV at ho
    rw [if_pos rfl] at ho
    simp only [Bool.and_eq_true, decide_eq_true_eq] at ho
    have hnn : noneB (sgn 0 n t) = true := by rw [hs]; unfold noneB; rw [ByteArray.toList_eq]; rfl
    obtain ⟨q1, q2⟩ := numer_none hnn
    obtain ⟨a, b, c, d⟩ := vi_rest q1 q2
    refine ⟨a, by rw [b, ho.1], by rw [c, em_of ho.2], d.trans hnn, ?_⟩
    rw [hs]
    intro h
    have := congrArg ByteArray.size h
    exact absurd this (by decide)
  by_cases h1 : k = 1
  · subst h1
    obtain ⟨b0, b1⟩ := okV_num ho
    have hs : sgn 1 n t = ⟨(Lib.itoa n).toArray⟩ := by rw [sgn_other (by decide)]; simp [txt, ho]
    have hl : (sgn 1 n t).data.toList = Lib.itoa n := by rw [hs]
    obtain ⟨hN, hr⟩ := numer_itoa hl b0 b1
    obtain ⟨a, b, c, d⟩ := vi_num ((numerB_iff _).mpr hN)
    unfold okV at ho
    rw [if_neg (by decide), if_pos rfl] at ho
    simp only [Bool.and_eq_true] at ho
    refine ⟨a, b.trans hr, by rw [c, em_of ho.2], d, ?_⟩
    intro h
    have := hN.1
    rw [h] at this
    exact absurd this (by show ¬ (fromD ⟨#[]⟩ + 1 ≤ 0); omega)
  have h2 : k = 2 := by omega
  subst h2
  have hs := (sgn_text ho).2.2
  unfold okV at ho
  rw [if_neg (by decide), if_neg (by decide), if_pos rfl] at ho
  simp only [Bool.and_eq_true, decide_eq_true_eq] at ho
  obtain ⟨hQ, he⟩ := quot_quo ho.1
  have hq := (quotB_iff _).mpr hQ
  have hn : numerB (quo t) = false := Bool.eq_false_iff.mpr fun h => by
    have h1 := kind_numer ((numerB_iff _).mp h)
    rw [kind_quot hQ] at h1
    exact absurd h1 (by decide)
  obtain ⟨a, b, c, d⟩ := vi_quot hn hq
  rw [hs]
  refine ⟨a, by rw [b, ho.2], c.trans he, d, ?_⟩
  intro h
  have := hQ.1
  rw [h] at this
  exact absurd this (by decide)

theorem sgn_none {k n : Int} {t : ByteArray} (h : okV k n t = false ∨ 3 ≤ k) : sgn k n t = ⟨#[]⟩ := by
  cases ho : okV k n t
  · exact (sgn_bad ho).2.2
  · have hk : 3 ≤ k := by
      rcases h with h | h
      · rw [h] at ho; exact absurd ho (by decide)
      · exact h
    rw [sgn_other (by omega)]
    unfold txt
    rw [if_pos ho, if_neg (by omega), if_neg (by omega), if_neg (by omega)]

theorem sgn_size (k n : Int) (t : ByteArray) (ht : t.size ≤ 61) : (sgn k n t).size ≤ 70 := by
  cases ho : okV k n t
  · rw [(sgn_bad ho).2.2]; decide
  · by_cases h3 : 3 ≤ k
    · rw [sgn_none (Or.inr h3)]; decide
    · have hlo := okV_lo ho
      by_cases h2 : k = 2
      · subst h2
        rw [(sgn_text ho).2.2, size_list (quo_list t)]
        simp
        omega
      · by_cases h1 : k = 1
        · subst h1
          obtain ⟨b0, b1⟩ := okV_num ho
          have hs : sgn 1 n t = ⟨(Lib.itoa n).toArray⟩ := by rw [sgn_other (by decide)]; simp [txt, ho]
          have hl : (sgn 1 n t).data.toList = Lib.itoa n := by rw [hs]
          have := (numer_itoa hl b0 b1).1.2.1
          have := fromD_le (sgn 1 n t)
          omega
        · have h0 : k = 0 := by omega
          subst h0
          have hs : sgn 0 n t = ⟨#[110, 111, 110, 101]⟩ := by rw [sgn_other (by decide)]; simp [txt, ho]
          rw [hs]; decide

end Go.Proofs.YtmlopiphcnhcpaaDoor
