/-
  What the model reads as a number: walked.
-/
import Derived.Test.YtcmjmoikalfdkaaSignW
import Derived.Test.YtcmjmoikalfdkaaKind
namespace Go.Proofs.Ytcmjmoikalfdkaa
open Go.RowKit

/-- What ReadNumber answers beside its flag. -/
def numN (s : ByteArray) : Int := if numerB s then readN s else 0
theorem num_no {s : ByteArray} (h : numerB s = false) : numerB s = false ∧ numN s = 0 := ⟨h, by simp [numN, h]⟩
theorem num_yes {s : ByteArray} {n : Int} (h : numerB s = true) (e : readN s = n) : numerB s = true ∧ numN s = n := ⟨h, by simp [numN, h, e]⟩

set_option maxHeartbeats 2000000 in
theorem readNumberS_any (s : ByteArray) (w : World) (hs : s.size ≤ maxLen) :
    Calls Try.prog 161 #[.string s] w fun e w' => e = .returned (.tuple #[.int .i64 (numN s), .bool (numerB s)]) ∧ w' = w := by
  unfold maxLen at hs
  by_cases hz : s.size = 0
  · have hse : s = ⟨#[]⟩ := by
      apply ByteArray.ext
      exact Array.eq_empty_of_size_eq_zero hz
    subst hse
    go_enter Try.func161, Try.ntmps161
    go_wp2
    go_ret2
    exact ⟨rfl, rfl⟩
  have h0 : 0 < s.size := by omega
  have hb : s.toList.isEmpty = false := by
    rw [← decide_eq_emptyBytes]
    exact decide_eq_false fun h => hz (by rw [h]; rfl)
  have eb0 := byt_eq h0
  clear hz
  by_cases q45 : byt s 0 = 45
  · have c45 : ((s[0].toNat : Int) == 45) = true := by simp; omega
    have hi : fromD s = 1 := by unfold fromD; rw [if_pos q45]
    clear eb0 q45
    by_cases hr : s.size < 2 ∨ 10 < s.size
    · have HB : Hid (numerB s = false ∧ numN s = 0) := num_no <| Bool.eq_false_iff.mpr fun h => by
        have h := (numerB_iff s).mp h
        have h1 := h.1
        have h2 := h.2.1
        rw [hi] at h1 h2
        omega
      go_enter Try.func161, Try.ntmps161
      clear hi
      rcases hr with hr | hr
      all_goals
        go_wp2
        go_ret2
        rw [HB.out.1, HB.out.2]
        exact ⟨rfl, rfl⟩
    have hp9 : 1 * 10 ^ (s.size - 1) ≤ 1000000000 := by
      have : 10 ^ (s.size - 1) ≤ 10 ^ 9 := Nat.pow_le_pow_right (by decide) (by omega)
      simpa using this
    have HI : Hid (fromD s = 1) := hi
    have hz1 : 2 ≤ s.size := by omega
    have hz2 : s.size ≤ 10 := by omega
    clear hi hr
    go_enter Try.func161, Try.ntmps161
    go_wp2
    go_loop [6, 7] (fun n i => ∃ k acc : Nat, 1 ≤ k ∧ k ≤ s.size ∧ i = .int .i64 k ∧ n = .int .i64 acc ∧ Hid (AllIn digB s 1 k ∧ accN s acc k (s.size - k) = accN s 0 1 (s.size - 1) ∧ (acc + 1) * 10 ^ (s.size - k) ≤ 1000000000)) (fun _ i => s.size - (intOf i).toNat)
    case atStart => exact ⟨1, 0, Nat.le_refl _, by omega, rfl, rfl, allIn_nil _ _ _, rfl, by simpa using hp9⟩
    case round =>
      obtain ⟨k, acc, hk0, hk, rfl, rfl, HL⟩ := hrel
      by_cases hlt : k < s.size
      · have hpos : 1 ≤ 10 ^ (s.size - k) := Nat.pow_pos (by decide)
        have hacc : (acc : Int) ≤ 999999999 := by
          have h1 := Nat.le_trans (Nat.le_mul_of_pos_right (acc + 1) hpos) HL.out.2.2
          omega
        have eb := byt_eq hlt
        by_cases hd : 48 ≤ byt s k ∧ byt s k ≤ 57
        · have h48 : 48 ≤ (s[k].toNat : Int) := by omega
          have h57 : (s[k].toNat : Int) ≤ 57 := by omega
          have HN : Hid (AllIn digB s 1 (k + 1) ∧ accN s (acc * 10 + (s[k].toNat - 48)) (k + 1) (s.size - (k + 1)) = accN s 0 1 (s.size - 1) ∧ (acc * 10 + (s[k].toNat - 48) + 1) * 10 ^ (s.size - (k + 1)) ≤ 1000000000) := by
            refine ⟨allIn_succ HL.out.1 (by simp [digB, hd]), ?_, ?_⟩
            · rw [← HL.out.2.1]
              obtain ⟨m, hm⟩ : ∃ m, s.size - k = m + 1 := ⟨s.size - k - 1, by omega⟩
              rw [hm, show s.size - (k + 1) = m by omega]
              show _ = accN s (acc * 10 + ((byt s k).toNat - 48)) (k + 1) m
              rw [eb]; rfl
            · obtain ⟨m, hm⟩ : ∃ m, s.size - k = m + 1 := ⟨s.size - k - 1, by omega⟩
              have h3 := HL.out.2.2
              rw [hm, Nat.pow_succ, Nat.mul_comm (10 ^ m) 10, ← Nat.mul_assoc] at h3
              rw [show s.size - (k + 1) = m by omega]
              exact Nat.le_trans (Nat.mul_le_mul_right _ (by omega)) h3
          clear eb hd
          go_wp2
          refine ⟨⟨k + 1, acc * 10 + (s[k].toNat - 48), by omega, by omega, by go_num, ?_, HN⟩, by simp [intOf]; omega⟩
          congr 1
          omega
        · have HB : Hid (numerB s = false ∧ numN s = 0) := num_no <| Bool.eq_false_iff.mpr fun h => by
            have h3 := ((numerB_iff s).mp h).2.2.1 k (by rw [HI.out]; exact hk0) hlt
            simp [digB] at h3
            omega
          have hor : (s[k].toNat : Int) < 48 ∨ 57 < (s[k].toNat : Int) := by omega
          clear eb hd
          rcases hor with h48 | h57
          all_goals
            go_wp2
            go_ret2
            rw [HB.out.1, HB.out.2]
            exact ⟨rfl, rfl⟩
      · have ek : k = s.size := by omega
        have HE : Hid (AllIn digB s 1 s.size ∧ acc = accN s 0 1 (s.size - 1) ∧ (acc : Int) ≤ 999999999) := by
          have h1 := HL.out
          rw [ek, Nat.sub_self] at h1
          refine ⟨h1.1, h1.2.1, ?_⟩
          have := h1.2.2
          omega
        have hacc := HE.out.2.2
        have hI : 1 < s.size := by omega
        have eb := byt_eq hI
        by_cases q : byt s 1 = 48 ∧ (True)
        · have HB : Hid (numerB s = false ∧ numN s = 0) := num_no <| Bool.eq_false_iff.mpr fun h => by
            have h4 := ((numerB_iff s).mp h).2.2.2
            rw [HI.out] at h4
            exact h4 ⟨q.1, Or.inl rfl⟩
          have c48 : ((s[1].toNat : Int) == 48) = true := by simp; omega
          clear eb q ek
          go_wp2
          go_ret2
          rw [HB.out.1, HB.out.2]
          exact ⟨rfl, rfl⟩
        · have HB : Hid (numerB s = true ∧ numN s = -(acc : Int)) := by
            refine num_yes ((numerB_iff s).mpr ⟨by rw [HI.out]; omega, by rw [HI.out]; omega, by rw [HI.out]; exact HE.out.1, by rw [HI.out]; intro h; exact q ⟨h.1, trivial⟩⟩) ?_
            unfold readN
            rw [HI.out, HE.out.2.1]
            rfl
          have hor : ((s[1].toNat : Int) == 48) = false := by
            have q1 : byt s 1 ≠ 48 := fun h => q ⟨h, trivial⟩
            simp; omega
          clear eb q ek
          all_goals
            go_wp2
            go_ret2
            rw [HB.out.1, HB.out.2]
            exact ⟨rfl, rfl⟩
  · have c45 : ((s[0].toNat : Int) == 45) = false := by simp; omega
    have hi : fromD s = 0 := by unfold fromD; rw [if_neg q45]
    clear eb0 q45
    by_cases hr : 9 < s.size
    · have HB : Hid (numerB s = false ∧ numN s = 0) := num_no <| Bool.eq_false_iff.mpr fun h => by
        have h := (numerB_iff s).mp h
        have h1 := h.1
        have h2 := h.2.1
        rw [hi] at h1 h2
        omega
      go_enter Try.func161, Try.ntmps161
      clear hi
      all_goals
        go_wp2
        go_ret2
        rw [HB.out.1, HB.out.2]
        exact ⟨rfl, rfl⟩
    have hp9 : 1 * 10 ^ (s.size - 0) ≤ 1000000000 := by
      have : 10 ^ (s.size - 0) ≤ 10 ^ 9 := Nat.pow_le_pow_right (by decide) (by omega)
      simpa using this
    have HI : Hid (fromD s = 0) := hi
    have hz1 : 1 ≤ s.size := by omega
    have hz2 : s.size ≤ 9 := by omega
    clear hi hr
    go_enter Try.func161, Try.ntmps161
    go_wp2
    go_loop [6, 7] (fun n i => ∃ k acc : Nat, 0 ≤ k ∧ k ≤ s.size ∧ i = .int .i64 k ∧ n = .int .i64 acc ∧ Hid (AllIn digB s 0 k ∧ accN s acc k (s.size - k) = accN s 0 0 (s.size - 0) ∧ (acc + 1) * 10 ^ (s.size - k) ≤ 1000000000)) (fun _ i => s.size - (intOf i).toNat)
    case atStart => exact ⟨0, 0, Nat.le_refl _, by omega, rfl, rfl, allIn_nil _ _ _, rfl, by simpa using hp9⟩
    case round =>
      obtain ⟨k, acc, hk0, hk, rfl, rfl, HL⟩ := hrel
      by_cases hlt : k < s.size
      · have hpos : 1 ≤ 10 ^ (s.size - k) := Nat.pow_pos (by decide)
        have hacc : (acc : Int) ≤ 999999999 := by
          have h1 := Nat.le_trans (Nat.le_mul_of_pos_right (acc + 1) hpos) HL.out.2.2
          omega
        have eb := byt_eq hlt
        by_cases hd : 48 ≤ byt s k ∧ byt s k ≤ 57
        · have h48 : 48 ≤ (s[k].toNat : Int) := by omega
          have h57 : (s[k].toNat : Int) ≤ 57 := by omega
          have HN : Hid (AllIn digB s 0 (k + 1) ∧ accN s (acc * 10 + (s[k].toNat - 48)) (k + 1) (s.size - (k + 1)) = accN s 0 0 (s.size - 0) ∧ (acc * 10 + (s[k].toNat - 48) + 1) * 10 ^ (s.size - (k + 1)) ≤ 1000000000) := by
            refine ⟨allIn_succ HL.out.1 (by simp [digB, hd]), ?_, ?_⟩
            · rw [← HL.out.2.1]
              obtain ⟨m, hm⟩ : ∃ m, s.size - k = m + 1 := ⟨s.size - k - 1, by omega⟩
              rw [hm, show s.size - (k + 1) = m by omega]
              show _ = accN s (acc * 10 + ((byt s k).toNat - 48)) (k + 1) m
              rw [eb]; rfl
            · obtain ⟨m, hm⟩ : ∃ m, s.size - k = m + 1 := ⟨s.size - k - 1, by omega⟩
              have h3 := HL.out.2.2
              rw [hm, Nat.pow_succ, Nat.mul_comm (10 ^ m) 10, ← Nat.mul_assoc] at h3
              rw [show s.size - (k + 1) = m by omega]
              exact Nat.le_trans (Nat.mul_le_mul_right _ (by omega)) h3
          clear eb hd
          go_wp2
          refine ⟨⟨k + 1, acc * 10 + (s[k].toNat - 48), by omega, by omega, by go_num, ?_, HN⟩, by simp [intOf]; omega⟩
          congr 1
          omega
        · have HB : Hid (numerB s = false ∧ numN s = 0) := num_no <| Bool.eq_false_iff.mpr fun h => by
            have h3 := ((numerB_iff s).mp h).2.2.1 k (by rw [HI.out]; exact hk0) hlt
            simp [digB] at h3
            omega
          have hor : (s[k].toNat : Int) < 48 ∨ 57 < (s[k].toNat : Int) := by omega
          clear eb hd
          rcases hor with h48 | h57
          all_goals
            go_wp2
            go_ret2
            rw [HB.out.1, HB.out.2]
            exact ⟨rfl, rfl⟩
      · have ek : k = s.size := by omega
        have HE : Hid (AllIn digB s 0 s.size ∧ acc = accN s 0 0 (s.size - 0) ∧ (acc : Int) ≤ 999999999) := by
          have h1 := HL.out
          rw [ek, Nat.sub_self] at h1
          refine ⟨h1.1, h1.2.1, ?_⟩
          have := h1.2.2
          omega
        have hacc := HE.out.2.2
        have hI : 0 < s.size := by omega
        have eb := byt_eq hI
        by_cases q : byt s 0 = 48 ∧ (1 < s.size)
        · have HB : Hid (numerB s = false ∧ numN s = 0) := num_no <| Bool.eq_false_iff.mpr fun h => by
            have h4 := ((numerB_iff s).mp h).2.2.2
            rw [HI.out] at h4
            exact h4 ⟨q.1, Or.inr q.2⟩
          have c48 : ((s[0].toNat : Int) == 48) = true := by simp; omega
          have c1 : (1 : Int) < (s.size : Int) := by omega
          clear eb q ek
          go_wp2
          go_ret2
          rw [HB.out.1, HB.out.2]
          exact ⟨rfl, rfl⟩
        · have HB : Hid (numerB s = true ∧ numN s = (acc : Int)) := by
            refine num_yes ((numerB_iff s).mpr ⟨by rw [HI.out]; omega, by rw [HI.out]; omega, by rw [HI.out]; exact HE.out.1, by rw [HI.out]; intro h; exact q ⟨h.1, h.2.resolve_left (by omega)⟩⟩) ?_
            unfold readN
            rw [HI.out, HE.out.2.1]
            rfl
          have hor : ((s[0].toNat : Int) == 48) = false ∨ (((s[0].toNat : Int) == 48) = true ∧ (s.size : Int) ≤ 1) := by
            by_cases c : (s[0].toNat : Int) = 48
            · right; exact ⟨by simp; omega, by omega⟩
            · left; simp; omega
          clear eb q ek
          rcases hor with c48 | ⟨c48, c1⟩
          all_goals
            go_wp2
            go_ret2
            rw [HB.out.1, HB.out.2]
            exact ⟨rfl, rfl⟩

end Go.Proofs.Ytcmjmoikalfdkaa
