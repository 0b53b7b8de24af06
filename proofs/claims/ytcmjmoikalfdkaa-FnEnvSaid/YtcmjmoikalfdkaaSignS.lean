/-
  What the model says of names, numbers and quoted texts: walked.
-/
import Derived.Test.YtcmjmoikalfdkaaSignW
import Derived.Test.YtcmjmoikalfdkaaKind
namespace Go.Proofs.Ytcmjmoikalfdkaa
open Go.RowKit

set_option maxHeartbeats 1000000 in
theorem nameOkS_any (s : ByteArray) (w : World) (hs : s.size ≤ maxLen) :
    Calls Try.prog 108 #[.string s] w fun e w' => e = .returned (.bool (nameB s)) ∧ w' = w := by
  unfold maxLen at hs
  by_cases hin : 1 ≤ s.size ∧ s.size ≤ 8
  · have HIN : Hid ((decide ((1 : Int) ≤ (s.size : Int)) && decide ((s.size : Int) ≤ 8)) = true) := (by simp; omega : (decide ((1 : Int) ≤ (s.size : Int)) && decide ((s.size : Int) ≤ 8)) = true)
    have h0 : 0 < s.size := by omega
    have eb := byt_eq h0
    by_cases hl : 97 ≤ byt s 0 ∧ byt s 0 ≤ 122
    · have h97 : 97 ≤ (s[0].toNat : Int) := by omega
      have h122 : (s[0].toNat : Int) ≤ 122 := by omega
      have H0 : Hid (letB (byt s 0) = true) := (by simp [letB, hl] : letB (byt s 0) = true)
      have H8 : Hid (1 ≤ s.size ∧ s.size ≤ 8) := hin
      clear eb hl hin
      go_enter Try.func108, Try.ntmps108
      go_wp2_with fail
      refine (l1In_any _ _ _ _).mono ?_
      rintro e w1 ⟨rfl, rfl⟩
      rw [HIN.out]
      go_wp2
      go_loop [3] (fun i => ∃ k : Nat, k ≤ s.size ∧ i = .int .i64 k ∧ Hid (AllIn alnB s 0 k)) (fun i => s.size - (intOf i).toNat)
      case atStart => exact ⟨0, Nat.zero_le _, rfl, allIn_nil _ _ _⟩
      case round =>
        obtain ⟨k, hk, rfl, HA⟩ := hrel
        by_cases hlt : k < s.size
        · have eb := byt_eq hlt
          cases ha : alnB (byt s k)
          · have HB : Hid (nameB s = false) := Bool.eq_false_iff.mpr fun h => by
              rw [((nameB_iff s).mp h).2.2.2 k (by omega) hlt] at ha
              exact absurd ha (by decide)
            have hq : (s[k].toNat : Int) < 48 ∨ (57 < (s[k].toNat : Int) ∧ (s[k].toNat : Int) < 97) ∨ 122 < (s[k].toNat : Int) := by
              simp [alnB, letB, digB] at ha; omega
            clear eb ha
            rcases hq with q1 | ⟨q1, q2⟩ | q1
            all_goals
              go_wp2
              go_ret
              rw [HB.out]
              exact ⟨rfl, rfl⟩
          · have HN : Hid (AllIn alnB s 0 (k + 1)) := allIn_succ HA.out ha
            have hq : (97 ≤ (s[k].toNat : Int) ∧ (s[k].toNat : Int) ≤ 122) ∨ ((s[k].toNat : Int) < 97 ∧ 48 ≤ (s[k].toNat : Int) ∧ (s[k].toNat : Int) ≤ 57) := by
              simp [alnB, letB, digB] at ha; omega
            clear eb ha
            rcases hq with ⟨q1, q2⟩ | ⟨q1, q2, q3⟩
            all_goals
              go_wp2
              exact ⟨⟨k + 1, by omega, by go_num, HN⟩, by simp [intOf]; omega⟩
        · have HB : Hid (nameB s = true) := (nameB_iff s).mpr ⟨H8.out.1, H8.out.2, H0.out, by rw [show s.size = k by omega]; exact HA.out⟩
          go_wp2
          go_ret
          rw [HB.out]
          exact ⟨rfl, rfl⟩
    · have HB : Hid (nameB s = false) := Bool.eq_false_iff.mpr fun h => by
        have := ((nameB_iff s).mp h).2.2.1
        simp [letB] at this
        omega
      have hq : (s[0].toNat : Int) < 97 ∨ 122 < (s[0].toNat : Int) := by omega
      clear eb hl hin
      rcases hq with q1 | q1
      all_goals
        go_enter Try.func108, Try.ntmps108
        go_wp2_with fail
        refine (l1In_any _ _ _ _).mono ?_
        rintro e w1 ⟨rfl, rfl⟩
        rw [HIN.out]
        go_wp2
        go_ret
        rw [HB.out]
        exact ⟨rfl, rfl⟩
  · have HIN : Hid ((decide ((1 : Int) ≤ (s.size : Int)) && decide ((s.size : Int) ≤ 8)) = false) := (by simp; omega : (decide ((1 : Int) ≤ (s.size : Int)) && decide ((s.size : Int) ≤ 8)) = false)
    have HB : Hid (nameB s = false) := Bool.eq_false_iff.mpr fun h => by
      have := (nameB_iff s).mp h
      exact hin ⟨this.1, this.2.1⟩
    clear hin
    go_enter Try.func108, Try.ntmps108
    go_wp2_with fail
    refine (l1In_any _ _ _ _).mono ?_
    rintro e w1 ⟨rfl, rfl⟩
    rw [HIN.out]
    go_wp2
    go_ret
    rw [HB.out]
    exact ⟨rfl, rfl⟩

set_option maxHeartbeats 1000000 in
theorem l2Quoted_any (s : ByteArray) (w : World) (hs : s.size ≤ maxLen) :
    Calls Try.prog 162 #[.string s] w fun e w' => e = .returned (.bool (quotB s)) ∧ w' = w := by
  unfold maxLen at hs
  by_cases h1 : 1 < s.size
  · have h0 : 0 < s.size := by omega
    have hm : s.size - 1 < s.size := by omega
    have eb := byt_eq h0
    have em := byt_eq hm
    by_cases q1 : byt s 0 = 39
    · have c39 : ((s[0].toNat : Int) == 39) = true := by simp; omega
      by_cases q2 : byt s (s.size - 1) = 39
      · have d39 : ((s[s.size - 1].toNat : Int) == 39) = true := by simp; omega
        have HB : Hid (quotB s = textB (s.extract 1 (s.size - 1))) := (by unfold quotB; simp [h1, q1, q2] : quotB s = textB (s.extract 1 (s.size - 1)))
        clear eb em q1 q2
        go_enter Try.func162, Try.ntmps162
        go_wp2_with fail
        refine (l1Plain_any _ _ (by simp [maxLen]; omega)).mono ?_
        rintro e w1 ⟨rfl, rfl⟩
        go_wp2
        go_ret
        rw [HB.out]
        exact ⟨rfl, rfl⟩
      · have d39 : ((s[s.size - 1].toNat : Int) == 39) = false := by simp; omega
        have HB : Hid (quotB s = false) := (by unfold quotB; simp [q2] : quotB s = false)
        clear eb em q1 q2
        go_enter Try.func162, Try.ntmps162
        go_wp2
        go_ret
        rw [HB.out]
        exact ⟨rfl, rfl⟩
    · have c39 : ((s[0].toNat : Int) == 39) = false := by simp; omega
      have HB : Hid (quotB s = false) := (by unfold quotB; simp [q1] : quotB s = false)
      clear eb em q1
      go_enter Try.func162, Try.ntmps162
      go_wp2
      go_ret
      rw [HB.out]
      exact ⟨rfl, rfl⟩
  · have HB : Hid (quotB s = false) := (by unfold quotB; simp [h1] : quotB s = false)
    go_enter Try.func162, Try.ntmps162
    go_wp2
    go_ret
    rw [HB.out]
    exact ⟨rfl, rfl⟩

end Go.Proofs.Ytcmjmoikalfdkaa
