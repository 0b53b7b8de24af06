/-
  Where a sign ends, by the model; which bytes end a word, by the program.
-/
import Derived.Test.YtmlopiphcnhcpaaSignK
import Derived.Test.YtmlopiphcnhcpaaCuts
namespace Go.Proofs.Ytmlopiphcnhcpaa
open Go.RowKit

set_option maxHeartbeats 1000000 in
theorem endsWord_any (c : Int) (w : World) :
    Calls Try.prog 49 #[.int .u8 c] w fun e w' => e = .returned (.bool (stopB c)) ∧ w' = w := by
  by_cases h1 : c = 32
  · subst h1
    go_enter Try.func49, Try.ntmps49
    go_wp2
    go_ret
    exact ⟨rfl, rfl⟩
  by_cases h2 : c = 10
  · subst h2
    go_enter Try.func49, Try.ntmps49
    go_wp2
    go_ret
    exact ⟨rfl, rfl⟩
  by_cases h3 : c = 40
  · subst h3
    go_enter Try.func49, Try.ntmps49
    go_wp2
    go_ret
    exact ⟨rfl, rfl⟩
  by_cases h4 : c = 41
  · subst h4
    go_enter Try.func49, Try.ntmps49
    go_wp2
    go_ret
    exact ⟨rfl, rfl⟩
  have HB : Hid (stopB c = (c == 32 || c == 10 || c == 40 || c == 41 || c == 39)) := (rfl : stopB c = (c == 32 || c == 10 || c == 40 || c == 41 || c == 39))
  go_enter Try.func49, Try.ntmps49
  go_wp2
  go_ret
  rw [HB.out]
  exact ⟨rfl, rfl⟩

set_option maxHeartbeats 2000000 in
theorem l2End_any (s : ByteArray) (k : Nat) (w : World) (hs : s.size ≤ 1048576) (hk : k < s.size) (hbl : blankB (byt s k) = false) :
    Calls Try.prog 36 #[.string s, .int .i64 (k : Int)] w fun e w' => e = .returned (.int .i64 (endN s k : Int)) ∧ w' = w := by
  have eb := byt_eq hk
  have HBL : Hid (blankB (byt s k) = false) := hbl
  clear hbl
  by_cases q40 : byt s k = 40
  · have c40 : ((s[k].toNat : Int) == 40) = true := by simp; omega
    have HE : Hid (endN s k = k + 1) := end_paren (Or.inl q40)
    clear q40 eb
    go_enter Try.func36, Try.ntmps36
    go_wp2
    go_ret
    exact ⟨by rw [HE.out]; rfl, rfl⟩
  have c40 : ((s[k].toNat : Int) == 40) = false := by simp; omega
  by_cases q41 : byt s k = 41
  · have c41 : ((s[k].toNat : Int) == 41) = true := by simp; omega
    have HE : Hid (endN s k = k + 1) := end_paren (Or.inr q41)
    clear q40 q41 eb
    go_enter Try.func36, Try.ntmps36
    go_wp2
    go_ret
    exact ⟨by rw [HE.out]; rfl, rfl⟩
  have c41 : ((s[k].toNat : Int) == 41) = false := by simp; omega
  by_cases q39 : byt s k = 39
  · have c39 : ((s[k].toNat : Int) == 39) = true := by simp; omega
    have H39 : Hid (byt s k = 39) := q39
    clear q40 q41 q39 eb
    go_enter Try.func36, Try.ntmps36
    go_wp2
    go_loop [5] (fun i => ∃ j : Nat, k < j ∧ j ≤ s.size ∧ i = .int .i64 (j : Int) ∧ Hid (∀ i, k < i → i < j → byt s i ≠ 39)) (fun i => s.size - (intOf i).toNat)
    case atStart => exact ⟨k + 1, by omega, by omega, by go_num, fun i a b => by omega⟩
    case round =>
      obtain ⟨j, hj0, hj, rfl, HJ⟩ := hrel
      by_cases hlt : j < s.size
      · have ej := byt_eq hlt
        by_cases p39 : byt s j = 39
        · have d39 : ((s[j].toNat : Int) == 39) = true := by simp; omega
          have HE : Hid (endN s k = j + 1) := end_quote H39.out hj0 hlt p39 HJ.out
          clear ej p39
          go_wp2
          go_ret
          exact ⟨by rw [HE.out]; rfl, rfl⟩
        · have d39 : ((s[j].toNat : Int) == 39) = false := by simp; omega
          have HN : Hid (∀ i, k < i → i < j + 1 → byt s i ≠ 39) := fun i a b => by
            by_cases e : i = j
            · subst e; exact p39
            · exact HJ.out i a (by omega)
          clear ej p39
          go_wp2
          exact ⟨⟨j + 1, by omega, by omega, by go_num, HN⟩, by simp [intOf]; omega⟩
      · have HE : Hid (endN s k = s.size) := end_open H39.out hk (fun i a b => HJ.out i a (by omega))
        go_wp2
        go_ret
        exact ⟨by rw [HE.out]; rfl, rfl⟩
  have c39 : ((s[k].toNat : Int) == 39) = false := by simp; omega
  have qb : ¬ (byt s k = 32 ∨ byt s k = 10) := by have hbl := HBL.out; simp [blankB] at hbl; omega
  have H0 : Hid (stopB (byt s k) = false) := (by simp [stopB]; omega : stopB (byt s k) = false)
  clear q40 q41 q39 eb qb
  go_enter Try.func36, Try.ntmps36
  go_wp2
  go_loop [6] (fun i => ∃ j : Nat, k ≤ j ∧ j ≤ s.size ∧ i = .int .i64 (j : Int) ∧ Hid (∀ i, k ≤ i → i < j → stopB (byt s i) = false)) (fun i => s.size - (intOf i).toNat)
  case atStart => exact ⟨k, by omega, by omega, rfl, fun i a b => by omega⟩
  case round =>
    obtain ⟨j, hj0, hj, rfl, HJ⟩ := hrel
    by_cases hlt : j < s.size
    · have ej := byt_eq hlt
      cases hq : stopB (byt s j)
      · have HN : Hid (∀ i, k ≤ i → i < j + 1 → stopB (byt s i) = false) := fun i a b => by
          by_cases e : i = j
          · subst e; exact hq
          · exact HJ.out i a (by omega)
        have n : byt s j ≠ 32 ∧ byt s j ≠ 10 ∧ byt s j ≠ 40 ∧ byt s j ≠ 41 ∧ byt s j ≠ 39 := by simp [stopB] at hq; omega
        have n1 : ((s[j].toNat : Int) != 32) = true := by simp; omega
        have n2 : ((s[j].toNat : Int) != 10) = true := by simp; omega
        have n3 : ((s[j].toNat : Int) != 40) = true := by simp; omega
        have n4 : ((s[j].toNat : Int) != 41) = true := by simp; omega
        have n5 : ((s[j].toNat : Int) != 39) = true := by simp; omega
        clear ej hq n
        go_wp2
        exact ⟨⟨j + 1, by omega, by omega, by go_num, HN⟩, by simp [intOf]; omega⟩
      · have hne : k < j := by
          rcases Nat.lt_or_ge k j with h | h
          · exact h
          · have : j = k := by omega
            rw [this, H0.out] at hq
            exact absurd hq (by decide)
        have HE : Hid (endN s k = j) := end_word H0.out hne (by omega) HJ.out (Or.inr hq)
        have hor : byt s j = 32 ∨ byt s j = 10 ∨ byt s j = 40 ∨ byt s j = 41 ∨ byt s j = 39 := by simp [stopB] at hq; omega
        rw [ej] at hor
        clear ej hq
        rcases hor with e | e | e | e | e
        all_goals
          go_wp2
          go_ret
          exact ⟨by rw [HE.out]; rfl, rfl⟩
    · have hne : k < j := by omega
      have HE : Hid (endN s k = j) := end_word H0.out hne (by omega) HJ.out (Or.inl (by omega))
      go_wp2
      go_ret
      exact ⟨by rw [HE.out]; rfl, rfl⟩

end Go.Proofs.Ytmlopiphcnhcpaa
