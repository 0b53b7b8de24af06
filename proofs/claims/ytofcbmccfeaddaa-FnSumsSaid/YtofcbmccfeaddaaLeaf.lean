/-
  The leaves of chapter 1, each by a contract: what each small function of the program and of its model returns, and that it turns nothing that was there.
-/
import Derived.Test.YtofcbmccfeaddaaRows
import Derived.WalkKit
import Derived.WalkSpells
import Derived.WalkLawsBesides
import Derived.Handy
import Derived.Below
namespace Go.Proofs.Ytofcbmccfeaddaa
open Go.RowKit

/-- A number that a play may reckon with. -/
def numB (n : Int) : Bool := decide (-999999999 ≤ n) && decide (n ≤ 999999999)

set_option maxHeartbeats 400000 in
theorem numberOk_any (n : Int) (w : World) :
    Calls Try.prog 47 #[.int .i64 n] w fun e w' => e = .returned (.bool (numB n)) ∧ w' = w := by
  unfold numB
  by_cases h1 : -999999999 ≤ n <;> by_cases h2 : n ≤ 999999999
  all_goals
    go_enter Try.func47, Try.ntmps47
    go_wp2
    go_ret
    simp [h1, h2]

set_option maxHeartbeats 400000 in
theorem l1Number_any (n : Int) (w : World) :
    Calls Try.prog 42 #[.int .i64 n] w fun e w' => e = .returned (.bool (numB n)) ∧ w' = w := by
  unfold numB
  by_cases h1 : -999999999 ≤ n <;> by_cases h2 : n ≤ 999999999
  all_goals
    go_enter Try.func42, Try.ntmps42
    go_wp2
    go_ret
    simp [h1, h2]

set_option maxHeartbeats 400000 in
theorem szValue_any (k n l : Int) (s : ByteArray) (w : World) (hs : s.size ≤ maxLen) (hl : 0 ≤ l) (hl2 : l ≤ 1048576) :
    Calls Try.prog 28 #[.agg #[.int .i64 k, .int .i64 n, .string s], .int .i64 l] w fun e w' =>
      e = .returned (.int .i64 (if l < s.size then -1 else l - s.size)) ∧ Below w.heap.size w w' := by
  unfold maxLen at hs
  by_cases h : l < s.size
  all_goals
    go_enter Try.func28, Try.ntmps28
    go_wp2
    go_ret
    exact ⟨rfl, by go_grown⟩

set_option maxHeartbeats 400000 in
theorem toValue_any (k n : Int) (s : ByteArray) (w : World) :
    Calls Try.prog 29 #[.agg #[.int .i64 k, .int .i64 n, .string s]] w fun e w' =>
      e = .returned (.agg #[.int .i64 k, .int .i64 n, .string s]) ∧ Below w.heap.size w w' := by
  go_enter Try.func29, Try.ntmps29
  go_wp2
  go_returns
  refine ⟨rfl, by go_grown⟩


set_option maxHeartbeats 400000 in
theorem eqValue_same (k n : Int) (s : ByteArray) (w : World) :
    Calls Try.prog 30 #[.agg #[.int .i64 k, .int .i64 n, .string s], .agg #[.int .i64 k, .int .i64 n, .string s]] w fun e w' =>
      e = .returned (.bool true) ∧ Below w.heap.size w w' := by
  go_enter Try.func30, Try.ntmps30
  go_wp2
  go_ret
  exact ⟨rfl, by go_grown⟩

set_option maxHeartbeats 400000 in
theorem l1Value_any (n : Int) (w : World) :
    Calls Try.prog 49 #[.int .i64 n] w fun e w' =>
      e = .returned (.agg #[.int .i64 1, .int .i64 n, .string ⟨#[]⟩]) ∧ Below w.heap.size w w' := by
  go_enter Try.func49, Try.ntmps49
  go_wp2
  go_returns
  exact ⟨rfl, by go_grown⟩

set_option maxHeartbeats 400000 in
theorem value_any (n : Int) (w : World) :
    Calls Try.prog 48 #[.agg #[.int .i64 n]] w fun e w' =>
      e = .returned (.agg #[.int .i64 1, .int .i64 n, .string ⟨#[]⟩]) ∧ Below w.heap.size w w' := by
  go_enter Try.func48, Try.ntmps48
  go_wp2
  go_returns
  exact ⟨rfl, by go_grown⟩

/-- 1 or 0. -/
def bitN (b : Bool) : Int := if b then 1 else 0

set_option maxHeartbeats 400000 in
theorem l1Bit_any (b : Bool) (w : World) :
    Calls Try.prog 44 #[.bool b] w fun e w' =>
      e = .returned (.agg #[.int .i64 1, .int .i64 (bitN b), .string ⟨#[]⟩]) ∧ Below w.heap.size w w' := by
  cases b
  all_goals
    go_enter Try.func44, Try.ntmps44
    go_wp2
    go_returns
    exact ⟨rfl, by go_grown⟩

set_option maxHeartbeats 400000 in
theorem oneOrNought_any (b : Bool) (w : World) :
    Calls Try.prog 35 #[.bool b] w fun e w' =>
      e = .returned (.agg #[.int .i64 1, .int .i64 (bitN b), .string ⟨#[]⟩]) ∧ Below w.heap.size w w' := by
  cases b
  all_goals
    go_enter Try.func35, Try.ntmps35
    go_wp2
    go_returns
    exact ⟨rfl, by go_grown⟩

/-- What comes of a number that was reckoned: its kind, its number, its fault. -/
def mK (n : Int) : Int := if numB n then 1 else 0
def mN (n : Int) : Int := if numB n then n else 0
def mF (n : Int) : Int := if numB n then 0 else 2
theorem made_yes {n : Int} (h : numB n = true) : mK n = 1 ∧ mN n = n ∧ mF n = 0 := by simp [mK, mN, mF, h]
theorem made_no {n : Int} (h : numB n = false) : mK n = 0 ∧ mN n = 0 ∧ mF n = 2 := by simp [mK, mN, mF, h]

set_option maxHeartbeats 400000 in
theorem reckoned_any (n : Int) (w : World) :
    Calls Try.prog 34 #[.int .i64 n] w fun e w' =>
      e = .returned (.tuple #[.agg #[.int .i64 (mK n), .int .i64 (mN n), .string ⟨#[]⟩], .int .i64 (mF n)]) ∧ Below w.heap.size w w' := by
  cases h : numB n
  · have HM : Hid (mK n = 0 ∧ mN n = 0 ∧ mF n = 2) := made_no h
    have H : Hid (numB n = _) := h
    clear h
    go_enter Try.func34, Try.ntmps34
    go_wp2_with fail
    refine (numberOk_any n _).mono ?_
    rintro e w' ⟨rfl, rfl⟩
    rw [H.out]
    go_wp2
    go_returns
    exact ⟨by rw [HM.out.1, HM.out.2.1, HM.out.2.2], by go_grown⟩
  · have HM : Hid (mK n = 1 ∧ mN n = n ∧ mF n = 0) := made_yes h
    have H : Hid (numB n = _) := h
    clear h
    go_enter Try.func34, Try.ntmps34
    go_wp2_with fail
    refine (numberOk_any n _).mono ?_
    rintro e w' ⟨rfl, rfl⟩
    rw [H.out]
    go_wp2
    go_returns
    exact ⟨by rw [HM.out.1, HM.out.2.1, HM.out.2.2], by go_grown⟩

set_option maxHeartbeats 400000 in
theorem l1Made_any (n : Int) (w : World) :
    Calls Try.prog 39 #[.int .i64 n] w fun e w' =>
      e = .returned (.tuple #[.agg #[.int .i64 (mK n), .int .i64 (mN n), .string ⟨#[]⟩], .int .i64 (mF n)]) ∧ Below w.heap.size w w' := by
  cases h : numB n
  · have HM : Hid (mK n = 0 ∧ mN n = 0 ∧ mF n = 2) := made_no h
    have H : Hid (numB n = _) := h
    clear h
    go_enter Try.func39, Try.ntmps39
    go_wp2_with fail
    refine (l1Number_any n _).mono ?_
    rintro e w' ⟨rfl, rfl⟩
    rw [H.out]
    go_wp2
    go_returns
    exact ⟨by rw [HM.out.1, HM.out.2.1, HM.out.2.2], by go_grown⟩
  · have HM : Hid (mK n = 1 ∧ mN n = n ∧ mF n = 0) := made_yes h
    have H : Hid (numB n = _) := h
    clear h
    go_enter Try.func39, Try.ntmps39
    go_wp2_with fail
    refine (l1Number_any n _).mono ?_
    rintro e w' ⟨rfl, rfl⟩
    rw [H.out]
    go_wp2
    go_returns
    exact ⟨by rw [HM.out.1, HM.out.2.1, HM.out.2.2], by go_grown⟩

end Go.Proofs.Ytofcbmccfeaddaa
