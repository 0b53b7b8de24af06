/-
  The leaves of chapter 1, each by a contract: what each small function of the program and of its model returns, and that it turns nothing that was there.
-/
import Derived.Test.YtmlopiphcnhcpaaDoorRows
import Derived.WalkKit
import Derived.WalkSpells
import Derived.WalkLawsBesides
import Derived.Handy
import Derived.Below
namespace Go.Proofs.YtmlopiphcnhcpaaDoor
open Go.RowKit

/-- A number that a play may reckon with. -/
def numB (n : Int) : Bool := decide (-999999999 ≤ n) && decide (n ≤ 999999999)

set_option maxHeartbeats 400000 in
theorem numberOk_any (n : Int) (w : World) :
    Calls Tryd.prog 52 #[.int .i64 n] w fun e w' => e = .returned (.bool (numB n)) ∧ w' = w := by
  unfold numB
  by_cases h1 : -999999999 ≤ n <;> by_cases h2 : n ≤ 999999999
  all_goals
    go_enter Tryd.func52, Tryd.ntmps52
    go_wp2
    go_ret
    simp [h1, h2]

set_option maxHeartbeats 400000 in
theorem l1Number_any (n : Int) (w : World) :
    Calls Tryd.prog 50 #[.int .i64 n] w fun e w' => e = .returned (.bool (numB n)) ∧ w' = w := by
  unfold numB
  by_cases h1 : -999999999 ≤ n <;> by_cases h2 : n ≤ 999999999
  all_goals
    go_enter Tryd.func50, Tryd.ntmps50
    go_wp2
    go_ret
    simp [h1, h2]

set_option maxHeartbeats 400000 in
theorem szValue_any (k n l : Int) (s : ByteArray) (w : World) (hs : s.size ≤ maxLen) (hl : 0 ≤ l) (hl2 : l ≤ 1048576) :
    Calls Tryd.prog 21 #[.agg #[.int .i64 k, .int .i64 n, .string s], .int .i64 l] w fun e w' =>
      e = .returned (.int .i64 (if l < s.size then -1 else l - s.size)) ∧ Below w.heap.size w w' := by
  unfold maxLen at hs
  by_cases h : l < s.size
  all_goals
    go_enter Tryd.func21, Tryd.ntmps21
    go_wp2
    go_ret
    exact ⟨rfl, by go_grown⟩

set_option maxHeartbeats 400000 in
theorem toValue_any (k n : Int) (s : ByteArray) (w : World) :
    Calls Tryd.prog 22 #[.agg #[.int .i64 k, .int .i64 n, .string s]] w fun e w' =>
      e = .returned (.agg #[.int .i64 k, .int .i64 n, .string s]) ∧ Below w.heap.size w w' := by
  go_enter Tryd.func22, Tryd.ntmps22
  go_wp2
  go_returns
  refine ⟨rfl, by go_grown⟩


set_option maxHeartbeats 400000 in
theorem eqValue_same (k n : Int) (s : ByteArray) (w : World) :
    Calls Tryd.prog 23 #[.agg #[.int .i64 k, .int .i64 n, .string s], .agg #[.int .i64 k, .int .i64 n, .string s]] w fun e w' =>
      e = .returned (.bool true) ∧ Below w.heap.size w w' := by
  go_enter Tryd.func23, Tryd.ntmps23
  go_wp2
  go_ret
  exact ⟨rfl, by go_grown⟩

set_option maxHeartbeats 400000 in
theorem l1Value_any (n : Int) (w : World) :
    Calls Tryd.prog 37 #[.int .i64 n] w fun e w' =>
      e = .returned (.agg #[.int .i64 1, .int .i64 n, .string ⟨#[]⟩]) ∧ Below w.heap.size w w' := by
  go_enter Tryd.func37, Tryd.ntmps37
  go_wp2
  go_returns
  exact ⟨rfl, by go_grown⟩

set_option maxHeartbeats 400000 in
theorem value_any (n : Int) (w : World) :
    Calls Tryd.prog 29 #[.agg #[.int .i64 n]] w fun e w' =>
      e = .returned (.agg #[.int .i64 1, .int .i64 n, .string ⟨#[]⟩]) ∧ Below w.heap.size w w' := by
  go_enter Tryd.func29, Tryd.ntmps29
  go_wp2
  go_returns
  exact ⟨rfl, by go_grown⟩

/-- 1 or 0. -/
def bitN (b : Bool) : Int := if b then 1 else 0

/-- What comes of a number that was reckoned: its kind, its number, its fault. -/
def mK (n : Int) : Int := if numB n then 1 else 0
def mN (n : Int) : Int := if numB n then n else 0
def mF (n : Int) : Int := if numB n then 0 else 2
theorem made_yes {n : Int} (h : numB n = true) : mK n = 1 ∧ mN n = n ∧ mF n = 0 := by simp [mK, mN, mF, h]
theorem made_no {n : Int} (h : numB n = false) : mK n = 0 ∧ mN n = 0 ∧ mF n = 2 := by simp [mK, mN, mF, h]

end Go.Proofs.YtmlopiphcnhcpaaDoor
