/-
  The leaves of chapter 1, each by a contract: what each small function of the program and of its model returns, and that it turns nothing that was there.
-/
import Derived.Test.YtlmibonebiaocaaDoorRows
import Derived.WalkKit
import Derived.WalkSpells
import Derived.WalkLawsBesides
import Derived.Handy
import Derived.Below
namespace Go.Proofs.YtlmibonebiaocaaDoor
open Go.RowKit

/-- A number that a play may reckon with. -/
def numB (n : Int) : Bool := decide (-999999999 ≤ n) && decide (n ≤ 999999999)

set_option maxHeartbeats 400000 in
theorem numberOk_any (n : Int) (w : World) :
    Calls Tryd.prog 64 #[.int .i64 n] w fun e w' => e = .returned (.bool (numB n)) ∧ w' = w := by
  unfold numB
  by_cases h1 : -999999999 ≤ n <;> by_cases h2 : n ≤ 999999999
  all_goals
    go_enter Tryd.func64, Tryd.ntmps64
    go_wp2
    go_ret
    simp [h1, h2]

set_option maxHeartbeats 400000 in
theorem value_any (n : Int) (w : World) :
    Calls Tryd.prog 58 #[.agg #[.int .i64 n]] w fun e w' =>
      e = .returned (.agg #[.int .i64 1, .int .i64 n, .string ⟨#[]⟩]) ∧ Below w.heap.size w w' := by
  go_enter Tryd.func58, Tryd.ntmps58
  go_wp2
  go_returns
  exact ⟨rfl, by go_grown⟩

/-- 1 or 0. -/
def bitN (b : Bool) : Int := if b then 1 else 0

/-- What comes of a number that was reckoned: its kind, its number, its fault. -/
def mK (n : Int) : Int := if numB n then 1 else 0
def mN (n : Int) : Int := if numB n then n else 0
def mF (n : Int) : Int := if numB n then 0 else 2
theorem made_yes {n : Int} (h : numB n = true) : mK n = 1 ∧ mN n = n ∧ mF n = 0 := by simp [mK, mN, mF, h]
theorem made_no {n : Int} (h : numB n = false) : mK n = 0 ∧ mN n = 0 ∧ mF n = 2 := by simp [mK, mN, mF, h]

end Go.Proofs.YtlmibonebiaocaaDoor
