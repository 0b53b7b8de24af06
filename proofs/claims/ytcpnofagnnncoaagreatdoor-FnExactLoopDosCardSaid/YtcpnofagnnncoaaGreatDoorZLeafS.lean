/-
  LeafS: Leaf, Shape, in one text.
-/
import Derived.Test.YtcpnofagnnncoaaGreatDoorRows
import Derived.Test.YtcpnofagnnncoaaGreatDoorZSignA
import Derived.WalkKit
import Derived.WalkSpells
import Derived.WalkLawsBesides
import Derived.Handy
import Derived.Below
/-
  The leaves of chapter 1, each by a contract: what each small function of the program and of its model returns, and that it turns nothing that was there.
-/
namespace Go.Proofs.YtcpnofagnnncoaaGreatDoor
open Go.RowKit

/-- A number that a play may reckon with. -/
def numB (n : Int) : Bool := decide (-999999999 ≤ n) && decide (n ≤ 999999999)

set_option maxHeartbeats 400000 in
theorem numberOk_any (n : Int) (w : World) :
    Calls Tryz.prog 167 #[.int .i64 n] w fun e w' => e = .returned (.bool (numB n)) ∧ w' = w := by
  unfold numB
  by_cases h1 : -999999999 ≤ n <;> by_cases h2 : n ≤ 999999999
  all_goals
    go_enter Tryz.func167, Tryz.ntmps167
    go_wp2
    go_ret
    simp [h1, h2]

set_option maxHeartbeats 400000 in
theorem l1Value_any (n : Int) (w : World) :
    Calls Tryz.prog 124 #[.int .i64 n] w fun e w' =>
      e = .returned (.agg #[.int .i64 1, .int .i64 n, .string ⟨#[]⟩]) ∧ Below w.heap.size w w' := by
  go_enter Tryz.func124, Tryz.ntmps124
  go_wp2
  go_returns
  exact ⟨rfl, by go_grown⟩

set_option maxHeartbeats 400000 in
theorem value_any (n : Int) (w : World) :
    Calls Tryz.prog 131 #[.agg #[.int .i64 n]] w fun e w' =>
      e = .returned (.agg #[.int .i64 1, .int .i64 n, .string ⟨#[]⟩]) ∧ Below w.heap.size w w' := by
  go_enter Tryz.func131, Tryz.ntmps131
  go_wp2
  go_returns
  exact ⟨rfl, by go_grown⟩

/-- 1 or 0. -/
def bitN (b : Bool) : Int := if b then 1 else 0

/-- What comes of a number that was reckoned: its kind, its number, its fault. -/
def mK (n : Int) : Int := if numB n then 1 else 0
def mN (n : Int) : Int := if numB n then n else 0
def mF (n : Int) : Int := if numB n then 0 else 2
theorem made_yes {n : Int} (h : numB n = true) : mK n = 1 ∧ mN n = n ∧ mF n = 0 := by simp [mK, mN, mF, h]
theorem made_no {n : Int} (h : numB n = false) : mK n = 0 ∧ mN n = 0 ∧ mF n = 2 := by simp [mK, mN, mF, h]

end Go.Proofs.YtcpnofagnnncoaaGreatDoor

/-
  The shapes of chapter 1: which shape the program makes of a Value, and whether it is right: the model's answer at every Value.
-/
namespace Go.Proofs.YtcpnofagnnncoaaGreatDoor
open Go.RowKit

/-- No byte at all. -/
def emB (s : ByteArray) : Bool := s.toList.isEmpty
/-- The model's ValueOk. -/
def okV (k n : Int) (s : ByteArray) : Bool :=
  if k = 0 then decide (n = 0) && emB s
  else if k = 1 then numB n && emB s
  else if k = 2 then textB s && decide (n = 0)
  else if 3 ≤ k ∧ k ≤ 5 then decide (0 ≤ n) && emB s
  else false

/-- The shape by the kind alone. -/
def kindV (k n : Int) (s : ByteArray) : Value :=
  if k = 0 then .iface 162 (.agg #[])
  else if k = 1 then .iface 140 (.agg #[.int .i64 n])
  else if k = 2 then .iface 143 (.agg #[.string s])
  else if 3 ≤ k ∧ k ≤ 5 then .iface 182 (.agg #[.int .i64 k, .int .i64 n])
  else .iface 173 (.agg #[])

theorem em_cases (s : ByteArray) : s = ⟨#[]⟩ ∨ (s.toList.isEmpty = false ∧ emB s = false) := by
  by_cases h : s.toList.isEmpty = true
  · left
    have h2 : s.data.toList = [] := by
      rw [ByteArray.toList_eq] at h; simpa using h
    cases s with | mk d => cases d with | mk l => simp at h2; subst h2; rfl
  · right
    have h2 : s.toList.isEmpty = false := by simpa using h
    exact ⟨h2, h2⟩

set_option maxHeartbeats 400000 in
theorem shapeByKind_any (k n : Int) (s : ByteArray) (w : World) :
    Calls Tryz.prog 159 #[.agg #[.int .i64 k, .int .i64 n, .string s]] w fun e w' =>
      e = .returned (kindV k n s) ∧ Below w.heap.size w w' := by
  go_each [k = 0, k = 1, k = 2, 3 ≤ k, k = 3, k = 4, k ≤ 5] => (
    go_enter Tryz.func159, Tryz.ntmps159
    go_wp2
    go_ret
    refine ⟨?_, by go_grown⟩
    simp [kindV, *]
    )

end Go.Proofs.YtcpnofagnnncoaaGreatDoor
