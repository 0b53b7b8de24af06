/-
  The shapes of chapter 1: which shape the program makes of a Value, and whether it is right: the model's answer at every Value.
-/
import Derived.Test.YtlmibonebiaocaaDoorLeaf
import Derived.Test.YtlmibonebiaocaaDoorText
namespace Go.Proofs.YtlmibonebiaocaaDoor
open Go.RowKit

/-- No byte at all. -/
def emB (s : ByteArray) : Bool := s.toList.isEmpty
/-- The model's ValueOk. -/
def okV (k n : Int) (s : ByteArray) : Bool :=
  if k = 0 then decide (n = 0) && emB s
  else if k = 1 then numB n && emB s
  else if k = 2 then textB s && decide (n = 0)
  else if 3 ≤ k ∧ k ≤ 5 then decide (0 ≤ n) && emB s
  else false

/-- The shape by the kind alone. -/
def kindV (k n : Int) (s : ByteArray) : Value :=
  if k = 0 then .iface 72 (.agg #[])
  else if k = 1 then .iface 74 (.agg #[.int .i64 n])
  else if k = 2 then .iface 77 (.agg #[.string s])
  else if 3 ≤ k ∧ k ≤ 5 then .iface 87 (.agg #[.int .i64 k, .int .i64 n])
  else .iface 81 (.agg #[])

theorem em_cases (s : ByteArray) : s = ⟨#[]⟩ ∨ (s.toList.isEmpty = false ∧ emB s = false) := by
  by_cases h : s.toList.isEmpty = true
  · left
    have h2 : s.data.toList = [] := by
      rw [ByteArray.toList_eq] at h; simpa using h
    cases s with | mk d => cases d with | mk l => simp at h2; subst h2; rfl
  · right
    have h2 : s.toList.isEmpty = false := by simpa using h
    exact ⟨h2, h2⟩

set_option maxHeartbeats 400000 in
theorem shapeByKind_any (k n : Int) (s : ByteArray) (w : World) :
    Calls Tryd.prog 60 #[.agg #[.int .i64 k, .int .i64 n, .string s]] w fun e w' =>
      e = .returned (kindV k n s) ∧ Below w.heap.size w w' := by
  go_each [k = 0, k = 1, k = 2, 3 ≤ k, k = 3, k = 4, k ≤ 5] => (
    go_enter Tryd.func60, Tryd.ntmps60
    go_wp2
    go_ret
    refine ⟨?_, by go_grown⟩
    simp [kindV, *]
    )

end Go.Proofs.YtlmibonebiaocaaDoor
