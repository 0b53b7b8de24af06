/-
  The shapes of chapter 1: which shape the program makes of a Value, and whether it is right: the model's answer at every Value.
-/
import Derived.Test.YtmlopiphcnhcpaaDoorLeaf
import Derived.Test.YtmlopiphcnhcpaaDoorText
namespace Go.Proofs.YtmlopiphcnhcpaaDoor
open Go.RowKit

/-- No byte at all. -/
def emB (s : ByteArray) : Bool := s.toList.isEmpty
/-- The model's ValueOk. -/
def okV (k n : Int) (s : ByteArray) : Bool :=
  if k = 0 then decide (n = 0) && emB s
  else if k = 1 then numB n && emB s
  else if k = 2 then textB s && decide (n = 0)
  else if 3 ≤ k ∧ k ≤ 5 then decide (0 ≤ n) && emB s
  else false

/-- The shape by the kind alone. -/
def kindV (k n : Int) (s : ByteArray) : Value :=
  if k = 0 then .iface 70 (.agg #[])
  else if k = 1 then .iface 48 (.agg #[.int .i64 n])
  else if k = 2 then .iface 51 (.agg #[.string s])
  else if 3 ≤ k ∧ k ≤ 5 then .iface 74 (.agg #[.int .i64 k, .int .i64 n])
  else .iface 75 (.agg #[])

theorem em_cases (s : ByteArray) : s = ⟨#[]⟩ ∨ (s.toList.isEmpty = false ∧ emB s = false) := by
  by_cases h : s.toList.isEmpty = true
  · left
    have h2 : s.data.toList = [] := by
      rw [ByteArray.toList_eq] at h; simpa using h
    cases s with | mk d => cases d with | mk l => simp at h2; subst h2; rfl
  · right
    have h2 : s.toList.isEmpty = false := by simpa using h
    exact ⟨h2, h2⟩

set_option maxHeartbeats 400000 in
theorem shapeByKind_any (k n : Int) (s : ByteArray) (w : World) :
    Calls Tryd.prog 53 #[.agg #[.int .i64 k, .int .i64 n, .string s]] w fun e w' =>
      e = .returned (kindV k n s) ∧ Below w.heap.size w w' := by
  go_each [k = 0, k = 1, k = 2, 3 ≤ k, k = 3, k = 4, k ≤ 5] => (
    go_enter Tryd.func53, Tryd.ntmps53
    go_wp2
    go_ret
    refine ⟨?_, by go_grown⟩
    simp [kindV, *]
    )

set_option maxHeartbeats 400000 in
theorem specOk_any (k n : Int) (s : ByteArray) (w : World) (hs : s.size ≤ maxLen) :
    Calls Tryd.prog 31 #[.agg #[.int .i64 k, .int .i64 n, .string s]] w fun e w' =>
      e = .returned (.bool (okV k n s)) ∧ Below w.heap.size w w' := by
  by_cases h0 : k = 0
  · subst h0
    rcases em_cases s with rfl | ⟨he, hb⟩
    all_goals
      by_cases hn : n = 0
      all_goals
        go_enter Tryd.func31, Tryd.ntmps31
        go_wp2
        go_ret
        refine ⟨?_, by go_grown⟩
        simp [okV, emB, *]
  by_cases h1 : k = 1
  · subst h1
    clear h0
    rcases em_cases s with rfl | ⟨he, hb⟩
    all_goals
      cases hn : numB n
      all_goals
        have HN : Hid (numB n = _) := hn
        clear hn
        go_enter Tryd.func31, Tryd.ntmps31
        go_wp2_with fail
        refine (l1Number_any n _).mono ?_
        rintro e w' ⟨rfl, rfl⟩
        rw [HN.out]
        go_wp2
        go_ret
        refine ⟨?_, by go_grown⟩
        have hn := HN.out
        simp [okV, emB, *]
  by_cases h2 : k = 2
  · subst h2
    clear h0 h1
    by_cases h0 : n = 0
    all_goals
      cases hn : textB s
      all_goals
        have HN : Hid (textB s = _) := hn
        clear hn
        go_enter Tryd.func31, Tryd.ntmps31
        go_wp2_with fail
        refine (l1Plain_any s _ hs).mono ?_
        rintro e w' ⟨rfl, rfl⟩
        rw [HN.out]
        go_wp2
        go_ret
        refine ⟨?_, by go_grown⟩
        have hn := HN.out
        simp [okV, *]
  by_cases h3 : 3 ≤ k ∧ k ≤ 5
  · rcases em_cases s with rfl | ⟨he, hb⟩
    all_goals
      go_each [k = 3, k = 4, k = 5, 0 ≤ n] => (
        go_enter Tryd.func31, Tryd.ntmps31
        go_wp2
        go_ret
        refine ⟨?_, by go_grown⟩
        simp [okV, emB, *])
  have h4 : k < 3 ∨ 5 < k := by omega
  rcases h4 with h4 | h4
  all_goals
    clear h3
    go_enter Tryd.func31, Tryd.ntmps31
    go_wp2
    go_ret
    refine ⟨?_, by go_grown⟩
    simp [okV, *]
    try omega

end Go.Proofs.YtmlopiphcnhcpaaDoor
