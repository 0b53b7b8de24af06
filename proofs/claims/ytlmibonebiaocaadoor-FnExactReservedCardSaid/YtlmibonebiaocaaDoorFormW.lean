/-
  Chapter 4, the model's small functions: the words, a NAME, the sign at a place, the place behind a sign or a NAME.
-/
import Derived.Test.YtlmibonebiaocaaDoorFormL
namespace Go.Proofs.YtlmibonebiaocaaDoor
open Go.RowKit

set_option maxHeartbeats 4000000 in
set_option maxRecDepth 100000 in
theorem l4Words_any (w : World) :
    Calls Tryd.prog 12 #[] w fun e w' => e = .returned (.slice (some ⟨w.heap.size, 0, none⟩) 26 26) ∧ Txt w.heap.size 0 wordsL w' ∧ Below w.heap.size w w' := by
  go_enter Tryd.func12, Tryd.ntmps12
  go_wp2
  go_ret
  refine ⟨rfl, fun i hi => ?_, by go_grown⟩
  have h26 : i < 26 := hi
  match i, h26 with
  | 0, _ | 1, _ | 2, _ | 3, _ | 4, _ | 5, _ | 6, _ | 7, _ | 8, _ | 9, _ | 10, _ | 11, _ | 12, _ | 13, _ | 14, _ | 15, _ | 16, _ | 17, _ | 18, _ | 19, _ | 20, _ | 21, _ | 22, _ | 23, _ | 24, _ | 25, _ => simp [wordsL, go_sem]
  | n + 26, h => exact absurd h (by omega)

set_option maxHeartbeats 1000000 in
theorem reservedS_any (s : ByteArray) (w : World) :
    Calls Tryd.prog 8 #[.string s] w fun e w' => e = .returned (.bool (resB s)) ∧ Below w.heap.size w w' := by
  go_enter Tryd.func8, Tryd.ntmps8
  go_wp2_with fail
  refine (l4Words_any _).mono ?_
  rintro e w1 ⟨rfl, hT, hb⟩
  go_wp2_with fail
  refine (l1At_any _ 0 26 wordsL s _ hT (by decide)).mono ?_
  rintro e w2 ⟨x, rfl, hx, rfl⟩
  have HX : Hid (decide (0 ≤ x) = resB s) := by
    show decide (0 ≤ x) = resB s
    rw [Bool.eq_iff_iff, decide_eq_true_iff, resB_iff]
    exact hx
  clear hx
  go_wp2
  go_ret
  exact ⟨by rw [← HX.out]; rfl, hb⟩

/-- A place that fits. -/
def I64 (i : Int) : Prop := -9223372036854775808 ≤ i ∧ i ≤ 9223372036854775807

theorem sgAt_size {w : World} {a : Option Addr} {L : List ByteArray} (h : ArgT w a L) (i : Int) : (sgAt L i).size ≤ maxLen := by
  by_cases hin : 0 ≤ i ∧ i < (L.length : Int)
  · rw [sgAt_in hin.1 hin.2]
    obtain ⟨_, _, _, _, _, hm⟩ := h i.toNat (by omega)
    exact hm
  · rw [sgAt_out hin]
    exact Nat.zero_le _

end Go.Proofs.YtlmibonebiaocaaDoor
