/-
  Chapter 4, the program's table of forms, made.
-/
import Derived.Test.YtlmibonebiaocaaDoorTabL
namespace Go.Proofs.YtlmibonebiaocaaDoor
open Go.RowKit

set_option maxHeartbeats 4000000 in
set_option maxRecDepth 100000 in
theorem allForms_any (w : World) :
    Calls Tryd.prog 16 #[] w fun e w' => e = .returned (.slice (some ⟨w.heap.size, 0, none⟩) 34 34) ∧ TabT w' w.heap.size ∧ Below w.heap.size w w' := by
  go_enter Tryd.func16, Tryd.ntmps16
  go_wp2
  go_ret
  refine ⟨rfl, ⟨by simp, fun k hk => ?_⟩, by go_grown⟩
  have h34 : k < 34 := hk
  match k, h34 with
  | 0, _ | 1, _ | 2, _ | 3, _ | 4, _ | 5, _ | 6, _ | 7, _ | 8, _ | 9, _ | 10, _ | 11, _ | 12, _ | 13, _ | 14, _ | 15, _ | 16, _ | 17, _ | 18, _ | 19, _ | 20, _ | 21, _ | 22, _ | 23, _ | 24, _ | 25, _ | 26, _ | 27, _ | 28, _ | 29, _ | 30, _ | 31, _ | 32, _ | 33, _ => refine ⟨?_, ?_, ?_⟩ <;> simp [tabL, formL, layF, headV, go_sem]
  | n + 34, h => exact absurd h (by omega)

end Go.Proofs.YtlmibonebiaocaaDoor
