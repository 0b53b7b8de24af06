/-
  Chapter 4: SumEnd, DeedEnd and Reserved, the program's: they answer as the model does.
-/
import Derived.Test.YtlmibonebiaocaaDoorEndW
namespace Go.Proofs.YtlmibonebiaocaaDoor
open Go.RowKit

set_option maxHeartbeats 1000000 in
theorem deedEndI_any (a : Option Addr) (cap : Nat) (L : List ByteArray) (i : Int) (w : World) (ht : Tab w) (h : ArgT w a L) (hL : L.length ≤ 1048576) :
    Calls Tryd.prog 9 #[.slice a L.length cap, .int .i64 i] w fun e w' => e = .returned (.int .i64 (fm L 1 i)) ∧ Below w.heap.size w w' := by
  have HE : Hid (endW L 3 i = fm L 1 i) := (rfl : endW L 3 i = fm L 1 i)
  go_enter Tryd.func9, Tryd.ntmps9
  go_wp2_with fail
  refine (allForms_any _).mono ?_
  rintro e w1 ⟨rfl, hT, hb1⟩
  go_wp2_with fail
  refine (endOfI_any w.heap.size a cap L i 3 w1 hT (tab_call ht hb1) (h.call hb1) hL (Or.inr rfl)).mono ?_
  rintro e w2 ⟨rfl, hb2⟩
  rw [HE.out]
  go_wp2
  go_ret
  exact ⟨rfl, bstep hb1 hb2⟩

set_option maxHeartbeats 1000000 in
theorem reservedI_any (s : ByteArray) (w : World) (ht : Tab w) (hs : s.size ≤ maxLen) :
    Calls Tryd.prog 7 #[.string s] w fun e w' => e = .returned (.bool (resB s)) ∧ Below w.heap.size w w' := by
  go_enter Tryd.func7, Tryd.ntmps7
  go_wp2_with fail
  refine (allForms_any _).mono ?_
  rintro e w1 ⟨rfl, hT, hb1⟩
  go_wp2_with fail
  refine (reserved_any w.heap.size s w1 hT (tab_call ht hb1) hs).mono ?_
  rintro e w2 ⟨rfl, hb2⟩
  go_wp2
  go_ret
  exact ⟨rfl, bstep hb1 hb2⟩

end Go.Proofs.YtlmibonebiaocaaDoor
