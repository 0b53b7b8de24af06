/-
  The exact law of Reserved, walked: at every text the program answers as the model does.
-/
import Derived.Test.YtlmibonebiaocaaDoorEndJ
import Derived.Test.YtlmibonebiaocaaDoorFormW
namespace Go.Proofs.YtlmibonebiaocaaDoor
open Go.RowKit

set_option maxHeartbeats 1000000 in
theorem lawReserved (s : ByteArray) (w : World) (ht : Tab w) (hs : s.size ≤ maxLen) :
    Calls Tryd.prog 4 #[.string s] w fun e w' => e = .returned (.bool true) ∧ Below w.heap.size w w' := by
  have hs' := hs
  unfold maxLen at hs'
  by_cases hbig : (1048576 : Int) < s.size
  · go_enter Tryd.func4, Tryd.ntmps4
    go_wp2
    go_ret
    exact ⟨rfl, Below.refl _ _⟩
  · go_enter Tryd.func4, Tryd.ntmps4
    go_wp2_with fail
    refine (reservedS_any s _).mono ?_
    rintro e w1 ⟨rfl, hb1⟩
    go_wp2_with fail
    refine (reservedI_any s _ (tab_call ht hb1) hs).mono ?_
    rintro e w2 ⟨rfl, hb2⟩
    generalize resB s = T
    go_wp2
    go_ret
    exact ⟨rfl, bstep hb1 hb2⟩

end Go.Proofs.YtlmibonebiaocaaDoor
