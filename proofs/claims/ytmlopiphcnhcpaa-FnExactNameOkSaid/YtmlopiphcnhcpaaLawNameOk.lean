/-
  The exact law of NameOk, walked: at every text the program answers as the model does.
-/
import Derived.Test.YtmlopiphcnhcpaaSignK
namespace Go.Proofs.Ytmlopiphcnhcpaa
open Go.RowKit

set_option maxHeartbeats 1000000 in
theorem lawNameOk (s : ByteArray) (w : World) (hs : s.size ≤ maxLen) :
    Calls Try.prog 4 #[.string s] w fun e w' => e = .returned (.bool true) ∧ Below w.heap.size w w' := by
  by_cases hbig : (1048576 : Int) < s.size
  · go_enter Try.func4, Try.ntmps4
    go_wp2
    go_ret
    exact ⟨rfl, Below.refl _ _⟩
  · go_enter Try.func4, Try.ntmps4
    go_wp2_with fail
    refine (nameOkS_any s _ hs).mono ?_
    rintro e w1 ⟨rfl, rfl⟩
    go_wp2_with fail
    refine (nameOkI_any s _ hs).mono ?_
    rintro e w2 ⟨rfl, rfl⟩
    generalize nameB s = tb
    go_wp2
    go_ret
    exact ⟨rfl, Below.refl _ _⟩

end Go.Proofs.Ytmlopiphcnhcpaa
