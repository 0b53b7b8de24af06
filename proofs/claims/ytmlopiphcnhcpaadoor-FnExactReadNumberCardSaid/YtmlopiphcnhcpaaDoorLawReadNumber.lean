/-
  The exact law of ReadNumber, walked: at every text the program answers as the model does.
-/
import Derived.Test.YtmlopiphcnhcpaaDoorReadW
namespace Go.Proofs.YtmlopiphcnhcpaaDoor
open Go.RowKit

set_option maxHeartbeats 1000000 in
theorem lawReadNumber (s : ByteArray) (w : World) (hs : s.size ≤ maxLen) :
    Calls Tryd.prog 4 #[.string s] w fun e w' => e = .returned (.bool true) ∧ Below w.heap.size w w' := by
  by_cases hbig : (1048576 : Int) < s.size
  · go_enter Tryd.func4, Tryd.ntmps4
    go_wp2
    go_ret
    exact ⟨rfl, Below.refl _ _⟩
  · go_enter Tryd.func4, Tryd.ntmps4
    go_wp2_with fail
    refine (readNumberS_any s _ hs).mono ?_
    rintro e w1 ⟨rfl, rfl⟩
    go_wp2_with fail
    refine (readNumberI_any s _ hs).mono ?_
    rintro e w2 ⟨rfl, hb2⟩
    generalize numN s = tn
    generalize numerB s = tb
    go_wp2
    go_ret
    exact ⟨rfl, (by repeat' (first | (with_reducible exact Below.refl _ _) | (with_reducible refine Below.drew ?_) | (with_reducible refine balloc ?_ _) | (with_reducible refine bset ?_ _ ?_) | (with_reducible refine bstep ?_ (by with_reducible assumption)) | go_size))⟩

end Go.Proofs.YtmlopiphcnhcpaaDoor
