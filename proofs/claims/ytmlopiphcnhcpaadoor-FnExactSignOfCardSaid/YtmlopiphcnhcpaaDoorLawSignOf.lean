/-
  The exact law of SignOf, walked: at every Value the program answers as the model does.
-/
import Derived.Test.YtmlopiphcnhcpaaDoorReadW
namespace Go.Proofs.YtmlopiphcnhcpaaDoor
open Go.RowKit

set_option maxHeartbeats 1000000 in
theorem lawSignOf (k n : Int) (s : ByteArray) (w : World) (hs : s.size ≤ maxLen) (ht : Tab w) :
    Calls Tryd.prog 5 #[.agg #[.int .i64 k, .int .i64 n, .string s]] w fun e w' => e = .returned (.bool true) ∧ Below w.heap.size w w' := by
  by_cases hbig : (1048576 : Int) < s.size
  · go_enter Tryd.func5, Tryd.ntmps5
    go_wp2_with fail
    refine (szValue_any k n 1048576 s _ hs (by decide) (by decide)).mono ?_
    rintro e w1 ⟨rfl, hb1⟩
    rw [if_pos hbig]
    go_wp2
    go_ret
    exact ⟨rfl, (by repeat' (first | (with_reducible exact Below.refl _ _) | (with_reducible refine Below.drew ?_) | (with_reducible refine balloc ?_ _) | (with_reducible refine bset ?_ _ ?_) | (with_reducible refine bstep ?_ (by with_reducible assumption)) | go_size))⟩
  · go_enter Tryd.func5, Tryd.ntmps5
    go_wp2_with fail
    refine (szValue_any k n 1048576 s _ hs (by decide) (by decide)).mono ?_
    rintro e w1 ⟨rfl, hb1⟩
    rw [if_neg (by omega)]
    obtain ⟨o0, o1, o2, oz⟩ := bbox0 w (.int .i64 k) (.int .i64 n) (.string s) 35
    obtain ⟨p0, p1, p2, pz⟩ := bbox hb1 oz o0 o1 o2
    clear o0 o1 o2 oz
    go_wp2_with fail
    refine (toValue_any k n s _).mono ?_
    rintro e w2 ⟨rfl, hb2⟩
    obtain ⟨p0, p1, p2, pz⟩ := bbox hb2 pz p0 p1 p2
    go_wp2_with fail
    refine (signOfS_any k n s _ hs).mono ?_
    rintro e w3 ⟨rfl, hb3⟩
    obtain ⟨p0, p1, p2, pz⟩ := bbox hb3 pz p0 p1 p2
    go_wp2_with fail
    refine (toValue_any k n s _).mono ?_
    rintro e w4 ⟨rfl, hb4⟩
    go_wp2_with fail
    refine (signOfI_any k n s _ hs (tab_call ht (by repeat' (first | (with_reducible exact Below.refl _ _) | (with_reducible refine Below.drew ?_) | (with_reducible refine balloc ?_ _) | (with_reducible refine bset ?_ _ ?_) | (with_reducible refine bstep ?_ (by with_reducible assumption)) | go_size)))).mono ?_
    rintro e w5 ⟨rfl, hb5⟩
    generalize sgn k n s = tb
    go_wp2
    go_ret
    exact ⟨rfl, (by repeat' (first | (with_reducible exact Below.refl _ _) | (with_reducible refine Below.drew ?_) | (with_reducible refine balloc ?_ _) | (with_reducible refine bset ?_ _ ?_) | (with_reducible refine bstep ?_ (by with_reducible assumption)) | go_size))⟩

end Go.Proofs.YtmlopiphcnhcpaaDoor
