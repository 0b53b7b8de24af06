/-
  The exact law of ValueIn, walked: at every text the program answers as the model does.
-/
import Derived.Test.YtmlopiphcnhcpaaDoorValIn
namespace Go.Proofs.YtmlopiphcnhcpaaDoor
open Go.RowKit

set_option maxHeartbeats 1000000 in
theorem lawValueIn (s : ByteArray) (w : World) (hs : s.size ≤ maxLen) (ht : Tab w) :
    Calls Tryd.prog 6 #[.string s] w fun e w' => e = .returned (.bool true) ∧ Below w.heap.size w w' := by
  by_cases hbig : (1048576 : Int) < s.size
  · go_enter Tryd.func6, Tryd.ntmps6
    go_wp2
    go_ret
    exact ⟨rfl, Below.refl _ _⟩
  · go_enter Tryd.func6, Tryd.ntmps6
    go_wp2_with fail
    refine (valueInS_any s _ hs).mono ?_
    rintro e w1 ⟨rfl, hb1⟩
    go_wp2_with fail
    refine (valueInI_any s _ hs (tab_call ht (by repeat' (first | (with_reducible exact Below.refl _ _) | (with_reducible refine Below.drew ?_) | (with_reducible refine balloc ?_ _) | (with_reducible refine bset ?_ _ ?_) | (with_reducible refine bstep ?_ (by with_reducible assumption)) | go_size)))).mono ?_
    rintro e w2 ⟨rfl, hb2⟩
    obtain ⟨p0, p1, p2, pz⟩ := bbox (B := w1.heap.size) (v0 := .int .i64 (viK s)) (v1 := .int .i64 (viN s)) (v2 := .string (viT s)) hb2 (by simp [go_sem]) (by simp [go_sem]) (by simp [go_sem]) (by simp [go_sem])
    generalize viK s = tk at p0 ⊢
    generalize viN s = tn at p1 ⊢
    generalize viT s = tt at p2 ⊢
    generalize viB s = tb
    go_wp2_with fail
    refine (eqValue_same _ _ _ _).mono ?_
    rintro e w3 ⟨rfl, hb3⟩
    go_wp2
    go_ret
    exact ⟨rfl, (by repeat' (first | (with_reducible exact Below.refl _ _) | (with_reducible refine Below.drew ?_) | (with_reducible refine balloc ?_ _) | (with_reducible refine bset ?_ _ ?_) | (with_reducible refine bstep ?_ (by with_reducible assumption)) | go_size))⟩

end Go.Proofs.YtmlopiphcnhcpaaDoor
