/-
  The law of Words: program and model answer the same; what came in stays.
-/
import Derived.Test.YtknepeleepbefaaWrdW
namespace Go.Proofs.Ytknepeleepbefaa
open Go.RowKit

set_option maxHeartbeats 2000000 in
theorem lawWords (a : Option Addr) (cap : Nat) (L : List ByteArray) (f s : Int) (w : World) (h : ArgT w a L) (hL : L.length ≤ maxLen) (_hf : I64 f) :
    Calls Try.prog 5 #[.agg #[.slice a L.length cap, .int .i64 f, .int .i64 s]] w fun e w' => e = .returned (.bool true) ∧ Below w.heap.size w w' := by
  have hP := tri0 w (.slice a L.length cap) (.int .i64 f) (.int .i64 s) 30
  have hBA : Below w.heap.size w (w.alloc (.cells #[.slice a L.length cap, .int .i64 f, .int .i64 s] 30)) := balloc (Below.refl _ _) _
  have h0 := h.call hBA
  go_enter Try.func5, Try.ntmps5
  go_wp2_with fail
  refine (szShow_any a cap L f s _ h0 hL).mono ?_
  rintro e w1 ⟨x, rfl, hx, hb1⟩
  have hB1 := bstep hBA hb1
  by_cases hneg : x < 0
  · go_wp2
    go_ret
    exact ⟨rfl, hB1⟩
  obtain ⟨hL2, hR2⟩ := hx (by omega)
  have hm : ∀ i (h : i < L.length), L[i].size ≤ maxLen := fun i hi => by
    obtain ⟨_, _, _, _, _, hm⟩ := h i hi
    exact hm
  have hR : ∀ k, k ≤ L.length → roomN L k ≤ 3000000 := fun k hk => Nat.le_trans (room_mono L _ k hk (Nat.le_refl _)) (by omega)
  have h1 := h0.call hb1
  have hP1 := hP.call hb1
  have ⟨p0, p1, p2, _⟩ := hP1
  clear hP hx hR2
  go_wp2_with fail
  refine (toShow_any a cap L f s _ h1 hL2).mono ?_
  rintro e w2 ⟨g, rfl, hr2, hb2⟩
  have hP2 := hP1.call hb2
  have ⟨q0, q1, q2, _⟩ := hP2
  have h2 := h1.call hb2
  have hB2 := bstep hB1 hb2
  clear p0 p1 p2
  go_wp2_with fail
  refine (wordsS_any _ _ L f s _ (hr2.arg hm) hL2 hR).mono ?_
  rintro e w3 ⟨rfl, hb3⟩
  have hP3 := hP2.call hb3
  have ⟨p0, p1, p2, _⟩ := hP3
  have h3 := h2.call hb3
  have hB3 := bstep hB2 hb3
  clear q0 q1 q2
  go_wp2_with fail
  refine (toShow_any a cap L f s _ h3 hL2).mono ?_
  rintro e w4 ⟨g4, rfl, hr4, hb4⟩
  have hP4 := hP3.call hb4
  have h4 := h3.call hb4
  have hB4 := bstep hB3 hb4
  have hX := tri0 w4 (.slice (some ⟨g4, 0, none⟩) L.length L.length) (.int .i64 f) (.int .i64 s) 26
  have hA : Below w4.heap.size w4 (w4.alloc (.cells #[.slice (some ⟨g4, 0, none⟩) L.length L.length, .int .i64 f, .int .i64 s] 26)) := balloc (Below.refl _ _) _
  have hrA := hr4.call hA
  have hPA := hP4.call hA
  have hAA := h4.call hA
  have hBB := bstep hB4 hA
  clear p0 p1 p2
  go_wp2_with fail
  refine (wordsI_any _ _ L f s _ (hrA.arg hm) (Nat.le_refl _) hL2 hR).mono ?_
  rintro e w5 ⟨rfl, hb5⟩
  have hr5 := hrA.call hb5
  have hP5 := hPA.call hb5
  have hX5 := hX.call hb5
  have h5 := hAA.call hb5
  have hB5 := bstep hBB hb5
  have ⟨p0, p1, p2, _⟩ := hP5
  have ⟨x0, x1, x2, _⟩ := hX5
  clear hX hA hrA hPA hAA hBB hP4 h4 hr4 hb4 hb5
  generalize wordT L f = E
  go_wp2_with fail
  first
    | go_region_with (first
        | (go_at_call 14; refine (toShow_any a cap L f s w5.drew h5 hL2).mono ?_; rintro e w6 ⟨g6, rfl, hr6, hb6d⟩; have hb6 : Below w5.heap.size w5 w6 := ⟨hb6d.os, hb6d.tape, hb6d.output, hb6d.size, hb6d.block⟩; have hX6 := hX5.call hb6; have ⟨y0, y1, y2, _⟩ := hX6; have hr56 := hr5.call hb6; have hB6 := bstep hB5 hb6)
        | (go_at_call 16; refine (eqShow_same _ _ _ _ L f s w6 (hr56.arg hm) (hr6.arg hm) hL2).mono ?_; rintro e w7 ⟨rfl, hb7⟩))
    | fail
  all_goals go_wp2
  all_goals go_ret
  all_goals exact ⟨rfl, bstep hB6 hb7⟩

end Go.Proofs.Ytknepeleepbefaa
