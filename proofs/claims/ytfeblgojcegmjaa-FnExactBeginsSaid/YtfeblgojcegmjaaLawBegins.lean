/-
  The law of Begins: program and model answer the same; what came in stays.
-/
import Derived.Test.YtfeblgojcegmjaaBegW
namespace Go.Proofs.Ytfeblgojcegmjaa
open Go.RowKit

set_option maxHeartbeats 2000000 in
theorem lawBegins (a : Option Addr) (cap : Nat) (K : List ByteArray) (a' : Option Addr) (cap' : Nat) (L : List ByteArray) (w : World) (h : ArgT w a K) (hK : K.length ≤ maxLen) (h' : ArgT w a' L) (hL : L.length ≤ maxLen) :
    Calls Try.prog 3 #[.slice a K.length cap, .slice a' L.length cap'] w fun e w' => e = .returned (.bool true) ∧ Below w.heap.size w w' := by
  have hmK : ∀ i (h : i < K.length), K[i].size ≤ maxLen := fun i hi => by
    obtain ⟨_, _, _, _, _, hm⟩ := h i hi
    exact hm
  have hmL : ∀ i (h : i < L.length), L[i].size ≤ maxLen := fun i hi => by
    obtain ⟨_, _, _, _, _, hm⟩ := h' i hi
    exact hm
  go_enter Try.func3, Try.ntmps3
  go_wp2_with fail
  refine (szStringS_from a cap K 1048576 (by decide) (by decide) _ h hK).mono ?_
  rintro e w1 ⟨x, rfl, hx, hxK, hb1⟩
  by_cases hneg : x < 0
  · go_wp2
    go_ret
    exact ⟨rfl, hb1⟩
  have hK2 := hxK (by omega)
  clear hxK
  go_wp2_with fail
  refine (szStringS_from a' cap' L x (by omega) hx _ (h'.call hb1) hL).mono ?_
  rintro e w2 ⟨y, rfl, hy, hyL, hb2⟩
  have hB2 := bstep hb1 hb2
  by_cases hneg2 : y < 0
  · go_wp2
    go_ret
    exact ⟨rfl, hB2⟩
  have hL2 := hyL (by omega)
  clear hyL
  go_wp2_with fail
  refine (toStringS_any a cap K w2 (h.call hB2) hK2).mono ?_
  rintro e w3 ⟨rfl, hr3, hb3⟩
  have hB3 := bstep hB2 hb3
  go_wp2_with fail
  refine (toStringS_any a' cap' L w3 (h'.call hB3) hL2).mono ?_
  rintro e w4 ⟨rfl, hr4, hb4⟩
  have hB4 := bstep hB3 hb4
  go_wp2_with fail
  refine (beginsS_any _ _ K.length L.length K L w4 ((hr3.call hb4).arg hmK) (hr4.arg hmL) hK2 (Nat.le_refl _)).mono ?_
  rintro e w5 ⟨rfl, hb5⟩
  have hB5 := bstep hB4 hb5
  clear hr3 hr4
  go_wp2_with fail
  refine (toStringS_any a cap K w5 (h.call hB5) hK2).mono ?_
  rintro e w6 ⟨rfl, hr6, hb6⟩
  have hB6 := bstep hB5 hb6
  go_wp2_with fail
  refine (toStringS_any a' cap' L w6 (h'.call hB6) hL2).mono ?_
  rintro e w7 ⟨rfl, hr7, hb7⟩
  have hB7 := bstep hB6 hb7
  have hr67 := hr6.call hb7
  go_wp2_with fail
  refine (beginsI_any _ _ K.length L.length K L w7 (hr67.arg hmK) (hr7.arg hmL) hK2 (Nat.le_refl _)).mono ?_
  rintro e w8 ⟨rfl, hb8⟩
  have hB8 := bstep hB7 hb8
  have hk8 := hr67.call hb8
  have hl8 := hr7.call hb8
  clear hr6 hr7 hr67
  generalize begB K L = E
  go_wp2_with fail
  refine (toStringS_any a cap K w8 (h.call hB8) hK2).mono ?_
  rintro e w9 ⟨rfl, hr9, hb9⟩
  have hB9 := bstep hB8 hb9
  go_wp2_with fail
  refine (eqStringS_two _ _ K.length K.length K w9 ((hk8.call hb9).arg hmK) (hr9.arg hmK) hK2).mono ?_
  rintro e w10 ⟨rfl, hb10⟩
  have hB10 := bstep hB9 hb10
  have hl10 := (hl8.call hb9).call hb10
  go_wp2_with fail
  refine (toStringS_any a' cap' L w10 (h'.call hB10) hL2).mono ?_
  rintro e w11 ⟨rfl, hr11, hb11⟩
  have hB11 := bstep hB10 hb11
  go_wp2_with fail
  refine (eqStringS_two _ _ L.length L.length L w11 ((hl10.call hb11).arg hmL) (hr11.arg hmL) hL2).mono ?_
  rintro e w12 ⟨rfl, hb12⟩
  have hB12 := bstep hB11 hb12
  go_wp2
  go_ret
  exact ⟨rfl, hB12⟩

end Go.Proofs.Ytfeblgojcegmjaa
