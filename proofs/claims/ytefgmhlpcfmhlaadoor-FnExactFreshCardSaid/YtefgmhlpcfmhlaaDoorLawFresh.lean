/-
  The exact law of Fresh, walked: the program answers as the model does, what came in stays.
-/
import Derived.Test.YtefgmhlpcfmhlaaDoorFrsQ
namespace Go.Proofs.YtefgmhlpcfmhlaaDoor
open Go.RowKit

set_option maxRecDepth 100000 in
set_option maxHeartbeats 4000000 in
theorem lawFresh (a : Option Addr) (cap : Nat) (L : List ByteArray) (n : Int) (w : World) (ht : Tab w) (h : ArgT w a L) (hL : L.length ≤ maxLen) (_hn : I64 n) :
    Calls Tryd.prog 3 #[.slice a L.length cap, .int .i64 n] w fun e w' => e = .returned (.bool true) ∧ Below w.heap.size w w' := by
  go_enter Tryd.func3, Tryd.ntmps3
  go_wp2_with fail
  refine (szStringS_any a cap L _ h hL).mono ?_
  rintro e w1 ⟨x, rfl, hx, hb1⟩
  by_cases hneg : x < 0
  · go_wp2
    go_ret
    exact ⟨rfl, hb1⟩
  obtain ⟨hL2, hR2⟩ := hx (by omega)
  have hm : ∀ i (h : i < L.length), L[i].size ≤ maxLen := fun i hi => by
    obtain ⟨_, _, _, _, _, hm⟩ := h i hi
    exact hm
  clear hR2
  go_wp2_with fail
  refine (toStringS_any a cap L _ (h.call hb1) hL2).mono ?_
  rintro e w2 ⟨rfl, hr2, hb2⟩
  have hB2 := bstep hb1 hb2
  go_wp2_with fail
  refine (freshS_any _ _ L n _ (hr2.arg hm) hL2).mono ?_
  rintro e w3 ⟨rfl, hb3⟩
  have hB3 := bstep hB2 hb3
  have HI : Hid (∀ W, Tab W → ∀ b, ArgT W b L → ∀ cb, Calls Tryd.prog 8 #[.slice b L.length cb, .int .i64 n] W fun e w' => e = .returned (.string (frE L n)) ∧ Below W.heap.size W w') := fun W hT b hA cb => freshI_any b cb L n W hT hA hL2
  generalize frE L n = X at HI ⊢
  clear hr2
  go_wp2_with fail
  refine (toStringS_any a cap L _ (h.call hB3) hL2).mono ?_
  rintro e w4 ⟨rfl, hr4, hb4⟩
  have hB4 := bstep hB3 hb4
  clear hb1 hb2 hb3 hB2 hB3 hb4
  go_wp2_with fail
  refine (HI.out _ (tab_call ht hB4) _ (hr4.arg hm) _).mono ?_
  rintro e w5 ⟨rfl, hb5⟩
  have hB5 := bstep hB4 hb5
  replace hr4 := hr4.call hb5
  clear hb5 hB4
  go_wp2_with fail
  refine (toStringS_any a cap L _ (h.call hB5) hL2).mono ?_
  rintro e w7 ⟨rfl, hr7, hb7⟩
  replace hr4 := hr4.call hb7
  have hB7 := bstep hB5 hb7
  clear hb7 hB5
  go_wp2_with fail
  refine (eqStringS_two _ _ _ _ L _ (hr4.arg hm) (hr7.arg hm) hL2).mono ?_
  rintro e w8 ⟨rfl, hb8⟩
  have hB8 := bstep hB7 hb8
  go_wp2
  go_ret
  exact ⟨rfl, hB8⟩

end Go.Proofs.YtefgmhlpcfmhlaaDoor
