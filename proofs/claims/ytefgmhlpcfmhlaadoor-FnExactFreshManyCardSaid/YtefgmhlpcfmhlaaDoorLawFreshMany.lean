/-
  The exact law of FreshMany, walked: the program answers as the model does, what came in stays, the answer owns its memory.
-/
import Derived.Test.YtefgmhlpcfmhlaaDoorFrsQ
namespace Go.Proofs.YtefgmhlpcfmhlaaDoor
open Go.RowKit

set_option maxRecDepth 100000 in
set_option maxHeartbeats 4000000 in
theorem lawFreshMany (a : Option Addr) (cap : Nat) (L : List ByteArray) (n : Int) (w : World) (ht : Tab w) (h : ArgT w a L) (hL : L.length ≤ maxLen) (_hn : I64 n) :
    Calls Tryd.prog 4 #[.slice a L.length cap, .int .i64 n] w fun e w' => e = .returned (.bool true) ∧ Below w.heap.size w w' := by
  go_enter Tryd.func4, Tryd.ntmps4
  go_wp2_with fail
  refine (szStringS_any a cap L _ h hL).mono ?_
  rintro e w1 ⟨x, rfl, hx, hb1⟩
  by_cases hneg : x < 0
  · go_wp2
    go_ret
    exact ⟨rfl, hb1⟩
  obtain ⟨hL2, hR2⟩ := hx (by omega)
  have hm : ∀ i (h : i < L.length), L[i].size ≤ maxLen := fun i hi => by
    obtain ⟨_, _, _, _, _, hm⟩ := h i hi
    exact hm
  clear hR2
  go_wp2_with fail
  refine (toStringS_any a cap L _ (h.call hb1) hL2).mono ?_
  rintro e w2 ⟨rfl, hr2, hb2⟩
  have hB2 := bstep hb1 hb2
  go_wp2_with fail
  refine (freshManyS_any _ _ L n _ (hr2.arg hm) hL2).mono ?_
  rintro e w3 ⟨v1, rfl, hO1, hb3⟩
  have hXl := fmE_len L n
  have HU : Hid (∀ W, Tab W → ∀ b, ArgT W b L → ∀ cb, Calls Tryd.prog 11 #[.slice b L.length cb, .int .i64 n] W fun e w' => ∃ g m cp, e = .returned (.slice (some ⟨g, 0, none⟩) m cp) ∧ m = (fmE L n).length ∧ OwnG w' W.heap.size g m cp (fmE L n) ∧ Below W.heap.size W w') := fun W hT b hA cb => freshManyI_any b cb L n W hT hA hL2
  generalize fmE L n = X at hO1 HU hXl
  have hB3 := bstep hB2 hb3
  obtain ⟨g1, c1, rfl, hG1⟩ := hO1.own
  have hr1 := hG1.row.1
  have hz1 := hr1.1
  clear hO1 hG1 hr2
  go_wp2_with fail
  refine (toStringS_any a cap L _ (h.call hB3) hL2).mono ?_
  rintro e w4 ⟨rfl, hr4, hb4⟩
  have hB4 := bstep hB3 hb4
  replace hr1 := hr1.call hb4
  have hz4 := hr4.1
  have hwz : w.heap.size ≤ w3.heap.size := hB3.size
  obtain ⟨g4, hg4⟩ : ∃ g4, g4 = w3.heap.size := ⟨_, rfl⟩
  rw [← hg4] at hr4 hz1 hz4 hwz ⊢
  clear hb1 hb2 hb3 hB2 hB3 hb4 hg4
  go_wp2_with fail
  refine (HU.out _ (tab_call ht hB4) _ (hr4.arg hm) _).mono ?_
  rintro e w5 ⟨g5, n5, c5, rfl, hn5, hG5, hb5⟩
  subst hn5
  obtain ⟨hr5, hg5⟩ := hG5.row
  have hB5 := bstep hB4 hb5
  replace hr1 := hr1.call hb5
  replace hr4 := hr4.call hb5
  have hzw : w.heap.size ≤ g5 := by omega
  have n14 : g1 ≠ g4 := by omega
  have n54 : g5 ≠ g4 := by omega
  have n15 : g1 ≠ g5 := by omega
  clear hG5 hB4 hb5
  go_wp2_with fail
  refine (eqStringS_same 0 0 _ _ _ _ (isT_row hr5) (isT_row hr1) (by omega)).mono ?_
  rintro e w6 ⟨rfl, hb6⟩
  replace hr1 := hr1.call hb6
  replace hr4 := hr4.call hb6
  replace hr5 := hr5.call hb6
  have hB6 := bstep hB5 hb6
  clear hb6 hB5
  go_wp2_with fail
  refine (toStringS_any a cap L _ (h.call hB6) hL2).mono ?_
  rintro e w7 ⟨rfl, hr7, hb7⟩
  replace hr1 := hr1.call hb7
  replace hr4 := hr4.call hb7
  replace hr5 := hr5.call hb7
  have hB7 := bstep hB6 hb7
  clear hb7 hB6
  go_wp2_with fail
  refine (eqStringS_two _ _ _ _ L _ (hr4.arg hm) (hr7.arg hm) hL2).mono ?_
  rintro e w8 ⟨rfl, hb8⟩
  replace hr1 := hr1.call hb8
  replace hr4 := hr4.call hb8
  replace hr5 := hr5.call hb8
  have hB8 := bstep hB7 hb8
  clear hb8 hB7 hr7
  go_wp2_with fail
  refine (markStringS_row g4 _ L _ hr4 hL2).mono ?_
  rintro e w9 ⟨rfl, hb9, _⟩
  replace hr1 := hr1.but hb9 n14
  replace hr5 := hr5.but hb9 n54
  have hB9 := But.below hB8 hwz hb9
  clear hb9 hB8 hr4
  go_wp2_with fail
  refine (eqStringS_same 0 0 _ _ _ _ (isT_row hr5) (isT_row hr1) (by omega)).mono ?_
  rintro e w10 ⟨rfl, hb10⟩
  replace hr1 := hr1.call hb10
  replace hr5 := hr5.call hb10
  have hB10 := bstep hB9 hb10
  clear hb10 hB9
  go_wp2_with fail
  refine (markStringS_row g5 _ _ _ hr5 (by omega)).mono ?_
  rintro e w11 ⟨rfl, hb11, hr11⟩
  replace hr1 := hr1.but hb11 n15
  have hB11 := But.below hB10 hzw hb11
  clear hb11 hB10 hr5
  go_wp2_with fail
  refine (heldStringS_row g5 _ _ _ hr11 (by omega)).mono ?_
  rintro e w11b ⟨rfl, hb11b⟩
  replace hr1 := hr1.call hb11b
  replace hr11 := hr11.call hb11b
  have hB11b := bstep hB11 hb11b
  clear hb11b hB11
  go_wp2_with fail
  refine (toStringS_any a cap L _ (h.call hB11b) hL2).mono ?_
  rintro e w12 ⟨rfl, hr12, hb12⟩
  replace hr1 := hr1.call hb12
  replace hr11 := hr11.call hb12
  have hB12 := bstep hB11b hb12
  clear hb12 hB11b
  go_wp2_with fail
  refine (HU.out _ (tab_call ht hB12) _ (hr12.arg hm) _).mono ?_
  rintro e w13 ⟨gD, nD, cD, rfl, hnD, hGD, hb13⟩
  subst hnD
  have hr13 := hGD.row.1
  replace hr1 := hr1.call hb13
  replace hr11 := hr11.call hb13
  have hB13 := bstep hB12 hb13
  clear hb13 hB12 hGD hr12
  go_wp2_with fail
  refine (eqStringS_same 0 0 _ _ _ _ (isT_row hr13) (isT_row hr1) (by omega)).mono ?_
  rintro e w14 ⟨rfl, hb14⟩
  replace hr11 := hr11.call hb14
  have hB14 := bstep hB13 hb14
  clear hb14 hB13 hr1 hr13
  go_wp2_with fail
  refine (heldStringS_row g5 _ _ _ hr11 (by omega)).mono ?_
  rintro e w15 ⟨rfl, hb15⟩
  have hB15 := bstep hB14 hb15
  clear hb15 hB14 hr11
  go_wp2
  go_ret
  exact ⟨rfl, hB15⟩

end Go.Proofs.YtefgmhlpcfmhlaaDoor
