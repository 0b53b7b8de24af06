/-
  The exact law of Bound, walked: the program answers as the model does, what came in stays, the answer owns its memory.
-/
import Derived.Test.YtjkjjjdihccccaaEnvC
import Derived.Test.YtjkjjjdihccccaaEnvM
namespace Go.Proofs.Ytjkjjjdihccccaa
open Go.RowKit

theorem bound_len (X : List Bd) (T : List ByteArray) (s : Bool) (f : Int) (hX : X.length ≤ 1048576) (hT : T.length ≤ 1048576) : (boundE X T s f).length ≤ 2097152 := by
  unfold boundE
  split
  · split
    · rw [List.length_append, news_length]; omega
    · omega
  · simp

set_option maxRecDepth 100000 in
set_option maxHeartbeats 4000000 in
theorem lawBound (a : Option Addr) (cap : Nat) (X : List Bd) (b : Option Addr) (cap2 : Nat) (T : List ByteArray) (s : Bool) (f : Int) (w : World) (h : RowA BdAt 3 w a X ∧ ∀ x ∈ X, okBd x) (hL : X.length ≤ maxLen) (h2 : ArgT w b T) (hM : T.length ≤ maxLen) (hf : I64 f) :
    Calls Try.prog 5 #[.slice a X.length cap, .slice b T.length cap2, .bool s, .int .i64 f] w fun e w' => e = .returned (.bool true) ∧ Below w.heap.size w w' := by
  obtain ⟨h, hok⟩ := h
  go_enter Try.func5, Try.ntmps5
  go_wp2_with fail
  refine (szBindS_any a cap X 1048576 _ h hok hL (by decide) (by decide)).mono ?_
  rintro e w1 ⟨x, rfl, _, hx9, hx, hb1⟩
  by_cases hneg : x < 0
  · go_wp2
    go_ret
    exact ⟨rfl, hb1⟩
  have hL2 := hx (by omega)
  clear hx
  go_wp2_with fail
  refine (szStringS_from b cap2 T x _ (h2.call hb1) hM (by omega) hx9).mono ?_
  rintro e w1b ⟨x', rfl, hx', hb1b⟩
  have hB1 := bstep hb1 hb1b
  by_cases hneg' : x' < 0
  · go_wp2
    go_ret
    exact ⟨rfl, hB1⟩
  have hM2 := hx' (by omega)
  have hm : ∀ i (h : i < T.length), T[i].size ≤ maxLen := fun i hi => by
    obtain ⟨_, _, _, _, _, hm⟩ := h2 i hi
    exact hm
  clear hx' hb1 hb1b hx9
  go_wp2_with fail
  refine (toBindS_any a cap X _ (h.call bd_stays hB1) hL2).mono ?_
  rintro e w2 ⟨rfl, hr2, hb2⟩
  have hB2 := bstep hB1 hb2
  clear hb2
  go_wp2_with fail
  refine (toStringS_any b cap2 T _ (h2.call hB2) hM2).mono ?_
  rintro e w3 ⟨rfl, hr3, hb3⟩
  have hB3 := bstep hB2 hb3
  replace hr2 := hr2.call hb3
  clear hb3
  go_wp2_with fail
  refine (boundS_any _ _ X _ _ T s f _ hr2 hok hL2 (hr3.arg hm) hM2 hf).mono ?_
  rintro e w4 ⟨g1, c1, rfl, hO1, hb4⟩
  have hXl := bound_len X T s f hL2 hM2
  have HU : Hid (∀ W g0 cb b2 cb2, RowF W g0 (X.flatMap bC) → ArgT W b2 T → Calls Try.prog 9 #[.slice (some ⟨g0, 0, none⟩) X.length cb, .slice b2 T.length cb2, .bool s, .int .i64 f] W fun e w' => ∃ g cp, e = .returned (.slice (some ⟨g, 0, none⟩) (boundE X T s f).length cp) ∧ OwnB w' W.heap.size g (boundE X T s f).length cp (boundE X T s f) ∧ Below W.heap.size W w') := fun W g0 cb b2 cb2 hA hT => boundI_any g0 cb X b2 cb2 T s f W hA hok hL2 hT hM2
  generalize boundE X T s f = Z at hO1 HU hXl
  have hB4 := bstep hB3 hb4
  have hr1 := hO1.row.1
  have hz1 := hr1.1
  clear hO1 hr2 hr3 hb4 hB1 hB2 hB3
  go_wp2_with fail
  refine (toBindS_any a cap X _ (h.call bd_stays hB4) hL2).mono ?_
  rintro e w5 ⟨rfl, hr5, hb5⟩
  have hB5 := bstep hB4 hb5
  replace hr1 := hr1.call hb5
  have hz5 := hr5.1
  have hwz : w.heap.size ≤ w4.heap.size := hB4.size
  obtain ⟨g5, hg5⟩ : ∃ g5, g5 = w4.heap.size := ⟨_, rfl⟩
  rw [← hg5] at hr5 hz1 hz5 hwz ⊢
  clear hb5 hg5 hB4
  go_wp2_with fail
  refine (toStringS_any b cap2 T _ (h2.call hB5) hM2).mono ?_
  rintro e w6 ⟨rfl, hr6, hb6⟩
  have hB6 := bstep hB5 hb6
  replace hr1 := hr1.call hb6
  replace hr5 := hr5.call hb6
  have hz6 := hr6.1
  obtain ⟨g6, hg6⟩ : ∃ g6, g6 = w5.heap.size := ⟨_, rfl⟩
  rw [← hg6] at hr6 hz5 hz6 ⊢
  clear hb6 hg6 hB5
  go_wp2_with fail
  refine (HU.out _ _ _ _ _ hr5 (hr6.arg hm)).mono ?_
  rintro e w7 ⟨g7, c7, rfl, hO7, hb7⟩
  obtain ⟨hr7, hg7⟩ := hO7.row
  have hB7 := bstep hB6 hb7
  replace hr1 := hr1.call hb7
  replace hr5 := hr5.call hb7
  replace hr6 := hr6.call hb7
  have hzw : w.heap.size ≤ g7 := by omega
  have hzw6 : w.heap.size ≤ g6 := by omega
  have n15 : g1 ≠ g5 := by omega
  have n16 : g1 ≠ g6 := by omega
  have n65 : g6 ≠ g5 := by omega
  have n75 : g7 ≠ g5 := by omega
  have n76 : g7 ≠ g6 := by omega
  have n17 : g1 ≠ g7 := by omega
  clear hO7 hB6 hb7 hz1 hz5 hz6 hg7
  go_wp2_with fail
  refine (eqBindS_same _ _ _ _ Z _ (rowB hr7) (rowB hr1) hXl).mono ?_
  rintro e w8 ⟨rfl, hb8⟩
  replace hr1 := hr1.call hb8
  replace hr5 := hr5.call hb8
  replace hr6 := hr6.call hb8
  replace hr7 := hr7.call hb8
  have hB8 := bstep hB7 hb8
  clear hb8 hB7
  go_wp2_with fail
  refine (toBindS_any a cap X _ (h.call bd_stays hB8) hL2).mono ?_
  rintro e w9 ⟨rfl, hr9, hb9⟩
  replace hr1 := hr1.call hb9
  replace hr5 := hr5.call hb9
  replace hr6 := hr6.call hb9
  replace hr7 := hr7.call hb9
  have hB9 := bstep hB8 hb9
  clear hb9 hB8
  go_wp2_with fail
  refine (eqBindS_same _ _ _ _ X _ (rowB hr5) (rowB hr9) (by omega)).mono ?_
  rintro e w10 ⟨rfl, hb10⟩
  replace hr1 := hr1.call hb10
  replace hr5 := hr5.call hb10
  replace hr6 := hr6.call hb10
  replace hr7 := hr7.call hb10
  have hB10 := bstep hB9 hb10
  clear hb10 hB9 hr9
  go_wp2_with fail
  refine (toStringS_any b cap2 T _ (h2.call hB10) hM2).mono ?_
  rintro e w11 ⟨rfl, hr11, hb11⟩
  replace hr1 := hr1.call hb11
  replace hr5 := hr5.call hb11
  replace hr6 := hr6.call hb11
  replace hr7 := hr7.call hb11
  have hB11 := bstep hB10 hb11
  clear hb11 hB10
  go_wp2_with fail
  refine (eqStringS_two _ _ _ _ T _ (hr6.arg hm) (hr11.arg hm) hM2).mono ?_
  rintro e w12 ⟨rfl, hb12⟩
  replace hr1 := hr1.call hb12
  replace hr5 := hr5.call hb12
  replace hr6 := hr6.call hb12
  replace hr7 := hr7.call hb12
  have hB12 := bstep hB11 hb12
  clear hb12 hB11 hr11
  go_wp2_with fail
  refine (markBindS_row g5 _ X _ hr5 (by omega)).mono ?_
  rintro e w13 ⟨rfl, hb13, _⟩
  replace hr1 := hr1.but hb13 n15
  replace hr6 := hr6.but hb13 n65
  replace hr7 := hr7.but hb13 n75
  have hB13 := But.below hB12 hwz hb13
  clear hb13 hB12 hr5
  have hms := markStringS_from g6 T.length T (1 + 3 * X.length) w13 hr6 hM2 (by omega) (by omega)
  rw [Int.natCast_add, Int.natCast_mul] at hms
  go_wp2_with fail
  refine hms.mono ?_
  rintro e w14 ⟨rfl, hb14⟩
  replace hr1 := hr1.but hb14 n16
  replace hr7 := hr7.but hb14 n76
  have hB14 := But.below hB13 hzw6 hb14
  clear hb14 hB13 hr6 hms
  go_wp2_with fail
  refine (eqBindS_same _ _ _ _ Z _ (rowB hr7) (rowB hr1) hXl).mono ?_
  rintro e w15 ⟨rfl, hb15⟩
  replace hr1 := hr1.call hb15
  replace hr7 := hr7.call hb15
  have hB15 := bstep hB14 hb15
  clear hb15 hB14
  go_wp2_with fail
  refine (markBindS_row g7 _ Z _ hr7 hXl).mono ?_
  rintro e w16 ⟨rfl, hb16, hr16⟩
  replace hr1 := hr1.but hb16 n17
  have hB16 := But.below hB15 hzw hb16
  clear hb16 hB15 hr7
  go_wp2_with fail
  refine (heldBindS_row g7 _ _ _ hr16 hXl).mono ?_
  rintro e w17 ⟨rfl, hb17⟩
  replace hr1 := hr1.call hb17
  replace hr16 := hr16.call hb17
  have hB17 := bstep hB16 hb17
  clear hb17 hB16
  go_wp2_with fail
  refine (toBindS_any a cap X _ (h.call bd_stays hB17) hL2).mono ?_
  rintro e w18 ⟨rfl, hr18, hb18⟩
  replace hr1 := hr1.call hb18
  replace hr16 := hr16.call hb18
  have hB18 := bstep hB17 hb18
  clear hb18 hB17
  go_wp2_with fail
  refine (toStringS_any b cap2 T _ (h2.call hB18) hM2).mono ?_
  rintro e w19 ⟨rfl, hr19, hb19⟩
  replace hr1 := hr1.call hb19
  replace hr16 := hr16.call hb19
  replace hr18 := hr18.call hb19
  have hB19 := bstep hB18 hb19
  clear hb19 hB18
  go_wp2_with fail
  refine (HU.out _ _ _ _ _ hr18 (hr19.arg hm)).mono ?_
  rintro e w20 ⟨gD, cD, rfl, hOD, hb20⟩
  have hr20 := hOD.row.1
  replace hr1 := hr1.call hb20
  replace hr16 := hr16.call hb20
  have hB20 := bstep hB19 hb20
  clear hb20 hB19 hOD hr18 hr19
  go_wp2_with fail
  refine (eqBindS_same _ _ _ _ Z _ (rowB hr20) (rowB hr1) hXl).mono ?_
  rintro e w21 ⟨rfl, hb21⟩
  replace hr16 := hr16.call hb21
  have hB21 := bstep hB20 hb21
  clear hb21 hB20 hr1 hr20
  go_wp2_with fail
  refine (heldBindS_row g7 _ _ _ hr16 hXl).mono ?_
  rintro e w22 ⟨rfl, hb22⟩
  have hB22 := bstep hB21 hb22
  clear hb22 hB21 hr16
  go_wp2
  go_ret
  exact ⟨rfl, hB22⟩

end Go.Proofs.Ytjkjjjdihccccaa
