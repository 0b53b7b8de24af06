/-
  Olds: OwnW, OldV, OldP, in one text.
-/
import Derived.Test.YtdggghbeicmanaaGreatDoorRRZRdTwo
import Derived.Test.YtdggghbeicmanaaGreatDoorRRZBlks
import Derived.Test.YtdggghbeicmanaaGreatDoorRRZPlayI
/-
  Texts and numbers in memory of the call's own.
-/
namespace Go.Proofs.YtdggghbeicmanaaGreatDoorRR
open Go.RowKit

theorem play_len' {L : List ByteArray} (h : playB L = true) : L.length ≤ 2000 := by
  unfold playB at h
  rw [Bool.and_eq_true] at h
  exact of_decide_eq_true h.1
theorem play_signs {L : List ByteArray} (h : playB L = true) : signsB L = true := by
  unfold playB at h
  rw [Bool.and_eq_true, Bool.and_eq_true] at h
  exact h.2.1
theorem own_low {w : World} {B B' : Nat} {e : TypeId} {sz n : Nat} {v : Value} {xs : List Value} (h : w.ownsRow B e sz v n xs) (hb : B' ≤ B) : w.ownsRow B' e sz v n xs := by
  refine ⟨h.1, ?_⟩
  rcases h.2 with hn | ⟨g, cap, cur, hv, hB, rest⟩
  · exact .inl hn
  · exact .inr ⟨g, cap, cur, hv, Nat.le_trans hb hB, rest⟩
/-- Steps enough for a play. -/
theorem far_zero (L : List ByteArray) : farN L 0 = L.length + 2 := by
  unfold farN
  rw [if_neg (by decide)]
  omega

/-- Texts in memory of the call's own, not nil. -/
def OwnG (w : World) (B : Nat) (g n cp : Nat) (X : List ByteArray) : Prop := w.ownsRow B 9 1 (.slice (some ⟨g, 0, none⟩) n cp) n (X.map Value.string)
theorem rowI_app {wr w3 : World} {g g' : Nat} {tmp : Obj} {av : Option Addr} {X : List Int} (h : RowI (fun k => k = g) wr av X) (hg : (wr.alloc tmp).grownBy w3 (some g)) (hw : g' = g ∨ g' = (wr.alloc tmp).heap.size) : RowI (fun k => k = g') w3 av X := fun i hi => by
  obtain ⟨sb, off, h1, h2, h3, h4⟩ := h i hi
  have hz := hg.size
  rw [World.size_alloc] at hz hw
  refine ⟨sb, off, h1, by omega, ?_, ?_⟩
  · rcases hw with e | e
    · rw [e]; exact h3
    · omega
  · refine (World.cell?_of_block (w := wr) (a := ⟨sb, off + i, none⟩) ?_).trans h4
    rw [hg.block sb (by simp; omega) (fun e => h3 (by injection e)), Below.heap_alloc _ _ _ h2]
theorem RowN.one {B g : Nat} {w : World} {a : Option Addr} {X : List Int} (h : RowN B w a X) (hg : g < B) : RowI (fun k => k = g) w a X := fun i hi => by
  obtain ⟨sb, off, h1, h2, h3, h4⟩ := h i hi
  exact ⟨sb, off, h1, h2, by omega, h4⟩
theorem OwnG.row {w : World} {B g n cp : Nat} {X : List ByteArray} (h : OwnG w B g n cp X) : RowT w g X ∧ B ≤ g := by
  have hl := World.ownsRow.lt h g rfl
  refine ⟨⟨hl.2, fun i hi => ⟨?_, World.ownsRow.frozenAt h i⟩⟩, hl.1⟩
  have hc := World.ownsRow.cells h (g := g) rfl i (.string X[i]) (by simp [hi])
  have hadd : (⟨g, 0, none⟩ : Addr).add i = ⟨g, i, none⟩ := by unfold Addr.add; split <;> simp_all
  rwa [hadd] at hc
theorem OwnN.own {w : World} {B : Nat} {v : Value} {X : List ByteArray} (h : OwnN w B v X) : ∃ g cp, v = .slice (some ⟨g, 0, none⟩) X.length cp ∧ OwnG w B g X.length cp X := by
  obtain ⟨g, cp, rfl⟩ := h.shape
  exact ⟨g, cp, rfl, h.1⟩
theorem isT_row {w : World} {g cp : Nat} {X : List ByteArray} (h : RowT w g X) : IsT w 0 (.slice (some ⟨g, 0, none⟩) X.length cp) X := by
  by_cases hX : X = []
  · left
    subst hX
    exact ⟨rfl, _, _, rfl⟩
  · exact Or.inr ⟨hX, g, cp, rfl, Nat.zero_le _, h⟩

end Go.Proofs.YtdggghbeicmanaaGreatDoorRR

/-
  Chapter 6: VarsOf, the model and the program.
-/
namespace Go.Proofs.YtdggghbeicmanaaGreatDoorRR
open Go.RowKit

/-- The NAMEs of the first deed where that is vars. -/
noncomputable def varE (L : List ByteArray) : List ByteArray := if playB L && isW (sgAt L 1) [118, 97, 114, 115] then slc L 2 (fm L 5 2) else []
theorem var_no (L : List ByteArray) (h : playB L = false ∨ isW (sgAt L 1) [118, 97, 114, 115] = false) : varE L = [] := by
  unfold varE
  rcases h with h | h
  · rw [h]; rfl
  · rw [h, Bool.and_false]; rfl
theorem var_yes (L : List ByteArray) (h : playB L = true) (h' : isW (sgAt L 1) [118, 97, 114, 115] = true) : varE L = slc L 2 (fm L 5 2) := by
  unfold varE
  rw [h, h']
  rfl
theorem var_short (L : List ByteArray) : (varE L).length ≤ 2000 := by
  cases hp : playB L
  · rw [var_no L (Or.inl hp)]; exact Nat.zero_le _
  · have hl := play_len' hp
    cases hv : isW (sgAt L 1) [118, 97, 114, 115]
    · rw [var_no L (Or.inr hv)]; exact Nat.zero_le _
    · rw [var_yes L hp hv]
      unfold slc
      rw [List.length_take, List.length_drop]
      omega
/-- The first deed of a play. -/
theorem play_first {L : List ByteArray} (h : playB L = true) (hne : 0 < L.length) : fm L 1 0 ≠ -1 := by
  obtain ⟨k, hk⟩ := play_deeds h
  cases k with
  | zero =>
    have : (0 : Int) = (L.length : Int) := hk
    omega
  | succ k => exact hk.1
/-- .. its NAMEs. -/
theorem play_vars {L : List ByteArray} (h : playB L = true) (hv : isW (sgAt L 1) [118, 97, 114, 115] = true) : fm L 1 0 ≠ -1 ∧ 2 ≤ fm L 5 2 ∧ fm L 5 2 < (L.length : Int) ∧ isW (sgAt L (fm L 5 2)) [41] = true ∧ (∀ k, 2 ≤ k → k < fm L 5 2 → nmB (sgAt L k) = true) := by
  have hne : 0 < L.length := by
    by_cases h0 : 0 < L.length
    · exact h0
    · rw [sgAt_out (by omega), isW_nil _ (by decide)] at hv
      cases hv
  have hd := play_first h hne
  obtain ⟨n1, n2, n3, n4, n5⟩ := names_at (i := 0) (c := [118, 97, 114, 115]) hd (isW_eq hv) deedH_vars
  exact ⟨hd, n1, n2, n3, n4⟩

set_option maxRecDepth 100000 in
set_option maxHeartbeats 2000000 in
theorem varsOfS_any (a : Option Addr) (cap : Nat) (L : List ByteArray) (w : World) (h : ArgT w a L) (hL : L.length ≤ 1048576) :
    Calls Tryz.prog 5 #[.slice a L.length cap] w fun e w' => ∃ v, e = .returned v ∧ OwnN w' w.heap.size v (varE L) ∧ Below w.heap.size w w' := by
  cases hp : playB L
  · have HV : Hid (varE L = []) := var_no L (Or.inl hp)
    have HP : Hid (playB L = false) := hp
    clear hp
    go_enter Tryz.func5, Tryz.ntmps5
    go_wp2_with fail
    refine (playOkS_any a cap L _ h hL).mono ?_
    rintro e w1 ⟨rfl, hb1⟩
    rw [HP.out]
    have hN := ownN_new w1 w.heap.size hb1.size
    have hB := balloc hb1 (.cells #[] 9)
    go_wp2
    go_ret
    exact ⟨_, rfl, by rw [HV.out]; exact hN, hB⟩
  · have HP : Hid (playB L = true) := hp
    by_cases h0 : L.length = 0
    · have hnil : L = [] := List.length_eq_zero_iff.mp h0
      subst hnil
      have HV : Hid (varE [] = []) := var_no [] (Or.inr (by rw [sgAt_out (by simp), isW_nil _ (by decide)]))
      have HPO : Hid (Calls Tryz.prog 11 #[.slice a 0 cap] w fun e w' => e = .returned (.bool (playB [])) ∧ Below w.heap.size w w') := playOkS_any a cap [] w h hL
      clear hp h0 hL
      show Calls Tryz.prog 5 #[.slice a 0 cap] w _
      go_enter Tryz.func5, Tryz.ntmps5
      go_wp2_with fail
      refine HPO.out.mono ?_
      rintro e w1 ⟨rfl, hb1⟩
      rw [HP.out]
      have hN := ownN_new w1 w.heap.size hb1.size
      have hB := balloc hb1 (.cells #[] 9)
      clear HPO
      go_wp2
      go_ret
      exact ⟨_, rfl, by rw [HV.out]; exact hN, hB⟩
    · have hd := deed_long (play_first hp (by omega))
      have h1 : 1 < L.length := by omega
      obtain ⟨sb, off, rfl, hs, hc, _⟩ := h 1 h1
      have HG : Hid (sgAt L 1 = L[1]) := (by rw [sgAt_in (by omega) (by omega)]; rfl : sgAt L 1 = L[1])
      have hz : ((L.length : Int) == 0) = false := beq_eq_false_iff_ne.mpr (by omega)
      have hz1 : (1 : Int) < (L.length : Int) := by omega
      cases hv : isW (sgAt L 1) [118, 97, 114, 115]
      · have HV : Hid (varE L = []) := var_no L (Or.inr hv)
        have bv : (L[1].toList == [118, 97, 114, 115]) = false := by rw [← HG.out]; exact hv
        clear hp hv HG h0
        generalize L[1] = s at hc bv
        go_enter Tryz.func5, Tryz.ntmps5
        go_wp2_with fail
        refine (playOkS_any _ cap L _ h hL).mono ?_
        rintro e w1 ⟨rfl, hb1⟩
        rw [HP.out]
        have hc1 := (hb1.cell (p := ⟨sb, off + 1, none⟩) hs).trans hc
        have hN := ownN_new w1 w.heap.size hb1.size
        have hB := balloc hb1 (.cells #[] 9)
        go_wp2
        go_ret
        exact ⟨_, rfl, by rw [HV.out]; exact hN, hB⟩
      · have HV : Hid (varE L = slc L 2 (fm L 5 2)) := var_yes L hp hv
        obtain ⟨_, n1, n2, n3, n4⟩ := play_vars hp hv
        have HNM : Hid (∀ W, ArgT W (some ⟨sb, off, none⟩) L → Calls Tryz.prog 12 #[.slice (some ⟨sb, off, none⟩) L.length cap, .int .i64 2] W fun e w' => ∃ v, e = .returned v ∧ OwnN w' W.heap.size v (slc L 2 (fm L 5 2)) ∧ Below W.heap.size W w') := fun W hA => l5Names_any _ cap L 2 (fm L 5 2) W hA hL (by omega) n1 n2 n3 (fun k a b => (nm_plain (n4 k a b)).2)
        have bv : (L[1].toList == [118, 97, 114, 115]) = true := by rw [← HG.out]; exact hv
        clear hp hv HG h0 n1 n2 n3 n4
        generalize L[1] = s at hc bv
        go_enter Tryz.func5, Tryz.ntmps5
        go_wp2_with fail
        refine (playOkS_any _ cap L _ h hL).mono ?_
        rintro e w1 ⟨rfl, hb1⟩
        rw [HP.out]
        have hc1 := (hb1.cell (p := ⟨sb, off + 1, none⟩) hs).trans hc
        go_wp2_with fail
        refine (HNM.out _ (h.call hb1)).mono ?_
        rintro e w2 ⟨v, rfl, hO, hb2⟩
        have HO : Hid (OwnN w2 w.heap.size v (varE L)) := by
          show OwnN w2 w.heap.size v (varE L)
          rw [HV.out]
          exact ⟨ownT_mono hO.1 hb1.size, hO.2⟩
        clear hO HNM
        go_wp2
        go_ret
        exact ⟨_, rfl, HO.out, bstep hb1 hb2⟩

end Go.Proofs.YtdggghbeicmanaaGreatDoorRR

/-
  Chapter 6, the program: VarsOf.
-/
namespace Go.Proofs.YtdggghbeicmanaaGreatDoorRR
open Go.RowKit

set_option maxRecDepth 100000 in
set_option maxHeartbeats 1000000 in
theorem headOfI_yes (a : Option Addr) (cap : Nat) (L : List ByteArray) (i : Int) (w : World) (h : ArgT w a L) (hL : L.length ≤ 1048576) (hs : signsB L = true) (ho : isW (sgAt L i) [40] = true) (hit : 0 ≤ itemE L i) (h1 : i + 1 < (L.length : Int)) (hp : plainS (sgAt L (i + 1))) :
    Calls Tryz.prog 14 #[.slice a L.length cap, .int .i64 i] w fun e w' => e = .returned (.string (sgAt L (i + 1))) ∧ Below w.heap.size w w' := by
  obtain ⟨h0, _⟩ := sgAt_open ho
  obtain ⟨ii, rfl⟩ : ∃ ii : Nat, i = (ii : Int) := ⟨i.toNat, by omega⟩
  obtain ⟨sb, off, rfl, hsb, hc, hsm⟩ := h (ii + 1) (by omega)
  have hg : sgAt L ((ii : Int) + 1) = L[ii + 1] := by rw [sgAt_in (by omega) (by omega)]; rfl
  rw [← hg] at hc hsm
  have b40 : ((sgAt L ((ii : Int) + 1)).toList == [40]) = false := hp.1
  have b41 : ((sgAt L ((ii : Int) + 1)).toList == [41]) = false := hp.2
  have hwr : IntKind.i64.wrap ((ii : Int) + 1) = (ii : Int) + 1 := IntWalk.i64_in _ (by omega)
  have hp0 : (0 : Int) ≤ (ii : Int) + 1 := by omega
  have hpn : ((ii : Int) + 1).toNat = ii + 1 := by omega
  have HOP := opensI_yes (some ⟨sb, off, none⟩) cap L (ii : Int) w h hL hs ho hit
  clear hp hg
  generalize sgAt L ((ii : Int) + 1) = s at hc hsm b40 b41
  go_enter Tryz.func14, Tryz.ntmps14
  go_wp2_with fail
  refine HOP.mono ?_
  rintro e w1 ⟨rfl, hb1⟩
  have hc1 := (hb1.cell (p := ⟨sb, off + (ii + 1), none⟩) hsb).trans hc
  clear hc HOP
  go_wp2
  go_ret
  exact ⟨rfl, hb1⟩

set_option maxHeartbeats 1000000 in
theorem headOfI_nil (a : Option Addr) (cap : Nat) (w : World) (h : ArgT w a []) :
    Calls Tryz.prog 14 #[.slice a 0 cap, .int .i64 0] w fun e w' => e = .returned (.string ⟨#[]⟩) ∧ Below w.heap.size w w' := by
  have HE : Hid (Calls Tryz.prog 56 #[.slice a 0 cap, .int .i64 0] w fun e w' => e = .returned (.int .i64 (-1)) ∧ Below w.heap.size w w') := by
    have := itemEndI_any a cap [] 0 w h (by simp) rfl
    rw [itemE_none (Or.inr (Or.inl (by simp)))] at this
    exact this
  have HO : Calls Tryz.prog 23 #[.slice a 0 cap, .int .i64 0] w fun e w' => e = .returned (.bool false) ∧ Below w.heap.size w w' := by
    go_enter Tryz.func23, Tryz.ntmps23
    go_wp2_with fail
    refine HE.out.mono ?_
    rintro e w1 ⟨rfl, hb1⟩
    go_wp2
    go_ret
    exact ⟨rfl, hb1⟩
  have HO' : Hid (Calls Tryz.prog 23 #[.slice a 0 cap, .int .i64 0] w fun e w' => e = .returned (.bool false) ∧ Below w.heap.size w w') := HO
  clear HO HE
  go_enter Tryz.func14, Tryz.ntmps14
  go_wp2_with fail
  refine HO'.out.mono ?_
  rintro e w1 ⟨rfl, hb1⟩
  clear HO'
  go_wp2
  go_ret
  exact ⟨rfl, hb1⟩

set_option maxRecDepth 100000 in
set_option maxHeartbeats 4000000 in
theorem varsOfI_any (a : Option Addr) (cap : Nat) (L : List ByteArray) (w : World) (ht : Tab w) (h : ArgT w a L) (hL : L.length ≤ 1048576) :
    Calls Tryz.prog 7 #[.slice a L.length cap] w fun e w' => ∃ g n cp, e = .returned (.slice (some ⟨g, 0, none⟩) n cp) ∧ n = (varE L).length ∧ OwnG w' w.heap.size g n cp (varE L) ∧ Below w.heap.size w w' := by
  have hB0 := balloc (Below.refl w.heap.size w) (.cells #[] 9)
  have HG0 : Hid (OwnG (w.alloc (.cells #[] 9)) w.heap.size w.heap.size 0 0 []) := World.ownsRow_made w #[] 0 (Nat.le_refl _) (Nat.zero_le _) rfl
  cases hp : playB L
  · have HP : Hid (playB L = false) := hp
    have HV : Hid (varE L = []) := var_no L (Or.inl hp)
    clear hp
    go_enter Tryz.func7, Tryz.ntmps7
    go_wp2_with fail
    refine (playOkI_any a cap L _ (tab_call ht hB0) (h.call hB0) hL).mono ?_
    rintro e w1 ⟨rfl, hb1⟩
    rw [HP.out]
    have hB1 := bstep hB0 hb1
    have HG1 : Hid (OwnG w1 w.heap.size w.heap.size 0 0 []) := own_kept HG0.out (fun g hg => hb1.block g (World.ownsRow.lt HG0.out g hg).2)
    go_wp2
    go_ret
    exact ⟨_, _, _, rfl, by rw [HV.out]; rfl, by rw [HV.out]; exact HG1.out, hB1⟩
  · have HP : Hid (playB L = true) := hp
    have hsg := play_signs hp
    by_cases h0 : L.length = 0
    · have hnil : L = [] := List.length_eq_zero_iff.mp h0
      subst hnil
      have HV : Hid (varE [] = []) := var_no [] (Or.inr (by rw [sgAt_out (by simp), isW_nil _ (by decide)]))
      have HPO : Hid (Calls Tryz.prog 13 #[.slice a 0 cap] (w.alloc (.cells #[] 9)) fun e w' => e = .returned (.bool (playB [])) ∧ Below (w.alloc (.cells #[] 9)).heap.size (w.alloc (.cells #[] 9)) w') := playOkI_any a cap [] _ (tab_call ht hB0) (h.call hB0) hL
      clear hp h0 hL hsg
      show Calls Tryz.prog 7 #[.slice a 0 cap] w _
      go_enter Tryz.func7, Tryz.ntmps7
      go_wp2_with fail
      refine HPO.out.mono ?_
      rintro e w1 ⟨rfl, hb1⟩
      rw [HP.out]
      have hB1 := bstep hB0 hb1
      have HG1 : Hid (OwnG w1 w.heap.size w.heap.size 0 0 []) := own_kept HG0.out (fun g hg => hb1.block g (World.ownsRow.lt HG0.out g hg).2)
      clear HPO
      go_wp2_with fail
      refine (headOfI_nil a cap _ (fun i hi => absurd hi (Nat.not_lt_zero _))).mono ?_
      rintro e w2 ⟨rfl, hb2⟩
      have hB2 := bstep hB1 hb2
      have HG2 : Hid (OwnG w2 w.heap.size w.heap.size 0 0 []) := own_kept HG1.out (fun g hg => hb2.block g (World.ownsRow.lt HG1.out g hg).2)
      go_wp2
      go_ret
      exact ⟨_, _, _, rfl, by rw [HV.out]; rfl, by rw [HV.out]; exact HG2.out, hB2⟩
    · have hfd := play_first hp (by omega)
      have hv0 : ItV L 0 := Or.inr hfd
      have ho := deed_open hfd
      have hd := deed_long hfd
      have hpl := hv0.plain ho
      have hit := deed_item hfd
      have HHD : Hid (∀ W, ArgT W a L → Calls Tryz.prog 14 #[.slice a L.length cap, .int .i64 0] W fun e w' => e = .returned (.string (sgAt L 1)) ∧ Below W.heap.size W w') := fun W hA => headOfI_yes a cap L 0 W hA hL hsg ho (by omega) (by omega) hpl
      cases hv : isW (sgAt L 1) [118, 97, 114, 115]
      · have HV : Hid (varE L = []) := var_no L (Or.inr hv)
        have bv : ((sgAt L 1).toList == [118, 97, 114, 115]) = false := hv
        clear hp hv h0 hpl
        go_enter Tryz.func7, Tryz.ntmps7
        go_wp2_with fail
        refine (playOkI_any a cap L _ (tab_call ht hB0) (h.call hB0) hL).mono ?_
        rintro e w1 ⟨rfl, hb1⟩
        rw [HP.out]
        have hB1 := bstep hB0 hb1
        have HG1 : Hid (OwnG w1 w.heap.size w.heap.size 0 0 []) := own_kept HG0.out (fun g hg => hb1.block g (World.ownsRow.lt HG0.out g hg).2)
        go_wp2_with fail
        refine (HHD.out _ (h.call hB1)).mono ?_
        rintro e w2 ⟨rfl, hb2⟩
        have hB2 := bstep hB1 hb2
        have HG2 : Hid (OwnG w2 w.heap.size w.heap.size 0 0 []) := own_kept HG1.out (fun g hg => hb2.block g (World.ownsRow.lt HG1.out g hg).2)
        clear HHD
        generalize sgAt L 1 = s at bv
        go_wp2
        go_ret
        exact ⟨_, _, _, rfl, by rw [HV.out]; rfl, by rw [HV.out]; exact HG2.out, hB2⟩
      · have HVE := var_yes L hp hv
        have HVE' : Hid (varE L = slc L 2 (fm L 5 2)) := HVE
        have hvs := var_short L
        have bv : ((sgAt L 1).toList == [118, 97, 114, 115]) = true := hv
        obtain ⟨_, n1, n2, n3, n4⟩ := play_vars hp hv
        obtain ⟨c1, c2, c3⟩ := chI_names (L := L) (fm L 5 2 - 2).toNat 2 (by omega) (by omega) (fun j h6 h7 => n4 j h6 (by omega))
        obtain ⟨k, hk⟩ : ∃ k, k = (fm L 5 2 - 2).toNat := ⟨_, rfl⟩
        rw [← hk] at c1 c2 c3
        have hke : 2 + (k : Int) = fm L 5 2 := by omega
        rw [hke] at c1 c2 c3
        have HMAP : Hid ((chainP L k 2).map (sgAt L) = varE L) := by
          show _ = _
          rw [c2, HVE]
        have HPP : Hid (∀ W, ArgT W a L → Calls Tryz.prog 15 #[.slice a L.length cap, .int .i64 0] W fun r W' => ∃ av cv, r = .returned (.slice av k cv) ∧ k ≤ cv ∧ RowN W.heap.size W' av (chainP L k 2) ∧ Below W.heap.size W W') := fun W hA => partsOf_any a cap L 0 (fm L 5 2) k hL hsg hv0 ho c1 (by omega) n2 n3 W hA
        have hXl := chP_len L k 2
        have hNb : ∀ y ∈ chainP L k 2, 0 ≤ y ∧ y < (L.length : Int) := fun y hy => by have := c3 y hy; omega
        have hk2 : k ≤ 2000 := by
          rw [← HMAP.out, List.length_map, hXl] at hvs
          exact hvs
        obtain ⟨i0, hi, hz0, hz1, hz2⟩ := info_parts infoT
        obtain ⟨X, hX⟩ : ∃ X, X = chainP L k 2 := ⟨_, rfl⟩
        rw [← hX] at HMAP HPP hXl hNb
        clear hp hv h0 hpl c1 c2 c3 n1 n2 n3 n4 hk hke HVE hvs hX hv0 ho hfd hd hit
        go_enter Tryz.func7, Tryz.ntmps7
        go_wp2_with fail
        refine (playOkI_any a cap L _ (tab_call ht hB0) (h.call hB0) hL).mono ?_
        rintro e w1 ⟨rfl, hb1⟩
        rw [HP.out]
        have hB1 := bstep hB0 hb1
        have HG1 : Hid (OwnG w1 w.heap.size w.heap.size 0 0 []) := own_kept HG0.out (fun g hg => hb1.block g (World.ownsRow.lt HG0.out g hg).2)
        go_wp2_with fail
        refine (HHD.out _ (h.call hB1)).mono ?_
        rintro e w2 ⟨rfl, hb2⟩
        have hB2 := bstep hB1 hb2
        have HG2 : Hid (OwnG w2 w.heap.size w.heap.size 0 0 []) := own_kept HG1.out (fun g hg => hb2.block g (World.ownsRow.lt HG1.out g hg).2)
        clear HHD hB0 HG0 HG1 hB1
        generalize sgAt L 1 = s at bv
        have hz2' : w.heap.size < w2.heap.size := (World.ownsRow.lt HG2.out w.heap.size rfl).2
        go_wp2_with fail
        refine (HPP.out _ (h.call hB2)).mono ?_
        rintro r w3 ⟨av, cv, rfl, hcv, hRn, hb3⟩
        have hB3 := bstep hB2 hb3
        have HG3 : Hid (OwnG w3 w.heap.size w.heap.size 0 0 []) := own_kept HG2.out (fun g hg => hb3.block g (World.ownsRow.lt HG2.out g hg).2)
        have hR3 := hRn.one hz2'
        clear HPP hRn hb1 hb2 hb3 hB2 HG2 hz2'
        have hXk : k ≤ X.length := by omega
        have hXk' : X.length ≤ k := by omega
        clear hXl
        go_wp2
        go_loopw [3, 19] (fun v3 v19 wr => ∃ (m g n5 c5 : Nat), v19 = .int .i64 (m : Int) ∧ v3 = .slice (some ⟨g, 0, none⟩) n5 c5 ∧ m ≤ k ∧ Hid (n5 = m) ∧ OwnG wr w.heap.size g n5 c5 ((X.map (sgAt L)).take m) ∧ RowI (fun k => k = g) wr av X ∧ Below w.heap.size w wr) (fun _ v19 _ => k - (intOf v19).toNat)
        case atStart => exact ⟨0, _, 0, 0, rfl, rfl, Nat.zero_le _, rfl, by rw [List.take_zero]; exact HG3.out, hR3, hB3⟩
        case round =>
          clear HG3 hR3 hB3
          obtain ⟨m, g, n6, c6, rfl, rfl, hm, HN, hG, hRd, hB⟩ := hrel
          by_cases hlt : m < k
          · obtain ⟨sy, oy, rfl, hsy, _, hcy⟩ := hRd m (by omega)
            obtain ⟨y0, y1⟩ := hNb _ (List.getElem_mem (show m < X.length by omega))
            have HTK : Hid ((X.map (sgAt L)).take (m + 1) = (X.map (sgAt L)).take m ++ [sgAt L X[m]]) := by
              have := List.take_succ_eq_append_getElem (l := X.map (sgAt L)) (i := m) (by simp; omega)
              rw [List.getElem_map] at this
              exact this
            generalize X[m] = y at hcy y0 y1 HTK
            obtain ⟨yy, rfl⟩ : ∃ yy : Nat, y = (yy : Int) := ⟨y.toNat, by omega⟩
            obtain ⟨sa, oa, rfl, hsa, hac, ham⟩ := h yy (by omega)
            have hac' := (hB.cell (p := ⟨sa, oa + yy, none⟩) hsa).trans hac
            have hsg' : sgAt L (yy : Int) = L[yy] := by rw [sgAt_in (by omega) (by omega)]; rfl
            rw [← hsg'] at hac' ham
            have htn : (m : Int) < (k : Int) := by omega
            have hn62 : n6 + 1 ≤ 2001 := by rw [HN.out]; omega
            clear hac hsg'
            generalize sgAt L (yy : Int) = t at hac' ham HTK
            have hcc2 : ∀ u ∈ [Value.string t], u.oneCell' = true := fun u hu => by simp at hu; subst hu; rfl
            have hcc3 : n6 + 1 ≤ maxLen := by unfold maxLen; omega
            have hcc4 : (n6 + 1) * 16 ≤ 140737488355328 := by omega
            have hsz := hB.size
            have hcc5 : w.heap.size ≤ (wr.alloc (.cells #[.string t] 9)).heap.size := by simp; omega
            obtain ⟨Q, hQ⟩ : ∃ Q, Q = (X.map (sgAt L)).take m := ⟨_, rfl⟩
            have HQ : Hid (Q = (X.map (sgAt L)).take m) := hQ
            rw [← hQ] at hG
            have HG : Hid (OwnG wr w.heap.size g n6 c6 Q) := hG
            clear hG hQ
            go_wp2_with (at_builtin; refine wpList_append_at _ rfl _ _ 22 rfl w.heap.size 9 i0 (.string ⟨#[]⟩) 1 16 Tryz.underlying22 hi hz0 hz1 hz2 rfl (by decide) _ _ _ rfl (World.ownsRow.alloc HG.out _) ⟨wr.heap.size, 0, none⟩ 1 1 [.string t] rfl rfl (cell_one_new _ _ _) hcc2 hcc3 hcc4 hcc5 ?_)
            intro v' w5 hown' hgrow hwh
            obtain ⟨g5, c7, rfl⟩ := ownsRow_succ hown'
            have hw5 : g5 = g ∨ g5 = (wr.alloc (.cells #[.string t] 9)).heap.size := by
              rcases hwh g5 rfl with e | e
              · left; simpa [Value.ownBlock] using e.symm
              · right; rw [World.size_alloc]; exact e
            have hG5 : OwnG w5 w.heap.size g5 (n6 + 1) c7 ((X.map (sgAt L)).take (m + 1)) := by
              rw [HTK.out, ← HQ.out]
              unfold OwnG
              rw [List.map_append]
              exact hown'
            have hRd5 := rowI_app hRd hgrow hw5
            have hB5 : Below w.heap.size w w5 := (hB.alloc hB.size (.cells #[.string t] 9)).grown hgrow (by simp; omega) (fun k hk => (World.ownsRow.lt HG.out k hk).1)
            clear hown' hgrow hwh hw5 hRd hcc2 hcc3 hcc4 hcc5
            go_wp2
            go_roundw
            case rel => exact ⟨m + 1, g5, n6 + 1, c7, by go_num, rfl, by omega, by rw [HN.out]; rfl, hG5, hRd5, hB5⟩
            case measure => simp [intOf]; omega
          · have e1 : (X.map (sgAt L)).take m = varE L := by rw [List.take_of_length_le (by rw [List.length_map]; omega), HMAP.out]
            have HL : Hid (n6 = (varE L).length) := by
              show n6 = (varE L).length
              rw [HN.out, ← HMAP.out, List.length_map]
              omega
            rw [e1] at hG
            have HG : Hid (OwnG wr w.heap.size g n6 c6 (varE L)) := hG
            have htn : ¬ (m : Int) < (k : Int) := by omega
            clear e1 hG hRd
            go_wp2
            go_ret
            exact ⟨_, _, _, rfl, HL.out, HG.out, hB⟩
end Go.Proofs.YtdggghbeicmanaaGreatDoorRR
