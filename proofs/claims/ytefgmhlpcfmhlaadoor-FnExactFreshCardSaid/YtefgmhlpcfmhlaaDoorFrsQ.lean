/-
  Chapter 7: Fresh and FreshMany, the program's and the model's.
-/
import Derived.Test.YtefgmhlpcfmhlaaDoorFrsP
namespace Go.Proofs.YtefgmhlpcfmhlaaDoor
open Go.RowKit

/-- The fresh name, the first fresh names. -/
def frE (L : List ByteArray) (n : Int) : ByteArray := if 0 ≤ n ∧ n ≤ 99999 then vN (frN (nmsE L) n.toNat) else ⟨#[]⟩
def fmE (L : List ByteArray) (n : Int) : List ByteArray := if 0 ≤ n ∧ n ≤ 200 then frM (nmsE L) n.toNat 0 else []
theorem fmE_len (L : List ByteArray) (n : Int) : (fmE L n).length ≤ 200 := by
  unfold fmE
  split
  · rw [frM_len]; omega
  · exact Nat.zero_le _
theorem nms_rise (L : List ByteArray) : Rise (nmsE L) := putAll_rise _ _ List.Pairwise.nil

theorem freshIn_any (n lo hi : Int) (w : World) :
    Calls Tryd.prog 14 #[.int .i64 n, .int .i64 lo, .int .i64 hi] w fun e w' => e = .returned (.bool (decide (lo ≤ n ∧ n ≤ hi))) ∧ w = w' := by
  refine (l1In_any n lo hi w).mono ?_
  rintro e w' ⟨rfl, hw⟩
  exact ⟨by rw [Bool.decide_and], hw.symm⟩
theorem OwnN.lstUp {B g n cp : Nat} {w : World} {X : List ByteArray} (h : OwnN w B (.slice (some ⟨g, 0, none⟩) n cp) X) (hs : ∀ i (h : i < X.length), X[i].size ≤ maxLen) : Lst (g + 1) w (.slice (some ⟨g, 0, none⟩) n cp) X := by
  have hB := h.lo.1
  have h1 : OwnN w B (.slice (some ⟨g, 0, none⟩) n cp) X := h
  rcases h1.1.2 with ⟨hv, _⟩ | ⟨g', cap', cur, hv, hB', hg, hcap, hmax, hsz, htake⟩
  · cases hv
  · have hv' := hv
    injection hv with ha _ hc
    injection ha with ha
    injection ha with e1 _ _
    subst e1 hc
    refine Or.inr ⟨g, 0, cp, hv', hcap, hmax, (Array.getElem?_eq_some_iff.1 hg).1, by omega, fun i hi => ⟨?_, hs i hi⟩⟩
    have hc := h.cells i (.string X[i]) (by simp [hi])
    rw [Nat.zero_add]
    have hplain : (⟨g, 0, none⟩ : Addr).add i = ⟨g, i, none⟩ := by
      unfold Addr.add
      split
      · simp_all
      · simp
    rw [hplain] at hc
    exact hc

set_option maxHeartbeats 1000000 in
theorem freshS_any (a : Option Addr) (cap : Nat) (L : List ByteArray) (n : Int) (w : World) (h : ArgT w a L) (hL : L.length ≤ 1048576) :
    Calls Tryd.prog 6 #[.slice a L.length cap, .int .i64 n] w fun e w' => e = .returned (.string (frE L n)) ∧ Below w.heap.size w w' := by
  by_cases hn : 0 ≤ n ∧ n ≤ 99999
  · have HD : Hid (decide ((0 : Int) ≤ n ∧ n ≤ 99999) = true) := decide_eq_true hn
    have HE : Hid (frE L n = vN (frN (nmsE L) n.toNat)) := if_pos hn
    have HS : Hid (∀ i (h : i < (nmsE L).length), (nmsE L)[i].size ≤ maxLen) := fun i hi => by
      have hm := (nms_mem L _).mp (List.getElem_mem hi)
      obtain ⟨j, hj, he⟩ := List.getElem_of_mem hm.1
      rw [← he]
      obtain ⟨_, _, _, _, _, h6⟩ := h j hj
      exact h6
    have hxl := nms_len L
    obtain ⟨k, rfl⟩ : ∃ k : Nat, n = (k : Int) := ⟨n.toNat, by omega⟩
    rw [Int.toNat_natCast] at HE
    have hk : k ≤ 99999 := by omega
    clear hn
    go_enter Tryd.func6, Tryd.ntmps6
    go_wp2_with fail
    refine (freshIn_any _ _ _ _).mono ?_
    rintro e w0 ⟨rfl, rfl⟩
    rw [HD.out]
    go_wp2_with fail
    refine (namesInS_any a cap L _ h hL).mono ?_
    rintro e w1 ⟨v, rfl, hO, hb1⟩
    obtain ⟨g1, c1, rfl⟩ := hO.shape
    have hlst := hO.lstUp HS.out
    have HR : Hid (∀ W, Lst (g1 + 1) W (.slice (some ⟨g1, 0, none⟩) (nmsE L).length c1) (nmsE L) → Calls Tryd.prog 15 #[.slice (some ⟨g1, 0, none⟩) (nmsE L).length c1, .int .i64 (k : Int)] W fun e w' => e = .returned (.tuple #[.string (vN (frN (nmsE L) k)), .int .i64 (frN (nmsE L) k : Int)]) ∧ Below W.heap.size W w') := fun W hW => l7Fresh_any (g1 + 1) _ (nmsE L) k W hW (by omega) (by omega)
    go_wp2_with fail
    refine (HR.out _ hlst).mono ?_
    rintro e w2 ⟨rfl, hb2⟩
    have hB2 := bstep hb1 hb2
    clear HR hlst hO hb1 hb2
    go_wp2
    go_ret
    exact ⟨by rw [HE.out]; rfl, hB2⟩
  · have HD : Hid (decide ((0 : Int) ≤ n ∧ n ≤ 99999) = false) := decide_eq_false hn
    have HE : Hid (frE L n = ⟨#[]⟩) := if_neg hn
    clear hn
    go_enter Tryd.func6, Tryd.ntmps6
    go_wp2_with fail
    refine (freshIn_any _ _ _ _).mono ?_
    rintro e w0 ⟨rfl, rfl⟩
    rw [HD.out]
    go_wp2
    go_ret
    exact ⟨by rw [HE.out]; rfl, Below.refl _ _⟩

set_option maxHeartbeats 1000000 in
theorem freshI_any (a : Option Addr) (cap : Nat) (L : List ByteArray) (n : Int) (w : World) (ht : Tab w) (h : ArgT w a L) (hL : L.length ≤ 1048576) :
    Calls Tryd.prog 8 #[.slice a L.length cap, .int .i64 n] w fun e w' => e = .returned (.string (frE L n)) ∧ Below w.heap.size w w' := by
  by_cases hn : 0 ≤ n ∧ n ≤ 99999
  · have HE : Hid (frE L n = vN (frN (nmsE L) n.toNat)) := if_pos hn
    have hxl := nms_len L
    have hri := nms_rise L
    obtain ⟨k, rfl⟩ : ∃ k : Nat, n = (k : Int) := ⟨n.toNat, by omega⟩
    rw [Int.toNat_natCast] at HE
    have hk : k ≤ 99999 := by omega
    have h1 : ¬ (k : Int) < 0 := by omega
    have h2 : ¬ (99999 : Int) < (k : Int) := by omega
    obtain ⟨_, f1, _, _⟩ := fr_said (nmsE L) k
    clear hn
    go_enter Tryd.func8, Tryd.ntmps8
    go_wp2_with fail
    refine (namesInI_any a cap L _ h hL).mono ?_
    rintro e w1 ⟨g1, n1, c1, rfl, hn1, hG1, hb1⟩
    have hr1 := hG1.row.1
    have ht1 := tab_call ht hb1
    have HF : Hid (Calls Tryd.prog 18 #[.slice (some ⟨g1, 0, none⟩) n1 c1, .int .i64 (k : Int)] w1 fun e w' => e = .returned (.int .i64 (frN (nmsE L) k : Int)) ∧ Below w1.heap.size w1 w') := freshNumber_any g1 n1 c1 (nmsE L) k w1 hr1 hri hn1 (by omega) (by omega) ht1
    clear hn1 hG1
    go_wp2_with fail
    refine HF.out.mono ?_
    rintro e w2 ⟨rfl, hb2⟩
    have hB2 := bstep hb1 hb2
    go_wp2_with fail
    refine (freshName_any (frN (nmsE L) k) _ (by omega) (tab_call ht hB2)).mono ?_
    rintro e w3 ⟨rfl, hb3⟩
    have hB3 := bstep hB2 hb3
    clear HF hb1 hb2 hb3 hB2
    go_wp2
    go_ret
    exact ⟨by rw [HE.out]; rfl, hB3⟩
  · have HE : Hid (frE L n = ⟨#[]⟩) := if_neg hn
    by_cases h1 : n < 0
    · clear hn
      go_enter Tryd.func8, Tryd.ntmps8
      go_wp2
      go_ret
      exact ⟨by rw [HE.out]; rfl, Below.refl _ _⟩
    · have h2 : (99999 : Int) < n := by omega
      clear hn
      go_enter Tryd.func8, Tryd.ntmps8
      go_wp2
      go_ret
      exact ⟨by rw [HE.out]; rfl, Below.refl _ _⟩

set_option maxHeartbeats 1000000 in
theorem freshManyS_any (a : Option Addr) (cap : Nat) (L : List ByteArray) (n : Int) (w : World) (h : ArgT w a L) (hL : L.length ≤ 1048576) :
    Calls Tryd.prog 10 #[.slice a L.length cap, .int .i64 n] w fun e w' => ∃ v, e = .returned v ∧ OwnN w' w.heap.size v (fmE L n) ∧ Below w.heap.size w w' := by
  by_cases hn : 0 ≤ n ∧ n ≤ 200
  · have HD : Hid (decide ((0 : Int) ≤ n ∧ n ≤ 200) = true) := decide_eq_true hn
    have HE : Hid (fmE L n = frM (nmsE L) n.toNat 0) := if_pos hn
    obtain ⟨k, rfl⟩ : ∃ k : Nat, n = (k : Int) := ⟨n.toNat, by omega⟩
    rw [Int.toNat_natCast] at HE
    have hk : k ≤ 200 := by omega
    have hkL : k * (L.length + 1) ≤ 900000000 := by
      have h1 := Nat.mul_le_mul hk (show L.length + 1 ≤ 1048577 by omega)
      omega
    clear hn
    go_enter Tryd.func10, Tryd.ntmps10
    go_wp2_with fail
    refine (freshIn_any _ _ _ _).mono ?_
    rintro e w0 ⟨rfl, rfl⟩
    rw [HD.out]
    go_wp2_with fail
    refine (l7Many_any a cap L k _ h hL hkL).mono ?_
    rintro e w1 ⟨v, rfl, hO, hb1⟩
    rw [← HE.out] at hO
    obtain ⟨g1, c1, rfl⟩ := hO.shape
    have HO : Hid _ := hO
    clear hO
    generalize (fmE L (k : Int)).length = m at HO
    go_wp2
    go_ret
    exact ⟨_, rfl, HO.out, hb1⟩
  · have HD : Hid (decide ((0 : Int) ≤ n ∧ n ≤ 200) = false) := decide_eq_false hn
    have HE : Hid (fmE L n = []) := if_neg hn
    have hO := ownN_new w w.heap.size (Nat.le_refl _)
    clear hn
    go_enter Tryd.func10, Tryd.ntmps10
    go_wp2_with fail
    refine (freshIn_any _ _ _ _).mono ?_
    rintro e w0 ⟨rfl, rfl⟩
    rw [HD.out]
    go_wp2
    go_ret
    exact ⟨_, rfl, by rw [HE.out]; exact hO, balloc (Below.refl _ _) _⟩

set_option maxHeartbeats 4000000 in
theorem freshNames_any (a : Option Addr) (cap : Nat) (L : List ByteArray) (N : Nat) (w : World) (ht : Tab w) (h : ArgT w a L) (hL : L.length ≤ 1048576) (hn : N * (L.length + 1) ≤ 900000000) :
    Calls Tryd.prog 21 #[.slice a L.length cap, .int .i64 (N : Int)] w fun e w' => ∃ g n cp, e = .returned (.slice (some ⟨g, 0, none⟩) n cp) ∧ n = (frM (nmsE L) N 0).length ∧ OwnG w' w.heap.size g n cp (frM (nmsE L) N 0) ∧ Below w.heap.size w w' := by
  obtain ⟨i0, hi, hz0, hz1, hz2⟩ := info_parts Tryd.infoS
  have hB0 := balloc (Below.refl w.heap.size w) (.cells #[] 9)
  have hO0 : (w.alloc (.cells #[] 9)).ownsRow w.heap.size 9 1 (.slice (some ⟨w.heap.size, 0, none⟩) 0 0) 0 [] := World.ownsRow_made w #[] 0 (Nat.le_refl _) (Nat.zero_le _) rfl
  have hxl := nms_len L
  have hri := nms_rise L
  have hN1 : N ≤ 900000000 := Nat.le_trans (Nat.le_mul_of_pos_right N (by omega)) hn
  have hT : 0 + N * ((nmsE L).length + 1) ≤ 900000000 := by
    have := Nat.mul_le_mul_left N (show (nmsE L).length + 1 ≤ L.length + 1 by omega)
    omega
  have HNI : Hid (∀ W, ArgT W a L → Calls Tryd.prog 19 #[.slice a L.length cap] W fun e w' => ∃ g n cp, e = .returned (.slice (some ⟨g, 0, none⟩) n cp) ∧ n = (nmsE L).length ∧ OwnG w' W.heap.size g n cp (nmsE L) ∧ Below W.heap.size W w') := fun W hA => namesInI_any a cap L W hA hL
  generalize nmsE L = X at hxl hT HNI hri ⊢
  have hNl := frM_len X N 0
  obtain ⟨M, hM⟩ : ∃ M, M = frM X N 0 := ⟨_, rfl⟩
  have HM : Hid ([] ++ frM X N 0 = M) := by
    show [] ++ frM X N 0 = M
    rw [hM]; rfl
  rw [← hM] at hNl ⊢
  have HMl : Hid (M.length = N) := hNl
  have HRi : Hid (Rise X) := hri
  clear hM hn hNl hri
  go_enter Tryd.func21, Tryd.ntmps21
  go_wp2_with fail
  refine (HNI.out _ (h.call hB0)).mono ?_
  rintro e w1 ⟨vg, vn, vc, rfl, hvn, hG1, hb1⟩
  have hB1 := bstep hB0 hb1
  have hO1 := own_kept hO0 (fun k hk => hb1.block k (World.ownsRow.lt hO0 k hk).2)
  obtain ⟨hR1, hvg⟩ := hG1.row
  have hvg' : w.heap.size < vg := by simp at hvg; omega
  have hvz := hR1.1
  have HVN : Hid (vn = X.length) := hvn
  clear hvn hG1 hb1 hO0 hB0 HNI hvg
  go_wp2
  go_loopw [5, 7, 12] (fun v5 v7 v12 wr => ∃ (j m p g cp n5 : Nat) (Y : List ByteArray), v12 = .int .i64 (j : Int) ∧ j + m = N ∧ v7 = .int .i64 (p : Int) ∧ v5 = .slice (some ⟨g, 0, none⟩) n5 cp ∧ Hid (n5 = Y.length) ∧ p + m * (X.length + 1) ≤ 900000000 ∧ Hid (wr.ownsRow w.heap.size 9 1 (.slice (some ⟨g, 0, none⟩) n5 cp) n5 (Y.map Value.string)) ∧ Y.length + m ≤ N ∧ Hid (Y ++ frM X m p = M) ∧ RowT wr vg X ∧ g ≠ vg ∧ Below w.heap.size w wr) (fun _ _ v12 _ => N - (intOf v12).toNat)
  case atStart => exact ⟨0, N, 0, w.heap.size, 0, 0, [], rfl, by omega, rfl, rfl, rfl, hT, hO1, by simp, HM.out, hR1, by omega, hB1⟩
  case round =>
    obtain ⟨j, m, p, g, cp, n5, Y, rfl, hjm, rfl, rfl, HN5, hp, HO, hY, HR, hR, hne, hB⟩ := hrel
    have hvz : vg < wr.heap.size := hR.1
    cases m with
    | zero =>
      have e1 : Y = M := by rw [← HR.out]; show Y = Y ++ []; rw [List.append_nil]
      have HE : Hid (n5 = M.length ∧ OwnG wr w.heap.size g n5 cp M) := by
        refine ⟨by rw [HN5.out, e1], ?_⟩
        rw [← e1]
        exact HO.out
      have hj : ¬ (j : Int) < (N : Int) := by omega
      clear e1 HO hR
      go_wp2
      go_ret
      exact ⟨g, n5, cp, rfl, HE.out.1, HE.out.2, hB⟩
    | succ m =>
      obtain ⟨f0, f1, _, _⟩ := fr_said X p
      rw [Nat.succ_mul] at hp
      have hsz := hB.size
      have HR2 : Hid (Y ++ [vN (frN X p)] ++ frM X m (frN X p + 1) = M) := by
        show Y ++ [vN (frN X p)] ++ frM X m (frN X p + 1) = M
        rw [← HR.out, List.append_assoc]
        rfl
      have hp2 : frN X p + 1 + m * (X.length + 1) ≤ 900000000 := by omega
      have hfr : frN X p ≤ 900000000 := by omega
      have hj : (j : Int) < (N : Int) := by omega
      have HF : Hid (∀ W, RowT W vg X → Tab W → Calls Tryd.prog 18 #[.slice (some ⟨vg, 0, none⟩) vn vc, .int .i64 (p : Int)] W fun e w' => e = .returned (.int .i64 (frN X p : Int)) ∧ Below W.heap.size W w') := fun W hW hT => freshNumber_any vg vn vc X p W hW HRi.out HVN.out (by omega) (by omega) hT
      go_wp2_with fail
      refine (HF.out _ hR (tab_call ht hB)).mono ?_
      rintro e w2 ⟨rfl, hb2⟩
      have hB2 := bstep hB hb2
      have hR2 := hR.call hb2
      have HO2 : Hid (w2.ownsRow w.heap.size 9 1 (.slice (some ⟨g, 0, none⟩) n5 cp) n5 (Y.map Value.string)) := own_kept HO.out (fun g hg => hb2.block g (World.ownsRow.lt HO.out g hg).2)
      clear HF hR HO hB
      generalize frN X p = q at HR2 hp2 hfr ⊢
      go_wp2_with fail
      refine (freshName_any q _ (by omega) (tab_call ht hB2)).mono ?_
      rintro e w3 ⟨rfl, hb3⟩
      have hB3 := bstep hB2 hb3
      have hR3 := hR2.call hb3
      have HO3 : Hid (w3.ownsRow w.heap.size 9 1 (.slice (some ⟨g, 0, none⟩) n5 cp) n5 (Y.map Value.string)) := own_kept HO2.out (fun g hg => hb3.block g (World.ownsRow.lt HO2.out g hg).2)
      generalize vN q = t at HR2 ⊢
      clear HO2 hR2 hb2 hb3 hB2 HR f0 f1 hp
      have hcc2 : ∀ u ∈ [Value.string t], u.oneCell' = true := fun u hu => by simp at hu; subst hu; rfl
      have hn51 : n5 + 1 ≤ 900000001 := by rw [HN5.out]; omega
      have hcc3 : n5 + 1 ≤ maxLen := by unfold maxLen; omega
      have hcc4 : (n5 + 1) * 16 ≤ 140737488355328 := by omega
      have hsz3 := hB3.size
      have hcc5 : w.heap.size ≤ (w3.alloc (.cells #[.string t] 9)).heap.size := by simp; omega
      have hvz3 : vg < w3.heap.size := hR3.1
      go_wp2_with (at_builtin; refine wpList_append_at _ rfl _ _ 22 rfl w.heap.size 9 i0 (.string ⟨#[]⟩) 1 16 Tryd.underlying22 hi hz0 hz1 hz2 rfl (by decide) _ _ _ rfl (World.ownsRow.alloc HO3.out _) ⟨w3.heap.size, 0, none⟩ 1 1 [.string t] rfl rfl (cell_one_new _ _ _) hcc2 hcc3 hcc4 hcc5 ?_)
      intro v' w5 hown' hgrow hwh
      obtain ⟨g5, c7, rfl⟩ := ownsRow_succ hown'
      have hw5 : g5 ≠ vg := by
        rcases hwh g5 rfl with e | e
        · have e2 : g = g5 := by simpa [Value.ownBlock] using e
          omega
        · omega
      have hR5 : RowT w5 vg X := by
        have hA := hR3.call (balloc (Below.refl _ _) (.cells #[.string t] 9))
        have hk := hgrow.block vg hA.1 (fun e => hne (by simpa [Value.ownBlock] using e.symm))
        refine ⟨Nat.lt_of_lt_of_le hA.1 hgrow.size, fun i hi => ⟨(World.cell?_of_block (a := ⟨vg, i, none⟩) hk).trans (hA.2 i hi).1, (World.frozen?_of_block (a := ⟨vg, i, none⟩) hk).trans (hA.2 i hi).2⟩⟩
      have HO5 : Hid (w5.ownsRow w.heap.size 9 1 (.slice (some ⟨g5, 0, none⟩) (n5 + 1) c7) (n5 + 1) ((Y ++ [t]).map Value.string)) := by
        show w5.ownsRow w.heap.size 9 1 (.slice (some ⟨g5, 0, none⟩) (n5 + 1) c7) (n5 + 1) ((Y ++ [t]).map Value.string)
        rw [List.map_append]
        exact hown'
      have hB5 : Below w.heap.size w w5 := (hB3.alloc hB3.size (.cells #[.string t] 9)).grown hgrow (by simp; omega) (fun k hk => (World.ownsRow.lt HO3.out k hk).1)
      clear hown' hgrow hwh hcc2 hcc3 hcc4 hcc5 hR3 HO3 hB3
      go_wp2
      go_roundw
      case rel => exact ⟨j + 1, m, q + 1, g5, c7, n5 + 1, Y ++ [t], by go_num, by omega, by go_num, rfl, (by rw [HN5.out, List.length_append]; rfl : n5 + 1 = (Y ++ [t]).length), hp2, HO5.out, by simp; omega, HR2.out, hR5, hw5, hB5⟩
      case measure => simp [intOf]; omega

set_option maxHeartbeats 1000000 in
theorem freshManyI_any (a : Option Addr) (cap : Nat) (L : List ByteArray) (n : Int) (w : World) (ht : Tab w) (h : ArgT w a L) (hL : L.length ≤ 1048576) :
    Calls Tryd.prog 11 #[.slice a L.length cap, .int .i64 n] w fun e w' => ∃ g m cp, e = .returned (.slice (some ⟨g, 0, none⟩) m cp) ∧ m = (fmE L n).length ∧ OwnG w' w.heap.size g m cp (fmE L n) ∧ Below w.heap.size w w' := by
  by_cases hn : 0 ≤ n ∧ n ≤ 200
  · have HE : Hid (fmE L n = frM (nmsE L) n.toNat 0) := if_pos hn
    obtain ⟨k, rfl⟩ : ∃ k : Nat, n = (k : Int) := ⟨n.toNat, by omega⟩
    rw [Int.toNat_natCast] at HE
    have hk : k ≤ 200 := by omega
    have hkL : k * (L.length + 1) ≤ 900000000 := by
      have h1 := Nat.mul_le_mul hk (show L.length + 1 ≤ 1048577 by omega)
      omega
    have h1 : ¬ (k : Int) < 0 := by omega
    have h2 : ¬ (200 : Int) < (k : Int) := by omega
    clear hn
    go_enter Tryd.func11, Tryd.ntmps11
    go_wp2_with fail
    refine (freshNames_any a cap L k _ ht h hL hkL).mono ?_
    rintro e w1 ⟨g1, m1, c1, rfl, hm1, hG1, hb1⟩
    rw [← HE.out] at hm1 hG1
    have HM : Hid _ := hm1
    clear hm1
    go_wp2
    go_ret
    exact ⟨_, _, _, rfl, HM.out, hG1, hb1⟩
  · have HE : Hid (fmE L n = []) := if_neg hn
    have hO := World.ownsRow_made (base := w.heap.size) (e := 9) (size := 1) w #[] 0 (Nat.le_refl _) (Nat.zero_le _) rfl
    have HO : Hid (OwnG (w.alloc (.cells #[] 9)) w.heap.size w.heap.size 0 0 (fmE L n)) := by
      show OwnG _ _ _ _ _ _
      rw [HE.out]
      exact hO
    have HZ : Hid (0 = (fmE L n).length) := by
      show 0 = (fmE L n).length
      rw [HE.out]; rfl
    clear hO HE
    by_cases h1 : n < 0
    · clear hn
      go_enter Tryd.func11, Tryd.ntmps11
      go_wp2
      go_ret
      exact ⟨_, _, _, rfl, HZ.out, HO.out, balloc (Below.refl _ _) _⟩
    · have h2 : (200 : Int) < n := by omega
      clear hn
      go_enter Tryd.func11, Tryd.ntmps11
      go_wp2
      go_ret
      exact ⟨_, _, _, rfl, HZ.out, HO.out, balloc (Below.refl _ _) _⟩

end Go.Proofs.YtefgmhlpcfmhlaaDoor
