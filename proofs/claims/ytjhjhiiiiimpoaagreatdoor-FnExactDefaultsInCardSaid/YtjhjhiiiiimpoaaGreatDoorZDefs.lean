/-
  Defs: FormN, FormO, DefL, DefS, DefP, LawScoped, DefI, LawDefaultsIn, in one text.
-/
import Derived.Test.YtjhjhiiiiimpoaaGreatDoorZRdTwo
import Derived.Test.YtjhjhiiiiimpoaaGreatDoorZFreeC
import Derived.Test.YtjhjhiiiiimpoaaGreatDoorZOlds
import Derived.Test.YtjhjhiiiiimpoaaGreatDoorZMaps
import Derived.Test.YtjhjhiiiiimpoaaGreatDoorZRdN
import Derived.Test.YtjhjhiiiiimpoaaGreatDoorZPlain
import Derived.Deep.RegionLaw
/-
  Chapter 6 in plain words: each ( of a play has a sign behind it, and where that is fn a fn begins there.
-/
namespace Go.Proofs.YtjhjhiiiiimpoaaGreatDoor
open Go.RowKit

/-- What holds at each place of a play. -/
def Gk (L : List ByteArray) (k : Int) : Prop := isW (sgAt L k) [40] = true → k + 1 < (L.length : Int) ∧ (isW (sgAt L (k + 1)) [102, 110] = true → fm L 0 k ≠ -1)
/-- Nowhere, or so from i up to it. -/
def Gx (L : List ByteArray) (i x : Int) : Prop := x = -1 ∨ ∀ k, i ≤ k → k < x → Gk L k
section
variable {L : List ByteArray} {i j x : Int}
theorem gk_not (h : isW (sgAt L i) [40] = false) : Gk L i := fun ho => by rw [h] at ho; cases ho
theorem gk_open (h1 : i + 1 < (L.length : Int)) (h2 : isW (sgAt L (i + 1)) [102, 110] = false) : Gk L i := fun _ => ⟨h1, fun h => by rw [h2] at h; cases h⟩
theorem nm_fn {s : ByteArray} (h : nmB s = true) : isW s [102, 110] = false := by
  cases hc : isW s [102, 110]
  · rfl
  · rw [isW_eq hc] at h
    exact absurd h (by decide +kernel)
theorem gx_at : Gx L i i := Or.inr fun k h1 h2 => absurd h2 (by omega)
theorem gx_no : Gx L i (-1) := Or.inl rfl
theorem gx_ite {c : Prop} [Decidable c] {y : Int} (h1 : Gx L i x) (h2 : Gx L i y) : Gx L i (if c then x else y) := by split <;> assumption
theorem Gx.trans {y : Int} (h : Gx L i x) (hn : x = -1 → y = -1) (k : Gx L x y) : Gx L i y := by
  rcases h with h | h
  · exact Or.inl (hn h)
  · rcases k with k | k
    · exact Or.inl k
    · exact Or.inr fun j h1 h2 => if hj : j < x then h j h1 hj else k j (by omega) h2
theorem gx_more (h : Gx L i x) (hx : x ≠ -1) (hg : Gk L x) : Gx L i (x + 1) := by
  rcases h with h | h
  · exact absurd h hx
  · refine Or.inr fun k h2 h3 => ?_
    by_cases hk : k < x
    · exact h k h2 hk
    · have : k = x := by omega
      subst this
      exact hg
theorem gx_isE (h : Gx L i x) : Gx L i (isE L x [41]) := by
  by_cases hn : isE L x [41] = -1
  · exact Or.inl hn
  · obtain ⟨he, h0, h1, hb⟩ := isE_pos (by decide) hn
    rw [he]
    exact gx_more h (by omega) (gk_not (isW_other hb (by decide)))
theorem gx_isO (hg : Gk L x) (h : Gx L i x) : Gx L i (isE L x [40]) := by
  by_cases hn : isE L x [40] = -1
  · exact Or.inl hn
  · obtain ⟨he, h0, h1, hb⟩ := isE_pos (by decide) hn
    rw [he]
    exact gx_more h (by omega) hg
theorem gx_nm (h : Gx L i x) : Gx L i (nmE L x) := by
  by_cases hn : nmE L x = -1
  · exact Or.inl hn
  · obtain ⟨he, h0, h1, hb⟩ := nmE_pos hn
    rw [he]
    exact gx_more h (by omega) (gk_not (nm_plain hb).1)
theorem gx_form (hG : Gk L i) (hp : Gk L (i + 1)) (h : Gx L (i + 2) x) : Gx L i x := by
  rcases h with h | h
  · exact Or.inl h
  · refine Or.inr fun k h2 h3 => ?_
    by_cases h4 : k = i
    · subst h4; exact hG
    · by_cases h5 : k = i + 1
      · subst h5; exact hp
      · exact h k (by omega) h3
/-- So it is behind j. -/
def Cl (L : List ByteArray) (j : Int) : Prop := ∀ m x, m ≤ 11 → Fw L j x → Gx L x (fm L m x)
theorem Cl.go (hr : Cl L j) {m : Nat} (hm : m ≤ 11) (hF : Fw L j x) (h : Gx L i x) : Gx L i (fm L m x) := h.trans (fun e => by rw [e]; exact fm_none m hm) (hr m x hm hF)
/-- The ( of a form. -/
theorem gk_it (h : ItV L i) (ho : isW (sgAt L i) [40] = true) (hf : isW (sgAt L (i + 1)) [102, 110] = true → fm L 0 i ≠ -1) : Gk L i ∧ Gk L (i + 1) := by
  have hp := h.plain ho
  obtain ⟨hit, k, e, hch, he0, he1, _, _⟩ := h.parts ho
  have hk := chI_ends k _ hch he0
  exact ⟨fun _ => ⟨by omega, hf⟩, gk_not hp.1⟩
theorem gk_fn (h : ItV L i) (ho : isW (sgAt L i) [40] = true) (hc : isW (sgAt L (i + 1)) [102, 110] = true) : Gk L (i + 2) := by
  obtain ⟨_, k, e7, _, _, hq, h0, h1, h41, _⟩ := h.fn ho hc
  have hk := chainQ_ends k _ hq h0
  refine gk_open (by omega) ?_
  rw [show i + 2 + 1 = i + 3 by omega]
  cases k with
  | zero =>
    have e1 : i + 3 = e7 := hq
    rw [e1]
    exact isW_other h41 (by decide)
  | succ k =>
    rcases (par_at hq.1).2.2 with ⟨p1, _⟩ | ⟨_, p2, _⟩
    · exact isW_other p1 (by decide)
    · exact nm_fn p2
theorem sumS_gx (hr : Cl L (i + 2)) : Gx L i (sumS L (fm L) i) := by
  by_cases hne : sumS L (fm L) i = -1
  · exact Or.inl hne
  rw [← fm_sum] at hne
  have hv : ItV L i := Or.inl hne
  cases ho : isW (sgAt L i) [40]
  · unfold sumS
    rw [ho]
    simp only [Bool.false_eq_true, if_false]
    split
    · exact gx_more gx_at (by have := hv.ends; omega) (gk_not ho)
    · exact gx_no
  · obtain ⟨g0, g1⟩ := gk_it hv ho (fun _ => hne)
    obtain ⟨h0, h1⟩ := sgAt_open ho
    refine gx_form g0 g1 ?_
    have hg := fm_good L
    have hs : Fw L (i + 2) (i + 2) := fw_at (by omega)
    have ha : Gx L (i + 2) (i + 2) := gx_at
    unfold sumS
    rw [ho]
    simp only [if_true]
    split
    · exact gx_isE (hr.go (by decide) hs ha)
    · split
      · rename_i hf
        have g2 := gk_fn hv ho hf
        have F7 := (isE_ends (c := [40]) (by decide) hs).fw
        have F6 := (isE_ends (c := [41]) (by decide) (hg.fw (m := 7) (by decide) F7)).fw
        exact gx_isE (hr.go (by decide) F6 (gx_isE (hr.go (by decide) F7 (gx_isO g2 ha))))
      · split
        · exact gx_isE (hr.go (by decide) (hg.ends (m := 0) (by decide) hs).fw (hr.go (by decide) hs ha))
        · split
          · exact gx_isE (hr.go (by decide) hs ha)
          · split
            · exact gx_isE ha
            · split
              · exact gx_isE (hr.go (by decide) (nmE_ends hs).fw (gx_nm ha))
              · exact gx_no
theorem deedS_gx (f : Bool) (hr : Cl L (i + 2)) : Gx L i (deedS L (fm L) f i) := by
  by_cases hne : deedS L (fm L) f i = -1
  · exact Or.inl hne
  have hd : fm L 1 i ≠ -1 := by
    cases f
    · rw [← fm_deed2] at hne
      rw [rule_deed hne]
      exact hne
    · rw [← fm_deed] at hne
      exact hne
  have hv : ItV L i := Or.inr hd
  have ho := deed_open hd
  obtain ⟨h0, h1⟩ := sgAt_open ho
  obtain ⟨g0, g1⟩ := gk_it hv ho (fun hf => by
    exfalso
    have he := deed_at hd
    rw [isW_eq hf] at he
    exact hd (he.trans (by unfold deedH; simp [isW_lit])))
  have hg := fm_good L
  have hs : Fw L (i + 2) (i + 2) := fw_at (by omega)
  have ha : Gx L (i + 2) (i + 2) := gx_at
  refine gx_form g0 g1 ?_
  unfold deedS
  rw [if_pos ho]
  split
  · exact gx_no
  · cases ht : isW (sgAt L (i + 1)) [116, 97, 107, 101]
    · unfold deedH
      rw [ht]
      simp only [Bool.false_eq_true, if_false]
      repeat' (first | exact gx_no | with_reducible refine gx_ite ?_ ?_ | exact hs | exact ha | refine gx_isE ?_ | refine gx_nm ?_ | refine hr.go (by decide) ?_ ?_ | refine hg.fw (by decide) ?_ | refine hg.ends (by decide) ?_ | refine isE_ends (by decide) ?_ | refine nmE_ends ?_ | refine Ends.fw ?_)
    · obtain ⟨t1, t2, t3, t4, t5, t6⟩ := take_at hd (isW_eq ht)
      have g2 : Gk L (i + 2) := gk_open (by omega) (by rw [show i + 2 + 1 = i + 3 by omega]; exact nm_fn (t4 (i + 3) (Int.le_refl _) (by omega)))
      rw [isW_eq ht, deedH_take]
      have F4 := (isE_ends (c := [40]) (by decide) hs).fw
      have F5 := (nmE_ends (L := L) F4).fw
      have F0 := (isE_ends (c := [41]) (by decide) (hg.fw (m := 5) (by decide) F5)).fw
      exact gx_isE (hr.go (by decide) F0 (gx_isE (hr.go (by decide) F5 (gx_nm (gx_isO g2 ha)))))
theorem parS_gx (hr : Cl L (i + 1)) : Gx L i (parS L (fm L) i) := by
  by_cases hne : parS L (fm L) i = -1
  · exact Or.inl hne
  rw [← fm_par] at hne
  obtain ⟨h0, h1, hpp⟩ := par_at hne
  unfold parS
  rcases hpp with ⟨q1, q2, q3, _⟩ | ⟨q1, q2, _⟩
  · rw [if_pos q1]
    have hs : Fw L (i + 1) (i + 1) := fw_at (by omega)
    have ha : Gx L i (i + 1) := gx_more gx_at (by omega) (gk_open q3 (nm_fn q2))
    exact gx_isE (hr.go (by decide) (nmE_ends hs).fw (gx_nm ha))
  · rw [if_neg (by rw [q1]; decide)]
    exact gx_nm gx_at
end
theorem all_gx (L : List ByteArray) : ∀ n m i, m ≤ 11 → -1 ≤ i → i ≤ (L.length : Int) + 1 → needN L m i ≤ n → Gx L i (fm L m i)
  | 0, m, i, hm, _, _, h => by have := (need_le (L := L) m hm i).1; omega
  | n + 1, m, i, hm, i0, i1, h => by
    have IH := all_gx L n
    have hg := fm_good L
    have hnl := need_le (L := L) m hm i
    have key : ∀ j, i < j → j ≤ i + 2 → 0 ≤ i → i < (L.length : Int) → Cl L j := fun j hj hj2 h0 h1 q x hq hF => by
      have hf := far_fw h0 (by omega) hj hF
      have hq' := need_le (L := L) q hq x
      refine IH q x hq ?_ ?_ (by omega)
      all_goals unfold Fw at hF; omega
    by_cases hin : 0 ≤ i ∧ i < (L.length : Int)
    · obtain ⟨h0, h1⟩ := hin
      by_cases c0 : m = 0
      · subst c0
        rw [fm_sum]
        exact sumS_gx (key (i + 2) (by omega) (by omega) h0 h1)
      by_cases c1 : m = 1
      · subst c1
        rw [fm_deed]
        exact deedS_gx true (key (i + 2) (by omega) (by omega) h0 h1)
      by_cases c2 : m = 2
      · subst c2
        rw [fm_deed2]
        exact deedS_gx false (key (i + 2) (by omega) (by omega) h0 h1)
      by_cases c3 : m = 3
      · subst c3
        rw [fm_par]
        exact parS_gx (key (i + 1) (by omega) (by omega) h0 h1)
      by_cases c8 : m < 8
      · obtain ⟨q, rfl⟩ : ∃ q, m = 4 + q := ⟨m - 4, by omega⟩
        unfold needN at h
        rw [if_neg (by omega), if_pos (by omega)] at h
        rw [fm_many q (by omega) i0 i1]
        unfold manyS
        split
        · exact gx_at
        · have hpos : 1 ≤ farN L i := by unfold farN; rw [if_neg (by omega)]; omega
          have ho : Gx L i (oneS L (fm L) q i) := by
            unfold oneS
            split
            · exact IH 0 i (by decide) i0 i1 (by unfold needN; rw [if_pos (by decide)]; omega)
            · split
              · exact gx_nm gx_at
              · split
                · exact IH 1 i (by decide) i0 i1 (by unfold needN; rw [if_pos (by decide)]; omega)
                · exact IH 3 i (by decide) i0 i1 (by unfold needN; rw [if_pos (by decide)]; omega)
          have hE := oneS_ends hg q i0
          generalize oneS L (fm L) q i = y at ho hE
          have hfe := far_ends hE i1
          unfold Ends at hE
          exact ho.trans (fun e => by rw [e]; exact fm_none _ hm) (IH (4 + q) y hm (by omega) (by omega) (by unfold needN; rw [if_neg (by omega), if_pos (by omega)]; omega))
      · obtain ⟨k, rfl⟩ : ∃ k, m = 8 + k := ⟨m - 8, by omega⟩
        unfold needN at h
        rw [if_neg (by omega), if_neg (by omega)] at h
        rw [fm_sums k (by omega) i0 i1]
        cases k with
        | zero => exact gx_at
        | succ k =>
          show Gx L i (if i < 0 then i else fm L (8 + k) (fm L 0 i))
          rw [if_neg (by omega)]
          have ho := IH 0 i (by decide) i0 i1 (by unfold needN; rw [if_pos (by decide)]; omega)
          have hE := hg.1 0 i (by decide)
          generalize fm L 0 i = y at ho hE
          have hfe := far_ends hE i1
          unfold Ends at hE
          exact ho.trans (fun e => by rw [e]; exact fm_none _ (by omega)) (IH (8 + k) y (by omega) (by omega) (by omega) (by unfold needN; rw [if_neg (by omega), if_neg (by omega)]; omega))
    · have hx : fm L m i = -1 ∨ fm L m i = i := by
        by_cases h4 : m < 4
        · have hE := hg.1 m i h4
          unfold Ends at hE
          omega
        · have hE := hg.2 m i (by omega) i0
          unfold Fw at hE
          omega
      rcases hx with hx | hx
      · rw [hx]; exact gx_no
      · rw [hx]; exact gx_at
theorem deeds_gk {L : List ByteArray} {e : Int} : ∀ k i, chainD L k i e → 0 ≤ e → ∀ j, i ≤ j → j < e → Gk L j
  | 0, i, h, _, j, h1, h2 => by
    have : i = e := h
    omega
  | k + 1, i, h, he, j, h1, h2 => by
    have hl := deed_long h.1
    by_cases hj : j < fm L 1 i
    · have hn := need_le (L := L) 1 (by decide) i
      rcases all_gx L _ 1 i (by decide) (by omega) (by omega) (Nat.le_refl _) with hx | hx
      · exact absurd hx h.1
      · exact hx j h1 hj
    · exact deeds_gk k _ h.2 he j (by omega) h2
/-- Each place of a play. -/
theorem play_gk {L : List ByteArray} (h : playB L = true) (j : Int) (h0 : 0 ≤ j) (h1 : j < (L.length : Int)) : Gk L j := by
  obtain ⟨k, hk⟩ := play_deeds h
  exact deeds_gk k 0 hk (by omega) j h0 h1
/-- A fn of a play: its PARAMs. -/
theorem play_fn {L : List ByteArray} (h : playB L = true) {j : Int} (ho : isW (sgAt L j) [40] = true) (hf : isW (sgAt L (j + 1)) [102, 110] = true) :
    isW (sgAt L (j + 2)) [40] = true ∧ ∃ k e7, chainQ L k (j + 3) e7 ∧ 0 ≤ e7 ∧ e7 < (L.length : Int) ∧ isW (sgAt L e7) [41] = true ∧ plc L (j + 3) = chainP L k (j + 3) := by
  obtain ⟨h0, h1⟩ := sgAt_open ho
  have hv : ItV L j := Or.inl ((play_gk h j h0 h1 ho).2 hf)
  obtain ⟨a, k, e7, _, _, hq, q0, q1, q2, _⟩ := hv.fn ho hf
  exact ⟨a, k, e7, hq, q0, q1, q2, plc_par hq q0 q1 q2⟩

end Go.Proofs.YtjhjhiiiiimpoaaGreatDoor

/-
  Chapter 4 in plain words: what stands at each place of a play: a bracket, a sum that is one sign (a NAME too), or the word right behind a (.
-/
namespace Go.Proofs.YtjhjhiiiiimpoaaGreatDoor
open Go.RowKit

/-- What may stand there. -/
def Pk (L : List ByteArray) (k : Int) : Prop := isW (sgAt L k) [40] = true ∨ isW (sgAt L k) [41] = true ∨ oneB (sgAt L k) = true ∨ isW (sgAt L (k - 1)) [40] = true
/-- Nowhere, or so from i up to it. -/
def Px (L : List ByteArray) (i x : Int) : Prop := x = -1 ∨ ∀ k, i ≤ k → k < x → Pk L k
section
variable {L : List ByteArray} {i j x : Int}
theorem pk_nm (h : nmB (sgAt L i) = true) : Pk L i := Or.inr (Or.inr (Or.inl (by unfold oneB; rw [h, Bool.or_true])))
theorem px_at : Px L i i := Or.inr fun k h1 h2 => absurd h2 (by omega)
theorem px_no : Px L i (-1) := Or.inl rfl
theorem px_ite {c : Prop} [Decidable c] {y : Int} (h1 : Px L i x) (h2 : Px L i y) : Px L i (if c then x else y) := by split <;> assumption
theorem Px.trans {y : Int} (h : Px L i x) (hn : x = -1 → y = -1) (k : Px L x y) : Px L i y := by
  rcases h with h | h
  · exact Or.inl (hn h)
  · rcases k with k | k
    · exact Or.inl k
    · exact Or.inr fun j h1 h2 => if hj : j < x then h j h1 hj else k j (by omega) h2
theorem px_more (h : Px L i x) (hx : x ≠ -1) (hg : Pk L x) : Px L i (x + 1) := by
  rcases h with h | h
  · exact absurd h hx
  · refine Or.inr fun k h2 h3 => ?_
    by_cases hk : k < x
    · exact h k h2 hk
    · have : k = x := by omega
      subst this
      exact hg
theorem px_isE (h : Px L i x) : Px L i (isE L x [41]) := by
  by_cases hn : isE L x [41] = -1
  · exact Or.inl hn
  · obtain ⟨he, h0, h1, hb⟩ := isE_pos (by decide) hn
    rw [he]
    exact px_more h (by omega) (Or.inr (Or.inl hb))
theorem px_isO (h : Px L i x) : Px L i (isE L x [40]) := by
  by_cases hn : isE L x [40] = -1
  · exact Or.inl hn
  · obtain ⟨he, h0, h1, hb⟩ := isE_pos (by decide) hn
    rw [he]
    exact px_more h (by omega) (Or.inl hb)
theorem px_nm (h : Px L i x) : Px L i (nmE L x) := by
  by_cases hn : nmE L x = -1
  · exact Or.inl hn
  · obtain ⟨he, h0, h1, hb⟩ := nmE_pos hn
    rw [he]
    exact px_more h (by omega) (pk_nm hb)
theorem px_form (ho : isW (sgAt L i) [40] = true) (h : Px L (i + 2) x) : Px L i x := by
  rcases h with h | h
  · exact Or.inl h
  · refine Or.inr fun k h2 h3 => ?_
    by_cases h4 : k = i
    · subst h4; exact Or.inl ho
    · by_cases h5 : k = i + 1
      · subst h5
        refine Or.inr (Or.inr (Or.inr ?_))
        rw [show i + 1 - 1 = i by omega]
        exact ho
      · exact h k (by omega) h3
/-- So it is behind j. -/
def Cm (L : List ByteArray) (j : Int) : Prop := ∀ m x, m ≤ 11 → Fw L j x → Px L x (fm L m x)
theorem Cm.go (hr : Cm L j) {m : Nat} (hm : m ≤ 11) (hF : Fw L j x) (h : Px L i x) : Px L i (fm L m x) := h.trans (fun e => by rw [e]; exact fm_none m hm) (hr m x hm hF)
theorem sumS_px (hr : Cm L (i + 2)) : Px L i (sumS L (fm L) i) := by
  cases ho : isW (sgAt L i) [40]
  · unfold sumS
    rw [ho]
    simp only [Bool.false_eq_true, if_false]
    split
    · rename_i h1
      by_cases hi : i = -1
      · subst hi
        exact Or.inr fun k h2 h3 => by
          have : k = -1 := by omega
          subst this
          exact Or.inr (Or.inr (Or.inl h1))
      · exact px_more px_at hi (Or.inr (Or.inr (Or.inl h1)))
    · exact px_no
  · obtain ⟨h0, h1⟩ := sgAt_open ho
    refine px_form ho ?_
    have hg := fm_good L
    have hs : Fw L (i + 2) (i + 2) := fw_at (by omega)
    have ha : Px L (i + 2) (i + 2) := px_at
    unfold sumS
    rw [ho]
    simp only [if_true]
    split
    · exact px_isE (hr.go (by decide) hs ha)
    · split
      · have F7 := (isE_ends (c := [40]) (by decide) hs).fw
        have F6 := (isE_ends (c := [41]) (by decide) (hg.fw (m := 7) (by decide) F7)).fw
        exact px_isE (hr.go (by decide) F6 (px_isE (hr.go (by decide) F7 (px_isO ha))))
      · split
        · exact px_isE (hr.go (by decide) (hg.ends (m := 0) (by decide) hs).fw (hr.go (by decide) hs ha))
        · split
          · exact px_isE (hr.go (by decide) hs ha)
          · split
            · exact px_isE ha
            · split
              · exact px_isE (hr.go (by decide) (nmE_ends hs).fw (px_nm ha))
              · exact px_no
theorem deedS_px (f : Bool) (hr : Cm L (i + 2)) : Px L i (deedS L (fm L) f i) := by
  cases ho : isW (sgAt L i) [40]
  · unfold deedS
    rw [ho]
    exact px_no
  obtain ⟨h0, h1⟩ := sgAt_open ho
  have hg := fm_good L
  have hs : Fw L (i + 2) (i + 2) := fw_at (by omega)
  have ha : Px L (i + 2) (i + 2) := px_at
  refine px_form ho ?_
  unfold deedS
  rw [if_pos ho]
  split
  · exact px_no
  · unfold deedH
    repeat' (first | exact px_no | with_reducible refine px_ite ?_ ?_ | exact hs | exact ha | refine px_isE ?_ | refine px_isO ?_ | refine px_nm ?_ | refine hr.go (by decide) ?_ ?_ | refine hg.fw (by decide) ?_ | refine hg.ends (by decide) ?_ | refine isE_ends (by decide) ?_ | refine nmE_ends ?_ | refine Ends.fw ?_)
theorem parS_px (hr : Cm L (i + 1)) : Px L i (parS L (fm L) i) := by
  cases ho : isW (sgAt L i) [40]
  · unfold parS
    rw [ho]
    exact px_nm px_at
  · obtain ⟨h0, h1⟩ := sgAt_open ho
    unfold parS
    rw [if_pos ho]
    have hs : Fw L (i + 1) (i + 1) := fw_at (by omega)
    have ha : Px L i (i + 1) := px_more px_at (by omega) (Or.inl ho)
    exact px_isE (hr.go (by decide) (nmE_ends hs).fw (px_nm ha))
end
theorem all_px (L : List ByteArray) : ∀ n m i, m ≤ 11 → -1 ≤ i → i ≤ (L.length : Int) + 1 → needN L m i ≤ n → Px L i (fm L m i)
  | 0, m, i, hm, _, _, h => by have := (need_le (L := L) m hm i).1; omega
  | n + 1, m, i, hm, i0, i1, h => by
    have IH := all_px L n
    have hg := fm_good L
    have hnl := need_le (L := L) m hm i
    have key : ∀ j, i < j → j ≤ i + 2 → 0 ≤ i → i < (L.length : Int) → Cm L j := fun j hj hj2 h0 h1 q x hq hF => by
      have hf := far_fw h0 (by omega) hj hF
      have hq' := need_le (L := L) q hq x
      refine IH q x hq ?_ ?_ (by omega)
      all_goals unfold Fw at hF; omega
    by_cases hin : 0 ≤ i ∧ i < (L.length : Int)
    · obtain ⟨h0, h1⟩ := hin
      by_cases c0 : m = 0
      · subst c0
        rw [fm_sum]
        exact sumS_px (key (i + 2) (by omega) (by omega) h0 h1)
      by_cases c1 : m = 1
      · subst c1
        rw [fm_deed]
        exact deedS_px true (key (i + 2) (by omega) (by omega) h0 h1)
      by_cases c2 : m = 2
      · subst c2
        rw [fm_deed2]
        exact deedS_px false (key (i + 2) (by omega) (by omega) h0 h1)
      by_cases c3 : m = 3
      · subst c3
        rw [fm_par]
        exact parS_px (key (i + 1) (by omega) (by omega) h0 h1)
      by_cases c8 : m < 8
      · obtain ⟨q, rfl⟩ : ∃ q, m = 4 + q := ⟨m - 4, by omega⟩
        unfold needN at h
        rw [if_neg (by omega), if_pos (by omega)] at h
        rw [fm_many q (by omega) i0 i1]
        unfold manyS
        split
        · exact px_at
        · have hpos : 1 ≤ farN L i := by unfold farN; rw [if_neg (by omega)]; omega
          have ho : Px L i (oneS L (fm L) q i) := by
            unfold oneS
            split
            · exact IH 0 i (by decide) i0 i1 (by unfold needN; rw [if_pos (by decide)]; omega)
            · split
              · exact px_nm px_at
              · split
                · exact IH 1 i (by decide) i0 i1 (by unfold needN; rw [if_pos (by decide)]; omega)
                · exact IH 3 i (by decide) i0 i1 (by unfold needN; rw [if_pos (by decide)]; omega)
          have hE := oneS_ends hg q i0
          generalize oneS L (fm L) q i = y at ho hE
          have hfe := far_ends hE i1
          unfold Ends at hE
          exact ho.trans (fun e => by rw [e]; exact fm_none _ hm) (IH (4 + q) y hm (by omega) (by omega) (by unfold needN; rw [if_neg (by omega), if_pos (by omega)]; omega))
      · obtain ⟨k, rfl⟩ : ∃ k, m = 8 + k := ⟨m - 8, by omega⟩
        unfold needN at h
        rw [if_neg (by omega), if_neg (by omega)] at h
        rw [fm_sums k (by omega) i0 i1]
        cases k with
        | zero => exact px_at
        | succ k =>
          show Px L i (if i < 0 then i else fm L (8 + k) (fm L 0 i))
          rw [if_neg (by omega)]
          have ho := IH 0 i (by decide) i0 i1 (by unfold needN; rw [if_pos (by decide)]; omega)
          have hE := hg.1 0 i (by decide)
          generalize fm L 0 i = y at ho hE
          have hfe := far_ends hE i1
          unfold Ends at hE
          exact ho.trans (fun e => by rw [e]; exact fm_none _ (by omega)) (IH (8 + k) y (by omega) (by omega) (by omega) (by unfold needN; rw [if_neg (by omega), if_neg (by omega)]; omega))
    · have hx : fm L m i = -1 ∨ fm L m i = i := by
        by_cases h4 : m < 4
        · have hE := hg.1 m i h4
          unfold Ends at hE
          omega
        · have hE := hg.2 m i (by omega) i0
          unfold Fw at hE
          omega
      rcases hx with hx | hx
      · rw [hx]; exact px_no
      · rw [hx]; exact px_at
theorem deeds_pk {L : List ByteArray} {e : Int} : ∀ k i, chainD L k i e → 0 ≤ e → ∀ j, i ≤ j → j < e → Pk L j
  | 0, i, h, _, j, h1, h2 => by
    have : i = e := h
    omega
  | k + 1, i, h, he, j, h1, h2 => by
    have hl := deed_long h.1
    by_cases hj : j < fm L 1 i
    · have hn := need_le (L := L) 1 (by decide) i
      rcases all_px L _ 1 i (by decide) (by omega) (by omega) (Nat.le_refl _) with hx | hx
      · exact absurd hx h.1
      · exact hx j h1 hj
    · exact deeds_pk k _ h.2 he j (by omega) h2
/-- Each place of a play. -/
theorem play_pk {L : List ByteArray} (h : playB L = true) (j : Int) (h0 : 0 ≤ j) (h1 : j < (L.length : Int)) : Pk L j := by
  obtain ⟨k, hk⟩ := play_deeds h
  exact deeds_pk k 0 hk (by omega) j h0 h1
/-- A word that is no sum stands right behind a ( alone. -/
theorem play_word {L : List ByteArray} (h : playB L = true) {j : Int} {c : List UInt8} (hw : isW (sgAt L j) c = true) (hc : c ≠ []) (h40 : (c == [40]) = false) (h41 : (c == [41]) = false) (h1 : oneB ⟨c.toArray⟩ = false) : 1 ≤ j ∧ isW (sgAt L (j - 1)) [40] = true := by
  have hin : 0 ≤ j ∧ j < (L.length : Int) := by
    refine Classical.byContradiction fun hn => ?_
    rw [sgAt_out hn, isW_nil _ hc] at hw
    cases hw
  rcases play_pk h j hin.1 hin.2 with h2 | h2 | h2 | h2
  · rw [isW_other hw h40] at h2
    cases h2
  · rw [isW_other hw h41] at h2
    cases h2
  · rw [isW_eq hw, h1] at h2
    cases h2
  · have := sgAt_open h2
    exact ⟨by omega, h2⟩

end Go.Proofs.YtjhjhiiiiimpoaaGreatDoor

/-
  Chapter 12 in plain words: how many PARAMs are (NAME SUM).
-/
namespace Go.Proofs.YtjhjhiiiiimpoaaGreatDoor
open Go.RowKit

/-- How many of these places have a (. -/
def opnC (L : List ByteArray) : List Int → Nat
  | [] => 0
  | p :: X => (if isW (sgAt L p) [40] then 1 else 0) + opnC L X
theorem opnC_le (L : List ByteArray) : ∀ X, opnC L X ≤ X.length
  | [] => Nat.le_refl _
  | p :: X => by
    have := opnC_le L X
    unfold opnC
    rw [List.length_cons]
    split <;> omega
theorem opnC_app (L : List ByteArray) : ∀ X Y, opnC L (X ++ Y) = opnC L X + opnC L Y
  | [], Y => by rw [List.nil_append]; unfold opnC; omega
  | p :: X, Y => by
    have := opnC_app L X Y
    rw [List.cons_append]
    show _ + opnC L (X ++ Y) = _ + opnC L X + opnC L Y
    omega
theorem plcs_len (L : List ByteArray) : ∀ f i, (plcs L f i).length ≤ f
  | 0, _ => Nat.le_refl _
  | f + 1, i => by
    unfold plcs
    split
    · have := plcs_len L f (itemE L i)
      rw [List.length_cons]
      omega
    · exact Nat.zero_le _
/-- .. of the fn that begins there. -/
def dfN (L : List ByteArray) (i : Nat) : Nat := if isW (sgAt L (i : Int)) [40] && isW (sgAt L ((i : Int) + 1)) [102, 110] then opnC L (plc L ((i : Int) + 3)) else 0
/-- .. of the fns that begin ahead of n. -/
def dfF (L : List ByteArray) : Nat → Nat
  | 0 => 0
  | n + 1 => dfF L n + dfN L n
theorem dfN_le (L : List ByteArray) (i : Nat) : dfN L i ≤ L.length + 2 := by
  unfold dfN
  split
  · exact Nat.le_trans (opnC_le L _) (plcs_len L _ _)
  · exact Nat.zero_le _
theorem dfF_le (L : List ByteArray) : ∀ n, dfF L n ≤ n * (L.length + 2)
  | 0 => by simp [dfF]
  | n + 1 => by
    have h1 := dfF_le L n
    have h2 := dfN_le L n
    rw [Nat.succ_mul]
    show dfF L n + dfN L n ≤ _
    omega
theorem dfF_cap {L : List ByteArray} (h : L.length ≤ 2000) {n : Nat} (hn : n ≤ L.length) : dfF L n ≤ 4004000 := by
  have h1 := dfF_le L n
  have h2 : n * (L.length + 2) ≤ 2000 * 2002 := Nat.mul_le_mul (by omega) (by omega)
  omega
/-- Of a play: none where no fn begins. -/
theorem dfN_fn {L : List ByteArray} {i : Nat} (ho : isW (sgAt L (i : Int)) [40] = true) (hf : isW (sgAt L ((i : Int) + 1)) [102, 110] = true) {k : Nat} (h : plc L ((i : Int) + 3) = chainP L k ((i : Int) + 3)) : dfN L i = opnC L (chainP L k ((i : Int) + 3)) := by
  unfold dfN
  rw [ho, hf, h]
  rfl
theorem dfN_no {L : List ByteArray} {i : Nat} (h : isW (sgAt L (i : Int)) [40] = false ∨ isW (sgAt L ((i : Int) + 1)) [102, 110] = false) : dfN L i = 0 := by
  unfold dfN
  rcases h with h | h <;> rw [h] <;> simp
theorem one_fn : oneB ⟨([102, 110] : List UInt8).toArray⟩ = false := by decide +kernel
/-- fn stands right behind its ( alone. -/
theorem fn_behind {L : List ByteArray} (h : playB L = true) {j : Int} (hf : isW (sgAt L j) [102, 110] = true) : 1 ≤ j ∧ isW (sgAt L (j - 1)) [40] = true :=
  play_word h hf (by decide) (by decide) (by decide) one_fn

end Go.Proofs.YtjhjhiiiiimpoaaGreatDoor

/-
  Chapter 12, the model: DefaultsIn.
-/
namespace Go.Proofs.YtjhjhiiiiimpoaaGreatDoor
open Go.RowKit

/-- What DefaultsIn tells. -/
noncomputable def dfE (L : List ByteArray) : Int := if scopB L then (dfF L (L.length - 1) : Int) else -1
theorem scop_play {L : List ByteArray} (h : scopB L = true) : playB L = true := by
  unfold scopB at h
  rw [Bool.and_eq_true] at h
  exact h.1

set_option maxRecDepth 100000 in
set_option maxHeartbeats 4000000 in
theorem defaultsInS_any (a : Option Addr) (cap : Nat) (L : List ByteArray) (w : World) (h : ArgT w a L) (hL : L.length ≤ 1048576) :
    Calls Tryz.prog 5 #[.slice a L.length cap] w fun e w' => e = .returned (.int .i64 (dfE L)) ∧ Below w.heap.size w w' := by
  cases hp : scopB L
  · have HC : Hid (dfE L = -1) := (by unfold dfE; rw [hp]; rfl : dfE L = -1)
    have HP : Hid (scopB L = false) := hp
    clear hp
    go_enter Tryz.func5, Tryz.ntmps5
    go_wp2_with fail
    refine (scopedS_any a cap L _ h hL).mono ?_
    rintro e w1 ⟨rfl, hb1⟩
    rw [HP.out]
    go_wp2
    go_ret
    exact ⟨by rw [HC.out]; rfl, hb1⟩
  have HC : Hid (dfE L = (dfF L (L.length - 1) : Int)) := (by unfold dfE; rw [hp]; rfl : dfE L = (dfF L (L.length - 1) : Int))
  have HP : Hid (scopB L = true) := hp
  have hpl := scop_play hp
  have hl2 := play_len hpl
  clear hp
  go_enter Tryz.func5, Tryz.ntmps5
  go_wp2_with fail
  refine (scopedS_any a cap L _ h hL).mono ?_
  rintro e w1 ⟨rfl, hb1⟩
  rw [HP.out]
  have h1 := h.call hb1
  go_wp2
  go_loopw [3, 4] (fun v3 v4 wr => ∃ k : Nat, v3 = .int .i64 (dfF L k : Int) ∧ v4 = .int .i64 (k : Int) ∧ (k + 1 ≤ L.length ∨ k = 0) ∧ Below w1.heap.size w1 wr) (fun _ v4 _ => L.length - (intOf v4).toNat)
  case atStart => exact ⟨0, rfl, rfl, Or.inr rfl, Below.refl _ _⟩
  case round =>
    obtain ⟨k, rfl, rfl, hk, hB⟩ := hrel
    have hcp : dfF L k ≤ 4004000 := by
      rcases hk with hk | hk
      · exact dfF_cap hl2 (by omega)
      · rw [hk]; exact Nat.zero_le _
    by_cases hlt : k + 1 < L.length
    · obtain ⟨sb, off, rfl, hs, hc, _⟩ := h1 k (by omega)
      obtain ⟨sb', off', hae, hs', hcj, _⟩ := h1 (k + 1) hlt
      injection hae with hae
      injection hae with e1 e2 _
      subst e1
      subst e2
      have c1 := (hB.cell (p := ⟨sb, off + k, none⟩) hs).trans hc
      have c2 := (hB.cell (p := ⟨sb, off + (k + 1), none⟩) hs).trans hcj
      have g1 : sgAt L (k : Int) = L[k] := by rw [sgAt_in (by omega) (by omega)]; rfl
      have g2 : sgAt L ((k : Int) + 1) = L[k + 1] := by rw [sgAt_in (by omega) (by omega)]; rfl
      rw [← g1] at c1
      rw [← g2] at c2
      have HS : Hid (dfF L (k + 1) = dfF L k + dfN L k) := (rfl : dfF L (k + 1) = dfF L k + dfN L k)
      clear hc hcj g1 g2 hk
      cases ho : isW (sgAt L (k : Int)) [40]
      · have HN : Hid (dfF L (k + 1) = dfF L k) := (by rw [HS.out, dfN_no (Or.inl ho)]; rfl : dfF L (k + 1) = dfF L k)
        have b40 : ((sgAt L (k : Int)).toList == [40]) = false := ho
        clear ho HS
        generalize sgAt L (k : Int) = s at c1 b40
        generalize sgAt L ((k : Int) + 1) = s2 at c2
        go_wp2
        go_roundw
        case rel => exact ⟨k + 1, by rw [HN.out], by go_num, by omega, hB⟩
        case measure => simp [intOf]; omega
      · cases hf : isW (sgAt L ((k : Int) + 1)) [102, 110]
        · have HN : Hid (dfF L (k + 1) = dfF L k) := (by rw [HS.out, dfN_no (Or.inr hf)]; rfl : dfF L (k + 1) = dfF L k)
          have b40 : ((sgAt L (k : Int)).toList == [40]) = true := ho
          have bfn : ((sgAt L ((k : Int) + 1)).toList == [102, 110]) = false := hf
          clear ho hf HS
          generalize sgAt L (k : Int) = s at c1 b40
          generalize sgAt L ((k : Int) + 1) = s2 at c2 bfn
          go_wp2
          go_roundw
          case rel => exact ⟨k + 1, by rw [HN.out], by go_num, by omega, hB⟩
          case measure => simp [intOf]; omega
        · obtain ⟨_, kk, e7, hch, he0, he1, he, hpc⟩ := play_fn hpl ho hf
          have HDN : Hid (dfN L k = opnC L (chainP L kk ((k : Int) + 3))) := dfN_fn ho hf hpc
          have hdc := dfN_le L k
          have b40 : ((sgAt L (k : Int)).toList == [40]) = true := ho
          have bfn : ((sgAt L ((k : Int) + 1)).toList == [102, 110]) = true := hf
          have hce := chainQ_ends kk _ hch he0
          clear ho hf hpc
          generalize sgAt L (k : Int) = s at c1 b40
          generalize sgAt L ((k : Int) + 1) = s2 at c2 bfn
          go_wp2
          go_loopw [3, 5] (fun v3 v5 wq => ∃ x m c : Nat, v5 = .int .i64 (x : Int) ∧ v3 = .int .i64 ((dfF L k : Int) + (c : Int)) ∧ chainQ L m (x : Int) e7 ∧ Hid (c + opnC L (chainP L m (x : Int)) = dfN L k) ∧ Below w1.heap.size w1 wq) (fun _ v5 _ => e7.toNat - (intOf v5).toNat)
          case atStart =>
            exact ⟨k + 3, kk, 0, by go_num, by go_num, by rw [show ((k + 3 : Nat) : Int) = (k : Int) + 3 by omega]; exact hch, by rw [show ((k + 3 : Nat) : Int) = (k : Int) + 3 by omega, HDN.out]; exact Nat.zero_add _, hB⟩
          case round =>
            clear hB c1 c2
            obtain ⟨x, m, c, rfl, rfl, hm, HS2, hB⟩ := hrel
            have hxe := chainQ_ends m _ hm he0
            have hx : x < L.length := by omega
            obtain ⟨sb2, off2, hae, _, hc, _⟩ := h1 x hx
            injection hae with hae
            injection hae with e1 e2 _
            subst e1
            subst e2
            have hc' := (hB.cell (p := ⟨sb, off + x, none⟩) hs).trans hc
            have HG : Hid (sgAt L (x : Int) = L[x]) := (by rw [sgAt_in (by omega) (by omega)]; rfl : sgAt L (x : Int) = L[x])
            have hcc : c ≤ 2002 := by have := HS2.out; omega
            cases m with
            | zero =>
              have ex : (x : Int) = e7 := hm
              have b41 : (L[x].toList == [41]) = true := by rw [← HG.out, ex]; exact he
              have HE : Hid (dfF L (k + 1) = dfF L k + c) := by
                show dfF L (k + 1) = dfF L k + c
                rw [HS.out, ← HS2.out]
                rfl
              subst ex
              clear hc HG HS HS2 HDN hch
              generalize L[x] = t at hc' b41
              generalize dfF L k = d at HE hcp ⊢
              go_wp2
              go_roundw
              case rel => exact ⟨k + 1, by rw [HE.out]; rfl, by go_num, by omega, hB⟩
              case measure => simp [intOf]; omega
            | succ m =>
              obtain ⟨hp, hm2⟩ := hm
              have hpe := par_ends hp
              have b41 : (L[x].toList == [41]) = false := by rw [← HG.out]; exact par_not41 hp
              have hq := chainQ_ends m _ hm2 he0
              cases h40 : isW L[x] [40]
              · have b40' : (L[x].toList == [40]) = false := h40
                have HJ : Hid (c + opnC L (chainP L m (itemE L (x : Int))) = dfN L k) := by
                  show c + opnC L (chainP L m (itemE L (x : Int))) = dfN L k
                  rw [← HS2.out]
                  show _ = c + ((if isW (sgAt L (x : Int)) [40] then 1 else 0) + opnC L (chainP L m (itemE L (x : Int))))
                  rw [HG.out, h40]
                  simp
                clear h40 HS2 HG hc HDN hch
                generalize L[x] = t at hc' b41 b40'
                generalize dfF L k = d at hcp ⊢
                go_wp2_with fail
                refine (itemEndS_any _ cap L (x : Int) _ (h1.call hB) hL ⟨by omega, by omega⟩).mono ?_
                rintro e w4 ⟨rfl, hb4⟩
                have hB4 := bstep hB hb4
                obtain ⟨z, hz⟩ : ∃ z : Nat, itemE L (x : Int) = (z : Int) := ⟨(itemE L (x : Int)).toNat, by omega⟩
                rw [hz] at HJ hm2 hpe ⊢
                go_wp2
                go_roundw
                case rel => exact ⟨z, m, c, rfl, rfl, hm2, HJ.out, hB4⟩
                case measure => simp [intOf]; omega
              · have b40' : (L[x].toList == [40]) = true := h40
                have HJ : Hid (c + 1 + opnC L (chainP L m (itemE L (x : Int))) = dfN L k) := by
                  show c + 1 + opnC L (chainP L m (itemE L (x : Int))) = dfN L k
                  rw [← HS2.out]
                  show _ = c + ((if isW (sgAt L (x : Int)) [40] then 1 else 0) + opnC L (chainP L m (itemE L (x : Int))))
                  rw [HG.out, h40]
                  simp
                  omega
                clear h40 HS2 HG hc HDN hch
                generalize L[x] = t at hc' b41 b40'
                generalize dfF L k = d at hcp ⊢
                go_wp2_with fail
                refine (itemEndS_any _ cap L (x : Int) _ (h1.call hB) hL ⟨by omega, by omega⟩).mono ?_
                rintro e w4 ⟨rfl, hb4⟩
                have hB4 := bstep hB hb4
                obtain ⟨z, hz⟩ : ∃ z : Nat, itemE L (x : Int) = (z : Int) := ⟨(itemE L (x : Int)).toNat, by omega⟩
                rw [hz] at HJ hm2 hpe ⊢
                go_wp2
                go_roundw
                case rel => exact ⟨z, m, c + 1, rfl, by go_num, hm2, HJ.out, hB4⟩
                case measure => simp [intOf]; omega
    · have HE : Hid (dfE L = (dfF L k : Int)) := by
        show dfE L = (dfF L k : Int)
        rw [HC.out]
        congr 2
        omega
      clear HC
      generalize dfF L k = d at HE hcp ⊢
      go_wp2
      go_ret
      exact ⟨by rw [HE.out]; rfl, bstep hb1 hB⟩

end Go.Proofs.YtjhjhiiiiimpoaaGreatDoor

/-
  Chapter 12, the program: the PARAMs of a fn.
-/
namespace Go.Proofs.YtjhjhiiiiimpoaaGreatDoor
open Go.RowKit

/-- A PARAM as the program has it: the places of its NAME and of its SUM. -/
def pmC (L : List ByteArray) (p : Int) : List Value := if isW (sgAt L p) [40] then [.int .i64 (p + 1), .int .i64 (p + 2)] else [.int .i64 p, .int .i64 (-1)]
theorem pmC_two (L : List ByteArray) (p : Int) : (pmC L p).length = 2 := by
  unfold pmC
  split <;> rfl
/-- PARAMs in memory of the call's own. -/
def OwnP (L : List ByteArray) (w : World) (B g n cp : Nat) (X : List Int) : Prop := w.ownsRow B 32 2 (.slice (some ⟨g, 0, none⟩) n cp) n (X.flatMap (pmC L))
theorem OwnP.call {L : List ByteArray} {w w' : World} {B g n cp : Nat} {X : List Int} (h : OwnP L w B g n cp X) (hb : Below w.heap.size w w') : OwnP L w' B g n cp X :=
  own_kept h (fun k hk => hb.block k (World.ownsRow.lt h k hk).2)
theorem ownP_new (L : List ByteArray) (w : World) (B : Nat) (h : B ≤ w.heap.size) : OwnP L (w.alloc (.cells #[] 32)) B w.heap.size 0 0 [] := by
  exact World.ownsRow_made w #[] 0 h (by unfold maxLen; omega) rfl
theorem ownP_mono {L : List ByteArray} {w : World} {B B' g n cp : Nat} {X : List Int} (h : OwnP L w B g n cp X) (hb : B' ≤ B) : OwnP L w B' g n cp X := by
  refine ⟨h.1, ?_⟩
  rcases h.2 with hn | ⟨g, cap, cur, e, hB, rest⟩
  · exact .inl hn
  · exact .inr ⟨g, cap, cur, e, Nat.le_trans hb hB, rest⟩
theorem flatP_at {α : Type} (f : α → List Value) (sz : Nat) (hf : ∀ x, (f x).length = sz) : ∀ (X : List α) (k j : Nat) (hk : k < X.length), j < sz → (X.flatMap f)[k * sz + j]? = (f X[k])[j]?
  | [], k, _, hk, _ => absurd hk (Nat.not_lt_zero _)
  | x :: X, 0, j, _, hj => by
    rw [List.flatMap_cons, Nat.zero_mul, Nat.zero_add, List.getElem?_append_left (by rw [hf]; exact hj)]
    rfl
  | x :: X, k + 1, j, hk, hj => by
    have ih := flatP_at f sz hf X k j (by simpa using hk) hj
    rw [List.flatMap_cons, List.getElem?_append_right (by rw [hf, Nat.succ_mul]; omega), hf, show (k + 1) * sz + j - sz = k * sz + j by rw [Nat.succ_mul]; omega, ih]
    rfl
theorem OwnP.at {L : List ByteArray} {w : World} {B g n cp : Nat} {X : List Int} (h : OwnP L w B g n cp X) {m : Nat} (hm : m < X.length) {a b : Value} (hp : pmC L X[m] = [a, b]) : w.cell? ⟨g, m * 2, none⟩ = some a ∧ w.cell? ⟨g, m * 2 + 1, none⟩ = some b := by
  have k0 := World.ownsRow.cells h (g := g) rfl (m * 2 + 0) a (by rw [flatP_at (pmC L) 2 (pmC_two L) X m 0 hm (by decide), hp]; rfl)
  have k1 := World.ownsRow.cells h (g := g) rfl (m * 2 + 1) b (by rw [flatP_at (pmC L) 2 (pmC_two L) X m 1 hm (by decide), hp]; rfl)
  have hadd : ∀ j, (⟨g, 0, none⟩ : Addr).add j = ⟨g, j, none⟩ := fun j => by unfold Addr.add; split <;> simp_all
  rw [hadd] at k0 k1
  exact ⟨k0, k1⟩
theorem infoPm : (Tryz.prog.info? 32).map (fun i => (i.zero, i.size, i.bytes)) = some (some (.agg #[.int .i64 0, .int .i64 0]), 2, 16) := by kernel_rfl
/-- The pair of a PARAM that is (NAME SUM). -/
theorem par_pair {L : List ByteArray} {p : Int} (h : fm L 3 p ≠ -1) (ho : isW (sgAt L p) [40] = true) : 0 ≤ itemE L p ∧ ∃ e, chI L 2 (p + 1) e ∧ 0 ≤ e ∧ e < (L.length : Int) ∧ itemE L e = -1 ∧ chainP L 2 (p + 1) = [p + 1, p + 2] := by
  obtain ⟨p0, p1, hpp⟩ := par_at h
  rcases hpp with ⟨_, q2, q3, q4, q5⟩ | ⟨q1, _⟩
  · have hen := q4.ends
    have hit : 0 ≤ itemE L p := by omega
    obtain ⟨k, e, c1, c2, c3, c4, c5⟩ := item_parts ho hit
    have he : itemE L (p + 2) = e := by omega
    have h1 : itemE L (p + 1) = p + 2 := by rw [item_one (by omega) (by omega) (nm_plain q2)]; omega
    refine ⟨hit, e, ⟨by omega, ?_⟩, c2, c3, itemE_none (Or.inr (Or.inr c4)), ?_⟩
    · rw [h1]
      exact ⟨by omega, he⟩
    · rw [chainP_succ, h1, chainP_succ]
      rfl
  · rw [q1] at ho
    cases ho

/-- append, as one step of a region that draws: it says where it lies. -/
theorem step_append_wh {P : Program} {ops : Array Oper} {o : Oper} {a : Act} {w : World} {K : Act → World → Prop} {Q : Exit → Act → World → Prop} {E : Prop}
    (hg : o.guard = none) (s x : Operand) (t : TypeId) (hop : o.op = Op.call { callee := Callee.builtin Builtin.append, args := #[s, x], argTypes := #[t, t] })
    (base : Nat) (e : TypeId) (i : TypeInfo) (z : Value) (size bytes : Nat) (h1 : P.underlying t = some (.slice e)) (h2 : P.info? e = some i) (h3 : i.zero = some z) (h4 : i.size = size) (h5 : i.bytes = bytes) (h6 : z.cells.size = size) (h7 : 0 < size)
    (v : Value) (n : Nat) (xs : List Value) (hs : a.eval s = v) (hown : w.ownsRow base e size v n xs)
    (ad : Addr) (m c : Nat) (news : List Value) (hx : a.eval x = .slice (some ad) m c) (hn : news.length = m * size) (hc : ∀ j u, news[j]? = some u → w.cell? (ad.add j) = some u) (h1c : ∀ u ∈ news, u.oneCell' = true)
    (b1 : n + m ≤ maxLen) (b2 : (n + m) * bytes ≤ 140737488355328) (hbase : base ≤ w.heap.size)
    (hK : ∀ v' w', w'.ownsRow base e size v' (n + m) (xs ++ news) → w.grownBy w' v.ownBlock → (∀ g, v'.ownBlock = some g → v.ownBlock = some g ∨ g = w.heap.size) → K (a.put o.dst v') w') :
    if Region.wanted o (yielded ops a.tmps) = true then Oper.wp P o a w K Q else E := by
  have hw : Region.wanted o (yielded ops a.tmps) = true := by simp [Region.wanted, hg]
  rw [if_pos hw]
  obtain ⟨v', w', hrun, r1, r2, r3⟩ := run_append_at (P := P) w base t o.type e i z size bytes h1 h2 h3 h4 h5 h6 h7 v n xs hown ad m c news hn hc h1c b1 b2 hbase
  unfold Oper.wp
  simp [execOp, hop, resolve, invoke, builtin, hs, hx, hrun, Result.andThen]
  exact hK v' w' r1 r2 r3
theorem chainQ_each {L : List ByteArray} {e : Int} : ∀ k i, chainQ L k i e → ∀ p ∈ chainP L k i, fm L 3 p ≠ -1
  | 0, _, _, p, hp => by cases hp
  | k + 1, i, h, p, hp => by
    rw [chainP_succ] at hp
    rcases List.mem_cons.1 hp with rfl | hp
    · exact h.1
    · exact chainQ_each k _ h.2 p hp

set_option maxRecDepth 100000 in
set_option maxHeartbeats 4000000 in
theorem paramsOf_any (a : Option Addr) (cap : Nat) (L : List ByteArray) (i e7 : Int) (kk : Nat) (w : World) (h : ArgT w a L) (hL : L.length ≤ 2000) (hsg : signsB L = true) (hi0 : 0 ≤ i) (ho : isW (sgAt L (i + 2)) [40] = true) (hit : 0 ≤ itemE L (i + 2)) (hch : chainQ L kk (i + 3) e7) (he0 : 0 ≤ e7) (he1 : e7 < (L.length : Int)) (he : isW (sgAt L e7) [41] = true) :
    Calls Tryz.prog 12 #[.slice a L.length cap, .int .i64 i] w fun e w' => ∃ g n cp, e = .returned (.slice (some ⟨g, 0, none⟩) n cp) ∧ n = kk ∧ OwnP L w' w.heap.size g n cp (chainP L kk (i + 3)) ∧ Below w.heap.size w w' := by
  obtain ⟨i0, hi, hz0, hz1, hz2⟩ := info_parts infoPm
  have hce := chainQ_ends kk _ hch he0
  have hkl : kk ≤ 2000 := by omega
  have hwr : IntKind.i64.wrap (i + 2) = i + 2 := IntWalk.i64_in _ (by omega)
  have hB0 := balloc (Below.refl w.heap.size w) (.cells #[] 32)
  have hO0 := ownP_new L w w.heap.size (Nat.le_refl _)
  have hI : chI L kk (i + 2 + 1) e7 := by rw [show i + 2 + 1 = i + 3 by omega]; exact chI_Q kk _ hch
  go_enter Tryz.func12, Tryz.ntmps12
  go_wp2_with fail
  refine (itemsInI_any a cap L (i + 2) e7 kk (by omega) hsg ho hit hI he0 (by omega) (itemE_none (Or.inr (Or.inr he))) _ (h.call hB0)).mono ?_
  rintro r w1 ⟨v, rfl, hO, hb1⟩
  obtain ⟨av, cv, rfl, hcv, hR⟩ := hO.rowN
  rw [chP_len, show i + 2 + 1 = i + 3 by omega] at *
  have hB1 := bstep hB0 hb1
  have hO1 := hO0.call hb1
  have hz1' : w.heap.size < w1.heap.size := (World.ownsRow.lt hO1 w.heap.size rfl).2
  have hR1 := hR.one (g := w.heap.size) (by rw [World.size_alloc]; omega)
  clear hO hI hR hb1 hO0 hB0
  obtain ⟨X, hX⟩ : ∃ X, X = chainP L kk (i + 3) := ⟨_, rfl⟩
  have hXl : X.length = kk := by rw [hX]; exact chP_len L kk _
  have hXq : ∀ m (hm : m < X.length), fm L 3 X[m] ≠ -1 := fun m hm => by
    have hq : ∀ p ∈ chainP L kk (i + 3), fm L 3 p ≠ -1 := chainQ_each kk _ hch
    exact hq _ (by rw [← hX]; exact List.getElem_mem hm)
  rw [← hX] at hR1
  have HX : Hid (X = chainP L kk (i + 3)) := hX
  have hXk : kk ≤ X.length := by omega
  have hXk' : X.length ≤ kk := by omega
  clear hX hXl hch
  go_wp2
  go_loopw [5, 15] (fun v5 v15 wr => ∃ (m g n5 c5 : Nat), v15 = .int .i64 (m : Int) ∧ v5 = .slice (some ⟨g, 0, none⟩) n5 c5 ∧ m ≤ kk ∧ Hid (n5 = m) ∧ OwnP L wr w.heap.size g n5 c5 (X.take m) ∧ RowI (fun k => k = g) wr av X ∧ Below w.heap.size w wr) (fun _ v15 _ => kk - (intOf v15).toNat)
  case atStart => exact ⟨0, _, 0, 0, rfl, rfl, Nat.zero_le _, rfl, by rw [List.take_zero]; exact hO1, hR1, hB1⟩
  case round =>
    clear hO1 hR1 hB1
    obtain ⟨m, g, n6, c6, rfl, rfl, hm, HN, hG, hRd, hB⟩ := hrel
    by_cases hlt : m < kk
    · obtain ⟨sy, oy, rfl, hsy, _, hcy⟩ := hRd m (by omega)
      have hpq := hXq m (by omega)
      have HTK : Hid (X.take (m + 1) = X.take m ++ [X[m]]) := List.take_succ_eq_append_getElem (l := X) (i := m) (by omega)
      generalize X[m] = y at hcy hpq HTK
      obtain ⟨y0, y1, hpp⟩ := par_at hpq
      obtain ⟨yy, rfl⟩ : ∃ yy : Nat, y = (yy : Int) := ⟨y.toNat, by omega⟩
      obtain ⟨sa, oa, rfl, hsa, hac, ham⟩ := h yy (by omega)
      have hac' := (hB.cell (p := ⟨sa, oa + yy, none⟩) hsa).trans hac
      have hsg' : sgAt L (yy : Int) = L[yy] := by rw [sgAt_in (by omega) (by omega)]; rfl
      rw [← hsg'] at hac' ham
      have htn : (m : Int) < (kk : Int) := by omega
      have hn62 : n6 + 1 ≤ 2001 := by rw [HN.out]; omega
      have hsz := hB.size
      have HPP : Hid (X.take (m + 1) = X.take m ++ [(yy : Int)]) := HTK.out
      clear hac hsg' HTK
      cases hq1 : isW (sgAt L (yy : Int)) [40]
      · have b40 : ((sgAt L (yy : Int)).toList == [40]) = false := hq1
        have HPM : Hid (pmC L (yy : Int) = [.int .i64 (yy : Int), .int .i64 (-1)]) := (by unfold pmC; rw [hq1]; rfl : pmC L (yy : Int) = [.int .i64 (yy : Int), .int .i64 (-1)])
        clear hq1 hpp hpq
        generalize sgAt L (yy : Int) = t at hac' ham b40
        have hcc1 : ∀ j u, [Value.int .i64 (yy : Int), Value.int .i64 (-1)][j]? = some u → (wr.alloc (.cells #[.int .i64 (yy : Int), .int .i64 (-1)] 32)).cell? ((⟨wr.heap.size, 0, none⟩ : Addr).add j) = some u := fun j u hj => by
          match j, hj with
          | 0, hj => simp at hj; subst hj; simp [Addr.add]
          | 1, hj => simp at hj; subst hj; simp [Addr.add]
        have hcc2 : ∀ u ∈ [Value.int .i64 (yy : Int), Value.int .i64 (-1)], u.oneCell' = true := fun u hu => by
          simp at hu
          rcases hu with rfl | rfl <;> rfl
        have hcc3 : n6 + 1 ≤ maxLen := by unfold maxLen; omega
        have hcc4 : (n6 + 1) * 16 ≤ 140737488355328 := by omega
        have hcc5 : w.heap.size ≤ (wr.alloc (.cells #[.int .i64 (yy : Int), .int .i64 (-1)] 32)).heap.size := by simp; omega
        obtain ⟨Q, hQ⟩ : ∃ Q, Q = (X.take m).flatMap (pmC L) := ⟨_, rfl⟩
        have HQ : Hid (Q = (X.take m).flatMap (pmC L)) := hQ
        have HG : Hid (wr.ownsRow w.heap.size 32 2 (.slice (some ⟨g, 0, none⟩) n6 c6) n6 Q) := by
          show wr.ownsRow _ _ _ _ _ Q
          rw [hQ]
          exact hG
        clear hG hQ
        go_wp2_with (at_builtin; refine wpList_append_at _ rfl _ _ 29 rfl w.heap.size 32 i0 (.agg #[.int .i64 0, .int .i64 0]) 2 16 Tryz.underlying29 hi hz0 hz1 hz2 rfl (by decide) _ _ _ rfl (World.ownsRow.alloc HG.out _) ⟨wr.heap.size, 0, none⟩ 1 1 [.int .i64 (yy : Int), .int .i64 (-1)] rfl rfl hcc1 hcc2 hcc3 hcc4 hcc5 ?_)
        intro v' w5 hown' hgrow hwh
        obtain ⟨g5, c7, rfl⟩ := ownsRow_succ hown'
        have hw5 : g5 = g ∨ g5 = (wr.alloc (.cells #[.int .i64 (yy : Int), .int .i64 (-1)] 32)).heap.size := by
          rcases hwh g5 rfl with e | e
          · left; simpa [Value.ownBlock] using e.symm
          · right; rw [World.size_alloc]; exact e
        have hG5 : OwnP L w5 w.heap.size g5 (n6 + 1) c7 (X.take (m + 1)) := by
          unfold OwnP
          rw [HPP.out, List.flatMap_append, ← HQ.out, List.flatMap_singleton, HPM.out]
          exact hown'
        have hRd5 := rowI_app hRd hgrow hw5
        have hB5 : Below w.heap.size w w5 := (hB.alloc hB.size (.cells #[.int .i64 (yy : Int), .int .i64 (-1)] 32)).grown hgrow (by simp; omega) (fun k hk => (World.ownsRow.lt HG.out k hk).1)
        clear hown' hgrow hwh hw5 hRd hcc1 hcc2 hcc3 hcc4 hcc5
        go_wp2
        go_roundw
        case rel => exact ⟨m + 1, g5, n6 + 1, c7, by go_num, rfl, by omega, by rw [HN.out]; rfl, hG5, hRd5, hB5⟩
        case measure => simp [intOf]; omega
      · have b40 : ((sgAt L (yy : Int)).toList == [40]) = true := hq1
        have HPM : Hid (pmC L (yy : Int) = [.int .i64 ((yy : Int) + 1), .int .i64 ((yy : Int) + 2)]) := (by unfold pmC; rw [hq1]; rfl : pmC L (yy : Int) = [.int .i64 ((yy : Int) + 1), .int .i64 ((yy : Int) + 2)])
        obtain ⟨hty, e, c1, c2, c3, c4, c5⟩ := par_pair hpq hq1
        have HIT : Hid (∀ W, ArgT W (some ⟨sa, oa, none⟩) L → Calls Tryz.prog 18 #[.slice (some ⟨sa, oa, none⟩) L.length cap, .int .i64 (yy : Int)] W fun r W' => ∃ gv cv, r = .returned (.slice (some ⟨gv, 0, none⟩) 2 cv) ∧ W'.cell? ⟨gv, 0, none⟩ = some (.int .i64 ((yy : Int) + 1)) ∧ W'.cell? ⟨gv, 1, none⟩ = some (.int .i64 ((yy : Int) + 2)) ∧ Below W.heap.size W W') := fun W hA => by
          refine (itemsInI_any _ cap L (yy : Int) e 2 (by omega) hsg hq1 hty c1 c2 (by omega) c4 W hA).mono ?_
          rintro r W' ⟨v, rfl, hO, hb⟩
          rw [c5] at hO
          obtain ⟨gv, cw, rfl⟩ := ownsRow_succ (k := 1) hO
          have k0 := World.ownsRow.cells hO (g := gv) rfl 0 (.int .i64 ((yy : Int) + 1)) rfl
          have k1 := World.ownsRow.cells hO (g := gv) rfl 1 (.int .i64 ((yy : Int) + 2)) rfl
          exact ⟨gv, cw, rfl, by simpa [Addr.add] using k0, by simpa [Addr.add] using k1, hb⟩
        clear hq1 hpp hpq hty c1 c2 c3 c4 c5
        generalize sgAt L (yy : Int) = t at hac' ham b40
        go_wp2_with fail
        refine (HIT.out wr (h.call hB)).mono ?_
        rintro r w3 ⟨gv, cw, rfl, k0, k1, hb3⟩
        have hB3 := bstep hB hb3
        have hG3 := hG.call hb3
        have hRd3 := hRd.call hb3
        clear HIT hG hRd hac' hb3 hB
        have hcA : ∀ (W : World) (v0 v1 : Value), ∀ j u, [v0, v1][j]? = some u → (W.alloc (.cells #[v0, v1] 32)).cell? ((⟨W.heap.size, 0, none⟩ : Addr).add j) = some u := fun W v0 v1 j u hj => by
          match j, hj with
          | 0, hj => simp at hj; subst hj; simp [Addr.add]
          | 1, hj => simp at hj; subst hj; simp [Addr.add]
        have hcB := hcA w3.drew (.int .i64 ((yy : Int) + 1)) (.int .i64 ((yy : Int) + 2))
        have hc2 : ∀ u ∈ [Value.int .i64 ((yy : Int) + 1), Value.int .i64 ((yy : Int) + 2)], u.oneCell' = true := fun u hu => by
          simp at hu
          rcases hu with rfl | rfl <;> rfl
        have hc3 : n6 + 1 ≤ maxLen := by unfold maxLen; omega
        have hc4 : (n6 + 1) * 16 ≤ 140737488355328 := by omega
        have hsz3 := hB3.size
        have hc5 : w.heap.size ≤ (w3.drew.alloc (.cells #[.int .i64 ((yy : Int) + 1), .int .i64 ((yy : Int) + 2)] 32)).heap.size := by simp; omega
        obtain ⟨Q, hQ⟩ : ∃ Q, Q = (X.take m).flatMap (pmC L) := ⟨_, rfl⟩
        have HO : Hid (w3.ownsRow w.heap.size 32 2 (.slice (some ⟨g, 0, none⟩) n6 c6) n6 Q) := by
          show w3.ownsRow _ _ _ _ _ Q
          rw [hQ]
          exact hG3
        have HG : Hid (∀ (v' : Value) (w4 : World), w4.ownsRow w.heap.size 32 2 v' (n6 + 1) (Q ++ [.int .i64 ((yy : Int) + 1), .int .i64 ((yy : Int) + 2)]) → (w3.drew.alloc (.cells #[.int .i64 ((yy : Int) + 1), .int .i64 ((yy : Int) + 2)] 32)).grownBy w4 (Value.slice (some ⟨g, 0, none⟩) n6 c6).ownBlock → (∀ g', v'.ownBlock = some g' → (Value.slice (some ⟨g, 0, none⟩) n6 c6).ownBlock = some g' ∨ g' = (w3.drew.alloc (.cells #[.int .i64 ((yy : Int) + 1), .int .i64 ((yy : Int) + 2)] 32)).heap.size) → ∃ g5 c5, v' = .slice (some ⟨g5, 0, none⟩) (n6 + 1) c5 ∧ OwnP L w4 w.heap.size g5 (n6 + 1) c5 (X.take (m + 1)) ∧ RowI (fun k => k = g5) w4 (some ⟨sy, oy, none⟩) X ∧ Below w.heap.size w w4) := by
          intro v' w4 ho hg hwh
          obtain ⟨g5, c7, rfl⟩ := ownsRow_succ ho
          have hw5 : g5 = g ∨ g5 = (w3.drew.alloc (.cells #[.int .i64 ((yy : Int) + 1), .int .i64 ((yy : Int) + 2)] 32)).heap.size := by
            rcases hwh g5 rfl with e | e
            · left; simpa [Value.ownBlock] using e.symm
            · right; exact e
          have hRdd : RowI (fun k => k = g) w3.drew (some ⟨sy, oy, none⟩) X := hRd3.call (Below.refl _ _).drew
          refine ⟨g5, c7, rfl, ?_, rowI_app hRdd hg hw5, (balloc hB3.drew _).grown hg hc5 (fun j hj => (World.ownsRow.lt HO.out j hj).1)⟩
          unfold OwnP
          rw [HPP.out, List.flatMap_append, ← hQ, List.flatMap_singleton, HPM.out]
          exact ho
        clear hcA hG3 hRd3 hQ hB3
        go_upto_region 8 with fail
        go_region_law (first
          | (refine step_append_wh rfl (.tmp 32) (.tmp 40) 29 rfl w.heap.size 32 i0 (.agg #[.int .i64 0, .int .i64 0]) 2 16 Tryz.underlying29 hi hz0 hz1 hz2 rfl (by decide) (.slice (some ⟨g, 0, none⟩) n6 c6) n6 Q (by simp [Act.eval]) (World.ownsRow.alloc (World.ownsRow.drew HO.out) _) ⟨w3.heap.size, 0, none⟩ 1 1 [.int .i64 ((yy : Int) + 1), .int .i64 ((yy : Int) + 2)] (by simp [Act.eval]) rfl hcB hc2 hc3 hc4 hc5 ?_; intro v' w4 hown' hgrow hwh; obtain ⟨g5, c5, rfl, hO5, hR5, hB5⟩ := HG.out v' w4 hown' hgrow hwh; clear hown' hgrow hwh))
        all_goals go_wp2
        all_goals exact ⟨⟨m + 1, g5, n6 + 1, c5, by go_num, rfl, by omega, by rw [HN.out]; rfl, hO5, hR5, hB5⟩, by simp [intOf]; omega⟩
    · have e1 : X.take m = chainP L kk (i + 3) := by rw [List.take_of_length_le (by omega), HX.out]
      rw [e1] at hG
      have HG : Hid (OwnP L wr w.heap.size g n6 c6 (chainP L kk (i + 3))) := hG
      have HM : Hid (n6 = kk) := (by rw [HN.out]; omega : n6 = kk)
      clear hG e1 HX hRd HN
      go_wp2
      go_ret
      exact ⟨g, n6, c6, rfl, HM.out, HG.out, hB⟩

end Go.Proofs.YtjhjhiiiiimpoaaGreatDoor

/-
  The law of Scoped: program and model answer the same; what came in stays.
-/
namespace Go.Proofs.YtjhjhiiiiimpoaaGreatDoor
open Go.RowKit

theorem putAll_empty (Y : List ByteArray) : (putAll [] Y).isEmpty = Y.isEmpty := by
  cases Y with
  | nil => rfl
  | cons y Y =>
    have h : y ∈ putAll [] (y :: Y) := (putAll_mem (y :: Y) [] y).mpr (Or.inr (List.mem_cons_self ..))
    cases hq : putAll [] (y :: Y) with
    | nil => rw [hq] at h; cases h
    | cons z Z => rfl
theorem scop_same (L : List ByteArray) : (playB L && ((findO L).fr.isEmpty && ((findO L).sc.isEmpty && !(findO L).bad))) = scopB L := by
  unfold scopB fndO Ot.plus
  simp only [Ot.none, Bool.false_or]
  rw [putAll_empty, putAll_empty]

end Go.Proofs.YtjhjhiiiiimpoaaGreatDoor

/-
  Chapter 12, the program: DefaultsIn.
-/
namespace Go.Proofs.YtjhjhiiiiimpoaaGreatDoor
open Go.RowKit

set_option maxHeartbeats 1000000 in
theorem isGiven_any (n s : Int) (w : World) :
    Calls Tryz.prog 13 #[.agg #[.int .i64 n, .int .i64 s]] w fun e w' => e = .returned (.bool (s != -1)) ∧ Below w.heap.size w w' := by
  go_enter Tryz.func13, Tryz.ntmps13
  go_wp2
  go_ret
  exact ⟨rfl, balloc (Below.refl _ _) _⟩

/-- The PARAMs of a fn stand between brackets. -/
theorem fn_open {L : List ByteArray} (h : playB L = true) {j : Int} (ho : isW (sgAt L j) [40] = true) (hf : isW (sgAt L (j + 1)) [102, 110] = true) : 0 ≤ itemE L (j + 2) := by
  obtain ⟨h0, h1⟩ := sgAt_open ho
  have hv : ItV L j := Or.inl ((play_gk h j h0 h1 ho).2 hf)
  obtain ⟨ho2, _⟩ := play_fn h ho hf
  obtain ⟨_, k, e, hch, he0, he1, he, _⟩ := hv.parts ho
  have hk := chI_ends k _ hch he0
  have hne : j + 2 ≠ e := fun e1 => by
    rw [← e1, isW_other ho2 (by decide)] at he
    cases he
  obtain ⟨_, _, hi, _⟩ := chI_next hch (by omega)
  exact hi
theorem df_step {L : List ByteArray} (h : playB L = true) (j : Nat) : (isW (sgAt L ((j + 1 : Nat) : Int)) [102, 110] = true → isW (sgAt L (j : Int)) [40] = true) ∧ (isW (sgAt L ((j + 1 : Nat) : Int)) [102, 110] = false → dfF L (j + 1) = dfF L j) := by
  refine ⟨fun hf => ?_, fun hf => ?_⟩
  · have := (fn_behind h hf).2
    rwa [show ((j + 1 : Nat) : Int) - 1 = (j : Int) by omega] at this
  · show dfF L j + dfN L j = dfF L j
    rw [dfN_no (Or.inr (by rw [show (j : Int) + 1 = ((j + 1 : Nat) : Int) by omega]; exact hf))]
    rfl

set_option maxRecDepth 100000 in
set_option maxHeartbeats 4000000 in
theorem defaultsInI_any (a : Option Addr) (cap : Nat) (L : List ByteArray) (w : World) (ht : Tab w) (h : ArgT w a L) (hL : L.length ≤ 1048576) :
    Calls Tryz.prog 7 #[.slice a L.length cap] w fun e w' => e = .returned (.int .i64 (dfE L)) ∧ Below w.heap.size w w' := by
  have HSC : Hid (Calls Tryz.prog 11 #[.slice a L.length cap] w fun e w' => e = .returned (.bool (scopB L)) ∧ Below w.heap.size w w') := by
    have := scopedI_any a cap L w ht h hL
    rw [scop_same] at this
    exact this
  cases hp : scopB L
  · have HC : Hid (dfE L = -1) := (by unfold dfE; rw [hp]; rfl : dfE L = -1)
    have HP : Hid (scopB L = false) := hp
    clear hp
    go_enter Tryz.func7, Tryz.ntmps7
    go_wp2_with fail
    refine HSC.out.mono ?_
    rintro e w1 ⟨rfl, hb1⟩
    rw [HP.out]
    go_wp2
    go_ret
    exact ⟨by rw [HC.out]; rfl, hb1⟩
  have HC : Hid (dfE L = (dfF L (L.length - 1) : Int)) := (by unfold dfE; rw [hp]; rfl : dfE L = (dfF L (L.length - 1) : Int))
  have HP : Hid (scopB L = true) := hp
  have hpl := scop_play hp
  have hl2 := play_len hpl
  have hsg := play_signs hpl
  clear hp
  go_enter Tryz.func7, Tryz.ntmps7
  go_wp2_with fail
  refine HSC.out.mono ?_
  rintro e w1 ⟨rfl, hb1⟩
  rw [HP.out]
  have h1 := h.call hb1
  clear HSC
  go_wp2
  go_loopw [3, 13] (fun v3 v13 wr => ∃ k : Nat, v3 = .int .i64 (dfF L (k - 1) : Int) ∧ v13 = .int .i64 (k : Int) ∧ k ≤ L.length ∧ Below w1.heap.size w1 wr) (fun _ v13 _ => L.length - (intOf v13).toNat)
  case atStart => exact ⟨0, rfl, rfl, Nat.zero_le _, Below.refl _ _⟩
  case round =>
    obtain ⟨k, rfl, rfl, hk, hB⟩ := hrel
    by_cases hlt : k < L.length
    · obtain ⟨sb, off, rfl, hs, hc, _⟩ := h1 k hlt
      have c1 := (hB.cell (p := ⟨sb, off + k, none⟩) hs).trans hc
      have g1 : sgAt L (k : Int) = L[k] := by rw [sgAt_in (by omega) (by omega)]; rfl
      rw [← g1] at c1
      clear hc g1
      cases k with
      | zero =>
        have bfn : ((sgAt L ((0 : Nat) : Int)).toList == [102, 110]) = false := by
          cases hf : isW (sgAt L ((0 : Nat) : Int)) [102, 110]
          · exact hf
          · have := (fn_behind hpl hf).1
            omega
        have HN : Hid (dfF L (0 - 1) = 0) := (rfl : dfF L (0 - 1) = 0)
        rw [HN.out]
        have c0 : wr.cell? ⟨sb, off, none⟩ = some (.string (sgAt L ((0 : Nat) : Int))) := c1
        clear c1
        generalize sgAt L ((0 : Nat) : Int) = s at c0 bfn
        go_wp2
        go_roundw
        case rel => exact ⟨1, rfl, by go_num, by omega, hB⟩
        case measure => simp [intOf]; omega
      | succ j =>
        obtain ⟨d1, d2⟩ := df_step hpl j
        have HJ : Hid (dfF L (j + 1 - 1) = dfF L j) := (rfl : dfF L (j + 1 - 1) = dfF L j)
        rw [HJ.out]
        have hcp : dfF L j ≤ 4004000 := dfF_cap hl2 (by omega)
        cases hf : isW (sgAt L ((j + 1 : Nat) : Int)) [102, 110]
        · have bfn : ((sgAt L ((j + 1 : Nat) : Int)).toList == [102, 110]) = false := hf
          have HN : Hid (dfF L (j + 1 + 1 - 1) = dfF L j) := d2 hf
          clear d1 d2 hf HJ
          generalize sgAt L ((j + 1 : Nat) : Int) = s at c1 bfn
          go_wp2
          go_roundw
          case rel => exact ⟨j + 1 + 1, by rw [HN.out], by go_num, by omega, hB⟩
          case measure => simp [intOf]; omega
        · have ho := d1 hf
          have hf' : isW (sgAt L ((j : Int) + 1)) [102, 110] = true := by rw [show (j : Int) + 1 = ((j + 1 : Nat) : Int) by omega]; exact hf
          obtain ⟨ho2, kk, e7, hch, he0, he1, he, hpc⟩ := play_fn hpl ho hf'
          have HDN : Hid (dfN L j = opnC L (chainP L kk ((j : Int) + 3))) := dfN_fn ho hf' hpc
          have hdc := dfN_le L j
          have hce := chainQ_ends kk _ hch he0
          have hit2 : 0 ≤ itemE L ((j : Int) + 2) := fn_open hpl ho hf'
          have HS : Hid (dfF L (j + 1 + 1 - 1) = dfF L j + dfN L j) := (rfl : dfF L (j + 1 + 1 - 1) = dfF L j + dfN L j)
          have HPO : Hid (∀ W, ArgT W (some ⟨sb, off, none⟩) L → Calls Tryz.prog 12 #[.slice (some ⟨sb, off, none⟩) L.length cap, .int .i64 (j : Int)] W fun e w' => ∃ g n cp, e = .returned (.slice (some ⟨g, 0, none⟩) n cp) ∧ n = kk ∧ OwnP L w' W.heap.size g n cp (chainP L kk ((j : Int) + 3)) ∧ Below W.heap.size W w') := fun W hA => paramsOf_any _ cap L (j : Int) e7 kk W hA hl2 hsg (by omega) ho2 hit2 hch he0 he1 he
          have bfn : ((sgAt L ((j + 1 : Nat) : Int)).toList == [102, 110]) = true := hf
          have hXl := chP_len L kk ((j : Int) + 3)
          have hXp : ∀ p ∈ chainP L kk ((j : Int) + 3), 0 ≤ p := fun p hp => by have := par_ends (chainQ_each kk _ hch p hp); omega
          obtain ⟨X, hX⟩ : ∃ X, X = chainP L kk ((j : Int) + 3) := ⟨_, rfl⟩
          rw [← hX] at HDN HPO hXl hXp
          have hXk : kk ≤ X.length := by omega
          have hXk' : X.length ≤ kk := by omega
          have hkk : kk ≤ 2000 := by omega
          clear d1 d2 hf hf' ho ho2 hpc hch hit2 hX hXl HJ
          generalize sgAt L ((j + 1 : Nat) : Int) = s at c1 bfn
          go_wp2_with fail
          refine (HPO.out _ (h1.call hB)).mono ?_
          rintro r w2 ⟨g, n, cp, rfl, hn, hO, hb2⟩
          subst hn
          have hB2 := bstep hB hb2
          have hzz := hB.size
          clear HPO hb2 hB c1
          go_wp2
          go_loopw [3, 25] (fun v3 v25 wq => ∃ m c : Nat, v25 = .int .i64 (m : Int) ∧ v3 = .int .i64 ((dfF L j : Int) + (c : Int)) ∧ m ≤ n ∧ Hid (c = opnC L (X.take m)) ∧ OwnP L wq w1.heap.size g n cp X ∧ Below w1.heap.size w1 wq) (fun _ v25 _ => n - (intOf v25).toNat)
          case atStart => exact ⟨0, 0, rfl, by go_num, Nat.zero_le _, by rw [List.take_zero]; rfl, ownP_mono hO hzz, hB2⟩
          case round =>
            clear hO hB2
            obtain ⟨m, c, rfl, rfl, hm, HCN, hO, hB2⟩ := hrel
            have hcc : c ≤ 2000 := by
              rw [HCN.out]
              have := opnC_le L (X.take m)
              rw [List.length_take] at this
              omega
            by_cases hlm : m < n
            · have hmX : m < X.length := by omega
              have hlm' : (m : Int) < (n : Int) := by omega
              have HTK : Hid (opnC L (X.take (m + 1)) = c + (if isW (sgAt L X[m]) [40] then 1 else 0)) := by
                show opnC L (X.take (m + 1)) = _
                rw [List.take_succ_eq_append_getElem hmX, opnC_app, ← HCN.out]
                rfl
              have hyp := hXp X[m] (List.getElem_mem hmX)
              cases h40 : isW (sgAt L X[m]) [40]
              · have hpm : pmC L X[m] = [.int .i64 X[m], .int .i64 (-1)] := by unfold pmC; rw [h40]; rfl
                obtain ⟨k0, k1⟩ := hO.at hmX hpm
                have HT2 : Hid (c = opnC L (X.take (m + 1))) := by
                  show c = _
                  rw [HTK.out, h40]
                  rfl
                clear HTK h40 hpm HCN
                generalize X[m] = y at k0 k1
                have HGV : Hid (∀ W, Calls Tryz.prog 13 #[.agg #[.int .i64 y, .int .i64 (-1)]] W fun e w' => e = .returned (.bool false) ∧ Below W.heap.size W w') := fun W => isGiven_any y (-1) W
                generalize dfF L j = d at hcp ⊢
                go_wp2_with fail
                refine (HGV.out _).mono ?_
                rintro e w4 ⟨rfl, hb4⟩
                have hBa := balloc (Below.refl wr.heap.size wr) (.cells #[.int .i64 y, .int .i64 (-1)] 32)
                have hB4 := bstep (balloc hB2 _) hb4
                have hO4 := hO.call (bstep hBa hb4)
                clear hb4 HGV hBa hO hB2 k0 k1
                go_wp2
                go_roundw
                case rel => exact ⟨m + 1, c, by go_num, rfl, by omega, HT2.out, hO4, hB4⟩
                case measure => simp [intOf]; omega
              · have hpm : pmC L X[m] = [.int .i64 (X[m] + 1), .int .i64 (X[m] + 2)] := by unfold pmC; rw [h40]; rfl
                obtain ⟨k0, k1⟩ := hO.at hmX hpm
                have HT2 : Hid (c + 1 = opnC L (X.take (m + 1))) := by
                  show c + 1 = _
                  rw [HTK.out, h40]
                  rfl
                clear HTK h40 hpm HCN
                generalize X[m] = y at k0 k1 hyp
                have hne : (y + 2 != -1) = true := by
                  rw [bne_iff_ne]
                  omega
                have HGV : Hid (∀ W, Calls Tryz.prog 13 #[.agg #[.int .i64 (y + 1), .int .i64 (y + 2)]] W fun e w' => e = .returned (.bool true) ∧ Below W.heap.size W w') := fun W => by
                  have := isGiven_any (y + 1) (y + 2) W
                  rw [hne] at this
                  exact this
                clear hne hyp
                generalize y + 1 = y1 at k0 HGV
                generalize y + 2 = y2 at k1 HGV
                generalize dfF L j = d at hcp ⊢
                go_wp2_with fail
                refine (HGV.out _).mono ?_
                rintro e w4 ⟨rfl, hb4⟩
                have hBa := balloc (Below.refl wr.heap.size wr) (.cells #[.int .i64 y1, .int .i64 y2] 32)
                have hB4 := bstep (balloc hB2 _) hb4
                have hO4 := hO.call (bstep hBa hb4)
                clear hb4 HGV hBa hO hB2 k0 k1
                go_wp2
                go_roundw
                case rel => exact ⟨m + 1, c + 1, by go_num, by go_num, by omega, HT2.out, hO4, hB4⟩
                case measure => simp [intOf]; omega
            · have HE : Hid (dfF L (j + 1 + 1 - 1) = dfF L j + c) := by
                show dfF L (j + 1 + 1 - 1) = dfF L j + c
                rw [HS.out, HDN.out, HCN.out, List.take_of_length_le (by omega)]
              clear HS HDN HCN hO
              generalize dfF L j = d at hcp HE ⊢
              go_wp2
              go_roundw
              case rel => exact ⟨j + 1 + 1, by rw [HE.out]; rfl, by go_num, by omega, hB2⟩
              case measure => simp [intOf]; omega
    · have HE : Hid (dfE L = (dfF L (k - 1) : Int)) := by
        show dfE L = (dfF L (k - 1) : Int)
        rw [HC.out]
        congr 2
        omega
      clear HC
      generalize dfF L (k - 1) = d at HE ⊢
      go_wp2
      go_ret
      exact ⟨by rw [HE.out]; rfl, bstep hb1 hB⟩

end Go.Proofs.YtjhjhiiiiimpoaaGreatDoor

/-
  The law of DefaultsIn: program and model answer the same; what came in stays.
-/
namespace Go.Proofs.YtjhjhiiiiimpoaaGreatDoor
open Go.RowKit

set_option maxHeartbeats 2000000 in
theorem lawDefaultsIn (a : Option Addr) (cap : Nat) (L : List ByteArray) (w : World) (ht : Tab w) (h : ArgT w a L) (hL : L.length ≤ maxLen) :
    Calls Tryz.prog 3 #[.slice a L.length cap] w fun e w' => e = .returned (.bool true) ∧ Below w.heap.size w w' := by
  go_enter Tryz.func3, Tryz.ntmps3
  go_wp2_with fail
  refine (szStringS_any a cap L _ h hL).mono ?_
  rintro e w1 ⟨x, rfl, hx, hb1⟩
  by_cases hneg : x < 0
  · go_wp2
    go_ret
    exact ⟨rfl, hb1⟩
  obtain ⟨hL2, hR2⟩ := hx (by omega)
  have hm : ∀ i (h : i < L.length), L[i].size ≤ maxLen := fun i hi => by
    obtain ⟨_, _, _, _, _, hm⟩ := h i hi
    exact hm
  have h1 := h.call hb1
  clear hR2
  go_wp2_with fail
  refine (toStringS_any a cap L _ h1 hL2).mono ?_
  rintro e w2 ⟨rfl, hr2, hb2⟩
  have h2 := h1.call hb2
  have hB2 := bstep hb1 hb2
  go_wp2_with fail
  refine (defaultsInS_any _ _ L _ (hr2.arg hm) hL2).mono ?_
  rintro e w3 ⟨rfl, hb3⟩
  have h3 := h2.call hb3
  have hB3 := bstep hB2 hb3
  go_wp2_with fail
  refine (toStringS_any a cap L _ h3 hL2).mono ?_
  rintro e w4 ⟨rfl, hr4, hb4⟩
  have h4 := h3.call hb4
  have hB4 := bstep hB3 hb4
  go_wp2_with fail
  refine (defaultsInI_any _ _ L _ (tab_call ht hB4) (hr4.arg hm) hL2).mono ?_
  rintro e w5 ⟨rfl, hb5⟩
  have h5 := h4.call hb5
  have hr5 := hr4.call hb5
  have hB5 := bstep hB4 hb5
  generalize dfE L = T
  go_wp2_with fail
  refine (toStringS_any a cap L _ h5 hL2).mono ?_
  rintro e w6 ⟨rfl, hr6, hb6⟩
  have hr5' := hr5.call hb6
  have hB6 := bstep hB5 hb6
  go_wp2_with fail
  refine (eqStringS_two _ _ _ _ L _ (hr5'.arg hm) (hr6.arg hm) hL2).mono ?_
  rintro e w7 ⟨rfl, hb7⟩
  go_wp2
  go_ret
  exact ⟨rfl, bstep hB6 hb7⟩

end Go.Proofs.YtjhjhiiiiimpoaaGreatDoor
