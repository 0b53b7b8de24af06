/-
  Chapter 5, the model: lists of names: a copy, a name more where it belongs, whether one stands there twice.
-/
import Derived.Test.YtefgmhlpcfmhlaaDoorPutL
import Derived.Test.YtefgmhlpcfmhlaaDoorOwnN
import Derived.Laws.AppendOwnNone
namespace Go.Proofs.YtefgmhlpcfmhlaaDoor
open Go.RowKit

/-- A list of texts that nobody writes into (block c is another one's). -/
def Lst (c : Nat) (w : World) (v : Value) (X : List ByteArray) : Prop :=
  (v = .slice none 0 0 ∧ X = []) ∨ ∃ sb off cap, v = .slice (some ⟨sb, off, none⟩) X.length cap ∧ X.length ≤ cap ∧ cap ≤ maxLen ∧ sb < w.heap.size ∧ sb ≠ c ∧ ∀ i (h : i < X.length), w.cell? ⟨sb, off + i, none⟩ = some (.string X[i]) ∧ X[i].size ≤ maxLen
theorem Lst.call {c : Nat} {w w' : World} {v : Value} {X : List ByteArray} (h : Lst c w v X) (hb : Below w.heap.size w w') : Lst c w' v X := by
  rcases h with h | ⟨sb, off, cap, hv, h1, h2, h3, h4, h5⟩
  · exact Or.inl h
  · exact Or.inr ⟨sb, off, cap, hv, h1, h2, Nat.lt_of_lt_of_le h3 hb.size, h4, fun i hi => ⟨(hb.cell (p := ⟨sb, off + i, none⟩) h3).trans (h5 i hi).1, (h5 i hi).2⟩⟩
theorem Lst.but {c : Nat} {w w' : World} {v : Value} {X : List ByteArray} (h : Lst c w v X) (hb : But c w w') : Lst c w' v X := by
  rcases h with h | ⟨sb, off, cap, hv, h1, h2, h3, h4, h5⟩
  · exact Or.inl h
  · exact Or.inr ⟨sb, off, cap, hv, h1, h2, Nat.lt_of_lt_of_le h3 hb.2.2.2.1, h4, fun i hi => ⟨(hb.cell sb (off + i) h3 h4).trans (h5 i hi).1, (h5 i hi).2⟩⟩
theorem Lst.size {c : Nat} {w : World} {v : Value} {X : List ByteArray} (h : Lst c w v X) (i : Nat) (hi : i < X.length) : X[i].size ≤ maxLen := by
  rcases h with ⟨_, rfl⟩ | ⟨_, _, _, _, _, _, _, _, h5⟩
  · exact absurd hi (Nat.not_lt_zero _)
  · exact (h5 i hi).2
theorem OwnN.lst {c B : Nat} {w : World} {v : Value} {X : List ByteArray} (h : OwnN w B v X) (hc : c < B) (hs : ∀ i (h : i < X.length), X[i].size ≤ maxLen) : Lst c w v X := by
  rcases h.1.2 with ⟨hv, _⟩ | ⟨g, cap, cur, rfl, hB, hg, hcap, hmax, hsz, htake⟩
  · exact absurd hv h.2
  · refine Or.inr ⟨g, 0, cap, rfl, hcap, hmax, (Array.getElem?_eq_some_iff.1 hg).1, by omega, fun i hi => ⟨?_, hs i hi⟩⟩
    have hc := h.cells i (.string X[i]) (by simp [hi])
    rw [Nat.zero_add]
    have hplain : (⟨g, 0, none⟩ : Addr).add i = ⟨g, i, none⟩ := by
      unfold Addr.add
      split
      · simp_all
      · simp
    rw [hplain] at hc
    exact hc

theorem OwnN.lo {w : World} {B g n cap : Nat} {X : List ByteArray} (h : OwnN w B (.slice (some ⟨g, 0, none⟩) n cap) X) : B ≤ g ∧ g < w.heap.size := by
  rcases h.1.2 with ⟨hv, _⟩ | ⟨g', cap', cur, hv, hB, hg, _⟩
  · cases hv
  · injection hv with ha _ _
    injection ha with ha
    injection ha with e1 _ _
    subst e1
    exact ⟨hB, (Array.getElem?_eq_some_iff.1 hg).1⟩
theorem OwnN.grown {w w' : World} {B : Nat} {v : Value} {X : List ByteArray} {row : Option Nat} (h : OwnN w B v X) (hg : w.grownBy w' row) (hne : v.ownBlock ≠ row) : OwnN w' B v X := ⟨World.ownsRow.kept h.1 hg (Or.inr hne), h.2⟩
theorem OwnN.alloc {w : World} {B : Nat} {v : Value} {X : List ByteArray} (h : OwnN w B v X) (o : Obj) : OwnN (w.alloc o) B v X := ⟨World.ownsRow.alloc h.1 o, h.2⟩

set_option maxHeartbeats 2000000 in
theorem l1Texts_any (c : Nat) (v : Value) (X : List ByteArray) (w : World) (h : Lst c w v X) (hX : X.length ≤ 8000000) :
    Calls Tryd.prog 32 #[v] w fun e w' => ∃ v', e = .returned v' ∧ OwnN w' w.heap.size v' X ∧ Below w.heap.size w w' := by
  obtain ⟨i0, hi, hz0, hz1, hz2⟩ := info_parts Tryd.infoS
  have hO := ownN_new w w.heap.size (Nat.le_refl _)
  have hB0 := balloc (Below.refl w.heap.size w) (.cells #[] 9)
  rcases h with ⟨rfl, rfl⟩ | ⟨sb, off, cap, rfl, h1, h2, h3, h4, h5⟩
  · go_enter Tryd.func32, Tryd.ntmps32
    go_wp2_with (at_builtin; refine wpList_append_own_none rfl _ _ 22 rfl w.heap.size 9 i0 1 Tryd.underlying22 hi _ _ _ rfl hO.1 rfl ?_)
    go_wp2
    go_ret
    exact ⟨_, rfl, hO, hB0⟩
  · have hcc1 : ∀ j u, (X.map Value.string)[j]? = some u → (w.alloc (.cells #[] 9)).cell? ((⟨sb, off, none⟩ : Addr).add j) = some u := fun j u hj => by
      have hjl : j < X.length := by
        have := (List.getElem?_eq_some_iff.1 hj).1
        simpa using this
      have hu : u = .string X[j] := by
        simp [hjl] at hj
        exact hj.symm
      have hplain : (⟨sb, off, none⟩ : Addr).add j = ⟨sb, off + j, none⟩ := by unfold Addr.add; split <;> simp_all
      rw [hplain, hu]
      exact (hB0.cell (p := ⟨sb, off + j, none⟩) h3).trans (h5 j hjl).1
    have hcc2 : ∀ u ∈ X.map Value.string, u.oneCell' = true := fun u hu => by
      obtain ⟨z, _, rfl⟩ := List.mem_map.1 hu
      rfl
    have hc0 : (X.map Value.string).length = X.length * 1 := by simp
    have hc3 : ([] : List ByteArray).length + X.length ≤ maxLen := by unfold maxLen; simp; omega
    have hc4 : (([] : List ByteArray).length + X.length) * 16 ≤ 140737488355328 := by simp; omega
    have hc5 := hB0.size
    go_enter Tryd.func32, Tryd.ntmps32
    go_wp2_with (at_builtin; refine wpList_append_own _ rfl _ _ 22 rfl w.heap.size 9 i0 (.string ⟨#[]⟩) 1 16 Tryd.underlying22 hi hz0 hz1 hz2 rfl (by decide) _ _ _ rfl hO.1 ⟨sb, off, none⟩ X.length cap (X.map Value.string) rfl hc0 hcc1 hcc2 hc3 hc4 hc5 ?_)
    intro v' w3 hown' hgrow hnil
    have hR : OwnN w3 w.heap.size v' X := by
      refine ⟨?_, fun er => ?_⟩
      · unfold OwnT
        simpa using hown'
      · simp [er] at hnil
    have hB3 : Below w.heap.size w w3 := hB0.grown hgrow hc5 (fun q hq => (World.ownsRow.lt hO.1 q hq).1)
    clear hown' hgrow hnil
    go_wp2
    go_ret
    exact ⟨_, rfl, hR, hB3⟩

theorem Lst.drop {c sb off cap k : Nat} {w : World} {X : List ByteArray} (h : Lst c w (.slice (some ⟨sb, off, none⟩) X.length cap) X) (hk : k ≤ X.length) : Lst c w (.slice (some ⟨sb, off + k, none⟩) (X.length - k) (cap - k)) (X.drop k) := by
  rcases h with ⟨h, _⟩ | ⟨sb', off', cap', hv, h1, h2, h3, h4, h5⟩
  · cases h
  · injection hv with ha _ hc
    injection ha with ha
    injection ha with e1 e2 _
    subst e1 e2 hc
    refine Or.inr ⟨sb, off + k, cap - k, by rw [List.length_drop], by rw [List.length_drop]; omega, by omega, h3, h4, fun i hi => ?_⟩
    have hi' : k + i < X.length := by rw [List.length_drop] at hi; omega
    rw [List.getElem_drop, show off + k + i = off + (k + i) by omega]
    exact h5 (k + i) hi'
theorem Lst.take {c sb off cap k : Nat} {w : World} {X : List ByteArray} (h : Lst c w (.slice (some ⟨sb, off, none⟩) X.length cap) X) (hk : k ≤ X.length) : Lst c w (.slice (some ⟨sb, off, none⟩) k cap) (X.take k) := by
  rcases h with ⟨h, _⟩ | ⟨sb', off', cap', hv, h1, h2, h3, h4, h5⟩
  · cases h
  · injection hv with ha _ hc
    injection ha with ha
    injection ha with e1 e2 _
    subst e1 e2 hc
    refine Or.inr ⟨sb, off, cap, by rw [List.length_take]; congr 1; omega, by rw [List.length_take]; omega, h2, h3, h4, fun i hi => ?_⟩
    have hi' : i < X.length := by rw [List.length_take] at hi; omega
    rw [List.getElem_take]
    exact h5 i hi'

set_option maxHeartbeats 4000000 in
theorem l5Put_own (c : Nat) (v : Value) (X : List ByteArray) (s : ByteArray) (w : World) (h : Lst c w v X) (hX : X.length ≤ 3000000) (hs : s.size ≤ maxLen) (hcw : c < w.heap.size) :
    Calls Tryd.prog 26 #[v, .string s] w fun e w' => ∃ v', e = .returned v' ∧ (v' = v ∧ putL X s = X ∨ OwnN w' w.heap.size v' (putL X s)) ∧ Lst c w' v' (putL X s) ∧ Below w.heap.size w w' := by
  obtain ⟨i0, hi, hz0, hz1, hz2⟩ := info_parts Tryd.infoS
  have hsz : ∀ i (h : i < (putL X s).length), (putL X s)[i].size ≤ maxLen := fun i hi' => by
    have hm : (putL X s)[i] ∈ putL X s := List.getElem_mem hi'
    have hall : ∀ z ∈ putL X s, z.size ≤ maxLen := fun z hz => by
      have hz' : z ∈ X ∨ z = s := by
        unfold putL at hz
        split at hz
        · exact Or.inl hz
        · rcases List.mem_append.1 hz with hz | hz
          · rcases List.mem_append.1 hz with hz | hz
            · exact Or.inl (List.mem_of_mem_take hz)
            · exact Or.inr (by simpa using hz)
          · exact Or.inl (List.mem_of_mem_drop hz)
      rcases hz' with hz' | rfl
      · obtain ⟨j, hj, rfl⟩ := List.getElem_of_mem hz'
        exact h.size j hj
      · exact hs
    exact hall _ hm
  rcases h with ⟨rfl, rfl⟩ | hS
  · obtain ⟨DD, hDD⟩ : ∃ D : List ByteArray, D = [] := ⟨_, rfl⟩
    obtain ⟨TT, hTT⟩ : ∃ T : List ByteArray, T = [] := ⟨_, rfl⟩
    have hDl : DD.length ≤ 3000000 := by rw [hDD]; first | omega | (simp; done) | (simp; omega)
    have hTl : TT.length ≤ 3000000 := by rw [hTT]; first | omega | (simp; done) | (simp; omega)
    have HN : Hid (putL [] s = TT ++ [s] ++ DD) := (by rw [hDD, hTT]; simp [putL, posN] : putL [] s = TT ++ [s] ++ DD)
    have hd : Lst c w (.slice none 0 0) DD := Or.inl ⟨rfl, hDD⟩
    have ht : Lst c w (.slice none 0 0) TT := Or.inl ⟨rfl, hTT⟩
    have hB : Below w.heap.size w w := Below.refl _ _
    clear hDD hTT
    go_enter Tryd.func26, Tryd.ntmps26
    go_wp2
    refine wp_loop_rounds 1 ?_
    rw [rounds_succ]
    go_wp2_with fail
    refine (l1Texts_any c _ DD _ hd (by omega)).mono ?_
    rintro e w1 ⟨v1, rfl, hr1, hb1⟩
    have hB1 := bstep hB hb1
    have ht1 := ht.call hb1
    obtain ⟨g1, cp1, rfl⟩ := hr1.shape
    go_wp2_with fail
    refine (l1Texts_any c _ TT _ ht1 (by omega)).mono ?_
    rintro e w2 ⟨v2, rfl, hr2, hb2⟩
    have hB2 := bstep hB1 hb2
    have hr1' := hr1.call hb2
    have hs2 := hB2.size
    have hs1 := hB1.size
    have hO2 : OwnN w2 w.heap.size v2 TT := ⟨ownT_mono hr2.1 hs1, hr2.2⟩
    obtain ⟨g2, cp2, rfl⟩ := hO2.shape
    have hcc1 : ∀ j u, [Value.string s][j]? = some u → (w2.alloc (.cells #[.string s] 9)).cell? ((⟨w2.heap.size, 0, none⟩ : Addr).add j) = some u := fun j u hj => by
      match j, hj with
      | 0, hj => simp at hj; subst hj; simp [Addr.add]
    have hcc2 : ∀ u ∈ [Value.string s], u.oneCell' = true := fun u hu => by simp at hu; subst hu; rfl
    have hc3 : TT.length + 1 ≤ maxLen := by unfold maxLen; omega
    have hc4 : (TT.length + 1) * 16 ≤ 140737488355328 := by omega
    have hc5 : w.heap.size ≤ (w2.alloc (.cells #[.string s] 9)).heap.size := by simp; omega
    go_wp2_with (at_builtin; refine wpList_append_own _ rfl _ _ 22 rfl w.heap.size 9 i0 (.string ⟨#[]⟩) 1 16 Tryd.underlying22 hi hz0 hz1 hz2 rfl (by decide) _ _ _ rfl (World.ownsRow.alloc hO2.1 _) ⟨w2.heap.size, 0, none⟩ 1 1 [.string s] rfl rfl hcc1 hcc2 hc3 hc4 hc5 ?_)
    intro v3 w3 hown3 hgrow3 hnil3
    have hO3 : OwnN w3 w.heap.size v3 (TT ++ [s]) := by
      refine ⟨?_, fun er => ?_⟩
      · unfold OwnT
        rw [List.map_append, List.length_append]
        exact hown3
      · exact hnil3 er
    have hB3 : Below w.heap.size w w3 := (balloc hB2 _).grown hgrow3 hc5 (fun q hq => (World.ownsRow.lt hO2.1 q hq).1)
    have hlo1 := hr1.lo
    have hlo2 := hr2.lo
    have hr3 := (hr1'.alloc (.cells #[.string s] 9)).grown hgrow3 (by simp [Value.ownBlock]; omega)
    obtain ⟨g3, cp3, rfl⟩ := hO3.shape
    clear hown3 hgrow3 hnil3 hcc1 hcc2 hc3 hc4 hc5
    have hcc1 := hr3.cells
    have hcc2 : ∀ u ∈ DD.map Value.string, u.oneCell' = true := fun u hu => by
      obtain ⟨z, _, rfl⟩ := List.mem_map.1 hu
      rfl
    have hc0 : (DD.map Value.string).length = DD.length * 1 := by simp
    have hc3 : (TT ++ [s]).length + DD.length ≤ maxLen := by unfold maxLen; simp; omega
    have hc4 : ((TT ++ [s]).length + DD.length) * 16 ≤ 140737488355328 := by simp; omega
    have hc5 := hB3.size
    generalize hMM : TT ++ [s] = MM at hO3 HN hc3 hc4 ⊢
    clear hMM
    go_wp2_with (at_builtin; refine wpList_append_own _ rfl _ _ 22 rfl w.heap.size 9 i0 (.string ⟨#[]⟩) 1 16 Tryd.underlying22 hi hz0 hz1 hz2 rfl (by decide) _ _ _ rfl hO3.1 ⟨g1, 0, none⟩ DD.length cp1 (DD.map Value.string) rfl hc0 hcc1 hcc2 hc3 hc4 hc5 ?_)
    intro v4 w4 hown4 hgrow4 hnil4
    have hO4 : OwnN w4 w.heap.size v4 (MM ++ DD) := by
      refine ⟨?_, fun er => ?_⟩
      · unfold OwnT
        rw [List.map_append, List.length_append]
        exact hown4
      · simp [er] at hnil4
    have hB4 : Below w.heap.size w w4 := hB3.grown hgrow4 hc5 (fun q hq => (World.ownsRow.lt hO3.1 q hq).1)
    clear hown4 hgrow4 hnil4 hcc1 hcc2
    rw [← HN.out] at hO4
    obtain ⟨g4, cp4, rfl⟩ := hO4.shape
    have hF := hO4.lst hcw hsz
    go_wp2
    go_ret
    exact ⟨_, rfl, Or.inr hO4, hF, hB4⟩
  · obtain ⟨sb, off, cap, rfl, h1, h2, h3, h4, h5⟩ := id hS
    have hL : Lst c w (.slice (some ⟨sb, off, none⟩) X.length cap) X := Or.inr hS
    clear hS
    go_enter Tryd.func26, Tryd.ntmps26
    go_wp2
    go_loopw [5] (fun v5 wr => ∃ k : Nat, v5 = .int .i64 (k : Int) ∧ k ≤ X.length ∧ Hid (∀ j (h : j < X.length), j < k → ltB X[j] s = true) ∧ Below w.heap.size w wr) (fun v5 _ => X.length - (intOf v5).toNat)
    case atStart => exact ⟨0, rfl, Nat.zero_le _, fun j _ hj => absurd hj (Nat.not_lt_zero _), Below.refl _ _⟩
    case round =>
      obtain ⟨k, rfl, hk, HA, hB⟩ := hrel
      have hL' := hL.call hB
      by_cases hlt : k < X.length
      · have hc := (hB.cell (p := ⟨sb, off + k, none⟩) h3).trans (h5 k hlt).1
        cases hq : ltB X[k] s
        · have HP : Hid (posN X s = k) := pos_eq s X k hk HA.out (fun _ => hq)
          have hbl : Op.bytesLess X[k].toList s.toList = false := hq
          cases he : (X[k].toList == s.toList)
          · have hN := putL_new HP.out (fun _ => he)
            have hd := hL'.drop hk
            have ht := hL'.take hk
            obtain ⟨DD, hDD⟩ : ∃ D : List ByteArray, D = X.drop k := ⟨_, rfl⟩
            obtain ⟨TT, hTT⟩ : ∃ T : List ByteArray, T = X.take k := ⟨_, rfl⟩
            have hDl : DD.length ≤ 3000000 := by rw [hDD]; first | omega | (simp; done) | (simp; omega)
            have hTl : TT.length ≤ 3000000 := by rw [hTT]; first | omega | (simp; done) | (simp; omega)
            rw [← hDD] at hd hN
            rw [← hTT] at ht hN
            have HN : Hid (putL X s = TT ++ [s] ++ DD) := hN
            clear HA HP hDD hTT hN
            generalize X[k] = t at hc hq hbl he
            unfold maxLen at h2
            go_wp2_with fail
            refine (l1Texts_any c _ DD _ hd (by omega)).mono ?_
            rintro e w1 ⟨v1, rfl, hr1, hb1⟩
            have hB1 := bstep hB hb1
            have ht1 := ht.call hb1
            obtain ⟨g1, cp1, rfl⟩ := hr1.shape
            go_wp2_with fail
            refine (l1Texts_any c _ TT _ ht1 (by omega)).mono ?_
            rintro e w2 ⟨v2, rfl, hr2, hb2⟩
            have hB2 := bstep hB1 hb2
            have hr1' := hr1.call hb2
            have hs2 := hB2.size
            have hs1 := hB1.size
            have hO2 : OwnN w2 w.heap.size v2 TT := ⟨ownT_mono hr2.1 hs1, hr2.2⟩
            obtain ⟨g2, cp2, rfl⟩ := hO2.shape
            have hcc1 : ∀ j u, [Value.string s][j]? = some u → (w2.alloc (.cells #[.string s] 9)).cell? ((⟨w2.heap.size, 0, none⟩ : Addr).add j) = some u := fun j u hj => by
              match j, hj with
              | 0, hj => simp at hj; subst hj; simp [Addr.add]
            have hcc2 : ∀ u ∈ [Value.string s], u.oneCell' = true := fun u hu => by simp at hu; subst hu; rfl
            have hc3 : TT.length + 1 ≤ maxLen := by unfold maxLen; omega
            have hc4 : (TT.length + 1) * 16 ≤ 140737488355328 := by omega
            have hc5 : w.heap.size ≤ (w2.alloc (.cells #[.string s] 9)).heap.size := by simp; omega
            go_wp2_with (at_builtin; refine wpList_append_own _ rfl _ _ 22 rfl w.heap.size 9 i0 (.string ⟨#[]⟩) 1 16 Tryd.underlying22 hi hz0 hz1 hz2 rfl (by decide) _ _ _ rfl (World.ownsRow.alloc hO2.1 _) ⟨w2.heap.size, 0, none⟩ 1 1 [.string s] rfl rfl hcc1 hcc2 hc3 hc4 hc5 ?_)
            intro v3 w3 hown3 hgrow3 hnil3
            have hO3 : OwnN w3 w.heap.size v3 (TT ++ [s]) := by
              refine ⟨?_, fun er => ?_⟩
              · unfold OwnT
                rw [List.map_append, List.length_append]
                exact hown3
              · exact hnil3 er
            have hB3 : Below w.heap.size w w3 := (balloc hB2 _).grown hgrow3 hc5 (fun q hq => (World.ownsRow.lt hO2.1 q hq).1)
            have hlo1 := hr1.lo
            have hlo2 := hr2.lo
            have hr3 := (hr1'.alloc (.cells #[.string s] 9)).grown hgrow3 (by simp [Value.ownBlock]; omega)
            obtain ⟨g3, cp3, rfl⟩ := hO3.shape
            clear hown3 hgrow3 hnil3 hcc1 hcc2 hc3 hc4 hc5
            have hcc1 := hr3.cells
            have hcc2 : ∀ u ∈ DD.map Value.string, u.oneCell' = true := fun u hu => by
              obtain ⟨z, _, rfl⟩ := List.mem_map.1 hu
              rfl
            have hc0 : (DD.map Value.string).length = DD.length * 1 := by simp
            have hc3 : (TT ++ [s]).length + DD.length ≤ maxLen := by unfold maxLen; simp; omega
            have hc4 : ((TT ++ [s]).length + DD.length) * 16 ≤ 140737488355328 := by simp; omega
            have hc5 := hB3.size
            generalize hMM : TT ++ [s] = MM at hO3 HN hc3 hc4 ⊢
            clear hMM
            go_wp2_with (at_builtin; refine wpList_append_own _ rfl _ _ 22 rfl w.heap.size 9 i0 (.string ⟨#[]⟩) 1 16 Tryd.underlying22 hi hz0 hz1 hz2 rfl (by decide) _ _ _ rfl hO3.1 ⟨g1, 0, none⟩ DD.length cp1 (DD.map Value.string) rfl hc0 hcc1 hcc2 hc3 hc4 hc5 ?_)
            intro v4 w4 hown4 hgrow4 hnil4
            have hO4 : OwnN w4 w.heap.size v4 (MM ++ DD) := by
              refine ⟨?_, fun er => ?_⟩
              · unfold OwnT
                rw [List.map_append, List.length_append]
                exact hown4
              · simp [er] at hnil4
            have hB4 : Below w.heap.size w w4 := hB3.grown hgrow4 hc5 (fun q hq => (World.ownsRow.lt hO3.1 q hq).1)
            clear hown4 hgrow4 hnil4 hcc1 hcc2
            rw [← HN.out] at hO4
            obtain ⟨g4, cp4, rfl⟩ := hO4.shape
            have hF := hO4.lst hcw hsz
            go_wp2
            go_ret
            exact ⟨_, rfl, Or.inr hO4, hF, hB4⟩
          · have HS : Hid (putL X s = X) := putL_same HP.out hlt he
            clear HA HP
            generalize X[k] = t at hc hq hbl he
            go_wp2
            go_ret
            exact ⟨_, rfl, Or.inl ⟨rfl, HS.out⟩, by rw [HS.out]; exact hL', hB⟩
        · have HN : Hid (∀ j (h : j < X.length), j < k + 1 → ltB X[j] s = true) := fun j hj hlt' => by
            by_cases e : j = k
            · subst e; exact hq
            · exact HA.out j hj (by omega)
          have hbl : Op.bytesLess X[k].toList s.toList = true := hq
          clear hq HA
          generalize X[k] = t at hc hbl
          go_wp2
          go_roundw
          case rel => exact ⟨k + 1, by go_num, by omega, HN.out, hB⟩
          case measure => simp [intOf]; omega
      · have e0 : k = X.length := by omega
        subst e0
        have HP : Hid (posN X s = X.length) := pos_eq s X X.length hk HA.out (fun h => absurd h hlt)
        have hN := putL_new HP.out (fun h => absurd h hlt)
        rw [List.take_length, List.drop_length] at hN
        clear HA HP
        obtain ⟨DD, hDD⟩ : ∃ D : List ByteArray, D = [] := ⟨_, rfl⟩
        obtain ⟨TT, hTT⟩ : ∃ T : List ByteArray, T = X := ⟨_, rfl⟩
        have hDl : DD.length ≤ 3000000 := by rw [hDD]; first | omega | (simp; done) | (simp; omega)
        have hTl : TT.length ≤ 3000000 := by rw [hTT]; first | omega | (simp; done) | (simp; omega)
        have HN : Hid (putL X s = TT ++ [s] ++ DD) := (by rw [hTT, hDD]; exact hN : putL X s = TT ++ [s] ++ DD)
        have ht : Lst c wr (.slice (some ⟨sb, off, none⟩) X.length cap) TT := by rw [hTT]; exact hL'
        by_cases hcap : cap = X.length
        · have hd : Lst c wr (.slice (some ⟨sb, off, none⟩) 0 0) DD := by
            rw [hDD]
            exact Or.inr ⟨sb, off, 0, rfl, Nat.le_refl _, Nat.zero_le _, Nat.lt_of_lt_of_le h3 hB.size, h4, fun i hi => absurd hi (Nat.not_lt_zero _)⟩
          subst hcap
          clear hDD hTT hN
          unfold maxLen at h2
          go_wp2_with fail
          refine (l1Texts_any c _ DD _ hd (by omega)).mono ?_
          rintro e w1 ⟨v1, rfl, hr1, hb1⟩
          have hB1 := bstep hB hb1
          have ht1 := ht.call hb1
          obtain ⟨g1, cp1, rfl⟩ := hr1.shape
          go_wp2_with fail
          refine (l1Texts_any c _ TT _ ht1 (by omega)).mono ?_
          rintro e w2 ⟨v2, rfl, hr2, hb2⟩
          have hB2 := bstep hB1 hb2
          have hr1' := hr1.call hb2
          have hs2 := hB2.size
          have hs1 := hB1.size
          have hO2 : OwnN w2 w.heap.size v2 TT := ⟨ownT_mono hr2.1 hs1, hr2.2⟩
          obtain ⟨g2, cp2, rfl⟩ := hO2.shape
          have hcc1 : ∀ j u, [Value.string s][j]? = some u → (w2.alloc (.cells #[.string s] 9)).cell? ((⟨w2.heap.size, 0, none⟩ : Addr).add j) = some u := fun j u hj => by
            match j, hj with
            | 0, hj => simp at hj; subst hj; simp [Addr.add]
          have hcc2 : ∀ u ∈ [Value.string s], u.oneCell' = true := fun u hu => by simp at hu; subst hu; rfl
          have hc3 : TT.length + 1 ≤ maxLen := by unfold maxLen; omega
          have hc4 : (TT.length + 1) * 16 ≤ 140737488355328 := by omega
          have hc5 : w.heap.size ≤ (w2.alloc (.cells #[.string s] 9)).heap.size := by simp; omega
          go_wp2_with (at_builtin; refine wpList_append_own _ rfl _ _ 22 rfl w.heap.size 9 i0 (.string ⟨#[]⟩) 1 16 Tryd.underlying22 hi hz0 hz1 hz2 rfl (by decide) _ _ _ rfl (World.ownsRow.alloc hO2.1 _) ⟨w2.heap.size, 0, none⟩ 1 1 [.string s] rfl rfl hcc1 hcc2 hc3 hc4 hc5 ?_)
          intro v3 w3 hown3 hgrow3 hnil3
          have hO3 : OwnN w3 w.heap.size v3 (TT ++ [s]) := by
            refine ⟨?_, fun er => ?_⟩
            · unfold OwnT
              rw [List.map_append, List.length_append]
              exact hown3
            · exact hnil3 er
          have hB3 : Below w.heap.size w w3 := (balloc hB2 _).grown hgrow3 hc5 (fun q hq => (World.ownsRow.lt hO2.1 q hq).1)
          have hlo1 := hr1.lo
          have hlo2 := hr2.lo
          have hr3 := (hr1'.alloc (.cells #[.string s] 9)).grown hgrow3 (by simp [Value.ownBlock]; omega)
          obtain ⟨g3, cp3, rfl⟩ := hO3.shape
          clear hown3 hgrow3 hnil3 hcc1 hcc2 hc3 hc4 hc5
          have hcc1 := hr3.cells
          have hcc2 : ∀ u ∈ DD.map Value.string, u.oneCell' = true := fun u hu => by
            obtain ⟨z, _, rfl⟩ := List.mem_map.1 hu
            rfl
          have hc0 : (DD.map Value.string).length = DD.length * 1 := by simp
          have hc3 : (TT ++ [s]).length + DD.length ≤ maxLen := by unfold maxLen; simp; omega
          have hc4 : ((TT ++ [s]).length + DD.length) * 16 ≤ 140737488355328 := by simp; omega
          have hc5 := hB3.size
          generalize hMM : TT ++ [s] = MM at hO3 HN hc3 hc4 ⊢
          clear hMM
          go_wp2_with (at_builtin; refine wpList_append_own _ rfl _ _ 22 rfl w.heap.size 9 i0 (.string ⟨#[]⟩) 1 16 Tryd.underlying22 hi hz0 hz1 hz2 rfl (by decide) _ _ _ rfl hO3.1 ⟨g1, 0, none⟩ DD.length cp1 (DD.map Value.string) rfl hc0 hcc1 hcc2 hc3 hc4 hc5 ?_)
          intro v4 w4 hown4 hgrow4 hnil4
          have hO4 : OwnN w4 w.heap.size v4 (MM ++ DD) := by
            refine ⟨?_, fun er => ?_⟩
            · unfold OwnT
              rw [List.map_append, List.length_append]
              exact hown4
            · simp [er] at hnil4
          have hB4 : Below w.heap.size w w4 := hB3.grown hgrow4 hc5 (fun q hq => (World.ownsRow.lt hO3.1 q hq).1)
          clear hown4 hgrow4 hnil4 hcc1 hcc2
          rw [← HN.out] at hO4
          obtain ⟨g4, cp4, rfl⟩ := hO4.shape
          have hF := hO4.lst hcw hsz
          go_wp2
          go_ret
          exact ⟨_, rfl, Or.inr hO4, hF, hB4⟩
        · have hd : Lst c wr (.slice (some ⟨sb, off + X.length, none⟩) 0 (cap - X.length)) DD := by
            rw [hDD]
            exact Or.inr ⟨sb, off + X.length, cap - X.length, rfl, Nat.zero_le _, by omega, Nat.lt_of_lt_of_le h3 hB.size, h4, fun i hi => absurd hi (Nat.not_lt_zero _)⟩
          clear hDD hTT hN
          unfold maxLen at h2
          go_wp2_with fail
          refine (l1Texts_any c _ DD _ hd (by omega)).mono ?_
          rintro e w1 ⟨v1, rfl, hr1, hb1⟩
          have hB1 := bstep hB hb1
          have ht1 := ht.call hb1
          obtain ⟨g1, cp1, rfl⟩ := hr1.shape
          go_wp2_with fail
          refine (l1Texts_any c _ TT _ ht1 (by omega)).mono ?_
          rintro e w2 ⟨v2, rfl, hr2, hb2⟩
          have hB2 := bstep hB1 hb2
          have hr1' := hr1.call hb2
          have hs2 := hB2.size
          have hs1 := hB1.size
          have hO2 : OwnN w2 w.heap.size v2 TT := ⟨ownT_mono hr2.1 hs1, hr2.2⟩
          obtain ⟨g2, cp2, rfl⟩ := hO2.shape
          have hcc1 : ∀ j u, [Value.string s][j]? = some u → (w2.alloc (.cells #[.string s] 9)).cell? ((⟨w2.heap.size, 0, none⟩ : Addr).add j) = some u := fun j u hj => by
            match j, hj with
            | 0, hj => simp at hj; subst hj; simp [Addr.add]
          have hcc2 : ∀ u ∈ [Value.string s], u.oneCell' = true := fun u hu => by simp at hu; subst hu; rfl
          have hc3 : TT.length + 1 ≤ maxLen := by unfold maxLen; omega
          have hc4 : (TT.length + 1) * 16 ≤ 140737488355328 := by omega
          have hc5 : w.heap.size ≤ (w2.alloc (.cells #[.string s] 9)).heap.size := by simp; omega
          go_wp2_with (at_builtin; refine wpList_append_own _ rfl _ _ 22 rfl w.heap.size 9 i0 (.string ⟨#[]⟩) 1 16 Tryd.underlying22 hi hz0 hz1 hz2 rfl (by decide) _ _ _ rfl (World.ownsRow.alloc hO2.1 _) ⟨w2.heap.size, 0, none⟩ 1 1 [.string s] rfl rfl hcc1 hcc2 hc3 hc4 hc5 ?_)
          intro v3 w3 hown3 hgrow3 hnil3
          have hO3 : OwnN w3 w.heap.size v3 (TT ++ [s]) := by
            refine ⟨?_, fun er => ?_⟩
            · unfold OwnT
              rw [List.map_append, List.length_append]
              exact hown3
            · exact hnil3 er
          have hB3 : Below w.heap.size w w3 := (balloc hB2 _).grown hgrow3 hc5 (fun q hq => (World.ownsRow.lt hO2.1 q hq).1)
          have hlo1 := hr1.lo
          have hlo2 := hr2.lo
          have hr3 := (hr1'.alloc (.cells #[.string s] 9)).grown hgrow3 (by simp [Value.ownBlock]; omega)
          obtain ⟨g3, cp3, rfl⟩ := hO3.shape
          clear hown3 hgrow3 hnil3 hcc1 hcc2 hc3 hc4 hc5
          have hcc1 := hr3.cells
          have hcc2 : ∀ u ∈ DD.map Value.string, u.oneCell' = true := fun u hu => by
            obtain ⟨z, _, rfl⟩ := List.mem_map.1 hu
            rfl
          have hc0 : (DD.map Value.string).length = DD.length * 1 := by simp
          have hc3 : (TT ++ [s]).length + DD.length ≤ maxLen := by unfold maxLen; simp; omega
          have hc4 : ((TT ++ [s]).length + DD.length) * 16 ≤ 140737488355328 := by simp; omega
          have hc5 := hB3.size
          generalize hMM : TT ++ [s] = MM at hO3 HN hc3 hc4 ⊢
          clear hMM
          go_wp2_with (at_builtin; refine wpList_append_own _ rfl _ _ 22 rfl w.heap.size 9 i0 (.string ⟨#[]⟩) 1 16 Tryd.underlying22 hi hz0 hz1 hz2 rfl (by decide) _ _ _ rfl hO3.1 ⟨g1, 0, none⟩ DD.length cp1 (DD.map Value.string) rfl hc0 hcc1 hcc2 hc3 hc4 hc5 ?_)
          intro v4 w4 hown4 hgrow4 hnil4
          have hO4 : OwnN w4 w.heap.size v4 (MM ++ DD) := by
            refine ⟨?_, fun er => ?_⟩
            · unfold OwnT
              rw [List.map_append, List.length_append]
              exact hown4
            · simp [er] at hnil4
          have hB4 : Below w.heap.size w w4 := hB3.grown hgrow4 hc5 (fun q hq => (World.ownsRow.lt hO3.1 q hq).1)
          clear hown4 hgrow4 hnil4 hcc1 hcc2
          rw [← HN.out] at hO4
          obtain ⟨g4, cp4, rfl⟩ := hO4.shape
          have hF := hO4.lst hcw hsz
          go_wp2
          go_ret
          exact ⟨_, rfl, Or.inr hO4, hF, hB4⟩

-- END l5Put

theorem l5Put_any (c : Nat) (v : Value) (X : List ByteArray) (s : ByteArray) (w : World) (h : Lst c w v X) (hX : X.length ≤ 3000000) (hs : s.size ≤ maxLen) (hcw : c < w.heap.size) :
    Calls Tryd.prog 26 #[v, .string s] w fun e w' => ∃ v', e = .returned v' ∧ Lst c w' v' (putL X s) ∧ Below w.heap.size w w' :=
  (l5Put_own c v X s w h hX hs hcw).mono fun _ _ ⟨v', he, _, hl, hb⟩ => ⟨v', he, hl, hb⟩

end Go.Proofs.YtefgmhlpcfmhlaaDoor
