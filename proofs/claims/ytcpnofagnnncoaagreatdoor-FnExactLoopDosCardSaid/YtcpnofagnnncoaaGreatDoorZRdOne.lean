/-
  RdOne: RdS, RdA, RdB, RdC, RdD, in one text.
-/
import Derived.Test.YtcpnofagnnncoaaGreatDoorZRdR
import Derived.Test.YtcpnofagnnncoaaGreatDoorZMaps
import Derived.WalkSmall
import Derived.BigRegion
import Derived.RegionTactic
import Derived.Deep.QuietTactic
import Derived.BigQuiet
import Derived.Deep.RegionLaw
import Derived.Maps.Own
import Derived.Deep.CutRange
import Derived.Deep.Cut
/-
  Chapter 5, the program: what the reader has in memory, and what a step of it may turn.
-/
namespace Go.Proofs.YtcpnofagnnncoaaGreatDoor
open Go.RowKit

/-- Uses, as they lie in memory: place, where it is declared, whether it is hidden. -/
def flatU (us : List (Int × Int × Bool)) : List Value := us.flatMap fun u => [.int .i64 u.1, .int .i64 u.2.1, .bool u.2.2]
theorem flatU_len : ∀ us : List (Int × Int × Bool), (flatU us).length = us.length * 3
  | [] => rfl
  | u :: us => by
    show ([Value.int .i64 u.1, .int .i64 u.2.1, .bool u.2.2] ++ flatU us).length = _
    rw [List.length_append, flatU_len us]
    simp
    omega
theorem flatU_snoc (us : List (Int × Int × Bool)) (u : Int × Int × Bool) : flatU (us ++ [u]) = flatU us ++ [.int .i64 u.1, .int .i64 u.2.1, .bool u.2.2] := by
  unfold flatU
  rw [List.flatMap_append]
  rfl
/-- The names of those that are not known. -/
def selU (L : List ByteArray) (us : List (Int × Int × Bool)) (q : Bool) : List ByteArray := (us.filter fun u => u.2.1 == -1 && u.2.2 == q).map fun u => sgAt L u.1
/-- What the reader has. -/
structure RdX where
  vb : Value
  vu : Value
  bs : List Nat
  us : List (Int × Int × Bool)
  fu : Bool
  ft : Bool
  fo : Bool
  fv : Bool
/-- The blocks that are open, each with its names and its hidden ones. -/
abbrev Blks := List (List ByteArray × List ByteArray)
/-- .. as it lies in memory: the reader's own block c, its list of maps, the maps, its list of uses. -/
structure MemR (S : Nat → Prop) (c : Nat) (va : Value) (x : RdX) (E : Blks) (w : World) : Prop where
  lt : c < w.heap.size
  own : S c
  c0 : w.cell? ⟨c, 0, none⟩ = some va
  c1 : w.cell? ⟨c, 1, none⟩ = some x.vb
  c2 : w.cell? ⟨c, 2, none⟩ = some (.int .i64 (E.length : Int))
  c3 : w.cell? ⟨c, 3, none⟩ = some x.vu
  c4 : w.cell? ⟨c, 4, none⟩ = some (.bool x.fu)
  c5 : w.cell? ⟨c, 5, none⟩ = some (.bool x.ft)
  c6 : w.cell? ⟨c, 6, none⟩ = some (.bool x.fo)
  c7 : w.cell? ⟨c, 7, none⟩ = some (.bool x.fv)
  fz : ∀ o, w.frozen? ⟨c, o, none⟩ = false
  rowB : w.ownsRow (c + 1) 125 1 x.vb x.bs.length (x.bs.map fun b => .map (some b))
  rowU : w.ownsRow (c + 1) 108 3 x.vu x.us.length (flatU x.us)
  inb : ∀ g, x.vb.ownBlock = some g → S g
  inu : ∀ g, x.vu.ownBlock = some g → S g
  apart : ∀ g, x.vb.ownBlock = some g → x.vu.ownBlock ≠ some g
  maps : ∀ j (h : j < x.bs.length), S x.bs[j] ∧ MapP w x.bs[j] (E.getD j ([], [])).1 (E.getD j ([], [])).2
  nodup : x.bs.Nodup
  enough : E.length ≤ x.bs.length
  low : ∀ k, S k → c ≤ k ∧ k < w.heap.size
  few : x.bs.length ≤ 20000
/-- What was found so far is F, with so many uses. -/
structure SaidR (L : List ByteArray) (x : RdX) (F : Ot) (U : Nat) : Prop where
  fr : selU L x.us false = F.fr
  sc : selU L x.us true = F.sc
  unk : x.fu = (!F.fr.isEmpty || !F.sc.isEmpty)
  bad : (x.ft || (x.fo || x.fv)) = F.bad
  cnt : x.us.length ≤ U
  inL : ∀ u ∈ x.us, 0 ≤ u.1 ∧ u.1 < (L.length : Int)
/-- The reader. -/
def St (S : Nat → Prop) (c : Nat) (a : Option Addr) (cap : Nat) (L : List ByteArray) (E : Blks) (F : Ot) (U : Nat) (w : World) : Prop := (∃ x, MemR S c (.slice a L.length cap) x E w ∧ SaidR L x F U) ∧ ArgS S w a L

section
variable {S : Nat → Prop} {c : Nat} {va : Value} {x : RdX} {E : Blks} {w w' : World}
/-- Nothing of it has turned. -/
theorem MemR.keep (h : MemR S c va x E w) (hk : ∀ k, S k → w'.heap[k]? = w.heap[k]?) (hz : w.heap.size ≤ w'.heap.size) : MemR S c va x E w' := by
  have hc := hk c h.own
  have hcell : ∀ o, w'.cell? ⟨c, o, none⟩ = w.cell? ⟨c, o, none⟩ := fun o => World.cell?_of_block (w := w) (a := ⟨c, o, none⟩) hc
  have hfz : ∀ o, w'.frozen? ⟨c, o, none⟩ = w.frozen? ⟨c, o, none⟩ := fun o => World.frozen?_of_block (w := w) (a := ⟨c, o, none⟩) hc
  exact { lt := Nat.lt_of_lt_of_le h.lt hz, own := h.own, c0 := (hcell 0).trans h.c0, c1 := (hcell 1).trans h.c1, c2 := (hcell 2).trans h.c2, c3 := (hcell 3).trans h.c3, c4 := (hcell 4).trans h.c4, c5 := (hcell 5).trans h.c5, c6 := (hcell 6).trans h.c6, c7 := (hcell 7).trans h.c7,
          fz := fun o => (hfz o).trans (h.fz o), rowB := own_kept h.rowB (fun g hg => hk g (h.inb g hg)), rowU := own_kept h.rowU (fun g hg => hk g (h.inu g hg)), inb := h.inb, inu := h.inu, apart := h.apart,
          maps := fun j hj => ⟨(h.maps j hj).1, (h.maps j hj).2.keep (hk _ (h.maps j hj).1)⟩, nodup := h.nodup, enough := h.enough, low := fun k hs => ⟨(h.low k hs).1, Nat.lt_of_lt_of_le (h.low k hs).2 hz⟩, few := h.few }
theorem MemR.call (h : MemR S c va x E w) (hb : Below w.heap.size w w') : MemR S c va x E w' := h.keep (fun k hs => hb.block k (h.low k hs).2) hb.size
theorem St.call {a : Option Addr} {cap : Nat} {L : List ByteArray} {F : Ot} {U : Nat} (h : St S c a cap L E F U w) (hb : Below w.heap.size w w') : St S c a cap L E F U w' := by
  obtain ⟨⟨x, hM, hS⟩, hA⟩ := h
  exact ⟨⟨x, hM.call hb, hS⟩, hA.nxt (Nxt.of_below S hb)⟩
/-- A cell of the reader's own block, apart from its lists: the rest stays. -/
theorem setC_other {o o' : Nat} (w : World) (c : Nat) (u : Value) (h : o ≠ o') : (w.setCell ⟨c, o, none⟩ u).cell? ⟨c, o', none⟩ = w.cell? ⟨c, o', none⟩ := World.cell?_setCell_other w ⟨c, o, none⟩ ⟨c, o', none⟩ u (fun hh => h (by injection hh))
theorem MemR.row_keep {B : Nat} {e : TypeId} {sz n : Nat} {v : Value} {xs : List Value} (h : w.ownsRow B e sz v n xs) (hB : c < B) (o : Nat) (u : Value) : (w.setCell ⟨c, o, none⟩ u).ownsRow B e sz v n xs :=
  own_kept h (fun g hg => Below.heap_setCell w ⟨c, o, none⟩ u g (by have := (World.ownsRow.lt h g hg).1; show g ≠ c; omega))
theorem MapP.not_c {b : Nat} {X Y : List ByteArray} {v : Value} (h : MapP w b X Y) (hc : w.cell? ⟨c, 0, none⟩ = some v) : b ≠ c := by
  rintro rfl
  obtain ⟨es, clock, hb, _⟩ := h
  simp [World.cell?, hb] at hc
theorem MapP.set {b : Nat} {X Y : List ByteArray} {v : Value} (h : MapP w b X Y) (hc : w.cell? ⟨c, 0, none⟩ = some v) (o : Nat) (u : Value) : MapP (w.setCell ⟨c, o, none⟩ u) b X Y :=
  h.keep (Below.heap_setCell w ⟨c, o, none⟩ u b (h.not_c hc))
theorem own_not_map {B : Nat} {e : TypeId} {sz n b g : Nat} {v : Value} {xs : List Value} {X Y : List ByteArray} (h : w.ownsRow B e sz v n xs) (hm : MapP w b X Y) (hg : v.ownBlock = some g) : b ≠ g := by
  rintro rfl
  obtain ⟨es, clock, hb, _⟩ := hm
  rcases h.2 with ⟨rfl, _⟩ | ⟨g', cap, cur, rfl, _, hgg, _⟩
  · simp [Value.ownBlock] at hg
  · simp [Value.ownBlock] at hg
    subst hg
    rw [hb] at hgg
    cases hgg
end
end Go.Proofs.YtcpnofagnnncoaaGreatDoor

/-
  Chapter 5, the program: a block is opened, a block is closed.
-/
namespace Go.Proofs.YtcpnofagnnncoaaGreatDoor
open Go.RowKit

theorem infoM : (Tryz.prog.info? 125).map (fun i => (i.zero, i.size, i.bytes)) = some (some (.map none), 1, 8) := by kernel_rfl
theorem infoU : (Tryz.prog.info? 108).map (fun i => (i.zero, i.size, i.bytes)) = some (some (.agg #[.int .i64 0, .int .i64 0, .bool false]), 3, 24) := by kernel_rfl
section
variable {S : Nat → Prop} {c : Nat} {va : Value} {x : RdX} {E : Blks} {w : World}
/-- What a list of one's own looks like. -/
theorem own_shape {w : World} {B : Nat} {e : TypeId} {sz n : Nat} {v : Value} {xs : List Value} (h : w.ownsRow B e sz v n xs) : ∃ av cv, v = .slice av n cv ∧ n ≤ cv ∧ cv ≤ maxLen ∧ (av = none → n = 0) ∧ ∀ p, av = some p → ∃ g, p = ⟨g, 0, none⟩ ∧ v.ownBlock = some g := by
  rcases h.2 with ⟨rfl, rfl⟩ | ⟨g, cap, cur, rfl, _, _, h1, h2, _⟩
  · exact ⟨none, 0, rfl, Nat.le_refl _, Nat.zero_le _, fun _ => rfl, fun p hp => by cases hp⟩
  · exact ⟨some ⟨g, 0, none⟩, cap, rfl, h1, h2, (fun h => by cases h), (fun p hp => by cases hp; exact ⟨g, rfl, rfl⟩)⟩
theorem getD_push (E : Blks) (j : Nat) : (E ++ [([], [])]).getD j ([], []) = E.getD j ([], []) := by
  simp only [List.getD]
  by_cases h : j < E.length
  · rw [List.getElem?_append_left h]
  · rw [List.getElem?_append_right (by omega)]
    by_cases h2 : j = E.length
    · subst h2; simp
    · rw [List.getElem?_eq_none (by simp; omega), List.getElem?_eq_none (by omega)]
/-- A block more, where none waits. -/
theorem open_new (h : MemR S c va x E w) (hE : E.length = x.bs.length) (hf : x.bs.length < 20000) {T : TypeId} {w3 : World} {v' : Value}
    (hown : w3.ownsRow (c + 1) 125 1 v' (x.bs.length + 1) ((x.bs.map fun b => Value.map (some b)) ++ [.map (some w.heap.size)]))
    (hg : ((w.alloc (.map #[] 0)).alloc (.cells #[.map (some w.heap.size)] T)).grownBy w3 x.vb.ownBlock) (hwh : ∀ g, v'.ownBlock = some g → x.vb.ownBlock = some g ∨ g = w.heap.size + 2) :
    ∃ S', MemR S' c va { x with vb := v', bs := x.bs ++ [w.heap.size] } (E ++ [([], [])]) ((w3.setCell ⟨c, 1, none⟩ v').setCell ⟨c, 2, none⟩ (.int .i64 ((E.length : Int) + 1))) ∧ Nxt S S' w ((w3.setCell ⟨c, 1, none⟩ v').setCell ⟨c, 2, none⟩ (.int .i64 ((E.length : Int) + 1))) := by
  have hlt := h.lt
  have hvb : ∀ g, x.vb.ownBlock = some g → c < g ∧ g < w.heap.size := fun g hg => by have := World.ownsRow.lt h.rowB g hg; omega
  have hW : ∀ k, k < w.heap.size → ((w.alloc (.map #[] 0)).alloc (.cells #[.map (some w.heap.size)] T)).heap[k]? = w.heap[k]? := fun k hk => by
    rw [Below.heap_alloc _ _ _ (by simp; omega), Below.heap_alloc _ _ _ hk]
  have hz3 : w.heap.size + 2 ≤ w3.heap.size := by have := hg.size; simpa using this
  have hk3 : ∀ k, k < w.heap.size → x.vb.ownBlock ≠ some k → w3.heap[k]? = w.heap[k]? := fun k hk hn => (hg.block k (by simp; omega) (fun e => hn e.symm)).trans (hW k hk)
  have hc3 : w3.heap[c]? = w.heap[c]? := hk3 c hlt (fun e => by have := (hvb c e).1; omega)
  have hm3 : w3.heap[w.heap.size]? = some (.map #[] 0) := by
    rw [hg.block _ (by simp; omega) (fun e => by have := (hvb _ e.symm).2; omega), Below.heap_alloc _ _ _ (by simp)]
    exact heap_alloc_new w _
  obtain ⟨wf, hwf⟩ : ∃ wf, wf = (w3.setCell ⟨c, 1, none⟩ v').setCell ⟨c, 2, none⟩ (.int .i64 ((E.length : Int) + 1)) := ⟨_, rfl⟩
  have hkf : ∀ k, k ≠ c → wf.heap[k]? = w3.heap[k]? := fun k hk => by
    rw [hwf, Below.heap_setCell _ _ _ _ hk, Below.heap_setCell _ _ _ _ hk]
  have hzf : wf.heap.size = w3.heap.size := by rw [hwf]; simp [World.setCell]
  have hcell : ∀ o, o ≠ 1 → o ≠ 2 → wf.cell? ⟨c, o, none⟩ = w.cell? ⟨c, o, none⟩ := fun o h1 h2 => by
    rw [hwf, setC_other _ _ _ (Ne.symm h2), setC_other _ _ _ (Ne.symm h1)]
    exact World.cell?_of_block (w := w) (a := ⟨c, o, none⟩) hc3
  have hfz : ∀ o, wf.frozen? ⟨c, o, none⟩ = false := fun o => by
    rw [hwf, World.frozen?_setCell, World.frozen?_setCell]
    exact (World.frozen?_of_block (w := w) (a := ⟨c, o, none⟩) hc3).trans (h.fz o)
  have hc1 : wf.cell? ⟨c, 1, none⟩ = some v' := by
    rw [hwf, setC_other _ _ _ (by decide)]
    exact World.cell?_setCell_same _ _ _ ((World.cell?_of_block (w := w) (a := ⟨c, 1, none⟩) hc3).trans h.c1)
  have hc2 : wf.cell? ⟨c, 2, none⟩ = some (.int .i64 ((E.length : Int) + 1)) := by
    rw [hwf]
    refine World.cell?_setCell_same _ _ _ (?_ : _ = some (.int .i64 (E.length : Int)))
    rw [setC_other _ _ _ (by decide)]
    exact (World.cell?_of_block (w := w) (a := ⟨c, 2, none⟩) hc3).trans h.c2
  rw [← hwf]
  refine ⟨fun k => S k ∨ k = w.heap.size ∨ v'.ownBlock = some k, ?_, ?_⟩
  · refine { lt := by omega, own := Or.inl h.own, c0 := (hcell 0 (by decide) (by decide)).trans h.c0, c1 := hc1, c2 := by rw [hc2]; simp, c3 := (hcell 3 (by decide) (by decide)).trans h.c3, c4 := (hcell 4 (by decide) (by decide)).trans h.c4, c5 := (hcell 5 (by decide) (by decide)).trans h.c5, c6 := (hcell 6 (by decide) (by decide)).trans h.c6, c7 := (hcell 7 (by decide) (by decide)).trans h.c7,
             fz := hfz, rowB := ?_, rowU := ?_, inb := fun g hg => Or.inr (Or.inr hg), inu := fun g hg => Or.inl (h.inu g hg), apart := ?_, maps := ?_, nodup := ?_, enough := by simp; omega, low := ?_, few := by simp; omega }
    · have := own_kept hown (w' := wf) (fun g hg => hkf g (by have := World.ownsRow.lt hown g hg; omega))
      simpa using this
    · exact own_kept h.rowU (fun g hg => (hkf g (by have := World.ownsRow.lt h.rowU g hg; omega)).trans (hk3 g (World.ownsRow.lt h.rowU g hg).2 (fun e => h.apart g e hg)))
    · intro g hg hu
      rcases hwh g hg with e | e
      · exact h.apart g e hu
      · have := (World.ownsRow.lt h.rowU g hu).2
        omega
    · intro j hj
      rw [getD_push]
      simp only [List.length_append, List.length_singleton] at hj
      by_cases hjl : j < x.bs.length
      · simp only [List.getElem_append_left hjl]
        obtain ⟨m1, m2⟩ := h.maps j hjl
        exact ⟨Or.inl m1, m2.keep ((hkf _ (m2.not_c h.c0)).trans (hk3 _ m2.lt (fun e => own_not_map h.rowB m2 e rfl)))⟩
      · obtain rfl : j = x.bs.length := by omega
        simp only [List.getElem_append_right (Nat.le_refl _), Nat.sub_self, List.getElem_singleton]
        refine ⟨by simp, ?_⟩
        have e : E.getD x.bs.length ([], []) = ([], []) := by simp [List.getD, hE]
        rw [e]
        exact ⟨#[], 0, (hkf _ (by omega)).trans hm3, ⟨fun _ h => by simp at h, fun _ h => by simp at h, fun s q => by cases q <;> simp [sideL]⟩⟩
    · rw [List.nodup_append]
      refine ⟨h.nodup, by simp, fun a ha b hb => ?_⟩
      rw [List.mem_singleton] at hb
      rw [hb]
      obtain ⟨j, hj, rfl⟩ := List.getElem_of_mem ha
      have := (h.maps j hj).2.lt
      omega
    · rintro k (hs | rfl | hv)
      · have := h.low k hs
        omega
      · omega
      · have := World.ownsRow.lt hown k hv
        omega
  · refine ⟨?_, ?_, ?_, by omega, fun k hk hn => (hkf k (fun e => hn (e ▸ h.own))).trans (hk3 k hk (fun e => hn (h.inb k e))), ?_⟩
    · rw [hwf]; exact hg.os
    · rw [hwf]; exact hg.tape
    · rw [hwf]; exact hg.output
    · rintro k (hs | rfl | hv)
      · exact Or.inl hs
      · exact Or.inr (Nat.le_refl _)
      · rcases hwh k hv with e | e
        · exact Or.inl (h.inb k e)
        · exact Or.inr (by omega)
/-- A block more, where one waits. -/
theorem open_old (h : MemR S c va x E w) (hE : E.length < x.bs.length) : MemR S c va x (E ++ [([], [])]) (w.setCell ⟨c, 2, none⟩ (.int .i64 ((E.length : Int) + 1))) ∧ Nxt S S w (w.setCell ⟨c, 2, none⟩ (.int .i64 ((E.length : Int) + 1))) := by
  refine ⟨?_, Nxt.set S w _ h.own⟩
  have hz : (w.setCell ⟨c, 2, none⟩ (.int .i64 ((E.length : Int) + 1))).heap.size = w.heap.size := by simp [World.setCell]
  exact { lt := by rw [hz]; exact h.lt, own := h.own, c0 := (setC_other w c _ (by decide)).trans h.c0, c1 := (setC_other w c _ (by decide)).trans h.c1, c2 := by rw [World.cell?_setCell_same _ _ _ h.c2]; simp, c3 := (setC_other w c _ (by decide)).trans h.c3, c4 := (setC_other w c _ (by decide)).trans h.c4, c5 := (setC_other w c _ (by decide)).trans h.c5, c6 := (setC_other w c _ (by decide)).trans h.c6, c7 := (setC_other w c _ (by decide)).trans h.c7,
          fz := fun o => by rw [World.frozen?_setCell]; exact h.fz o, rowB := MemR.row_keep h.rowB (Nat.lt_succ_self c) 2 _, rowU := MemR.row_keep h.rowU (Nat.lt_succ_self c) 2 _, inb := h.inb, inu := h.inu, apart := h.apart,
          maps := fun j hj => by rw [getD_push]; exact ⟨(h.maps j hj).1, (h.maps j hj).2.set h.c0 2 _⟩, nodup := h.nodup, enough := by simp; omega, low := fun k hs => by rw [hz]; exact h.low k hs, few := h.few }
end

theorem Nxt.drewN (S : Nat → Prop) (w : World) (n : Nat) : Nxt S S w (w.drewN n) := ⟨rfl, rfl, rfl, Nat.le_refl _, fun _ _ _ => rfl, fun _ h => Or.inl h⟩
theorem MemR.drewN {S : Nat → Prop} {c : Nat} {va : Value} {x : RdX} {E : Blks} {w : World} (h : MemR S c va x E w) (n : Nat) : MemR S c va x E (w.drewN n) := h.keep (fun _ _ => rfl) (Nat.le_refl _)

set_option maxRecDepth 100000 in
set_option maxHeartbeats 2000000 in
theorem openBlock_any (S : Nat → Prop) (c : Nat) (a : Option Addr) (cap : Nat) (L : List ByteArray) (E : Blks) (F : Ot) (U : Nat) (w : World) (h : St S c a cap L E F U w) (hE : E.length < 20000) :
    Calls Tryz.prog 82 #[.pointer (some ⟨c, 0, none⟩)] w fun e w' => e = .returned (.tuple #[]) ∧ ∃ S', St S' c a cap L (E ++ [([], [])]) F U w' ∧ Nxt S S' w w' := by
  obtain ⟨⟨x, hM, hS⟩, hA⟩ := h
  obtain ⟨i0, hi, hz0, hz1, hz2⟩ := info_parts infoM
  obtain ⟨av, cv, hvb, hcv, hcm, hn0, hsh⟩ := own_shape hM.rowB
  have hmm := @run_makeMap Tryz.prog
  have hEf := hM.few
  by_cases hEq : E.length = x.bs.length
  · have hq : (((E.length : Nat) : Int) == (x.bs.length : Int)) = true := by simp [hEq]
    have HM : Hid (MemR S c (.slice a L.length cap) x E w) := hM
    have HEq : Hid (E.length = x.bs.length) := hEq
    have HVB : Hid (x.vb = .slice av x.bs.length cv) := hvb
    have hc1 : w.cell? ⟨c, 1, none⟩ = some (.slice av x.bs.length cv) := hvb ▸ hM.c1
    have hc2 := hM.c2
    have hbl : x.bs.length < 20000 := by omega
    have hbe : ((E.length : Nat) : Int) < 20000 := by omega
    clear hM hEq hvb hn0 hsh hcv hcm hEf
    go_enter Tryz.func82, Tryz.ntmps82
    go_wp2_with fail
    go_quiet (fail)
    have HM1 : Hid (MemR S c (.slice a L.length cap) x E (w.drewN nq)) := HM.out.drewN nq
    have HN1 : Hid (Nxt S S w (w.drewN nq)) := Nxt.drewN S w nq
    have hc1 : (w.drewN nq).cell? ⟨c, 1, none⟩ = some (.slice av x.bs.length cv) := hc1
    clear hc2
    generalize w.drewN nq = W at *
    have hf1 := HM1.out.fz 1
    have hlt := HM1.out.lt
    have HO : Hid (W.ownsRow (c + 1) 125 1 (.slice av x.bs.length cv) x.bs.length (x.bs.map fun b => .map (some b))) := HVB.out ▸ HM1.out.rowB
    have hcc1 : ∀ j u, [Value.map (some W.heap.size)][j]? = some u → ((W.alloc (.map #[] 0)).alloc (.cells #[.map (some W.heap.size)] 125)).cell? ((⟨W.heap.size + 1, 0, none⟩ : Addr).add j) = some u := fun j u hj => by
      match j, hj with
      | 0, hj =>
        simp at hj
        subst hj
        have e : (W.alloc (.map #[] 0)).heap.size = W.heap.size + 1 := by simp
        rw [← e]
        simp [Addr.add]
    have hcc2 : ∀ u ∈ [Value.map (some W.heap.size)], u.oneCell' = true := fun u hu => by simp at hu; subst hu; rfl
    have hcc3 : x.bs.length + 1 ≤ maxLen := by unfold maxLen; omega
    have hcc4 : (x.bs.length + 1) * 8 ≤ 140737488355328 := by omega
    have hcc5 : c + 1 ≤ ((W.alloc (.map #[] 0)).alloc (.cells #[.map (some W.heap.size)] 125)).heap.size := by simp; omega
    go_wp2_with (at_builtin; refine wpList_append_at _ rfl (.tmp 16) (.tmp 18) 46 rfl (c + 1) 125 i0 (.map none) 1 8 Tryz.underlying46 hi hz0 hz1 hz2 rfl (by decide) _ _ _ rfl (World.ownsRow.alloc (World.ownsRow.alloc HO.out _) _) ⟨W.heap.size + 1, 0, none⟩ 1 1 [.map (some W.heap.size)] rfl rfl hcc1 hcc2 hcc3 hcc4 hcc5 ?_)
    intro v' w3 hown hgrow hwh
    obtain ⟨av', cv', rfl, _, _, _, _⟩ := own_shape hown
    have hgk : ∀ o, w3.cell? ⟨c, o, none⟩ = W.cell? ⟨c, o, none⟩ ∧ w3.frozen? ⟨c, o, none⟩ = W.frozen? ⟨c, o, none⟩ := fun o => by
      have hb : w3.heap[c]? = W.heap[c]? := by
        rw [hgrow.block c (by simp; omega) (fun e => by have := (World.ownsRow.lt HO.out c e.symm).1; omega), Below.heap_alloc _ _ _ (by simp; omega), Below.heap_alloc _ _ _ hlt]
      exact ⟨World.cell?_of_block (w := W) (a := ⟨c, o, none⟩) hb, World.frozen?_of_block (w := W) (a := ⟨c, o, none⟩) hb⟩
    have k1 := (hgk 1).1.trans HM1.out.c1
    have k2 := (hgk 2).1.trans HM1.out.c2
    have z1 := (hgk 1).2.trans (HM1.out.fz 1)
    have z2 := (hgk 2).2.trans (HM1.out.fz 2)
    have HF : Hid (∃ S', MemR S' c (.slice a L.length cap) { x with vb := .slice av' (x.bs.length + 1) cv', bs := x.bs ++ [W.heap.size] } (E ++ [([], [])]) ((w3.setCell ⟨c, 1, none⟩ (.slice av' (x.bs.length + 1) cv')).setCell ⟨c, 2, none⟩ (.int .i64 ((E.length : Int) + 1))) ∧ Nxt S S' W ((w3.setCell ⟨c, 1, none⟩ (.slice av' (x.bs.length + 1) cv')).setCell ⟨c, 2, none⟩ (.int .i64 ((E.length : Int) + 1)))) :=
      open_new HM1.out HEq.out hbl hown (HVB.out ▸ hgrow) (fun g hg => by have := hwh g hg; rw [HVB.out]; simpa using this)
    clear hown hgrow hwh hgk hcc1 hcc2 hcc3 hcc4 hcc5 HO
    go_wp2
    go_end0
    obtain ⟨S', h1, h2⟩ := HF.out
    exact ⟨rfl, S', ⟨⟨_, h1, ⟨hS.fr, hS.sc, hS.unk, hS.bad, hS.cnt, hS.inL⟩⟩, hA.nxt (HN1.out.trans h2)⟩, HN1.out.trans h2⟩
  · have hq : (((E.length : Nat) : Int) == (x.bs.length : Int)) = false := by simp; omega
    have HM : Hid (MemR S c (.slice a L.length cap) x E w) := hM
    have hlt : E.length < x.bs.length := by have := hM.enough; omega
    have hc1 : w.cell? ⟨c, 1, none⟩ = some (.slice av x.bs.length cv) := hvb ▸ hM.c1
    have hc2 := hM.c2
    have hbe : ((E.length : Nat) : Int) < 20000 := by omega
    clear hM hEq hvb hn0 hsh hcv hcm hEf
    go_enter Tryz.func82, Tryz.ntmps82
    go_wp2_with fail
    go_quiet (fail)
    have HM1 : Hid (MemR S c (.slice a L.length cap) x E (w.drewN nq)) := HM.out.drewN nq
    have HN1 : Hid (Nxt S S w (w.drewN nq)) := Nxt.drewN S w nq
    clear hc2 hc1
    generalize w.drewN nq = W at *
    have hc2 := HM1.out.c2
    have hf2 := HM1.out.fz 2
    have HF := open_old HM1.out hlt
    have HF' : Hid (MemR S c (.slice a L.length cap) x (E ++ [([], [])]) (W.setCell ⟨c, 2, none⟩ (.int .i64 ((E.length : Int) + 1))) ∧ Nxt S S W (W.setCell ⟨c, 2, none⟩ (.int .i64 ((E.length : Int) + 1)))) := HF
    clear HF
    go_wp2
    go_end0
    obtain ⟨h1, h2⟩ := HF'.out
    exact ⟨rfl, S, ⟨⟨_, h1, hS⟩, hA.nxt (HN1.out.trans h2)⟩, HN1.out.trans h2⟩
end Go.Proofs.YtcpnofagnnncoaaGreatDoor

/-
  Chapter 5, the program: a block is closed.
-/
namespace Go.Proofs.YtcpnofagnnncoaaGreatDoor
open Go.RowKit

/-- A map that is cleared. -/
def clrW (W : World) (b clock : Nat) : World := { W with heap := W.heap.setIfInBounds b (.map #[] clock) }
theorem MapP.clr {w : World} {b : Nat} {X Y : List ByteArray} (h : MapP w b X Y) : ∃ clock, (∀ (W : World) (ty : TypeId), W.heap[b]? = w.heap[b]? → (Builtin.clear_ #[125] ty #[.map (some b)]).run Tryz.prog W = .ok (.tuple #[]) (clrW W b clock) ∧ MapP (clrW W b clock) b [] [] ∧ W.grownBy (clrW W b clock) (some b)) := by
  obtain ⟨es, clock, hb, _⟩ := h
  refine ⟨clock, fun W ty hW => ⟨?_, ⟨#[], clock, ?_, ⟨fun _ h => by simp at h, fun _ h => by simp at h, fun s q => by cases q <;> simp [sideL]⟩⟩, ⟨rfl, rfl, rfl, by simp [clrW], fun k hk hkb => ?_⟩⟩⟩
  · simp [Builtin.clear_, run_underlying Tryz.underlying125, MapKept.run_getObj_map (hW.trans hb), MapKept.run_setObj_map _ (hW.trans hb), Result.andThen, clrW]
  · have hlt : b < W.heap.size := (Array.getElem?_eq_some_iff.1 (hW.trans hb)).1
    simp [clrW, hlt]
  · simp [clrW, Array.getElem?_setIfInBounds]
    intro hbk
    exact absurd (by rw [hbk]) hkb
section
variable {S : Nat → Prop} {c : Nat} {va : Value} {x : RdX} {E : Blks} {w : World}
theorem nodup_inj {l : List Nat} (h : l.Nodup) {i j : Nat} (hi : i < l.length) (hj : j < l.length) (e : l[i] = l[j]) : i = j := by
  have hp := List.pairwise_iff_getElem.mp h
  rcases Nat.lt_trichotomy i j with hl | hl | hl
  · exact absurd e (hp i j hi hj hl)
  · exact hl
  · exact absurd e.symm (hp j i hj hi hl)
theorem getD_pop (E : Blks) (Z : List ByteArray × List ByteArray) (j : Nat) (h : j ≠ E.length) : (E ++ [Z]).getD j ([], []) = E.getD j ([], []) := by
  simp only [List.getD]
  by_cases h1 : j < E.length
  · rw [List.getElem?_append_left h1]
  · rw [List.getElem?_eq_none (by simp; omega), List.getElem?_eq_none (by omega)]
theorem getD_last (E : Blks) (Z : List ByteArray × List ByteArray) : (E ++ [Z]).getD E.length ([], []) = Z := by simp [List.getD]
/-- The innermost one is closed. -/
theorem close_mem {Z : List ByteArray × List ByteArray} (h : MemR S c va x (E ++ [Z]) w) {b : Nat} (hj : E.length < x.bs.length) (hb : x.bs[E.length] = b) {wf : World} (hg : (w.setCell ⟨c, 2, none⟩ (.int .i64 (E.length : Int))).grownBy wf (some b)) (hm : MapP wf b [] []) : MemR S c va x E wf ∧ Nxt S S w wf := by
  obtain ⟨W, hW⟩ : ∃ W, W = w.setCell ⟨c, 2, none⟩ (.int .i64 (E.length : Int)) := ⟨_, rfl⟩
  have hbm := (h.maps E.length hj).2
  have hbs := (h.maps E.length hj).1
  rw [hb] at hbm hbs
  have hbc : b ≠ c := hbm.not_c h.c0
  have hz : W.heap.size = w.heap.size := by rw [hW]; simp [World.setCell]
  rw [← hW] at hg
  have hNW : Nxt S S w W := by rw [hW]; exact Nxt.set S w _ h.own
  have hlt := h.lt
  have hkc : wf.heap[c]? = W.heap[c]? := hg.block c (by omega) (fun e => hbc (by injection e with e; exact e.symm))
  have hcell : ∀ o, wf.cell? ⟨c, o, none⟩ = W.cell? ⟨c, o, none⟩ := fun o => World.cell?_of_block (w := W) (a := ⟨c, o, none⟩) hkc
  have hfz : ∀ o, wf.frozen? ⟨c, o, none⟩ = W.frozen? ⟨c, o, none⟩ := fun o => World.frozen?_of_block (w := W) (a := ⟨c, o, none⟩) hkc
  have hco : ∀ o, o ≠ 2 → wf.cell? ⟨c, o, none⟩ = w.cell? ⟨c, o, none⟩ := fun o ho => by rw [hcell, hW, setC_other _ _ _ (Ne.symm ho)]
  have hk : ∀ k, k < w.heap.size → k ≠ c → k ≠ b → wf.heap[k]? = w.heap[k]? := fun k h1 h2 h3 => by
    rw [hg.block k (by omega) (fun e => h3 (by injection e)), hW, Below.heap_setCell _ _ _ _ h2]
  have hrow : ∀ {B : Nat} {e : TypeId} {sz n : Nat} {v : Value} {xs : List Value}, w.ownsRow B e sz v n xs → c < B → wf.ownsRow B e sz v n xs := fun hr hB =>
    own_kept hr (fun g hg' => hk g (World.ownsRow.lt hr g hg').2 (by have := (World.ownsRow.lt hr g hg').1; omega) (fun e => own_not_map hr hbm hg' e.symm))
  refine ⟨?_, hNW.trans (Nxt.grown S hg (fun k e => by injection e with e; rw [← e]; exact hbs))⟩
  refine { lt := by have := hg.size; omega, own := h.own, c0 := (hco 0 (by decide)).trans h.c0, c1 := (hco 1 (by decide)).trans h.c1, c2 := ?_, c3 := (hco 3 (by decide)).trans h.c3, c4 := (hco 4 (by decide)).trans h.c4, c5 := (hco 5 (by decide)).trans h.c5, c6 := (hco 6 (by decide)).trans h.c6, c7 := (hco 7 (by decide)).trans h.c7,
           fz := fun o => by rw [hfz, hW, World.frozen?_setCell]; exact h.fz o, rowB := hrow h.rowB (Nat.lt_succ_self c), rowU := hrow h.rowU (Nat.lt_succ_self c), inb := h.inb, inu := h.inu, apart := h.apart,
           maps := ?_, nodup := h.nodup, enough := by omega, low := fun k hs => by have := h.low k hs; have := hg.size; omega, few := h.few }
  · rw [hcell, hW]
    exact World.cell?_setCell_same _ _ _ h.c2
  · intro j hj2
    obtain ⟨m1, m2⟩ := h.maps j hj2
    refine ⟨m1, ?_⟩
    by_cases e : j = E.length
    · subst e
      rw [show E.getD E.length ([], []) = ([], []) by simp [List.getD], hb]
      exact hm
    · rw [getD_pop E Z j e] at m2
      refine m2.keep (hk _ m2.lt (m2.not_c h.c0) (fun e2 => e ?_))
      rw [← hb] at e2
      exact nodup_inj h.nodup hj2 hj e2
/-- Where a list of one's own has what. -/
theorem own_cell {w : World} {B : Nat} {e : TypeId} {n g cv : Nat} {bs : List Nat} (h : w.ownsRow B e 1 (.slice (some ⟨g, 0, none⟩) n cv) n (bs.map fun b => .map (some b))) (j : Nat) (hj : j < bs.length) : w.cell? ⟨g, j, none⟩ = some (.map (some bs[j])) := by
  have hc := World.ownsRow.cells h (g := g) rfl j (.map (some bs[j])) (by simp [hj])
  have hadd : (⟨g, 0, none⟩ : Addr).add j = ⟨g, j, none⟩ := by unfold Addr.add; split <;> simp_all
  rwa [hadd] at hc
end

set_option maxRecDepth 100000 in
set_option maxHeartbeats 4000000 in
theorem closeBlock_any (S : Nat → Prop) (c : Nat) (a : Option Addr) (cap : Nat) (L : List ByteArray) (E : Blks) (Z : List ByteArray × List ByteArray) (F : Ot) (U : Nat) (w : World) (h : St S c a cap L (E ++ [Z]) F U w) :
    Calls Tryz.prog 86 #[.pointer (some ⟨c, 0, none⟩)] w fun e w' => e = .returned (.tuple #[]) ∧ St S c a cap L E F U w' ∧ Nxt S S w w' := by
  obtain ⟨⟨x, hM, hS⟩, hA⟩ := h
  obtain ⟨av, cv, hvb, hcv, hcm, hn0, hsh⟩ := own_shape hM.rowB
  have hen := hM.enough
  have hfew := hM.few
  simp only [List.length_append, List.length_singleton] at hen
  have hj : E.length < x.bs.length := by omega
  obtain ⟨g, rfl⟩ : ∃ g, av = some ⟨g, 0, none⟩ := by
    cases av with
    | none => exact absurd (hn0 rfl) (by omega)
    | some p => obtain ⟨g, rfl, _⟩ := hsh p rfl; exact ⟨g, rfl⟩
  have hcg : c < g ∧ g < w.heap.size := by have := World.ownsRow.lt hM.rowB g (by rw [hvb]; rfl); omega
  have hbm := (hM.maps E.length hj).2
  obtain ⟨b, hb⟩ : ∃ b, b = x.bs[E.length] := ⟨_, rfl⟩
  rw [← hb] at hbm
  have hbc : b ≠ c := hbm.not_c hM.c0
  obtain ⟨clock, hcl⟩ := hbm.clr
  have hc1 : w.cell? ⟨c, 1, none⟩ = some (.slice (some ⟨g, 0, none⟩) x.bs.length cv) := hvb ▸ hM.c1
  have hc2 : w.cell? ⟨c, 2, none⟩ = some (.int .i64 ((E.length : Int) + 1)) := by have := hM.c2; simpa using this
  have hf2 := hM.fz 2
  have hgj : w.cell? ⟨g, E.length, none⟩ = some (.map (some b)) := by rw [hb]; exact own_cell (hvb ▸ hM.rowB) E.length hj
  obtain ⟨W, hW⟩ : ∃ W, W = w.setCell ⟨c, 2, none⟩ (.int .i64 (E.length : Int)) := ⟨_, rfl⟩
  have k1 : W.cell? ⟨c, 1, none⟩ = some (.slice (some ⟨g, 0, none⟩) x.bs.length cv) := by rw [hW, setC_other _ _ _ (by decide)]; exact hc1
  have k2 : W.cell? ⟨c, 2, none⟩ = some (.int .i64 (E.length : Int)) := by rw [hW]; exact World.cell?_setCell_same _ _ _ hc2
  have kg : W.cell? ⟨g, E.length, none⟩ = some (.map (some b)) := by
    rw [hW]
    exact (World.cell?_of_block (w := w) (a := ⟨g, E.length, none⟩) (Below.heap_setCell w ⟨c, 2, none⟩ _ g (by show g ≠ c; omega))).trans hgj
  have kb : W.heap[b]? = w.heap[b]? := by rw [hW]; exact Below.heap_setCell w ⟨c, 2, none⟩ _ b hbc
  have HFIN : Hid (∀ wf, W.grownBy wf (some b) → MapP wf b [] [] → MemR S c (.slice a L.length cap) x E wf ∧ Nxt S S w wf) := fun wf hg hm => close_mem hM hj hb.symm (hW ▸ hg) hm
  have hrun : ∀ ty, (Builtin.clear_ #[125] ty #[.map (some b)]).run Tryz.prog W.drew = .ok (.tuple #[]) (clrW W.drew b clock) := fun ty => (hcl W.drew ty kb).1
  have HG : Hid (W.grownBy (clrW W.drew b clock) (some b) ∧ MapP (clrW W.drew b clock) b [] []) := by
    obtain ⟨_, h2, h3⟩ := hcl W.drew 0 kb
    exact ⟨⟨h3.os, h3.tape, h3.output, h3.size, h3.block⟩, h2⟩
  have hEl : (E.length : Int) < (x.bs.length : Int) := by omega
  have hE0 : (0 : Int) ≤ (E.length : Int) := by omega
  have hE2 : ((E.length : Int) + 1) - 1 = (E.length : Int) := by omega
  have hE3 : (E.length : Int) < 20000 := by omega
  clear hcl kb hgj hM hvb hbm hb hcm hn0 hsh hen hfew hj
  go_enter Tryz.func86, Tryz.ntmps86
  go_wp2
  rw [← hW]
  clear hW hc1 hc2 hf2
  go_region
  all_goals
    obtain ⟨h1, h2⟩ := HG.out
    obtain ⟨h3, h4⟩ := HFIN.out _ h1 h2
    go_end0
    exact ⟨rfl, ⟨⟨_, h3, hS⟩, hA.nxt h4⟩, h4⟩
end Go.Proofs.YtcpnofagnnncoaaGreatDoor

/-
  Chapter 5, the program: a NAME is declared.
-/
namespace Go.Proofs.YtcpnofagnnncoaaGreatDoor
open Go.RowKit

section
variable {S : Nat → Prop} {c : Nat} {va : Value} {x : RdX} {E : Blks} {w : World}
theorem MemR.flag4 (h : MemR S c va x E w) (v : Bool) : MemR S c va { x with fu := v } E (w.setCell ⟨c, 4, none⟩ (.bool v)) :=
  have hz : (w.setCell ⟨c, 4, none⟩ (.bool v)).heap.size = w.heap.size := by simp [World.setCell]
  { lt := by rw [hz]; exact h.lt, own := h.own, c0 := (setC_other w c _ (by decide)).trans h.c0, c1 := (setC_other w c _ (by decide)).trans h.c1, c2 := (setC_other w c _ (by decide)).trans h.c2, c3 := (setC_other w c _ (by decide)).trans h.c3, c4 := World.cell?_setCell_same _ _ _ h.c4, c5 := (setC_other w c _ (by decide)).trans h.c5, c6 := (setC_other w c _ (by decide)).trans h.c6, c7 := (setC_other w c _ (by decide)).trans h.c7,
    fz := fun o => by rw [World.frozen?_setCell]; exact h.fz o, rowB := MemR.row_keep h.rowB (Nat.lt_succ_self c) 4 _, rowU := MemR.row_keep h.rowU (Nat.lt_succ_self c) 4 _, inb := h.inb, inu := h.inu, apart := h.apart,
    maps := fun j hj => ⟨(h.maps j hj).1, (h.maps j hj).2.set h.c0 4 _⟩, nodup := h.nodup, enough := h.enough, low := fun k hs => by rw [hz]; exact h.low k hs, few := h.few }
theorem MemR.flag5 (h : MemR S c va x E w) (v : Bool) : MemR S c va { x with ft := v } E (w.setCell ⟨c, 5, none⟩ (.bool v)) :=
  have hz : (w.setCell ⟨c, 5, none⟩ (.bool v)).heap.size = w.heap.size := by simp [World.setCell]
  { lt := by rw [hz]; exact h.lt, own := h.own, c0 := (setC_other w c _ (by decide)).trans h.c0, c1 := (setC_other w c _ (by decide)).trans h.c1, c2 := (setC_other w c _ (by decide)).trans h.c2, c3 := (setC_other w c _ (by decide)).trans h.c3, c4 := (setC_other w c _ (by decide)).trans h.c4, c5 := World.cell?_setCell_same _ _ _ h.c5, c6 := (setC_other w c _ (by decide)).trans h.c6, c7 := (setC_other w c _ (by decide)).trans h.c7,
    fz := fun o => by rw [World.frozen?_setCell]; exact h.fz o, rowB := MemR.row_keep h.rowB (Nat.lt_succ_self c) 5 _, rowU := MemR.row_keep h.rowU (Nat.lt_succ_self c) 5 _, inb := h.inb, inu := h.inu, apart := h.apart,
    maps := fun j hj => ⟨(h.maps j hj).1, (h.maps j hj).2.set h.c0 5 _⟩, nodup := h.nodup, enough := h.enough, low := fun k hs => by rw [hz]; exact h.low k hs, few := h.few }
theorem MemR.flag6 (h : MemR S c va x E w) (v : Bool) : MemR S c va { x with fo := v } E (w.setCell ⟨c, 6, none⟩ (.bool v)) :=
  have hz : (w.setCell ⟨c, 6, none⟩ (.bool v)).heap.size = w.heap.size := by simp [World.setCell]
  { lt := by rw [hz]; exact h.lt, own := h.own, c0 := (setC_other w c _ (by decide)).trans h.c0, c1 := (setC_other w c _ (by decide)).trans h.c1, c2 := (setC_other w c _ (by decide)).trans h.c2, c3 := (setC_other w c _ (by decide)).trans h.c3, c4 := (setC_other w c _ (by decide)).trans h.c4, c5 := (setC_other w c _ (by decide)).trans h.c5, c6 := World.cell?_setCell_same _ _ _ h.c6, c7 := (setC_other w c _ (by decide)).trans h.c7,
    fz := fun o => by rw [World.frozen?_setCell]; exact h.fz o, rowB := MemR.row_keep h.rowB (Nat.lt_succ_self c) 6 _, rowU := MemR.row_keep h.rowU (Nat.lt_succ_self c) 6 _, inb := h.inb, inu := h.inu, apart := h.apart,
    maps := fun j hj => ⟨(h.maps j hj).1, (h.maps j hj).2.set h.c0 6 _⟩, nodup := h.nodup, enough := h.enough, low := fun k hs => by rw [hz]; exact h.low k hs, few := h.few }
theorem MemR.flag7 (h : MemR S c va x E w) (v : Bool) : MemR S c va { x with fv := v } E (w.setCell ⟨c, 7, none⟩ (.bool v)) :=
  have hz : (w.setCell ⟨c, 7, none⟩ (.bool v)).heap.size = w.heap.size := by simp [World.setCell]
  { lt := by rw [hz]; exact h.lt, own := h.own, c0 := (setC_other w c _ (by decide)).trans h.c0, c1 := (setC_other w c _ (by decide)).trans h.c1, c2 := (setC_other w c _ (by decide)).trans h.c2, c3 := (setC_other w c _ (by decide)).trans h.c3, c4 := (setC_other w c _ (by decide)).trans h.c4, c5 := (setC_other w c _ (by decide)).trans h.c5, c6 := (setC_other w c _ (by decide)).trans h.c6, c7 := World.cell?_setCell_same _ _ _ h.c7,
    fz := fun o => by rw [World.frozen?_setCell]; exact h.fz o, rowB := MemR.row_keep h.rowB (Nat.lt_succ_self c) 7 _, rowU := MemR.row_keep h.rowU (Nat.lt_succ_self c) 7 _, inb := h.inb, inu := h.inu, apart := h.apart,
    maps := fun j hj => ⟨(h.maps j hj).1, (h.maps j hj).2.set h.c0 7 _⟩, nodup := h.nodup, enough := h.enough, low := fun k hs => by rw [hz]; exact h.low k hs, few := h.few }
/-- The innermost map has turned. -/
theorem map_mem {Z Z' : List ByteArray × List ByteArray} (h : MemR S c va x (E ++ [Z]) w) {b : Nat} (hj : E.length < x.bs.length) (hb : x.bs[E.length] = b) {wf : World} (hg : w.grownBy wf (some b)) (hm : MapP wf b Z'.1 Z'.2) : MemR S c va x (E ++ [Z']) wf ∧ Nxt S S w wf := by
  have hbm := (h.maps E.length hj).2
  have hbs := (h.maps E.length hj).1
  rw [hb] at hbm hbs
  have hbc : b ≠ c := hbm.not_c h.c0
  have hlt := h.lt
  have hkc : wf.heap[c]? = w.heap[c]? := hg.block c hlt (fun e => hbc (by injection e with e; exact e.symm))
  have hcell : ∀ o, wf.cell? ⟨c, o, none⟩ = w.cell? ⟨c, o, none⟩ := fun o => World.cell?_of_block (w := w) (a := ⟨c, o, none⟩) hkc
  have hfz : ∀ o, wf.frozen? ⟨c, o, none⟩ = w.frozen? ⟨c, o, none⟩ := fun o => World.frozen?_of_block (w := w) (a := ⟨c, o, none⟩) hkc
  have hk : ∀ k, k < w.heap.size → k ≠ b → wf.heap[k]? = w.heap[k]? := fun k h1 h3 => hg.block k h1 (fun e => h3 (by injection e))
  have hrow : ∀ {B : Nat} {e : TypeId} {sz n : Nat} {v : Value} {xs : List Value}, w.ownsRow B e sz v n xs → wf.ownsRow B e sz v n xs := fun hr =>
    own_kept hr (fun g hg' => hk g (World.ownsRow.lt hr g hg').2 (fun e => own_not_map hr hbm hg' e.symm))
  have h2 := h.c2
  have hen := h.enough
  simp only [List.length_append, List.length_singleton] at h2 hen
  refine ⟨?_, Nxt.grown S hg (fun k e => by injection e with e; rw [← e]; exact hbs)⟩
  refine { lt := by have := hg.size; omega, own := h.own, c0 := (hcell 0).trans h.c0, c1 := (hcell 1).trans h.c1, c2 := by rw [hcell, h2]; simp, c3 := (hcell 3).trans h.c3, c4 := (hcell 4).trans h.c4, c5 := (hcell 5).trans h.c5, c6 := (hcell 6).trans h.c6, c7 := (hcell 7).trans h.c7,
           fz := fun o => by rw [hfz]; exact h.fz o, rowB := hrow h.rowB, rowU := hrow h.rowU, inb := h.inb, inu := h.inu, apart := h.apart,
           maps := ?_, nodup := h.nodup, enough := by simp; omega, low := fun k hs => by have := h.low k hs; have := hg.size; omega, few := h.few }
  intro j hj2
  obtain ⟨m1, m2⟩ := h.maps j hj2
  refine ⟨m1, ?_⟩
  by_cases e : j = E.length
  · subst e
    rw [getD_last, hb]
    exact hm
  · rw [getD_pop E Z j e] at m2
    rw [getD_pop E Z' j e]
    refine m2.keep (hk _ m2.lt (fun e2 => e ?_))
    rw [← hb] at e2
    exact nodup_inj h.nodup hj2 hj e2
/-- The map need not turn: it reads as this, too. -/
theorem map_same {Z Z' : List ByteArray × List ByteArray} (h : MemR S c va x (E ++ [Z]) w) (hj : E.length < x.bs.length) (hm : MapP w x.bs[E.length] Z'.1 Z'.2) : MemR S c va x (E ++ [Z']) w :=
  (map_mem (Z' := Z') h hj rfl ⟨rfl, rfl, rfl, Nat.le_refl _, fun _ _ _ => rfl⟩ hm).1
end

/-- One more in the innermost block. -/
def putE (q : Bool) (Z : List ByteArray × List ByteArray) (s : ByteArray) : List ByteArray × List ByteArray := (if q then Z.1 else Z.1 ++ [s], if q then Z.2 ++ [s] else Z.2)
/-- Something is not right, or not. -/
def badO (b : Bool) : Ot := ⟨[], [], b⟩
theorem said_bad {L : List ByteArray} {x : RdX} {F : Ot} {U : Nat} (h : SaidR L x F U) (b : Bool) (y : RdX) (h1 : y.us = x.us) (h2 : y.fu = x.fu) (h3 : (y.ft || (y.fo || y.fv)) = ((x.ft || (x.fo || x.fv)) || b)) : SaidR L y (F.add (badO b)) U := by
  refine ⟨?_, ?_, ?_, ?_, by rw [h1]; exact h.cnt, by rw [h1]; exact h.inL⟩
  · rw [h1, h.fr]; simp [Ot.add, badO]
  · rw [h1, h.sc]; simp [Ot.add, badO]
  · rw [h2, h.unk]; simp [Ot.add, badO]
  · rw [h3, h.bad]; rfl

set_option maxRecDepth 100000 in
set_option maxHeartbeats 8000000 in
theorem declare_any (S : Nat → Prop) (c : Nat) (a : Option Addr) (cap : Nat) (L : List ByteArray) (E : Blks) (X Y : List ByteArray) (F : Ot) (U : Nat) (i : Int) (q : Bool) (w : World) (h : St S c a cap L (E ++ [(X, Y)]) F U w) (hi0 : 0 ≤ i) (hi1 : i < (L.length : Int)) :
    Calls Tryz.prog 84 #[.pointer (some ⟨c, 0, none⟩), .int .i64 i, .bool q] w fun e w' => e = .returned (.tuple #[]) ∧ St S c a cap L (E ++ [putE q (X, Y) (sgAt L i)]) (F.add (badO (inB (sideL q X Y) (sgAt L i)))) U w' ∧ Nxt S S w w' := by
  obtain ⟨⟨x, hM, hS⟩, hA⟩ := h
  obtain ⟨sb, off, rfl, hsc, hsm, hsz, hsn⟩ := hA.at hi0 hi1
  obtain ⟨av, cv, hvb, hcv, hcm, hn0, hsh⟩ := own_shape hM.rowB
  have hen := hM.enough
  have hfew := hM.few
  simp only [List.length_append, List.length_singleton] at hen
  have hj : E.length < x.bs.length := by omega
  obtain ⟨g, rfl⟩ : ∃ g, av = some ⟨g, 0, none⟩ := by
    cases av with
    | none => exact absurd (hn0 rfl) (by omega)
    | some p => obtain ⟨g, rfl, _⟩ := hsh p rfl; exact ⟨g, rfl⟩
  obtain ⟨b, hb⟩ : ∃ b, b = x.bs[E.length] := ⟨_, rfl⟩
  have hc0 := hM.c0
  have hc1 : w.cell? ⟨c, 1, none⟩ = some (.slice (some ⟨g, 0, none⟩) x.bs.length cv) := hvb ▸ hM.c1
  have hc2 : w.cell? ⟨c, 2, none⟩ = some (.int .i64 ((E.length : Int) + 1)) := by have := hM.c2; simpa using this
  have hgj : w.cell? ⟨g, E.length, none⟩ = some (.map (some b)) := by rw [hb]; exact own_cell (hvb ▸ hM.rowB) E.length hj
  have hEl : (E.length : Int) < (x.bs.length : Int) := by omega
  have hE0 : (0 : Int) ≤ (E.length : Int) := by omega
  have hE2 : ((E.length : Int) + 1) - 1 = (E.length : Int) := by omega
  have hE3 : (E.length : Int) < 20000 := by omega
  obtain ⟨ii, hii⟩ : ∃ ii : Nat, i = (ii : Int) := ⟨i.toNat, by omega⟩
  subst hii
  have hsc' : w.cell? ⟨sb, off + ii, none⟩ = some (.string (sgAt L (ii : Int))) := hsc
  generalize hsg : sgAt L (ii : Int) = s at *
  have HM : Hid (MemR S c (.slice (some ⟨sb, off, none⟩) L.length cap) x (E ++ [(X, Y)]) w) := hM
  have HJ : Hid (E.length < x.bs.length) := hj
  have HB : Hid (b = x.bs[E.length]) := hb
  clear hM hvb hcm hn0 hsh hen hfew hj hsc hb
  have hlt := HM.out.lt
  have hwr : IntKind.i64.wrap (E.length : Int) = (E.length : Int) := IntWalk.i64_in _ (by omega)
  have hgz := World.block_lt_of_cell? w _ hgj
  have kk : ∀ (p : Addr) (v : Value), w.cell? p = some v → (w.alloc (.cells #[.string ⟨#[]⟩, .bool false] 128)).cell? p = some v := fun p v hp => by
    rw [← hp]
    exact World.cell?_of_block (w := w) (a := p) (Below.heap_alloc w _ _ (World.block_lt_of_cell? w p hp))
  have k0 := kk _ _ hc0
  have k1 := kk _ _ hc1
  have k2 := kk _ _ hc2
  have k3 := kk _ _ hgj
  have k4 := kk _ _ hsc'
  clear kk
  go_enter Tryz.func84, Tryz.ntmps84
  go_upto_region 0 with fail
  go_cut [6, 7] from 10 to 43 (fun v6 v7 wc => v6 = .map (some b) ∧ v7 = .pointer (some ⟨w.heap.size, 0, none⟩) ∧ Below w.heap.size w wc ∧ wc.cell? ⟨w.heap.size, 0, none⟩ = some (.string s) ∧ wc.cell? ⟨w.heap.size, 1, none⟩ = some (.bool q))
  case first =>
    go_region
    all_goals go_wp2_with fail
    all_goals go_meet
    all_goals exact ⟨rfl, rfl, ((Below.refl _ _).alloc (Nat.le_refl _) _).drew, by simp [go_sem], by simp [go_sem]⟩
  case rest =>
    obtain ⟨rfl, rfl, hB, m0, m1⟩ := hcut
    clear k0 k1 k2 k3 k4 hc0 hc1 hc2 hgj hsc'
    have HN : Hid (Nxt S S w wc) := Nxt.of_below S hB
    have HM2 : Hid (MemR S c (.slice (some ⟨sb, off, none⟩) L.length cap) x (E ++ [(X, Y)]) wc) := HM.out.call hB
    have hbm : MapP wc b X Y := by
      have h := (HM2.out.maps E.length HJ.out).2
      rw [getD_last] at h
      rw [show b = x.bs[E.length]'HJ.out from HB.out]
      exact h
    obtain ⟨n, hn, hlk⟩ := hbm.look s q hsm
    have hlook := hlk wc rfl
    clear hlk hB
    cases hin : inB (sideL q X Y) s
    · obtain ⟨w4, hrun, hm4, hg4⟩ := hbm.put s q (ii : Int) hsm hi0 hin
      have HF : Hid (MemR S c (.slice (some ⟨sb, off, none⟩) L.length cap) x (E ++ [putE q (X, Y) s]) w4 ∧ Nxt S S wc w4) := map_mem HM2.out HJ.out HB.out.symm hg4 hm4
      rw [hin] at hlook
      clear hbm hm4 hg4 hn
      go_wp2
      go_end0
      obtain ⟨h1, h2⟩ := HF.out
      exact ⟨rfl, ⟨⟨_, h1, said_bad hS _ _ rfl rfl (by simp)⟩, hA.nxt (HN.out.trans h2)⟩, HN.out.trans h2⟩
    · have hm4 := hbm.again s q hin
      have HF : Hid (MemR S c (.slice (some ⟨sb, off, none⟩) L.length cap) x (E ++ [putE q (X, Y) s]) wc) := map_same HM2.out HJ.out (by rw [show x.bs[E.length]'HJ.out = b from HB.out.symm]; exact hm4)
      have k5 := HF.out.c5
      have f5 := HF.out.fz 5
      have HF2 : Hid (MemR S c (.slice (some ⟨sb, off, none⟩) L.length cap) { x with ft := true } (E ++ [putE q (X, Y) s]) (wc.setCell ⟨c, 5, none⟩ (.bool true)) ∧ Nxt S S wc (wc.setCell ⟨c, 5, none⟩ (.bool true))) := ⟨HF.out.flag5 true, Nxt.set S wc _ HF.out.own⟩
      rw [hin] at hlook
      clear hbm hm4 hn HF
      go_wp2
      refine bodyPost_ret (results_none rfl _ _ _) rfl ?_
      obtain ⟨h1, h2⟩ := HF2.out
      exact ⟨rfl, ⟨⟨_, h1, said_bad hS _ _ rfl rfl (by simp)⟩, hA.nxt (HN.out.trans h2)⟩, HN.out.trans h2⟩
end Go.Proofs.YtcpnofagnnncoaaGreatDoor

/-
  Chapter 5, the program: where a NAME is declared that is known here.
-/
namespace Go.Proofs.YtcpnofagnnncoaaGreatDoor
open Go.RowKit

/-- What is known here, of that matter. -/
def knQ (q : Bool) (E : Blks) : List ByteArray := (E.map fun Z => sideL q Z.1 Z.2).flatten
theorem knQ_no {q : Bool} {E : Blks} {s : ByteArray} (h : ∀ j, j < E.length → inB (sideL q (E.getD j ([], [])).1 (E.getD j ([], [])).2) s = false) : inB (knQ q E) s = false := by
  unfold knQ
  rw [inB_flat, List.any_eq_false]
  intro X hX
  obtain ⟨Z, hZ, rfl⟩ := List.mem_map.mp hX
  obtain ⟨j, hj, rfl⟩ := List.getElem_of_mem hZ
  have := h j hj
  rw [show E.getD j ([], []) = E[j] by simp [List.getD, hj]] at this
  rw [this]
  decide
theorem knQ_yes {q : Bool} {E : Blks} {s : ByteArray} {j : Nat} (hj : j < E.length) (h : inB (sideL q (E.getD j ([], [])).1 (E.getD j ([], [])).2) s = true) : inB (knQ q E) s = true := by
  unfold knQ
  rw [inB_flat, List.any_eq_true]
  rw [show E.getD j ([], []) = E[j] by simp [List.getD, hj]] at h
  exact ⟨_, List.mem_map.mpr ⟨E[j], List.getElem_mem hj, rfl⟩, h⟩

set_option maxRecDepth 100000 in
set_option maxHeartbeats 8000000 in
theorem declaredAt_any (S : Nat → Prop) (c : Nat) (va : Value) (x : RdX) (E : Blks) (s : ByteArray) (q : Bool) (w : World) (hM : MemR S c va x E w) (hs : s.size ≤ maxLen) :
    Calls Tryz.prog 148 #[.pointer (some ⟨c, 0, none⟩), .agg #[.string s, .bool q]] w fun e w' => ∃ n : Int, e = .returned (.int .i64 n) ∧ (inB (knQ q E) s = false → n = -1) ∧ (inB (knQ q E) s = true → 0 ≤ n) ∧ Below w.heap.size w w' := by
  obtain ⟨av, cv, hvb, hcv, hcm, hn0, hsh⟩ := own_shape hM.rowB
  have hen := hM.enough
  have hfew := hM.few
  have hlt := hM.lt
  obtain ⟨w1, hw1⟩ : ∃ w1, w1 = w.alloc (.cells #[.string s, .bool q] 128) := ⟨_, rfl⟩
  have hb1 : Below w.heap.size w w1 := by rw [hw1]; exact balloc (Below.refl _ _) _
  have hz1 : w1.heap.size = w.heap.size + 1 := by rw [hw1]; simp
  have hM1 := hM.call hb1
  have b0 : w1.cell? ⟨w.heap.size, 0, none⟩ = some (.string s) := by rw [hw1]; simp [go_sem]
  have b1 : w1.cell? ⟨w.heap.size, 1, none⟩ = some (.bool q) := by rw [hw1]; simp [go_sem]
  have c2 := hM1.c2
  have HB1 : Hid (Below w.heap.size w w1) := hb1
  have hE3 : (E.length : Int) ≤ 20000 := by omega
  go_enter Tryz.func148, Tryz.ntmps148
  clear hb1 hM
  subst hw1
  go_wp2
  go_loopw [5] (fun v5 wr => ∃ k : Nat, v5 = .int .i64 ((k : Int) - 1) ∧ k ≤ E.length ∧ Below (w.alloc (.cells #[.string s, .bool q] 128)).heap.size (w.alloc (.cells #[.string s, .bool q] 128)) wr ∧ Hid (∀ j, k ≤ j → j < E.length → inB (sideL q (E.getD j ([], [])).1 (E.getD j ([], [])).2) s = false)) (fun v5 _ => (intOf v5 + 1).toNat)
  case atStart => exact ⟨E.length, rfl, Nat.le_refl _, Below.refl _ _, fun j h1 h2 => by omega⟩
  case round =>
    obtain ⟨k, rfl, hk, hB, HA⟩ := hrel
    have HBw : Hid (Below w.heap.size w wr) := HB1.out.trans (hB.mono (by omega))
    cases k with
    | zero =>
      have HE : Hid (inB (knQ q E) s = false) := knQ_no (fun j hj => HA.out j (Nat.zero_le _) hj)
      have h0 : ((0 : Nat) : Int) - 1 = -1 := rfl
      rw [h0]
      go_wp2
      go_ret
      exact ⟨_, rfl, fun _ => rfl, (fun h => by rw [HE.out] at h; cases h), HBw.out⟩
    | succ k =>
      have hMr := hM1.call hB
      have hj : k < x.bs.length := by omega
      obtain ⟨g, rfl⟩ : ∃ g, av = some ⟨g, 0, none⟩ := by
        cases av with
        | none => exact absurd (hn0 rfl) (by omega)
        | some p => obtain ⟨g, rfl, _⟩ := hsh p rfl; exact ⟨g, rfl⟩
      have hmap := (hMr.maps k hj).2
      have hc1 : wr.cell? ⟨c, 1, none⟩ = some (.slice (some ⟨g, 0, none⟩) x.bs.length cv) := hvb ▸ hMr.c1
      have hgj : wr.cell? ⟨g, k, none⟩ = some (.map (some x.bs[k])) := own_cell (hvb ▸ hMr.rowB) k hj
      have m0 := (hB.cell (p := ⟨w.heap.size, 0, none⟩) (by show w.heap.size < _; omega)).trans b0
      have m1 := (hB.cell (p := ⟨w.heap.size, 1, none⟩) (by show w.heap.size < _; omega)).trans b1
      generalize x.bs[k] = b at hmap hgj
      obtain ⟨n, hn, hlk⟩ := hmap.look s q hs
      have hlook := hlk wr rfl
      have hlookd : ∀ m, _ := fun m => hlk (wr.drewN m) rfl
      have e1 : (((k + 1 : Nat) : Int) - 1) = (k : Int) := by omega
      rw [e1]
      have hk0 : (0 : Int) ≤ (k : Int) := by omega
      have hk1 : (k : Int) < (x.bs.length : Int) := by omega
      clear hmap hlk hMr e1
      cases hin : inB (sideL q (E.getD k ([], [])).1 (E.getD k ([], [])).2) s
      · rw [hin] at hlook
        simp only [hin] at hlookd
        have HA2 : Hid (∀ j, k ≤ j → j < E.length → inB (sideL q (E.getD j ([], [])).1 (E.getD j ([], [])).2) s = false) := fun j h1 h2 => by
          by_cases e : j = k
          · subst e; exact hin
          · exact HA.out j (by omega) h2
        clear hin hn HA
        go_wp2_with fail
        go_quiet (fail)
        go_wp2
        go_roundw
        case rel => exact ⟨k, by go_num, by omega, ⟨hB.os, hB.tape, hB.output, hB.size, hB.block⟩, HA2.out⟩
        case measure => simp [intOf]
      · have HE : Hid (inB (knQ q E) s = true) := knQ_yes (by omega) hin
        have hn' := hn hin
        rw [hin] at hlook
        simp only [hin] at hlookd
        clear hin hn HA
        go_wp2_with fail
        go_quiet (fail)
        go_wp2
        go_ret
        have hBx := HBw.out
        exact ⟨_, rfl, (fun h => by rw [HE.out] at h; cases h), fun _ => hn', ⟨hBx.os, hBx.tape, hBx.output, hBx.size, hBx.block⟩⟩

/-- What a use adds. -/
def usO (q : Bool) (E : Blks) (s : ByteArray) : Ot := if inB (knQ q E) s then Ot.none else if q then ⟨[], [s], false⟩ else ⟨[s], [], false⟩
section
variable {S : Nat → Prop} {c : Nat} {va : Value} {x : RdX} {E : Blks} {w : World}
theorem use_mem (h : MemR S c va x E w) {u : Int × Int × Bool} {T : TypeId} {w3 : World} {v' : Value}
    (hown : w3.ownsRow (c + 1) 108 3 v' (x.us.length + 1) (flatU x.us ++ [.int .i64 u.1, .int .i64 u.2.1, .bool u.2.2]))
    (hg : (w.alloc (.cells #[.int .i64 u.1, .int .i64 u.2.1, .bool u.2.2] T)).grownBy w3 x.vu.ownBlock) (hwh : ∀ g, v'.ownBlock = some g → x.vu.ownBlock = some g ∨ g = w.heap.size + 1) :
    ∃ S', MemR S' c va { x with vu := v', us := x.us ++ [u] } E (w3.setCell ⟨c, 3, none⟩ v') ∧ Nxt S S' w (w3.setCell ⟨c, 3, none⟩ v') := by
  have hlt := h.lt
  have hvu : ∀ g, x.vu.ownBlock = some g → c < g ∧ g < w.heap.size := fun g hg => by have := World.ownsRow.lt h.rowU g hg; omega
  have hz3 : w.heap.size + 1 ≤ w3.heap.size := by have := hg.size; simpa using this
  have hk3 : ∀ k, k < w.heap.size → x.vu.ownBlock ≠ some k → w3.heap[k]? = w.heap[k]? := fun k hk hn => (hg.block k (by simp; omega) (fun e => hn e.symm)).trans (Below.heap_alloc _ _ _ hk)
  have hc3 : w3.heap[c]? = w.heap[c]? := hk3 c hlt (fun e => by have := (hvu c e).1; omega)
  obtain ⟨wf, hwf⟩ : ∃ wf, wf = w3.setCell ⟨c, 3, none⟩ v' := ⟨_, rfl⟩
  have hkf : ∀ k, k ≠ c → wf.heap[k]? = w3.heap[k]? := fun k hk => by rw [hwf, Below.heap_setCell _ _ _ _ hk]
  have hzf : wf.heap.size = w3.heap.size := by rw [hwf]; simp [World.setCell]
  have hcell : ∀ o, o ≠ 3 → wf.cell? ⟨c, o, none⟩ = w.cell? ⟨c, o, none⟩ := fun o h1 => by
    rw [hwf, setC_other _ _ _ (Ne.symm h1)]
    exact World.cell?_of_block (w := w) (a := ⟨c, o, none⟩) hc3
  have hfz : ∀ o, wf.frozen? ⟨c, o, none⟩ = false := fun o => by
    rw [hwf, World.frozen?_setCell]
    exact (World.frozen?_of_block (w := w) (a := ⟨c, o, none⟩) hc3).trans (h.fz o)
  have hc1 : wf.cell? ⟨c, 3, none⟩ = some v' := by
    rw [hwf]
    exact World.cell?_setCell_same _ _ _ ((World.cell?_of_block (w := w) (a := ⟨c, 3, none⟩) hc3).trans h.c3)
  rw [← hwf]
  refine ⟨fun k => S k ∨ v'.ownBlock = some k, ?_, ?_⟩
  · refine { lt := by omega, own := Or.inl h.own, c0 := (hcell 0 (by decide)).trans h.c0, c1 := (hcell 1 (by decide)).trans h.c1, c2 := (hcell 2 (by decide)).trans h.c2, c3 := hc1, c4 := (hcell 4 (by decide)).trans h.c4, c5 := (hcell 5 (by decide)).trans h.c5, c6 := (hcell 6 (by decide)).trans h.c6, c7 := (hcell 7 (by decide)).trans h.c7,
             fz := hfz, rowB := ?_, rowU := ?_, inb := fun g hg => Or.inl (h.inb g hg), inu := fun g hg => Or.inr hg, apart := ?_, maps := ?_, nodup := h.nodup, enough := h.enough, low := ?_, few := h.few }
    · exact own_kept h.rowB (fun g hg => (hkf g (by have := World.ownsRow.lt h.rowB g hg; omega)).trans (hk3 g (World.ownsRow.lt h.rowB g hg).2 (fun e => h.apart g hg e)))
    · have := own_kept hown (w' := wf) (fun g hg => hkf g (by have := World.ownsRow.lt hown g hg; omega))
      rw [flatU_snoc]
      simpa using this
    · intro g hg hu
      rcases hwh g hu with e | e
      · exact h.apart g hg e
      · have := (World.ownsRow.lt h.rowB g hg).2
        omega
    · intro j hj
      obtain ⟨m1, m2⟩ := h.maps j hj
      exact ⟨Or.inl m1, m2.keep ((hkf _ (m2.not_c h.c0)).trans (hk3 _ m2.lt (fun e => own_not_map h.rowU m2 e rfl)))⟩
    · rintro k (hs | hv)
      · have := h.low k hs
        omega
      · have := World.ownsRow.lt hown k hv
        omega
  · refine ⟨?_, ?_, ?_, by omega, fun k hk hn => (hkf k (fun e => hn (e ▸ h.own))).trans (hk3 k hk (fun e => hn (h.inu k e))), ?_⟩
    · rw [hwf]; exact hg.os
    · rw [hwf]; exact hg.tape
    · rw [hwf]; exact hg.output
    · rintro k (hs | hv)
      · exact Or.inl hs
      · rcases hwh k hv with e | e
        · exact Or.inl (h.inu k e)
        · exact Or.inr (by omega)
theorem sel_snoc (L : List ByteArray) (us : List (Int × Int × Bool)) (u : Int × Int × Bool) (q : Bool) : selU L (us ++ [u]) q = selU L us q ++ (if u.2.1 == -1 && u.2.2 == q then [sgAt L u.1] else []) := by
  unfold selU
  rw [List.filter_append, List.map_append]
  congr 1
  by_cases h : (u.2.1 == -1 && u.2.2 == q) = true
  · simp [h]
  · rw [Bool.not_eq_true] at h
    simp [h]
/-- What is found with one use more. -/
theorem said_use {L : List ByteArray} {F : Ot} {U : Nat} {i n : Int} {q : Bool} (h : SaidR L x F U) (h0 : 0 ≤ i) (h1 : i < (L.length : Int)) (hno : inB (knQ q E) (sgAt L i) = false → n = -1) (hyes : inB (knQ q E) (sgAt L i) = true → 0 ≤ n) (y : RdX) (hu : y.us = x.us ++ [(i, n, q)]) (hf : y.fu = (if inB (knQ q E) (sgAt L i) then x.fu else true)) (hb : (y.ft || (y.fo || y.fv)) = (x.ft || (x.fo || x.fv))) : SaidR L y (F.add (usO q E (sgAt L i))) (U + 1) := by
  have hc := h.cnt
  refine ⟨?_, ?_, ?_, ?_, by rw [hu]; simp; omega, fun u hm => ?_⟩
  · rw [hu, sel_snoc, h.fr]
    unfold usO Ot.add
    cases hin : inB (knQ q E) (sgAt L i)
    · rw [hno hin]
      cases q <;> simp
    · have hn := hyes hin
      have : (n == -1) = false := by simp; omega
      simp [this, Ot.none]
  · rw [hu, sel_snoc, h.sc]
    unfold usO Ot.add
    cases hin : inB (knQ q E) (sgAt L i)
    · rw [hno hin]
      cases q <;> simp
    · have hn := hyes hin
      have : (n == -1) = false := by simp; omega
      simp [this, Ot.none]
  · rw [hf]
    unfold usO Ot.add
    cases hin : inB (knQ q E) (sgAt L i)
    · cases q <;> simp
    · simp [Ot.none, h.unk]
  · rw [hb, h.bad]
    unfold usO Ot.add
    cases hin : inB (knQ q E) (sgAt L i)
    · cases q <;> simp
    · simp [Ot.none]
  · rw [hu] at hm
    rcases List.mem_append.mp hm with hm | hm
    · exact h.inL u hm
    · rw [List.mem_singleton] at hm
      subst hm
      exact ⟨h0, h1⟩
end

set_option maxRecDepth 100000 in
set_option maxHeartbeats 8000000 in
theorem use_any (S : Nat → Prop) (c : Nat) (a : Option Addr) (cap : Nat) (L : List ByteArray) (E : Blks) (F : Ot) (U : Nat) (i : Int) (q : Bool) (w : World) (h : St S c a cap L E F U w) (hi0 : 0 ≤ i) (hi1 : i < (L.length : Int)) (hU : U ≤ 2000) :
    Calls Tryz.prog 138 #[.pointer (some ⟨c, 0, none⟩), .int .i64 i, .bool q] w fun e w' => e = .returned (.tuple #[]) ∧ ∃ S', St S' c a cap L E (F.add (usO q E (sgAt L i))) (U + 1) w' ∧ Nxt S S' w w' := by
  obtain ⟨⟨x, hM, hS⟩, hA⟩ := h
  obtain ⟨sb, off, rfl, hsc, hsm, hsz, hsn⟩ := hA.at hi0 hi1
  obtain ⟨i0, hi, hz0, hz1, hz2⟩ := info_parts infoU
  obtain ⟨ii, hii⟩ : ∃ ii : Nat, i = (ii : Int) := ⟨i.toNat, by omega⟩
  subst hii
  have hsc' : w.cell? ⟨sb, off + ii, none⟩ = some (.string (sgAt L (ii : Int))) := hsc
  have hc0 := hM.c0
  clear hsc
  obtain ⟨s, hs⟩ : ∃ s, s = sgAt L (ii : Int) := ⟨_, rfl⟩
  rw [← hs] at hsc' hsm
  have HS : Hid (s = sgAt L (ii : Int)) := hs
  have hcnt := hS.cnt
  clear hs
  go_enter Tryz.func138, Tryz.ntmps138
  go_wp2_with fail
  refine (declaredAt_any S c _ x E s q _ hM hsm).mono ?_
  rintro e w1 ⟨n, rfl, hno, hyes, hb1⟩
  have HM1 : Hid (MemR S c (.slice (some ⟨sb, off, none⟩) L.length cap) x E w1) := hM.call hb1
  have HN1 : Hid (Nxt S S w w1) := Nxt.of_below S hb1
  rw [HS.out] at hno hyes
  have HNO : Hid (inB (knQ q E) (sgAt L (ii : Int)) = false → n = -1) := hno
  have HYES : Hid (inB (knQ q E) (sgAt L (ii : Int)) = true → 0 ≤ n) := hyes
  clear hno hyes hM hc0 hsc' hb1
  obtain ⟨av, cv, hvu, hcv, hcm, hn0, hsh⟩ := own_shape HM1.out.rowU
  have HVU : Hid (x.vu = .slice av x.us.length cv) := hvu
  clear hvu hcv hcm hn0 hsh
  -- the rest, from whatever world and whatever flag
  have hrest : ∀ (y : RdX) (W : World), y.us = x.us → y.vu = x.vu → (y.ft || (y.fo || y.fv)) = (x.ft || (x.fo || x.fv)) → y.fu = (if inB (knQ q E) (sgAt L (ii : Int)) then x.fu else true) → MemR S c (.slice (some ⟨sb, off, none⟩) L.length cap) y E W → Nxt S S w W → Hid (∀ w3 v', w3.ownsRow (c + 1) 108 3 v' (x.us.length + 1) (flatU x.us ++ [.int .i64 (ii : Int), .int .i64 n, .bool q]) → (W.alloc (.cells #[.int .i64 (ii : Int), .int .i64 n, .bool q] 108)).grownBy w3 (Value.slice av x.us.length cv).ownBlock → (∀ g, v'.ownBlock = some g → (Value.slice av x.us.length cv).ownBlock = some g ∨ g = W.heap.size + 1) →
      ∃ S', St S' c (some ⟨sb, off, none⟩) cap L E (F.add (usO q E (sgAt L (ii : Int)))) (U + 1) (w3.setCell ⟨c, 3, none⟩ v') ∧ Nxt S S' w (w3.setCell ⟨c, 3, none⟩ v')) := fun y W e1 e2 e3 e4 hMy hNy w3 v' h1 h2 h3 => by
    obtain ⟨S', k1, k2⟩ := use_mem (u := ((ii : Int), n, q)) hMy (by rw [e1]; exact h1) (by rw [e2, HVU.out]; exact h2) (by rw [e2, HVU.out]; exact h3)
    exact ⟨S', ⟨⟨_, k1, said_use hS hi0 hi1 HNO.out HYES.out _ (by rw [e1]) e4 e3⟩, hA.nxt (hNy.trans k2)⟩, hNy.trans k2⟩
  have hcc : ∀ (W : World) (v0 v1 v2 : Value), ∀ j u, [v0, v1, v2][j]? = some u → (W.alloc (.cells #[v0, v1, v2] 108)).cell? ((⟨W.heap.size, 0, none⟩ : Addr).add j) = some u := fun W v0 v1 v2 j u hj => by
    obtain ⟨t0, t1, t2, _⟩ := bbox0 W v0 v1 v2 108
    have hadd : ∀ j, (⟨W.heap.size, 0, none⟩ : Addr).add j = ⟨W.heap.size, j, none⟩ := fun j => by unfold Addr.add; split <;> simp_all
    rw [hadd]
    match j, hj with
    | 0, hj => simp at hj; subst hj; exact t0
    | 1, hj => simp at hj; subst hj; exact t1
    | 2, hj => simp at hj; subst hj; exact t2
  have hgk : ∀ (W w3 : World) (v0 v1 v2 : Value), c < W.heap.size → (∀ g, (Value.slice av x.us.length cv).ownBlock = some g → c + 1 ≤ g) → (W.alloc (.cells #[v0, v1, v2] 108)).grownBy w3 (Value.slice av x.us.length cv).ownBlock → w3.cell? ⟨c, 3, none⟩ = W.cell? ⟨c, 3, none⟩ ∧ w3.frozen? ⟨c, 3, none⟩ = W.frozen? ⟨c, 3, none⟩ := fun W w3 v0 v1 v2 hlt hlo hg => by
    have hb : w3.heap[c]? = W.heap[c]? := by
      rw [hg.block c (by simp; omega) (fun e => by have := hlo c e.symm; omega), Below.heap_alloc _ _ _ hlt]
    exact ⟨World.cell?_of_block (w := W) (a := ⟨c, 3, none⟩) hb, World.frozen?_of_block (w := W) (a := ⟨c, 3, none⟩) hb⟩
  have HCC : Hid (∀ (W : World) (v0 v1 v2 : Value), ∀ j u, [v0, v1, v2][j]? = some u → (W.alloc (.cells #[v0, v1, v2] 108)).cell? ((⟨W.heap.size, 0, none⟩ : Addr).add j) = some u) := hcc
  have HGK : Hid (∀ (W w3 : World) (v0 v1 v2 : Value), c < W.heap.size → (∀ g, (Value.slice av x.us.length cv).ownBlock = some g → c + 1 ≤ g) → (W.alloc (.cells #[v0, v1, v2] 108)).grownBy w3 (Value.slice av x.us.length cv).ownBlock → w3.cell? ⟨c, 3, none⟩ = W.cell? ⟨c, 3, none⟩ ∧ w3.frozen? ⟨c, 3, none⟩ = W.frozen? ⟨c, 3, none⟩) := hgk
  have HLO : Hid (∀ g, (Value.slice av x.us.length cv).ownBlock = some g → c + 1 ≤ g) := fun g hg => (World.ownsRow.lt HM1.out.rowU g (by rw [HVU.out]; exact hg)).1
  have hcc2 : ∀ u ∈ [Value.int .i64 (ii : Int), .int .i64 n, .bool q], u.oneCell' = true := fun u hu => by simp at hu; rcases hu with rfl | rfl | rfl <;> rfl
  have hcc3 : x.us.length + 1 ≤ maxLen := by unfold maxLen; omega
  have hcc4 : (x.us.length + 1) * 24 ≤ 140737488355328 := by omega
  clear hcc hgk
  cases hin : inB (knQ q E) (sgAt L (ii : Int))
  · have hn := HNO.out hin
    subst hn
    have k4 := HM1.out.c4
    have f4 := HM1.out.fz 4
    have HR := hrest { x with fu := true } (w1.setCell ⟨c, 4, none⟩ (.bool true)) rfl rfl rfl (by rw [hin]; rfl) (HM1.out.flag4 true) (HN1.out.trans (Nxt.set S w1 _ HM1.out.own))
    have HMW : Hid (MemR S c (.slice (some ⟨sb, off, none⟩) L.length cap) { x with fu := true } E (w1.setCell ⟨c, 4, none⟩ (.bool true))) := HM1.out.flag4 true
    go_upto_region 3 with fail
    obtain ⟨W, hW⟩ : ∃ W, W = w1.setCell ⟨c, 4, none⟩ (.bool true) := ⟨_, rfl⟩
    rw [← hW] at HR HMW ⊢
    clear hW k4 f4
    have k3 : W.cell? ⟨c, 3, none⟩ = some (.slice av x.us.length cv) := HVU.out ▸ HMW.out.c3
    have f3 := HMW.out.fz 3
    have hlt := HMW.out.lt
    have HO : Hid (W.ownsRow (c + 1) 108 3 (.slice av x.us.length cv) x.us.length (flatU x.us)) := HVU.out ▸ HMW.out.rowU
    have hcc1 := HCC.out W (.int .i64 (ii : Int)) (.int .i64 (-1)) (.bool q)
    have hcc5 : c + 1 ≤ (W.alloc (.cells #[.int .i64 (ii : Int), .int .i64 (-1), .bool q] 108)).heap.size := by simp; omega
    clear hrest
    go_wp2_with (at_builtin; refine wpList_append_at _ rfl (.tmp 28) (.tmp 33) 47 rfl (c + 1) 108 i0 (.agg #[.int .i64 0, .int .i64 0, .bool false]) 3 24 Tryz.underlying47 hi hz0 hz1 hz2 rfl (by decide) _ _ _ rfl (World.ownsRow.alloc HO.out _) ⟨W.heap.size, 0, none⟩ 1 1 [.int .i64 (ii : Int), .int .i64 (-1), .bool q] rfl rfl hcc1 hcc2 hcc3 hcc4 hcc5 ?_)
    intro v' w3 hown hgrow hwh
    obtain ⟨av', cv', rfl, _, _, _, _⟩ := own_shape hown
    obtain ⟨g1, g2⟩ := HGK.out W w3 _ _ _ hlt HLO.out hgrow
    have p3 := g1.trans k3
    have q3 := g2.trans f3
    have HFIN : Hid (∃ S', St S' c (some ⟨sb, off, none⟩) cap L E (F.add (usO q E (sgAt L (ii : Int)))) (U + 1) (w3.setCell ⟨c, 3, none⟩ (.slice av' (x.us.length + 1) cv')) ∧ Nxt S S' w (w3.setCell ⟨c, 3, none⟩ (.slice av' (x.us.length + 1) cv'))) := HR.out w3 _ hown hgrow (fun g hg => by have := hwh g hg; simpa using this)
    clear HR hown hgrow hwh g1 g2 hcc1 hcc2 hcc3 hcc4 hcc5 HO HMW k3 f3
    go_wp2
    go_end0
    exact ⟨rfl, HFIN.out⟩
  · have hn := HYES.out hin
    have hne : (n == -1) = false := by simp; omega
    have HR := hrest x w1 rfl rfl rfl (by rw [hin]; rfl) HM1.out HN1.out
    have HMW : Hid (MemR S c (.slice (some ⟨sb, off, none⟩) L.length cap) x E w1) := HM1.out
    have k3 : w1.cell? ⟨c, 3, none⟩ = some (.slice av x.us.length cv) := HVU.out ▸ HMW.out.c3
    have f3 := HMW.out.fz 3
    have hlt := HMW.out.lt
    have HO : Hid (w1.ownsRow (c + 1) 108 3 (.slice av x.us.length cv) x.us.length (flatU x.us)) := HVU.out ▸ HMW.out.rowU
    have hcc1 := HCC.out w1 (.int .i64 (ii : Int)) (.int .i64 n) (.bool q)
    have hcc5 : c + 1 ≤ (w1.alloc (.cells #[.int .i64 (ii : Int), .int .i64 n, .bool q] 108)).heap.size := by simp; omega
    clear hrest
    go_wp2_with (at_builtin; refine wpList_append_at _ rfl (.tmp 28) (.tmp 33) 47 rfl (c + 1) 108 i0 (.agg #[.int .i64 0, .int .i64 0, .bool false]) 3 24 Tryz.underlying47 hi hz0 hz1 hz2 rfl (by decide) _ _ _ rfl (World.ownsRow.alloc HO.out _) ⟨w1.heap.size, 0, none⟩ 1 1 [.int .i64 (ii : Int), .int .i64 n, .bool q] rfl rfl hcc1 hcc2 hcc3 hcc4 hcc5 ?_)
    intro v' w3 hown hgrow hwh
    obtain ⟨av', cv', rfl, _, _, _, _⟩ := own_shape hown
    obtain ⟨g1, g2⟩ := HGK.out w1 w3 _ _ _ hlt HLO.out hgrow
    have p3 := g1.trans k3
    have q3 := g2.trans f3
    have HFIN : Hid (∃ S', St S' c (some ⟨sb, off, none⟩) cap L E (F.add (usO q E (sgAt L (ii : Int)))) (U + 1) (w3.setCell ⟨c, 3, none⟩ (.slice av' (x.us.length + 1) cv')) ∧ Nxt S S' w (w3.setCell ⟨c, 3, none⟩ (.slice av' (x.us.length + 1) cv'))) := HR.out w3 _ hown hgrow (fun g hg => by have := hwh g hg; simpa using this)
    clear HR hown hgrow hwh g1 g2 hcc1 hcc2 hcc3 hcc4 hcc5 HO HMW k3 f3
    go_wp2
    go_end0
    exact ⟨rfl, HFIN.out⟩
end Go.Proofs.YtcpnofagnnncoaaGreatDoor
