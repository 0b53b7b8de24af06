/-
  Chapter 8, the laws: a copy of a Mem in memory of the call's own.
-/
import Derived.Test.YtknepeleepbefaaMemL
import Derived.Deep.OwnRows
import Derived.Laws.MakeOwn
namespace Go.Proofs.Ytknepeleepbefaa
open Go.RowKit

section
variable {P : Program}
/-- make([]T, n), whatever an element has of cells. -/
theorem run_make_any (t e : TypeId) (z : Value) (size bytes : Nat) (ht : P.underlying t = some (.slice e)) (hinfo : (P.info? e).map (fun i => (i.zero, i.size, i.bytes)) = some (some z, size, bytes))
    (kl kc : IntKind) (n : Nat) (hbytes : bytes * n ≤ 281474976710656) (h63 : n ≤ 9223372036854775807) (w : World) :
    (Instr.makeSlice t (.int kl (n : Int)) (.int kc (n : Int))).run P w = .ok (.slice (some ⟨w.heap.size, 0, none⟩) n n) (w.alloc (.cells (madeCells z.cells (n * size)) e)) := by
  obtain ⟨i, hi, hzz⟩ := Option.map_eq_some_iff.1 hinfo
  simp only [Prod.mk.injEq] at hzz
  obtain ⟨hz, hs, hb⟩ := hzz
  have hb' : (i.bytes : Int) * (n : Int) ≤ 281474976710656 := by
    have h : ((i.bytes * n : Nat) : Int) ≤ 281474976710656 := by rw [hb]; omega
    rwa [Int.natCast_mul] at h
  have hr := run_make (P := P) w t e i z ht hi hz kl kc n n (by omega) (Int.le_refl _) hb' (by omega)
  simp only [Int.toNat_natCast, hs] at hr
  exact hr
end
/-- Values lie in block g, one a cell, and may be written. -/
def RowF (w : World) (g : Nat) (C : List Value) : Prop := g < w.heap.size ∧ ∀ i (h : i < C.length), w.cell? ⟨g, i, none⟩ = some C[i] ∧ w.frozen? ⟨g, i, none⟩ = false
theorem RowF.call {w w' : World} {g : Nat} {C : List Value} (h : RowF w g C) (hb : Below w.heap.size w w') : RowF w' g C :=
  ⟨Nat.lt_of_lt_of_le h.1 hb.size, fun i hi => ⟨(hb.cell (p := ⟨g, i, none⟩) h.1).trans (h.2 i hi).1, (hb.frozen (p := ⟨g, i, none⟩) h.1).trans (h.2 i hi).2⟩⟩
theorem RowF.other {w : World} {g b o : Nat} {C : List Value} {u : Value} (h : RowF w g C) (hne : g ≠ b) : RowF (w.setCell ⟨b, o, none⟩ u) g C := by
  have hh : (w.setCell ⟨b, o, none⟩ u).heap[g]? = w.heap[g]? := Below.heap_setCell w ⟨b, o, none⟩ u g hne
  refine ⟨by simpa [World.setCell] using h.1, fun i hi => ⟨?_, ?_⟩⟩
  · exact (World.cell?_of_block (w := w) (a := ⟨g, i, none⟩) hh).trans (h.2 i hi).1
  · exact (World.frozen?_of_block (w := w) (a := ⟨g, i, none⟩) hh).trans (h.2 i hi).2
theorem RowF.put {w : World} {b j : Nat} {C : List Value} {u : Value} (h : RowF w b C) : RowF (w.setCell ⟨b, j, none⟩ u) b (C.set j u) := by
  refine ⟨by simpa [World.setCell] using h.1, fun i hi => ?_⟩
  have hi' : i < C.length := by simpa using hi
  obtain ⟨h1, h2⟩ := h.2 i hi'
  refine ⟨?_, by simpa [go_sem] using h2⟩
  by_cases e : i = j
  · subst e
    rw [List.getElem_set_self]
    exact World.cell?_setCell_same w _ _ h1
  · rw [List.getElem_set_ne (fun hh => e hh.symm)]
    exact (World.cell?_setCell_other w ⟨b, j, none⟩ ⟨b, i, none⟩ _ (fun hh => e (by injection hh with _ h2 _; exact h2.symm))).trans h1
theorem rowF_new (w : World) (C : List Value) (t : TypeId) : RowF (w.alloc (.cells C.toArray t)) w.heap.size C := by
  refine ⟨by simp, fun i hi => ⟨?_, by simp [go_sem]⟩⟩
  rw [cell_new]
  simp [hi]
theorem rowF_alloc {w : World} {g : Nat} {C : List Value} (h : RowF w g C) (o : Obj) : RowF (w.alloc o) g C := h.call (balloc (Below.refl _ _) o)
/-- Of so many cells the first j are as they shall be. -/
def FillC (w : World) (g N : Nat) (C : List Value) (j : Nat) : Prop := g < w.heap.size ∧ ∀ i, i < N → (∃ x, w.cell? ⟨g, i, none⟩ = some x ∧ (i < j → C[i]? = some x)) ∧ w.frozen? ⟨g, i, none⟩ = false
theorem FillC.call {w w' : World} {g N j : Nat} {C : List Value} (h : FillC w g N C j) (hb : Below w.heap.size w w') : FillC w' g N C j :=
  ⟨Nat.lt_of_lt_of_le h.1 hb.size, fun i hi => by
    obtain ⟨⟨x, hx, hm⟩, hf⟩ := h.2 i hi
    exact ⟨⟨x, (hb.cell (p := ⟨g, i, none⟩) h.1).trans hx, hm⟩, (hb.frozen (p := ⟨g, i, none⟩) h.1).trans hf⟩⟩
theorem FillC.set {w : World} {g N j : Nat} {C : List Value} {u : Value} (h : FillC w g N C j) (hj : j < N) (hu : C[j]? = some u) : FillC (w.setCell ⟨g, j, none⟩ u) g N C (j + 1) := by
  refine ⟨by simpa [World.setCell] using h.1, fun i hi => ⟨?_, ?_⟩⟩
  · obtain ⟨⟨x, hx, hm⟩, _⟩ := h.2 i hi
    by_cases e : i = j
    · subst e
      exact ⟨_, World.cell?_setCell_same w _ _ hx, fun _ => hu⟩
    · refine ⟨x, (World.cell?_setCell_other w ⟨g, j, none⟩ ⟨g, i, none⟩ _ (fun hh => e (by injection hh with _ h2 _; exact h2.symm))).trans hx, fun hlt => hm (by omega)⟩
  · have := (h.2 i hi).2
    simpa [go_sem] using this
theorem FillC.more {w : World} {g N j : Nat} {C D : List Value} (h : FillC w g N C j) (hD : ∀ i, i < j → D[i]? = C[i]?) : FillC w g N D j :=
  ⟨h.1, fun i hi => by
    obtain ⟨⟨x, hx, hm⟩, hf⟩ := h.2 i hi
    exact ⟨⟨x, hx, fun hlt => by rw [hD i hlt]; exact hm hlt⟩, hf⟩⟩
theorem FillC.all {w : World} {g : Nat} {C : List Value} (h : FillC w g C.length C C.length) : RowF w g C :=
  ⟨h.1, fun i hi => by
    obtain ⟨⟨x, hx, hm⟩, hf⟩ := h.2 i hi
    have := hm hi
    rw [List.getElem?_eq_getElem hi] at this
    injection this with this
    rw [this]
    exact ⟨hx, hf⟩⟩
theorem fillC_new (w : World) (z : Array Value) (N : Nat) (C : List Value) (t : TypeId) : FillC (w.alloc (.cells (madeCells z N) t)) w.heap.size N C 0 := by
  refine ⟨by simp, fun i hi => ⟨?_, ?_⟩⟩
  · have hs : i < (madeCells z N).size := by rw [size_madeCells]; exact hi
    refine ⟨(madeCells z N)[i], ?_, fun h => absurd h (Nat.not_lt_zero _)⟩
    rw [cell_new]
    exact Array.getElem?_eq_getElem hs
  · simp [go_sem]
/-- Elements behind one another, each of so many cells. -/
theorem flat_at {α : Type} (f : α → List Value) (sz : Nat) (hf : ∀ x, (f x).length = sz) : ∀ (X : List α) (k j : Nat) (hk : k < X.length), j < sz → (X.flatMap f)[k * sz + j]? = (f X[k])[j]?
  | [], k, _, hk, _ => absurd hk (Nat.not_lt_zero _)
  | x :: X, 0, j, _, hj => by
    rw [List.flatMap_cons, Nat.zero_mul, Nat.zero_add, List.getElem?_append_left (by rw [hf]; exact hj)]
    rfl
  | x :: X, k + 1, j, hk, hj => by
    have ih := flat_at f sz hf X k j (by simpa using hk) hj
    rw [List.flatMap_cons, List.getElem?_append_right (by rw [hf, Nat.succ_mul]; omega), hf, show (k + 1) * sz + j - sz = k * sz + j by rw [Nat.succ_mul]; omega, ih]
    rfl
theorem flat_size {α : Type} (f : α → List Value) (sz : Nat) (hf : ∀ x, (f x).length = sz) : ∀ (X : List α), (X.flatMap f).length = X.length * sz
  | [] => by simp
  | x :: X => by rw [List.flatMap_cons, List.length_append, hf, flat_size f sz hf X, List.length_cons, Nat.succ_mul, Nat.add_comm]
/-- A Value, a Slot, a Row, cell by cell. -/
def vC (x : Vl) : List Value := [.int .i64 x.k, .int .i64 x.n, .string x.s]
def sC (x : Sl) : List Value := [.int .i64 x.key.k, .int .i64 x.key.n, .string x.key.s, .int .i64 x.val.k, .int .i64 x.val.n, .string x.val.s]
def rC (x : Rw) : List Value := [.int .i64 x.t, .int .i64 x.val.k, .int .i64 x.val.n, .string x.val.s]
theorem row_at {α : Type} {f : α → List Value} {sz : Nat} (hf : ∀ x, (f x).length = sz) {w : World} {g : Nat} {X : List α} (h : RowF w g (X.flatMap f)) {k j : Nat} (hk : k < X.length) (hj : j < sz) {u : Value} (hu : (f X[k])[j]? = some u) : w.cell? ⟨g, 0 + k * sz + j, none⟩ = some u := by
  have e := flat_at f sz hf X k j hk hj
  rw [hu] at e
  obtain ⟨hl, he⟩ := List.getElem?_eq_some_iff.1 e
  have hc := (h.2 (k * sz + j) hl).1
  rw [Nat.zero_add, hc, he]
theorem rowV {w : World} {g : Nat} {X : List Vl} (h : RowF w g (X.flatMap vC)) : RowA VlAt 3 w (some ⟨g, 0, none⟩) X := fun i hi =>
  ⟨g, 0, rfl, h.1, row_at (f := vC) (fun _ => rfl) h hi (j := 0) (by decide) rfl, row_at (f := vC) (fun _ => rfl) h hi (j := 1) (by decide) rfl, row_at (f := vC) (fun _ => rfl) h hi (j := 2) (by decide) rfl⟩
theorem rowS {w : World} {g : Nat} {X : List Sl} (h : RowF w g (X.flatMap sC)) : RowA SlAt 6 w (some ⟨g, 0, none⟩) X := fun i hi =>
  ⟨g, 0, rfl, h.1, ⟨row_at (f := sC) (fun _ => rfl) h hi (j := 0) (by decide) rfl, row_at (f := sC) (fun _ => rfl) h hi (j := 1) (by decide) rfl, row_at (f := sC) (fun _ => rfl) h hi (j := 2) (by decide) rfl⟩, row_at (f := sC) (fun _ => rfl) h hi (j := 3) (by decide) rfl, row_at (f := sC) (fun _ => rfl) h hi (j := 4) (by decide) rfl, row_at (f := sC) (fun _ => rfl) h hi (j := 5) (by decide) rfl⟩
theorem rowR {w : World} {g : Nat} {X : List Rw} (h : RowF w g (X.flatMap rC)) : RowA RwAt 4 w (some ⟨g, 0, none⟩) X := fun i hi =>
  ⟨g, 0, rfl, h.1, row_at (f := rC) (fun _ => rfl) h hi (j := 0) (by decide) rfl, row_at (f := rC) (fun _ => rfl) h hi (j := 1) (by decide) rfl, row_at (f := rC) (fun _ => rfl) h hi (j := 2) (by decide) rfl, row_at (f := rC) (fun _ => rfl) h hi (j := 3) (by decide) rfl⟩

end Go.Proofs.Ytknepeleepbefaa
