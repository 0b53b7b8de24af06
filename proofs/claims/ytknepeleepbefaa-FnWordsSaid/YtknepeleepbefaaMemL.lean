/-
  Chapter 8 in plain words: values, slots, rows, and how they lie in memory.
-/
import Derived.Test.YtknepeleepbefaaBase
namespace Go.Proofs.Ytknepeleepbefaa
open Go.RowKit

/-- A Value, a Slot, a Row. -/
structure Vl where
  k : Int
  n : Int
  s : ByteArray
structure Sl where
  key : Vl
  val : Vl
structure Rw where
  t : Int
  val : Vl
/-- A Mem. -/
structure Mm where
  cells : List Vl
  things : List (List Sl)
  tables : List (List Rw)
/-- .. as values of the model. -/
def vA (x : Vl) : Value := .agg #[.int .i64 x.k, .int .i64 x.n, .string x.s]
/-- What a Go value of these types may be. -/
def okVl (x : Vl) : Prop := I64 x.k ∧ I64 x.n ∧ x.s.size ≤ maxLen
def okSl (x : Sl) : Prop := okVl x.key ∧ okVl x.val
def okRw (x : Rw) : Prop := I64 x.t ∧ okVl x.val

theorem cell_new (w : World) (C : Array Value) (t : TypeId) (j : Nat) : (w.alloc (.cells C t)).cell? ⟨w.heap.size, j, none⟩ = C[j]? := by
  have hh := heap_alloc_new w (.cells C t)
  simp only [World.cell?, hh]
  rfl

/-- It lies there. -/
def VlAt (w : World) (sb o : Nat) (x : Vl) : Prop := w.cell? ⟨sb, o, none⟩ = some (.int .i64 x.k) ∧ w.cell? ⟨sb, o + 1, none⟩ = some (.int .i64 x.n) ∧ w.cell? ⟨sb, o + 2, none⟩ = some (.string x.s)
def SlAt (w : World) (sb o : Nat) (x : Sl) : Prop := (w.cell? ⟨sb, o, none⟩ = some (.int .i64 x.key.k) ∧ w.cell? ⟨sb, o + 1, none⟩ = some (.int .i64 x.key.n) ∧ w.cell? ⟨sb, o + 2, none⟩ = some (.string x.key.s)) ∧ w.cell? ⟨sb, o + 3, none⟩ = some (.int .i64 x.val.k) ∧ w.cell? ⟨sb, o + 4, none⟩ = some (.int .i64 x.val.n) ∧ w.cell? ⟨sb, o + 5, none⟩ = some (.string x.val.s)
def RwAt (w : World) (sb o : Nat) (x : Rw) : Prop := w.cell? ⟨sb, o, none⟩ = some (.int .i64 x.t) ∧ w.cell? ⟨sb, o + 1, none⟩ = some (.int .i64 x.val.k) ∧ w.cell? ⟨sb, o + 2, none⟩ = some (.int .i64 x.val.n) ∧ w.cell? ⟨sb, o + 3, none⟩ = some (.string x.val.s)
/-- A row of them, each of so many cells. -/
def RowA {α : Type} (At : World → Nat → Nat → α → Prop) (sz : Nat) (w : World) (a : Option Addr) (X : List α) : Prop := ∀ i (h : i < X.length), ∃ sb off, a = some ⟨sb, off, none⟩ ∧ sb < w.heap.size ∧ At w sb (off + i * sz) X[i]
/-- A slice of them in a cell. -/
def InAt {α : Type} (At : World → Nat → Nat → α → Prop) (sz : Nat) (w : World) (sb o : Nat) (X : List α) : Prop := ∃ a cap, w.cell? ⟨sb, o, none⟩ = some (.slice a X.length cap) ∧ X.length ≤ cap ∧ cap ≤ maxLen ∧ RowA At sz w a X
/-- What holds of a block stays where the block does. -/
def Stays {α : Type} (At : World → Nat → Nat → α → Prop) : Prop := ∀ (w w' : World) (sb o : Nat) (x : α), Below w.heap.size w w' → sb < w.heap.size → At w sb o x → At w' sb o x
theorem vl_stays : Stays VlAt := fun w w' sb o x hb hs h => by
  have key : ∀ j, w'.cell? ⟨sb, j, none⟩ = w.cell? ⟨sb, j, none⟩ := fun j => hb.cell (p := ⟨sb, j, none⟩) hs
  exact ⟨(key _).trans h.1, (key _).trans h.2.1, (key _).trans h.2.2⟩
theorem sl_stays : Stays SlAt := fun w w' sb o x hb hs h => by
  have key : ∀ j, w'.cell? ⟨sb, j, none⟩ = w.cell? ⟨sb, j, none⟩ := fun j => hb.cell (p := ⟨sb, j, none⟩) hs
  exact ⟨⟨(key _).trans h.1.1, (key _).trans h.1.2.1, (key _).trans h.1.2.2⟩, (key _).trans h.2.1, (key _).trans h.2.2.1, (key _).trans h.2.2.2⟩
theorem rw_stays : Stays RwAt := fun w w' sb o x hb hs h => by
  have key : ∀ j, w'.cell? ⟨sb, j, none⟩ = w.cell? ⟨sb, j, none⟩ := fun j => hb.cell (p := ⟨sb, j, none⟩) hs
  exact ⟨(key _).trans h.1, (key _).trans h.2.1, (key _).trans h.2.2.1, (key _).trans h.2.2.2⟩
theorem RowA.call {α : Type} {At : World → Nat → Nat → α → Prop} {sz : Nat} (hs : Stays At) {w w' : World} {a : Option Addr} {X : List α} (h : RowA At sz w a X) (hb : Below w.heap.size w w') : RowA At sz w' a X := fun i hi => by
  obtain ⟨sb, off, ha, h1, h2⟩ := h i hi
  exact ⟨sb, off, ha, Nat.lt_of_lt_of_le h1 hb.size, hs w w' sb _ _ hb h1 h2⟩
theorem in_stays {α : Type} {At : World → Nat → Nat → α → Prop} {sz : Nat} (hs : Stays At) : Stays (InAt At sz) := fun _ _ sb o _ hb h1 ⟨a, cap, h2, h3, h4, h5⟩ =>
  ⟨a, cap, (hb.cell (p := ⟨sb, o, none⟩) h1).trans h2, h3, h4, h5.call hs hb⟩
/-- A Mem that came in. -/
structure ArgM (w : World) (va vb vc : Value) (m : Mm) : Prop where
  cells : ∃ a cap, va = .slice a m.cells.length cap ∧ m.cells.length ≤ cap ∧ cap ≤ maxLen ∧ RowA VlAt 3 w a m.cells
  things : ∃ a cap, vb = .slice a m.things.length cap ∧ m.things.length ≤ cap ∧ cap ≤ maxLen ∧ RowA (InAt SlAt 6) 1 w a m.things
  tables : ∃ a cap, vc = .slice a m.tables.length cap ∧ m.tables.length ≤ cap ∧ cap ≤ maxLen ∧ RowA (InAt RwAt 4) 1 w a m.tables
def okMm (m : Mm) : Prop := (∀ x ∈ m.cells, okVl x) ∧ (∀ t ∈ m.things, ∀ x ∈ t, okSl x) ∧ (∀ t ∈ m.tables, ∀ x ∈ t, okRw x)
/-- None too long. -/
def shortMm (m : Mm) : Prop := m.cells.length ≤ 1048576 ∧ (m.things.length ≤ 1048576 ∧ ∀ t ∈ m.things, t.length ≤ 1048576) ∧ m.tables.length ≤ 1048576 ∧ ∀ t ∈ m.tables, t.length ≤ 1048576
theorem ArgM.call {w w' : World} {va vb vc : Value} {m : Mm} (h : ArgM w va vb vc m) (hb : Below w.heap.size w w') : ArgM w' va vb vc m := by
  obtain ⟨⟨a, c, h1, h2, h3, h4⟩, ⟨a', c', h1', h2', h3', h4'⟩, ⟨a'', c'', h1'', h2'', h3'', h4''⟩⟩ := h
  exact ⟨⟨a, c, h1, h2, h3, h4.call vl_stays hb⟩, ⟨a', c', h1', h2', h3', h4'.call (in_stays sl_stays) hb⟩, ⟨a'', c'', h1'', h2'', h3'', h4''.call (in_stays rw_stays) hb⟩⟩

end Go.Proofs.Ytknepeleepbefaa
