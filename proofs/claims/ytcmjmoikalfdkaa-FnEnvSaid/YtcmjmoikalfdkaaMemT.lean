/-
  Chapter 8, the laws: a copy of a Mem in memory of the call's own.
-/
import Derived.Test.YtcmjmoikalfdkaaMemL
import Derived.Deep.OwnRows
import Derived.Laws.MakeOwn
namespace Go.Proofs.Ytcmjmoikalfdkaa
open Go.RowKit

section
variable {P : Program}
/-- make([]T, n), whatever an element has of cells. -/
theorem run_make_any (t e : TypeId) (z : Value) (size bytes : Nat) (ht : P.underlying t = some (.slice e)) (hinfo : (P.info? e).map (fun i => (i.zero, i.size, i.bytes)) = some (some z, size, bytes))
    (kl kc : IntKind) (n : Nat) (hbytes : bytes * n ≤ 281474976710656) (h63 : n ≤ 9223372036854775807) (w : World) :
    (Instr.makeSlice t (.int kl (n : Int)) (.int kc (n : Int))).run P w = .ok (.slice (some ⟨w.heap.size, 0, none⟩) n n) (w.alloc (.cells (madeCells z.cells (n * size)) e)) := by
  obtain ⟨i, hi, hzz⟩ := Option.map_eq_some_iff.1 hinfo
  simp only [Prod.mk.injEq] at hzz
  obtain ⟨hz, hs, hb⟩ := hzz
  have hb' : (i.bytes : Int) * (n : Int) ≤ 281474976710656 := by
    have h : ((i.bytes * n : Nat) : Int) ≤ 281474976710656 := by rw [hb]; omega
    rwa [Int.natCast_mul] at h
  have hr := run_make (P := P) w t e i z ht hi hz kl kc n n (by omega) (Int.le_refl _) hb' (by omega)
  simp only [Int.toNat_natCast, hs] at hr
  exact hr
end
/-- Values lie in block g, one a cell, and may be written. -/
def RowF (w : World) (g : Nat) (C : List Value) : Prop := g < w.heap.size ∧ ∀ i (h : i < C.length), w.cell? ⟨g, i, none⟩ = some C[i] ∧ w.frozen? ⟨g, i, none⟩ = false
theorem RowF.call {w w' : World} {g : Nat} {C : List Value} (h : RowF w g C) (hb : Below w.heap.size w w') : RowF w' g C :=
  ⟨Nat.lt_of_lt_of_le h.1 hb.size, fun i hi => ⟨(hb.cell (p := ⟨g, i, none⟩) h.1).trans (h.2 i hi).1, (hb.frozen (p := ⟨g, i, none⟩) h.1).trans (h.2 i hi).2⟩⟩
theorem RowF.other {w : World} {g b o : Nat} {C : List Value} {u : Value} (h : RowF w g C) (hne : g ≠ b) : RowF (w.setCell ⟨b, o, none⟩ u) g C := by
  have hh : (w.setCell ⟨b, o, none⟩ u).heap[g]? = w.heap[g]? := Below.heap_setCell w ⟨b, o, none⟩ u g hne
  refine ⟨by simpa [World.setCell] using h.1, fun i hi => ⟨?_, ?_⟩⟩
  · exact (World.cell?_of_block (w := w) (a := ⟨g, i, none⟩) hh).trans (h.2 i hi).1
  · exact (World.frozen?_of_block (w := w) (a := ⟨g, i, none⟩) hh).trans (h.2 i hi).2
theorem RowF.put {w : World} {b j : Nat} {C : List Value} {u : Value} (h : RowF w b C) : RowF (w.setCell ⟨b, j, none⟩ u) b (C.set j u) := by
  refine ⟨by simpa [World.setCell] using h.1, fun i hi => ?_⟩
  have hi' : i < C.length := by simpa using hi
  obtain ⟨h1, h2⟩ := h.2 i hi'
  refine ⟨?_, by simpa [go_sem] using h2⟩
  by_cases e : i = j
  · subst e
    rw [List.getElem_set_self]
    exact World.cell?_setCell_same w _ _ h1
  · rw [List.getElem_set_ne (fun hh => e hh.symm)]
    exact (World.cell?_setCell_other w ⟨b, j, none⟩ ⟨b, i, none⟩ _ (fun hh => e (by injection hh with _ h2 _; exact h2.symm))).trans h1
theorem rowF_new (w : World) (C : List Value) (t : TypeId) : RowF (w.alloc (.cells C.toArray t)) w.heap.size C := by
  refine ⟨by simp, fun i hi => ⟨?_, by simp [go_sem]⟩⟩
  rw [cell_new]
  simp [hi]
theorem rowF_alloc {w : World} {g : Nat} {C : List Value} (h : RowF w g C) (o : Obj) : RowF (w.alloc o) g C := h.call (balloc (Below.refl _ _) o)
/-- Of so many cells the first j are as they shall be. -/
def FillC (w : World) (g N : Nat) (C : List Value) (j : Nat) : Prop := g < w.heap.size ∧ ∀ i, i < N → (∃ x, w.cell? ⟨g, i, none⟩ = some x ∧ (i < j → C[i]? = some x)) ∧ w.frozen? ⟨g, i, none⟩ = false
theorem FillC.call {w w' : World} {g N j : Nat} {C : List Value} (h : FillC w g N C j) (hb : Below w.heap.size w w') : FillC w' g N C j :=
  ⟨Nat.lt_of_lt_of_le h.1 hb.size, fun i hi => by
    obtain ⟨⟨x, hx, hm⟩, hf⟩ := h.2 i hi
    exact ⟨⟨x, (hb.cell (p := ⟨g, i, none⟩) h.1).trans hx, hm⟩, (hb.frozen (p := ⟨g, i, none⟩) h.1).trans hf⟩⟩
theorem FillC.set {w : World} {g N j : Nat} {C : List Value} {u : Value} (h : FillC w g N C j) (hj : j < N) (hu : C[j]? = some u) : FillC (w.setCell ⟨g, j, none⟩ u) g N C (j + 1) := by
  refine ⟨by simpa [World.setCell] using h.1, fun i hi => ⟨?_, ?_⟩⟩
  · obtain ⟨⟨x, hx, hm⟩, _⟩ := h.2 i hi
    by_cases e : i = j
    · subst e
      exact ⟨_, World.cell?_setCell_same w _ _ hx, fun _ => hu⟩
    · refine ⟨x, (World.cell?_setCell_other w ⟨g, j, none⟩ ⟨g, i, none⟩ _ (fun hh => e (by injection hh with _ h2 _; exact h2.symm))).trans hx, fun hlt => hm (by omega)⟩
  · have := (h.2 i hi).2
    simpa [go_sem] using this
theorem FillC.more {w : World} {g N j : Nat} {C D : List Value} (h : FillC w g N C j) (hD : ∀ i, i < j → D[i]? = C[i]?) : FillC w g N D j :=
  ⟨h.1, fun i hi => by
    obtain ⟨⟨x, hx, hm⟩, hf⟩ := h.2 i hi
    exact ⟨⟨x, hx, fun hlt => by rw [hD i hlt]; exact hm hlt⟩, hf⟩⟩
theorem FillC.all {w : World} {g : Nat} {C : List Value} (h : FillC w g C.length C C.length) : RowF w g C :=
  ⟨h.1, fun i hi => by
    obtain ⟨⟨x, hx, hm⟩, hf⟩ := h.2 i hi
    have := hm hi
    rw [List.getElem?_eq_getElem hi] at this
    injection this with this
    rw [this]
    exact ⟨hx, hf⟩⟩
theorem fillC_new (w : World) (z : Array Value) (N : Nat) (C : List Value) (t : TypeId) : FillC (w.alloc (.cells (madeCells z N) t)) w.heap.size N C 0 := by
  refine ⟨by simp, fun i hi => ⟨?_, ?_⟩⟩
  · have hs : i < (madeCells z N).size := by rw [size_madeCells]; exact hi
    refine ⟨(madeCells z N)[i], ?_, fun h => absurd h (Nat.not_lt_zero _)⟩
    rw [cell_new]
    exact Array.getElem?_eq_getElem hs
  · simp [go_sem]
/-- Elements behind one another, each of so many cells. -/
theorem flat_at {α : Type} (f : α → List Value) (sz : Nat) (hf : ∀ x, (f x).length = sz) : ∀ (X : List α) (k j : Nat) (hk : k < X.length), j < sz → (X.flatMap f)[k * sz + j]? = (f X[k])[j]?
  | [], k, _, hk, _ => absurd hk (Nat.not_lt_zero _)
  | x :: X, 0, j, _, hj => by
    rw [List.flatMap_cons, Nat.zero_mul, Nat.zero_add, List.getElem?_append_left (by rw [hf]; exact hj)]
    rfl
  | x :: X, k + 1, j, hk, hj => by
    have ih := flat_at f sz hf X k j (by simpa using hk) hj
    rw [List.flatMap_cons, List.getElem?_append_right (by rw [hf, Nat.succ_mul]; omega), hf, show (k + 1) * sz + j - sz = k * sz + j by rw [Nat.succ_mul]; omega, ih]
    rfl
theorem flat_size {α : Type} (f : α → List Value) (sz : Nat) (hf : ∀ x, (f x).length = sz) : ∀ (X : List α), (X.flatMap f).length = X.length * sz
  | [] => by simp
  | x :: X => by rw [List.flatMap_cons, List.length_append, hf, flat_size f sz hf X, List.length_cons, Nat.succ_mul, Nat.add_comm]
/-- A Value, a Slot, a Row, cell by cell. -/
def vC (x : Vl) : List Value := [.int .i64 x.k, .int .i64 x.n, .string x.s]
def sC (x : Sl) : List Value := [.int .i64 x.key.k, .int .i64 x.key.n, .string x.key.s, .int .i64 x.val.k, .int .i64 x.val.n, .string x.val.s]
def rC (x : Rw) : List Value := [.int .i64 x.t, .int .i64 x.val.k, .int .i64 x.val.n, .string x.val.s]
theorem row_at {α : Type} {f : α → List Value} {sz : Nat} (hf : ∀ x, (f x).length = sz) {w : World} {g : Nat} {X : List α} (h : RowF w g (X.flatMap f)) {k j : Nat} (hk : k < X.length) (hj : j < sz) {u : Value} (hu : (f X[k])[j]? = some u) : w.cell? ⟨g, 0 + k * sz + j, none⟩ = some u := by
  have e := flat_at f sz hf X k j hk hj
  rw [hu] at e
  obtain ⟨hl, he⟩ := List.getElem?_eq_some_iff.1 e
  have hc := (h.2 (k * sz + j) hl).1
  rw [Nat.zero_add, hc, he]
theorem rowV {w : World} {g : Nat} {X : List Vl} (h : RowF w g (X.flatMap vC)) : RowA VlAt 3 w (some ⟨g, 0, none⟩) X := fun i hi =>
  ⟨g, 0, rfl, h.1, row_at (f := vC) (fun _ => rfl) h hi (j := 0) (by decide) rfl, row_at (f := vC) (fun _ => rfl) h hi (j := 1) (by decide) rfl, row_at (f := vC) (fun _ => rfl) h hi (j := 2) (by decide) rfl⟩
theorem rowS {w : World} {g : Nat} {X : List Sl} (h : RowF w g (X.flatMap sC)) : RowA SlAt 6 w (some ⟨g, 0, none⟩) X := fun i hi =>
  ⟨g, 0, rfl, h.1, ⟨row_at (f := sC) (fun _ => rfl) h hi (j := 0) (by decide) rfl, row_at (f := sC) (fun _ => rfl) h hi (j := 1) (by decide) rfl, row_at (f := sC) (fun _ => rfl) h hi (j := 2) (by decide) rfl⟩, row_at (f := sC) (fun _ => rfl) h hi (j := 3) (by decide) rfl, row_at (f := sC) (fun _ => rfl) h hi (j := 4) (by decide) rfl, row_at (f := sC) (fun _ => rfl) h hi (j := 5) (by decide) rfl⟩
theorem rowR {w : World} {g : Nat} {X : List Rw} (h : RowF w g (X.flatMap rC)) : RowA RwAt 4 w (some ⟨g, 0, none⟩) X := fun i hi =>
  ⟨g, 0, rfl, h.1, row_at (f := rC) (fun _ => rfl) h hi (j := 0) (by decide) rfl, row_at (f := rC) (fun _ => rfl) h hi (j := 1) (by decide) rfl, row_at (f := rC) (fun _ => rfl) h hi (j := 2) (by decide) rfl, row_at (f := rC) (fun _ => rfl) h hi (j := 3) (by decide) rfl⟩

theorem infoMV : (Try.prog.info? 25).map (fun i => (i.zero, i.size, i.bytes)) = some (some (.agg #[.int .i64 0, .int .i64 0, .string ⟨#[]⟩]), 3, 32) := by kernel_rfl

theorem infoMS : (Try.prog.info? 215).map (fun i => (i.zero, i.size, i.bytes)) = some (some (.agg #[.int .i64 0, .int .i64 0, .string ⟨#[]⟩, .int .i64 0, .int .i64 0, .string ⟨#[]⟩]), 6, 64) := by kernel_rfl

theorem infoMR : (Try.prog.info? 218).map (fun i => (i.zero, i.size, i.bytes)) = some (some (.agg #[.int .i64 0, .int .i64 0, .int .i64 0, .string ⟨#[]⟩]), 4, 40) := by kernel_rfl

theorem infoMT : (Try.prog.info? 152).map (fun i => (i.zero, i.size, i.bytes)) = some (some (.agg #[.slice none 0 0]), 1, 24) := by kernel_rfl

theorem infoMB : (Try.prog.info? 156).map (fun i => (i.zero, i.size, i.bytes)) = some (some (.agg #[.slice none 0 0]), 1, 24) := by kernel_rfl

set_option maxHeartbeats 1000000 in
theorem toVl_any (x : Vl) (w : World) :
    Calls Try.prog 49 #[.agg #[.int .i64 x.k, .int .i64 x.n, .string x.s]] w fun e w' => e = .returned (.agg #[.int .i64 x.k, .int .i64 x.n, .string x.s]) ∧ Below w.heap.size w w' := by
  obtain ⟨k, n, s⟩ := x
  simp only
  go_enter Try.func49, Try.ntmps49
  go_wp2
  refine bodyPost_ret (v := .agg #[.int .i64 k, .int .i64 n, .string s]) (by simp [results, Try.results49, go_sem]) rfl ?_
  exact ⟨rfl, balloc (balloc (balloc (Below.refl _ _) _) _) _⟩

set_option maxHeartbeats 1000000 in
theorem toSlot_any (x : Sl) (w : World) :
    Calls Try.prog 215 #[.agg #[.int .i64 x.key.k, .int .i64 x.key.n, .string x.key.s, .int .i64 x.val.k, .int .i64 x.val.n, .string x.val.s]] w fun e w' => e = .returned (.agg #[.int .i64 x.key.k, .int .i64 x.key.n, .string x.key.s, .int .i64 x.val.k, .int .i64 x.val.n, .string x.val.s]) ∧ Below w.heap.size w w' := by
  obtain ⟨⟨k, n, s⟩, ⟨k', n', s'⟩⟩ := x
  simp only
  obtain ⟨W, hW⟩ : ∃ W, W = ((w.alloc (.cells #[.int .i64 k, .int .i64 n, .string s, .int .i64 k', .int .i64 n', .string s'] 290)).alloc (.cells #[.int .i64 0, .int .i64 0, .string ⟨#[]⟩, .int .i64 0, .int .i64 0, .string ⟨#[]⟩] 215)).alloc (.cells #[.int .i64 0, .int .i64 0, .string ⟨#[]⟩, .int .i64 0, .int .i64 0, .string ⟨#[]⟩] 215) := ⟨_, rfl⟩
  have hP : RowF W w.heap.size [.int .i64 k, .int .i64 n, .string s, .int .i64 k', .int .i64 n', .string s'] := by rw [hW]; exact rowF_alloc (rowF_alloc (rowF_new w _ _) _) _
  have hR : RowF W (w.heap.size + 1) [.int .i64 0, .int .i64 0, .string ⟨#[]⟩, .int .i64 0, .int .i64 0, .string ⟨#[]⟩] := by
    rw [hW]
    have := rowF_alloc (rowF_new (w.alloc (.cells #[.int .i64 k, .int .i64 n, .string s, .int .i64 k', .int .i64 n', .string s'] 290)) [.int .i64 0, .int .i64 0, .string ⟨#[]⟩, .int .i64 0, .int .i64 0, .string ⟨#[]⟩] 215) (.cells #[.int .i64 0, .int .i64 0, .string ⟨#[]⟩, .int .i64 0, .int .i64 0, .string ⟨#[]⟩] 215)
    simpa using this
  have hO : RowF W (w.heap.size + 1 + 1) [.int .i64 0, .int .i64 0, .string ⟨#[]⟩, .int .i64 0, .int .i64 0, .string ⟨#[]⟩] := by
    rw [hW]
    have := rowF_new ((w.alloc (.cells #[.int .i64 k, .int .i64 n, .string s, .int .i64 k', .int .i64 n', .string s'] 290)).alloc (.cells #[.int .i64 0, .int .i64 0, .string ⟨#[]⟩, .int .i64 0, .int .i64 0, .string ⟨#[]⟩] 215)) [.int .i64 0, .int .i64 0, .string ⟨#[]⟩, .int .i64 0, .int .i64 0, .string ⟨#[]⟩] 215
    simpa using this
  have hBW : Below w.heap.size w W := by rw [hW]; exact balloc (balloc (balloc (Below.refl _ _) _) _) _
  go_enter Try.func215, Try.ntmps215
  go_wp2_with fail
  rw [← hW]
  clear hW
  refine (toVl_any ⟨k, n, s⟩ _).mono ?_
  rintro e w1 ⟨rfl, hb1⟩
  replace hP := hP.call hb1
  replace hR := hR.call hb1
  replace hO := hO.call hb1
  have hB1 := bstep hBW hb1
  clear hb1 hBW
  have p3 := (hP.2 3 (by simp)).1
  have p4 := (hP.2 4 (by simp)).1
  have p5 := (hP.2 5 (by simp)).1
  simp only [List.getElem_cons_zero, List.getElem_cons_succ] at p3 p4 p5
  have o0 := (hO.2 0 (by simp)).1
  have f0 := (hO.2 0 (by simp)).2
  have o1 := (hO.2 1 (by simp)).1
  have f1 := (hO.2 1 (by simp)).2
  have o2 := (hO.2 2 (by simp)).1
  have f2 := (hO.2 2 (by simp)).2
  simp only [List.getElem_cons_zero, List.getElem_cons_succ] at o0 o1 o2
  go_wp2_with fail
  have hP2 := ((hP.other (b := w.heap.size + 1 + 1) (o := 0) (u := .int .i64 k) (by omega)).other (b := w.heap.size + 1 + 1) (o := 1) (u := .int .i64 n) (by omega)).other (b := w.heap.size + 1 + 1) (o := 2) (u := .string s) (by omega)
  have hR2 := ((hR.other (b := w.heap.size + 1 + 1) (o := 0) (u := .int .i64 k) (by omega)).other (b := w.heap.size + 1 + 1) (o := 1) (u := .int .i64 n) (by omega)).other (b := w.heap.size + 1 + 1) (o := 2) (u := .string s) (by omega)
  have hO2 : RowF (((w1.setCell ⟨w.heap.size + 1 + 1, 0, none⟩ (.int .i64 k)).setCell ⟨w.heap.size + 1 + 1, 1, none⟩ (.int .i64 n)).setCell ⟨w.heap.size + 1 + 1, 2, none⟩ (.string s)) (w.heap.size + 1 + 1) [.int .i64 k, .int .i64 n, .string s, .int .i64 0, .int .i64 0, .string ⟨#[]⟩] := ((hO.put (j := 0) (u := .int .i64 k)).put (j := 1) (u := .int .i64 n)).put (j := 2) (u := .string s)
  have hB2 : Below w.heap.size w (((w1.setCell ⟨w.heap.size + 1 + 1, 0, none⟩ (.int .i64 k)).setCell ⟨w.heap.size + 1 + 1, 1, none⟩ (.int .i64 n)).setCell ⟨w.heap.size + 1 + 1, 2, none⟩ (.string s)) := ((hB1.setCell (p := ⟨w.heap.size + 1 + 1, 0, none⟩) (show w.heap.size ≤ w.heap.size + 1 + 1 by omega) _).setCell (p := ⟨w.heap.size + 1 + 1, 1, none⟩) (show w.heap.size ≤ w.heap.size + 1 + 1 by omega) _).setCell (p := ⟨w.heap.size + 1 + 1, 2, none⟩) (show w.heap.size ≤ w.heap.size + 1 + 1 by omega) _
  clear p3 p4 p5 o0 o1 o2 f0 f1 f2 hP hR hO hB1 hP2
  generalize ((w1.setCell ⟨w.heap.size + 1 + 1, 0, none⟩ (.int .i64 k)).setCell ⟨w.heap.size + 1 + 1, 1, none⟩ (.int .i64 n)).setCell ⟨w.heap.size + 1 + 1, 2, none⟩ (.string s) = W2 at hR2 hO2 hB2 ⊢
  refine (toVl_any ⟨k', n', s'⟩ _).mono ?_
  rintro e w3 ⟨rfl, hb3⟩
  have hR3 := hR2.call hb3
  have hO3 := hO2.call hb3
  have hB3 := bstep hB2 hb3
  clear hb3 hR2 hO2 hB2
  have o0 := (hO3.2 0 (by simp)).1
  have f0 := (hO3.2 0 (by simp)).2
  have o1 := (hO3.2 1 (by simp)).1
  have f1 := (hO3.2 1 (by simp)).2
  have o2 := (hO3.2 2 (by simp)).1
  have f2 := (hO3.2 2 (by simp)).2
  have o3 := (hO3.2 3 (by simp)).1
  have f3 := (hO3.2 3 (by simp)).2
  have o4 := (hO3.2 4 (by simp)).1
  have f4 := (hO3.2 4 (by simp)).2
  have o5 := (hO3.2 5 (by simp)).1
  have f5 := (hO3.2 5 (by simp)).2
  simp only [List.getElem_cons_zero, List.getElem_cons_succ] at o0 o1 o2 o3 o4 o5
  have r0 := (hR3.2 0 (by simp)).1
  have g0 := (hR3.2 0 (by simp)).2
  have r1 := (hR3.2 1 (by simp)).1
  have g1 := (hR3.2 1 (by simp)).2
  have r2 := (hR3.2 2 (by simp)).1
  have g2 := (hR3.2 2 (by simp)).2
  have r3 := (hR3.2 3 (by simp)).1
  have g3 := (hR3.2 3 (by simp)).2
  have r4 := (hR3.2 4 (by simp)).1
  have g4 := (hR3.2 4 (by simp)).2
  have r5 := (hR3.2 5 (by simp)).1
  have g5 := (hR3.2 5 (by simp)).2
  simp only [List.getElem_cons_zero, List.getElem_cons_succ] at r0 r1 r2 r3 r4 r5
  clear hR3 hO3
  go_wp2
  refine bodyPost_ret (v := .agg #[.int .i64 k, .int .i64 n, .string s, .int .i64 k', .int .i64 n', .string s']) (by simp [results, Try.results215, go_sem, r0, r1, r2, r3, r4, r5]) rfl ?_
  refine ⟨rfl, ?_⟩
  iterate 9 refine Below.setCell ?_ (by dsimp only; omega) _
  exact hB3

set_option maxHeartbeats 2000000 in
theorem toRow_any (x : Rw) (w : World) :
    Calls Try.prog 216 #[.agg #[.int .i64 x.t, .int .i64 x.val.k, .int .i64 x.val.n, .string x.val.s]] w fun e w' => e = .returned (.agg #[.int .i64 x.t, .int .i64 x.val.k, .int .i64 x.val.n, .string x.val.s]) ∧ Below w.heap.size w w' := by
  obtain ⟨t, ⟨k, n, s⟩⟩ := x
  simp only
  obtain ⟨W, hW⟩ : ∃ W, W = ((w.alloc (.cells #[.int .i64 t, .int .i64 k, .int .i64 n, .string s] 293)).alloc (.cells #[.int .i64 0, .int .i64 0, .int .i64 0, .string ⟨#[]⟩] 218)).alloc (.cells #[.int .i64 t, .int .i64 0, .int .i64 0, .string ⟨#[]⟩] 218) := ⟨_, rfl⟩
  have hR : RowF W (w.heap.size + 1) [.int .i64 0, .int .i64 0, .int .i64 0, .string ⟨#[]⟩] := by
    rw [hW]
    have := rowF_alloc (rowF_new (w.alloc (.cells #[.int .i64 t, .int .i64 k, .int .i64 n, .string s] 293)) [.int .i64 0, .int .i64 0, .int .i64 0, .string ⟨#[]⟩] 218) (.cells #[.int .i64 t, .int .i64 0, .int .i64 0, .string ⟨#[]⟩] 218)
    simpa using this
  have hO : RowF W (w.heap.size + 1 + 1) [.int .i64 t, .int .i64 0, .int .i64 0, .string ⟨#[]⟩] := by
    rw [hW]
    have := rowF_new ((w.alloc (.cells #[.int .i64 t, .int .i64 k, .int .i64 n, .string s] 293)).alloc (.cells #[.int .i64 0, .int .i64 0, .int .i64 0, .string ⟨#[]⟩] 218)) [.int .i64 t, .int .i64 0, .int .i64 0, .string ⟨#[]⟩] 218
    simpa using this
  have hBW : Below w.heap.size w W := by rw [hW]; exact balloc (balloc (balloc (Below.refl _ _) _) _) _
  go_enter Try.func216, Try.ntmps216
  go_wp2_with fail
  rw [← hW]
  clear hW
  refine (toVl_any ⟨k, n, s⟩ _).mono ?_
  rintro e w3 ⟨rfl, hb3⟩
  have hR3 := hR.call hb3
  have hO3 := hO.call hb3
  have hB3 := bstep hBW hb3
  clear hb3 hR hO hBW
  have o0 := (hO3.2 0 (by simp)).1
  have f0 := (hO3.2 0 (by simp)).2
  have o1 := (hO3.2 1 (by simp)).1
  have f1 := (hO3.2 1 (by simp)).2
  have o2 := (hO3.2 2 (by simp)).1
  have f2 := (hO3.2 2 (by simp)).2
  have o3 := (hO3.2 3 (by simp)).1
  have f3 := (hO3.2 3 (by simp)).2
  simp only [List.getElem_cons_zero, List.getElem_cons_succ] at o0 o1 o2 o3
  have r0 := (hR3.2 0 (by simp)).1
  have g0 := (hR3.2 0 (by simp)).2
  have r1 := (hR3.2 1 (by simp)).1
  have g1 := (hR3.2 1 (by simp)).2
  have r2 := (hR3.2 2 (by simp)).1
  have g2 := (hR3.2 2 (by simp)).2
  have r3 := (hR3.2 3 (by simp)).1
  have g3 := (hR3.2 3 (by simp)).2
  simp only [List.getElem_cons_zero, List.getElem_cons_succ] at r0 r1 r2 r3
  clear hR3 hO3
  go_wp2
  refine bodyPost_ret (v := .agg #[.int .i64 t, .int .i64 k, .int .i64 n, .string s]) (by simp [results, Try.results216, go_sem, r0, r1, r2, r3]) rfl ?_
  refine ⟨rfl, ?_⟩
  iterate 7 refine Below.setCell ?_ (by dsimp only; omega) _
  exact hB3

set_option maxHeartbeats 2000000 in
theorem toValueS_any (a : Option Addr) (cap : Nat) (X : List Vl) (w : World) (h : RowA VlAt 3 w a X) (hL : X.length ≤ 1048576) :
    Calls Try.prog 133 #[.slice a X.length cap] w fun e w' => e = .returned (.slice (some ⟨w.heap.size, 0, none⟩) X.length X.length) ∧ RowF w' w.heap.size (X.flatMap vC) ∧ Below w.heap.size w w' := by
  have hmk := run_make_any (P := Try.prog) 75 25 (.agg #[.int .i64 0, .int .i64 0, .string ⟨#[]⟩]) 3 32 Try.underlying75 infoMV .i64 .i64 X.length (by omega) (by omega)
  have hfl := flat_size vC 3 (fun _ => rfl) X
  have hnew := fillC_new w ((.agg #[.int .i64 0, .int .i64 0, .string ⟨#[]⟩]) : Value).cells (X.length * 3) (X.flatMap vC) 25
  have hB0 := balloc (Below.refl w.heap.size w) (.cells (madeCells ((.agg #[.int .i64 0, .int .i64 0, .string ⟨#[]⟩]) : Value).cells (X.length * 3)) 25)
  go_enter Try.func133, Try.ntmps133
  go_wp2
  go_loopw [4] (fun i wr => ∃ k : Nat, k ≤ X.length ∧ i = .int .i64 (k : Int) ∧ FillC wr w.heap.size (X.length * 3) (X.flatMap vC) (k * 3) ∧ Below w.heap.size w wr) (fun i _ => X.length - (intOf i).toNat)
  case atStart => exact ⟨0, Nat.zero_le _, rfl, by rw [Nat.zero_mul]; exact hnew, hB0⟩
  case round =>
    obtain ⟨k, hk, rfl, hF, hB⟩ := hrel
    clear hnew hB0
    by_cases hlt : k < X.length
    · obtain ⟨sb, off, rfl, hs, hat⟩ := h k hlt
      have hat' := vl_stays w wr sb _ _ hB hs hat
      have HU : ∀ j u, j < 3 → (vC X[k])[j]? = some u → (X.flatMap vC)[k * 3 + j]? = some u := fun j u hj hu => (flat_at vC 3 (fun _ => rfl) X k j hlt hj).trans hu
      have HU' : Hid (∀ j u, j < 3 → (vC X[k])[j]? = some u → (X.flatMap vC)[k * 3 + j]? = some u) := HU
      have hmul : (k + 1) * 3 ≤ X.length * 3 := Nat.mul_le_mul_right _ hlt
      rw [Nat.succ_mul] at hmul
      clear hat HU
      generalize X[k] = t at hat' HU'
      obtain ⟨c1, c2, c3⟩ := hat'
      go_wp2_with fail
      refine (toVl_any t _).mono ?_
      rintro e w2 ⟨rfl, hb2⟩
      have hF2 := hF.call hb2
      have hB2 := bstep hB hb2
      clear hF hB hb2
      obtain ⟨⟨q0, oc0, _⟩, of0⟩ := hF2.2 (k * 3) (by omega)
      obtain ⟨⟨q1, oc1, _⟩, of1⟩ := hF2.2 (k * 3 + 1) (by omega)
      obtain ⟨⟨q2, oc2, _⟩, of2⟩ := hF2.2 (k * 3 + 2) (by omega)
      have HF : Hid (FillC (((w2.setCell ⟨w.heap.size, k * 3, none⟩ (.int .i64 t.k)).setCell ⟨w.heap.size, k * 3 + 1, none⟩ (.int .i64 t.n)).setCell ⟨w.heap.size, k * 3 + 2, none⟩ (.string t.s)) w.heap.size (X.length * 3) (X.flatMap vC) (k * 3 + 3)) := (((hF2.set (j := k * 3) (u := .int .i64 t.k) (by omega) (HU'.out 0 _ (by decide) rfl)).set (j := k * 3 + 1) (u := .int .i64 t.n) (by omega) (HU'.out 1 _ (by decide) rfl)).set (j := k * 3 + 2) (u := .string t.s) (by omega) (HU'.out 2 _ (by decide) rfl))
      clear hF2 HU'
      go_wp2
      go_roundw
      case rel => exact ⟨k + 1, by omega, by go_num, by rw [Nat.succ_mul]; exact HF.out, by
        iterate 3 refine Below.setCell ?_ (by dsimp only; omega) _
        exact hB2⟩
      case measure => simp [intOf]; omega
    · have e : k = X.length := by omega
      subst e
      rw [← hfl] at hF
      go_wp2
      go_ret
      exact ⟨rfl, hF.all, hB⟩

set_option maxHeartbeats 2000000 in
theorem toSlotS_any (a : Option Addr) (cap : Nat) (X : List Sl) (w : World) (h : RowA SlAt 6 w a X) (hL : X.length ≤ 1048576) :
    Calls Try.prog 200 #[.slice a X.length cap] w fun e w' => e = .returned (.slice (some ⟨w.heap.size, 0, none⟩) X.length X.length) ∧ RowF w' w.heap.size (X.flatMap sC) ∧ Below w.heap.size w w' := by
  have hmk := run_make_any (P := Try.prog) 150 215 (.agg #[.int .i64 0, .int .i64 0, .string ⟨#[]⟩, .int .i64 0, .int .i64 0, .string ⟨#[]⟩]) 6 64 Try.underlying150 infoMS .i64 .i64 X.length (by omega) (by omega)
  have hfl := flat_size sC 6 (fun _ => rfl) X
  have hnew := fillC_new w ((.agg #[.int .i64 0, .int .i64 0, .string ⟨#[]⟩, .int .i64 0, .int .i64 0, .string ⟨#[]⟩]) : Value).cells (X.length * 6) (X.flatMap sC) 215
  have hB0 := balloc (Below.refl w.heap.size w) (.cells (madeCells ((.agg #[.int .i64 0, .int .i64 0, .string ⟨#[]⟩, .int .i64 0, .int .i64 0, .string ⟨#[]⟩]) : Value).cells (X.length * 6)) 215)
  go_enter Try.func200, Try.ntmps200
  go_wp2
  go_loopw [4] (fun i wr => ∃ k : Nat, k ≤ X.length ∧ i = .int .i64 (k : Int) ∧ FillC wr w.heap.size (X.length * 6) (X.flatMap sC) (k * 6) ∧ Below w.heap.size w wr) (fun i _ => X.length - (intOf i).toNat)
  case atStart => exact ⟨0, Nat.zero_le _, rfl, by rw [Nat.zero_mul]; exact hnew, hB0⟩
  case round =>
    obtain ⟨k, hk, rfl, hF, hB⟩ := hrel
    clear hnew hB0
    by_cases hlt : k < X.length
    · obtain ⟨sb, off, rfl, hs, hat⟩ := h k hlt
      have hat' := sl_stays w wr sb _ _ hB hs hat
      have HU : ∀ j u, j < 6 → (sC X[k])[j]? = some u → (X.flatMap sC)[k * 6 + j]? = some u := fun j u hj hu => (flat_at sC 6 (fun _ => rfl) X k j hlt hj).trans hu
      have HU' : Hid (∀ j u, j < 6 → (sC X[k])[j]? = some u → (X.flatMap sC)[k * 6 + j]? = some u) := HU
      have hmul : (k + 1) * 6 ≤ X.length * 6 := Nat.mul_le_mul_right _ hlt
      rw [Nat.succ_mul] at hmul
      clear hat HU
      generalize X[k] = t at hat' HU'
      obtain ⟨⟨c1, c2, c3⟩, c4, c5, c6⟩ := hat'
      go_wp2_with fail
      refine (toSlot_any t _).mono ?_
      rintro e w2 ⟨rfl, hb2⟩
      have hF2 := hF.call hb2
      have hB2 := bstep hB hb2
      clear hF hB hb2
      obtain ⟨⟨q0, oc0, _⟩, of0⟩ := hF2.2 (k * 6) (by omega)
      obtain ⟨⟨q1, oc1, _⟩, of1⟩ := hF2.2 (k * 6 + 1) (by omega)
      obtain ⟨⟨q2, oc2, _⟩, of2⟩ := hF2.2 (k * 6 + 2) (by omega)
      obtain ⟨⟨q3, oc3, _⟩, of3⟩ := hF2.2 (k * 6 + 3) (by omega)
      obtain ⟨⟨q4, oc4, _⟩, of4⟩ := hF2.2 (k * 6 + 4) (by omega)
      obtain ⟨⟨q5, oc5, _⟩, of5⟩ := hF2.2 (k * 6 + 5) (by omega)
      have HF : Hid (FillC ((((((w2.setCell ⟨w.heap.size, k * 6, none⟩ (.int .i64 t.key.k)).setCell ⟨w.heap.size, k * 6 + 1, none⟩ (.int .i64 t.key.n)).setCell ⟨w.heap.size, k * 6 + 2, none⟩ (.string t.key.s)).setCell ⟨w.heap.size, k * 6 + 3, none⟩ (.int .i64 t.val.k)).setCell ⟨w.heap.size, k * 6 + 4, none⟩ (.int .i64 t.val.n)).setCell ⟨w.heap.size, k * 6 + 5, none⟩ (.string t.val.s)) w.heap.size (X.length * 6) (X.flatMap sC) (k * 6 + 6)) := ((((((hF2.set (j := k * 6) (u := .int .i64 t.key.k) (by omega) (HU'.out 0 _ (by decide) rfl)).set (j := k * 6 + 1) (u := .int .i64 t.key.n) (by omega) (HU'.out 1 _ (by decide) rfl)).set (j := k * 6 + 2) (u := .string t.key.s) (by omega) (HU'.out 2 _ (by decide) rfl)).set (j := k * 6 + 3) (u := .int .i64 t.val.k) (by omega) (HU'.out 3 _ (by decide) rfl)).set (j := k * 6 + 4) (u := .int .i64 t.val.n) (by omega) (HU'.out 4 _ (by decide) rfl)).set (j := k * 6 + 5) (u := .string t.val.s) (by omega) (HU'.out 5 _ (by decide) rfl))
      clear hF2 HU'
      go_wp2
      go_roundw
      case rel => exact ⟨k + 1, by omega, by go_num, by rw [Nat.succ_mul]; exact HF.out, by
        iterate 6 refine Below.setCell ?_ (by dsimp only; omega) _
        exact hB2⟩
      case measure => simp [intOf]; omega
    · have e : k = X.length := by omega
      subst e
      rw [← hfl] at hF
      go_wp2
      go_ret
      exact ⟨rfl, hF.all, hB⟩

set_option maxHeartbeats 2000000 in
theorem toRowS_any (a : Option Addr) (cap : Nat) (X : List Rw) (w : World) (h : RowA RwAt 4 w a X) (hL : X.length ≤ 1048576) :
    Calls Try.prog 201 #[.slice a X.length cap] w fun e w' => e = .returned (.slice (some ⟨w.heap.size, 0, none⟩) X.length X.length) ∧ RowF w' w.heap.size (X.flatMap rC) ∧ Below w.heap.size w w' := by
  have hmk := run_make_any (P := Try.prog) 154 218 (.agg #[.int .i64 0, .int .i64 0, .int .i64 0, .string ⟨#[]⟩]) 4 40 Try.underlying154 infoMR .i64 .i64 X.length (by omega) (by omega)
  have hfl := flat_size rC 4 (fun _ => rfl) X
  have hnew := fillC_new w ((.agg #[.int .i64 0, .int .i64 0, .int .i64 0, .string ⟨#[]⟩]) : Value).cells (X.length * 4) (X.flatMap rC) 218
  have hB0 := balloc (Below.refl w.heap.size w) (.cells (madeCells ((.agg #[.int .i64 0, .int .i64 0, .int .i64 0, .string ⟨#[]⟩]) : Value).cells (X.length * 4)) 218)
  go_enter Try.func201, Try.ntmps201
  go_wp2
  go_loopw [4] (fun i wr => ∃ k : Nat, k ≤ X.length ∧ i = .int .i64 (k : Int) ∧ FillC wr w.heap.size (X.length * 4) (X.flatMap rC) (k * 4) ∧ Below w.heap.size w wr) (fun i _ => X.length - (intOf i).toNat)
  case atStart => exact ⟨0, Nat.zero_le _, rfl, by rw [Nat.zero_mul]; exact hnew, hB0⟩
  case round =>
    obtain ⟨k, hk, rfl, hF, hB⟩ := hrel
    clear hnew hB0
    by_cases hlt : k < X.length
    · obtain ⟨sb, off, rfl, hs, hat⟩ := h k hlt
      have hat' := rw_stays w wr sb _ _ hB hs hat
      have HU : ∀ j u, j < 4 → (rC X[k])[j]? = some u → (X.flatMap rC)[k * 4 + j]? = some u := fun j u hj hu => (flat_at rC 4 (fun _ => rfl) X k j hlt hj).trans hu
      have HU' : Hid (∀ j u, j < 4 → (rC X[k])[j]? = some u → (X.flatMap rC)[k * 4 + j]? = some u) := HU
      have hmul : (k + 1) * 4 ≤ X.length * 4 := Nat.mul_le_mul_right _ hlt
      rw [Nat.succ_mul] at hmul
      clear hat HU
      generalize X[k] = t at hat' HU'
      obtain ⟨c1, c2, c3, c4⟩ := hat'
      go_wp2_with fail
      refine (toRow_any t _).mono ?_
      rintro e w2 ⟨rfl, hb2⟩
      have hF2 := hF.call hb2
      have hB2 := bstep hB hb2
      clear hF hB hb2
      obtain ⟨⟨q0, oc0, _⟩, of0⟩ := hF2.2 (k * 4) (by omega)
      obtain ⟨⟨q1, oc1, _⟩, of1⟩ := hF2.2 (k * 4 + 1) (by omega)
      obtain ⟨⟨q2, oc2, _⟩, of2⟩ := hF2.2 (k * 4 + 2) (by omega)
      obtain ⟨⟨q3, oc3, _⟩, of3⟩ := hF2.2 (k * 4 + 3) (by omega)
      have HF : Hid (FillC ((((w2.setCell ⟨w.heap.size, k * 4, none⟩ (.int .i64 t.t)).setCell ⟨w.heap.size, k * 4 + 1, none⟩ (.int .i64 t.val.k)).setCell ⟨w.heap.size, k * 4 + 2, none⟩ (.int .i64 t.val.n)).setCell ⟨w.heap.size, k * 4 + 3, none⟩ (.string t.val.s)) w.heap.size (X.length * 4) (X.flatMap rC) (k * 4 + 4)) := ((((hF2.set (j := k * 4) (u := .int .i64 t.t) (by omega) (HU'.out 0 _ (by decide) rfl)).set (j := k * 4 + 1) (u := .int .i64 t.val.k) (by omega) (HU'.out 1 _ (by decide) rfl)).set (j := k * 4 + 2) (u := .int .i64 t.val.n) (by omega) (HU'.out 2 _ (by decide) rfl)).set (j := k * 4 + 3) (u := .string t.val.s) (by omega) (HU'.out 3 _ (by decide) rfl))
      clear hF2 HU'
      go_wp2
      go_roundw
      case rel => exact ⟨k + 1, by omega, by go_num, by rw [Nat.succ_mul]; exact HF.out, by
        iterate 4 refine Below.setCell ?_ (by dsimp only; omega) _
        exact hB2⟩
      case measure => simp [intOf]; omega
    · have e : k = X.length := by omega
      subst e
      rw [← hfl] at hF
      go_wp2
      go_ret
      exact ⟨rfl, hF.all, hB⟩

end Go.Proofs.Ytcmjmoikalfdkaa
