/-
  A copy of a Show, beside goroutines that only leave. (tools/gencog.py)
-/
import Derived.Test.YtnndfgceehfiiaaCoF
namespace Go.Proofs.Ytnndfgceehfiiaa
open Go.Conc Go.RowKit

/-- Values lie in block g, one a cell, and may be written. -/
def RowF (w : World) (g : Nat) (C : List Value) : Prop := g < w.heap.size ∧ ∀ i (h : i < C.length), w.cell? ⟨g, i, none⟩ = some C[i] ∧ w.frozen? ⟨g, i, none⟩ = false
theorem RowF.call {w w' : World} {g : Nat} {C : List Value} (h : RowF w g C) (hb : Below w.heap.size w w') : RowF w' g C :=
  ⟨Nat.lt_of_lt_of_le h.1 hb.size, fun i hi => ⟨(hb.cell (p := ⟨g, i, none⟩) h.1).trans (h.2 i hi).1, (hb.frozen (p := ⟨g, i, none⟩) h.1).trans (h.2 i hi).2⟩⟩
theorem rowF_new (w : World) (C : List Value) (t : TypeId) : RowF (w.alloc (.cells C.toArray t)) w.heap.size C := by
  refine ⟨by simp, fun i hi => ⟨?_, by simp [go_sem]⟩⟩
  rw [World.cell?_alloc_new]
  simp [hi]
theorem rowF_alloc {w : World} {g : Nat} {C : List Value} (h : RowF w g C) (o : Obj) : RowF (w.alloc o) g C := h.call (balloc (Below.refl _ _) o)

theorem rowT_at {X : World} {g d : Nat} {L : List ByteArray} (h : RowT X g L) : RowT (X.at d) g L := h

set_option maxRecDepth 100000 in
set_option maxHeartbeats 4000000 in
theorem toShow_c (Bad : Nat → Prop) (L : List ByteArray) (hL : L.length ≤ 1048576) (a : Option Addr) (cap : Nat) (hb : Nb Bad a) (f s : Int) : ∃ n, ∀ (w : World), ¬ Bad w.heap.size → ¬ Bad (w.heap.size + 1) → ¬ Bad (w.heap.size + 2) → ¬ Bad (w.heap.size + 3) → ArgT w a L →
    CallsM Try.prog true AtRel (DE (EvP Bad)) 12 #[.agg #[.slice a L.length cap, .int .i64 f, .int .i64 s]] n w fun u w' => u = .agg #[.slice (some ⟨w.heap.size + 3, 0, none⟩) L.length L.length, .int .i64 f, .int .i64 s] ∧ RowT w' (w.heap.size + 3) L ∧ Below w.heap.size w w' ∧ w'.heap.size = w.heap.size + 4 := by
  have A1 := at_cell
  have A2 := at_frozen
  have A3 := at_size
  have A4 := at_at
  have A5 := at_alloc
  have A6 := at_set
  have TP := termsP Bad
  have hls := fun w es ty s => events_len_string (P := Try.prog) w es 9 ty s Try.underlying9
  have E1 := fun w es a m s => events_store Try.prog w es a (.int .i64 s) m rfl
  have E2 := fun w es a m p n c => events_store Try.prog w es a (.slice p n c) m rfl
  obtain ⟨nE, hE⟩ := toStringS_c Bad L hL a cap hb
  co_apply Exists.intro
  intro w n0 n1 n2 n3 h
  co_apply callsM_of_wpC Try.func12 (by rfl) rfl
  simp only [Try.ntmps12, List.size_toArray, List.length_cons, List.length_nil, Nat.reduceAdd, Nat.reduceSub, Array.replicate_succ, Array.replicate_zero, List.push_toArray, List.append_toArray, List.nil_append, List.cons_append]
  repeat (first
    | co_reg TP
    | (co_apply opsC_cons_k rfl (by rfl)
       intro _ hR K1 hK1
       obtain ⟨_, rfl⟩ := hR
       go_simp
       try (unfold stored; go_simp)
       refine hK1 _ _ ⟨?_, ?_⟩
       · intro e he
         have hm := mem_listed he
         simp [go_sem, *] at hm
         try (rcases hm with rfl | rfl | rfl <;> exact evP _ _ (by first | assumption | simpa using n0 | simpa using n1 | simpa using n2))
         try (subst hm; exact evP _ _ (by first | assumption | simpa using n0 | simpa using n1 | simpa using n2))
       clear hK1 K1
       try walk_nrm)
    | (co_apply opsC_unwanted TP rfl (by rfl)
       try walk_nrm)
    | (co_ctl TP; try co_then))
  co_apply opsC_call TP rfl (by rfl) rfl
  · walk_nrm
    exact hE _ (by simpa [World.at] using n3) (h.call (below_at (balloc (balloc (balloc (Below.refl _ _) _) _) _)))
  obtain ⟨W, hW⟩ : ∃ W, W = ((w.alloc (.cells #[.slice a L.length cap, .int .i64 f, .int .i64 s] 27)).alloc (.cells #[.slice none 0 0, .int .i64 0, .int .i64 0] 30)).alloc (.cells #[.slice none 0 0, .int .i64 0, .int .i64 0] 30) := ⟨_, rfl⟩
  have hP : RowF W w.heap.size [.slice a L.length cap, .int .i64 f, .int .i64 s] := by
    rw [hW]
    exact rowF_alloc (rowF_alloc (rowF_new w [.slice a L.length cap, .int .i64 f, .int .i64 s] 27) _) _
  have hR : RowF W (w.heap.size + 1) [.slice none 0 0, .int .i64 0, .int .i64 0] := by
    rw [hW]
    have := rowF_alloc (rowF_new (w.alloc (.cells #[.slice a L.length cap, .int .i64 f, .int .i64 s] 27)) [.slice none 0 0, .int .i64 0, .int .i64 0] 30) (.cells #[.slice none 0 0, .int .i64 0, .int .i64 0] 30)
    simpa using this
  have hO : RowF W (w.heap.size + 1 + 1) [.slice none 0 0, .int .i64 0, .int .i64 0] := by
    rw [hW]
    have := rowF_new ((w.alloc (.cells #[.slice a L.length cap, .int .i64 f, .int .i64 s] 27)).alloc (.cells #[.slice none 0 0, .int .i64 0, .int .i64 0] 30)) [.slice none 0 0, .int .i64 0, .int .i64 0] 30
    simpa using this
  have hBW : Below w.heap.size w W := by rw [hW]; exact balloc (balloc (balloc (Below.refl _ _) _) _) _
  have hWz : W.heap.size = w.heap.size + 3 := by rw [hW]; simp
  rw [← hW]
  clear hW h
  rintro v w3 ⟨rfl, hrow, hb3, hsz⟩
  walk_nrm
  have hb3' : Below W.heap.size W w3 := ⟨hb3.os, hb3.tape, hb3.output, hb3.size, hb3.block⟩
  have hP3 := hP.call hb3'
  have hR3 := hR.call hb3'
  have hO3 := hO.call hb3'
  have hB3 := bstep hBW hb3'
  have e3 : ∀ d, (W.at d).heap.size = w.heap.size + 3 := fun d => hWz
  rw [e3] at hrow hsz ⊢
  have HR : Hid (∀ w', (∀ b, w.heap.size + 3 ≤ b → w'.heap[b]? = w3.heap[b]?) → w3.heap.size ≤ w'.heap.size → RowT w' (w.heap.size + 3) L) := fun w' hk hz => ⟨Nat.lt_of_lt_of_le hrow.1 hz, fun i hi => ⟨(World.cell?_of_block (w := w3) (a := ⟨w.heap.size + 3, i, none⟩) (hk _ (Nat.le_refl _))).trans (hrow.2 i hi).1, (World.frozen?_of_block (w := w3) (a := ⟨w.heap.size + 3, i, none⟩) (hk _ (Nat.le_refl _))).trans (hrow.2 i hi).2⟩⟩
  clear hb3 hb3' hP hR hO hBW hWz hrow e3
  have p1 := (hP3.2 1 (by simp)).1
  have p2 := (hP3.2 2 (by simp)).1
  have o0 := (hO3.2 0 (by simp)).1
  have o1 := (hO3.2 1 (by simp)).1
  have o2 := (hO3.2 2 (by simp)).1
  have f0 := (hO3.2 0 (by simp)).2
  have f1 := (hO3.2 1 (by simp)).2
  have f2 := (hO3.2 2 (by simp)).2
  have r0 := (hR3.2 0 (by simp)).1
  have r1 := (hR3.2 1 (by simp)).1
  have r2 := (hR3.2 2 (by simp)).1
  have g0 := (hR3.2 0 (by simp)).2
  have g1 := (hR3.2 1 (by simp)).2
  have g2 := (hR3.2 2 (by simp)).2
  simp only [List.getElem_cons_zero, List.getElem_cons_succ] at p1 p2 o0 o1 o2 r0 r1 r2
  clear hP3 hR3 hO3
  repeat (first
    | co_reg TP
    | (co_apply opsC_cons_k rfl (by rfl)
       intro _ hR K1 hK1
       obtain ⟨_, rfl⟩ := hR
       go_simp
       try (unfold stored; go_simp)
       refine hK1 _ _ ⟨?_, ?_⟩
       · intro e he
         have hm := mem_listed he
         simp [go_sem, *] at hm
         try (rcases hm with rfl | rfl | rfl <;> exact evP _ _ (by first | assumption | simpa using n0 | simpa using n1 | simpa using n2))
         try (subst hm; exact evP _ _ (by first | assumption | simpa using n0 | simpa using n1 | simpa using n2))
       clear hK1 K1
       try walk_nrm)
    | (co_apply opsC_unwanted TP rfl (by rfl)
       try walk_nrm)
    | (co_ctl TP; try co_then))
  refine ⟨rfl, .agg #[.slice (some ⟨w.heap.size + 3, 0, none⟩) L.length L.length, .int .i64 f, .int .i64 s], ?_, rfl, rowT_at (HR.out _ ?_ ?_), below_at ?_, ?_⟩
  · rintro _ ⟨d, rfl⟩
    refine ⟨by simp [results, Try.results12, go_sem, *], ?_⟩
    intro e he
    have hm := mem_seen he
    simp [results, Try.results12, go_sem, *] at hm
    rcases hm with rfl | rfl | rfl <;> exact evP _ _ (by first | assumption | simpa using n1)
  · intro b hb
    iterate 6 rw [Below.heap_setCell _ _ _ _ (by dsimp only; omega)]
  · simp [World.setCell]
  · iterate 6 refine Below.setCell ?_ (by dsimp only; omega) _
    exact hB3
  · simpa [World.at, World.setCell] using hsz

end Go.Proofs.Ytnndfgceehfiiaa
