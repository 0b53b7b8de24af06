/-
  Two Shows that are the same, beside goroutines that only leave. (tools/gencoh.py)
-/
import Derived.Test.YtnndfgceehfiiaaCoG
namespace Go.Proofs.Ytnndfgceehfiiaa
open Go.Conc Go.RowKit

theorem same_self (L : List ByteArray) : sameB L L = true := by simp [sameB]

set_option maxRecDepth 100000 in
set_option maxHeartbeats 4000000 in
theorem eqShow_c (Bad : Nat → Prop) (L : List ByteArray) (hL : L.length ≤ 1048576) (a a' : Option Addr) (cap cap' : Nat) (hb : Nb Bad a) (hb' : Nb Bad a') (f s : Int) : ∃ n, ∀ (w : World), ¬ Bad w.heap.size → ¬ Bad (w.heap.size + 1) → ArgT w a L → ArgT w a' L →
    CallsC Try.prog true AtRel (DE (EvP Bad)) 14 #[.agg #[.slice a L.length cap, .int .i64 f, .int .i64 s], .agg #[.slice a' L.length cap', .int .i64 f, .int .i64 s]] n w fun u w' => u = .bool true ∧ Below w.heap.size w w' ∧ w'.heap.size = w.heap.size + 2 := by
  have A1 := at_cell
  have A2 := at_frozen
  have A3 := at_size
  have A4 := at_at
  have A5 := at_alloc
  have A6 := at_set
  have TP := termsP Bad
  have hls := fun w es ty s => events_len_string (P := Try.prog) w es 9 ty s Try.underlying9
  obtain ⟨nE, hE⟩ := eqStringS_c Bad L L hL a a' cap cap' hb hb'
  rw [same_self] at hE
  co_apply Exists.intro
  intro w n0 n1 h h'
  co_apply callsC_of_wpC Try.func14 (by rfl) rfl
  simp only [Try.ntmps14, List.size_toArray, List.length_cons, List.length_nil, Nat.reduceAdd, Nat.reduceSub, Array.replicate_succ, Array.replicate_zero, List.push_toArray, List.append_toArray, List.nil_append, List.cons_append]
  repeat (first
    | co_reg TP
    | (co_apply opsC_cons_k rfl (by rfl)
       intro _ hR K1 hK1
       obtain ⟨_, rfl⟩ := hR
       go_simp
       refine hK1 _ _ ⟨?_, ?_⟩
       · intro e he
         have hm := mem_listed he
         simp [go_sem, *] at hm
         try (subst hm; exact evP _ _ (by first | assumption | simpa using n0 | simpa using n1))
       clear hK1 K1
       try walk_nrm)
    | (co_apply opsC_unwanted TP rfl (by rfl)
       try walk_nrm)
    | (co_ctl TP; try co_then))
  obtain ⟨W, hW⟩ : ∃ W, W = (w.alloc (.cells #[.slice a L.length cap, .int .i64 f, .int .i64 s] 30)).alloc (.cells #[.slice a' L.length cap', .int .i64 f, .int .i64 s] 30) := ⟨_, rfl⟩
  have hP : RowF W w.heap.size [.slice a L.length cap, .int .i64 f, .int .i64 s] := by
    rw [hW]
    exact rowF_alloc (rowF_new w [.slice a L.length cap, .int .i64 f, .int .i64 s] 30) _
  have hR : RowF W (w.heap.size + 1) [.slice a' L.length cap', .int .i64 f, .int .i64 s] := by
    rw [hW]
    have := rowF_new (w.alloc (.cells #[.slice a L.length cap, .int .i64 f, .int .i64 s] 30)) [.slice a' L.length cap', .int .i64 f, .int .i64 s] 30
    simpa using this
  have hBW : Below w.heap.size w W := by rw [hW]; exact balloc (balloc (Below.refl _ _) _) _
  have hWz : W.heap.size = w.heap.size + 2 := by rw [hW]; simp
  rw [← hW]
  clear hW
  co_apply opsC_call TP rfl (by rfl) rfl
  · walk_nrm
    exact hE _ (h.call (below_at hBW)) (h'.call (below_at hBW))
  rintro v w3 ⟨rfl, hb3, hsz⟩
  walk_nrm
  have hb3' : Below W.heap.size W w3 := ⟨hb3.os, hb3.tape, hb3.output, hb3.size, hb3.block⟩
  have hP3 := hP.call hb3'
  have hR3 := hR.call hb3'
  have hB3 := bstep hBW hb3'
  have hz3 : w3.heap.size = w.heap.size + 2 := hsz.trans hWz
  have p1 := (hP3.2 1 (by simp)).1
  have p2 := (hP3.2 2 (by simp)).1
  have r1 := (hR3.2 1 (by simp)).1
  have r2 := (hR3.2 2 (by simp)).1
  simp only [List.getElem_cons_zero, List.getElem_cons_succ] at p1 p2 r1 r2
  clear hb3 hb3' hP hR hBW hWz hP3 hR3 hsz
  repeat (first
    | co_reg TP
    | (co_apply opsC_cons_k rfl (by rfl)
       intro _ hR K1 hK1
       obtain ⟨_, rfl⟩ := hR
       go_simp
       refine hK1 _ _ ⟨?_, ?_⟩
       · intro e he
         have hm := mem_listed he
         simp [go_sem, *] at hm
         try (subst hm; exact evP _ _ (by first | assumption | simpa using n0 | simpa using n1))
       clear hK1 K1
       try walk_nrm)
    | (co_apply opsC_unwanted TP rfl (by rfl)
       try walk_nrm)
    | (co_ctl TP; try co_then)
    | (co_apply wpC_condT TP
       · rfl)
    | (co_apply wpC_condF TP
       · rfl))
  exact ⟨rfl, _, resultsC_tmp (by rfl) _, rfl, below_at hB3, hz3⟩

end Go.Proofs.Ytnndfgceehfiiaa
