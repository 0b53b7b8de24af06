/-
  A Show that came in: how much it holds, a copy of it, and that a copy is the same.
-/
import Derived.Test.YtknepeleepbefaaListB
import Derived.Test.YtknepeleepbefaaMemT
import Derived.Test.YtknepeleepbefaaPair
namespace Go.Proofs.Ytknepeleepbefaa
open Go.RowKit

set_option maxHeartbeats 1000000 in
theorem szShow_any (a : Option Addr) (cap : Nat) (L : List ByteArray) (f s : Int) (w : World) (h : ArgT w a L) (hL : L.length ≤ maxLen) :
    Calls Try.prog 12 #[.agg #[.slice a L.length cap, .int .i64 f, .int .i64 s], .int .i64 1048576] w fun e w' => ∃ x : Int, e = .returned (.int .i64 x) ∧ (0 ≤ x → L.length ≤ 1048576 ∧ roomN L L.length ≤ 1048576) ∧ Below w.heap.size w w' := by
  have hBA : Below w.heap.size w (w.alloc (.cells #[.slice a L.length cap, .int .i64 f, .int .i64 s] 30)) := balloc (Below.refl _ _) _
  go_enter Try.func12, Try.ntmps12
  go_wp2_with fail
  refine (szStringS_any a cap L _ (h.call hBA) hL).mono ?_
  rintro e w1 ⟨x, rfl, hx, hb1⟩
  have hB1 := bstep hBA hb1
  by_cases hneg : x < 0
  · go_wp2
    go_ret
    exact ⟨_, rfl, fun h => absurd h (by decide), hB1⟩
  · go_wp2
    go_ret
    exact ⟨_, rfl, hx, hB1⟩

set_option maxHeartbeats 1000000 in
theorem toShow_any (a : Option Addr) (cap : Nat) (L : List ByteArray) (f s : Int) (w : World) (h : ArgT w a L) (hL : L.length ≤ 1048576) :
    Calls Try.prog 14 #[.agg #[.slice a L.length cap, .int .i64 f, .int .i64 s]] w fun e w' => ∃ g, e = .returned (.agg #[.slice (some ⟨g, 0, none⟩) L.length L.length, .int .i64 f, .int .i64 s]) ∧ RowT w' g L ∧ Below w.heap.size w w' := by
  obtain ⟨W, hW⟩ : ∃ W, W = ((w.alloc (.cells #[.slice a L.length cap, .int .i64 f, .int .i64 s] 30)).alloc (.cells #[.slice none 0 0, .int .i64 0, .int .i64 0] 26)).alloc (.cells #[.slice none 0 0, .int .i64 0, .int .i64 0] 26) := ⟨_, rfl⟩
  have hP : RowF W w.heap.size [.slice a L.length cap, .int .i64 f, .int .i64 s] := by
    rw [hW]
    exact rowF_alloc (rowF_alloc (rowF_new w [.slice a L.length cap, .int .i64 f, .int .i64 s] 30) _) _
  have hR : RowF W (w.heap.size + 1) [.slice none 0 0, .int .i64 0, .int .i64 0] := by
    rw [hW]
    have := rowF_alloc (rowF_new (w.alloc (.cells #[.slice a L.length cap, .int .i64 f, .int .i64 s] 30)) [.slice none 0 0, .int .i64 0, .int .i64 0] 26) (.cells #[.slice none 0 0, .int .i64 0, .int .i64 0] 26)
    simpa using this
  have hO : RowF W (w.heap.size + 1 + 1) [.slice none 0 0, .int .i64 0, .int .i64 0] := by
    rw [hW]
    have := rowF_new ((w.alloc (.cells #[.slice a L.length cap, .int .i64 f, .int .i64 s] 30)).alloc (.cells #[.slice none 0 0, .int .i64 0, .int .i64 0] 26)) [.slice none 0 0, .int .i64 0, .int .i64 0] 26
    simpa using this
  have hBW : Below w.heap.size w W := by rw [hW]; exact balloc (balloc (balloc (Below.refl _ _) _) _) _
  have hWz : W.heap.size = w.heap.size + 3 := by rw [hW]; simp
  have hA := h.call hBW
  go_enter Try.func14, Try.ntmps14
  go_wp2_with fail
  rw [← hW]
  clear hW
  refine (toStringS_any a cap L _ hA hL).mono ?_
  rintro e w3 ⟨rfl, hrow, hb3⟩
  have hP3 := hP.call hb3
  have hR3 := hR.call hb3
  have hO3 := hO.call hb3
  have hB3 := bstep hBW hb3
  rw [hWz] at hrow ⊢
  have HR : Hid (∀ w', (∀ b, w.heap.size + 3 ≤ b → w'.heap[b]? = w3.heap[b]?) → w3.heap.size ≤ w'.heap.size → RowT w' (w.heap.size + 3) L) := fun w' hk hz => ⟨Nat.lt_of_lt_of_le hrow.1 hz, fun i hi => ⟨(World.cell?_of_block (w := w3) (a := ⟨w.heap.size + 3, i, none⟩) (hk _ (Nat.le_refl _))).trans (hrow.2 i hi).1, (World.frozen?_of_block (w := w3) (a := ⟨w.heap.size + 3, i, none⟩) (hk _ (Nat.le_refl _))).trans (hrow.2 i hi).2⟩⟩
  clear hb3 hP hR hO hBW hWz hA hrow
  have p1 := (hP3.2 1 (by simp)).1
  have p2 := (hP3.2 2 (by simp)).1
  have o0 := (hO3.2 0 (by simp)).1
  have o1 := (hO3.2 1 (by simp)).1
  have o2 := (hO3.2 2 (by simp)).1
  have f0 := (hO3.2 0 (by simp)).2
  have f1 := (hO3.2 1 (by simp)).2
  have f2 := (hO3.2 2 (by simp)).2
  have r0 := (hR3.2 0 (by simp)).1
  have r1 := (hR3.2 1 (by simp)).1
  have r2 := (hR3.2 2 (by simp)).1
  have g0 := (hR3.2 0 (by simp)).2
  have g1 := (hR3.2 1 (by simp)).2
  have g2 := (hR3.2 2 (by simp)).2
  simp only [List.getElem_cons_zero, List.getElem_cons_succ] at p1 p2 o0 o1 o2 r0 r1 r2
  clear hP3 hR3 hO3
  go_wp2
  refine bodyPost_ret (v := .agg #[.slice (some ⟨w.heap.size + 3, 0, none⟩) L.length L.length, .int .i64 f, .int .i64 s]) (by simp [results, Try.results14, go_sem, r0, r1, r2]) rfl ?_
  refine ⟨_, rfl, HR.out _ ?_ ?_, ?_⟩
  · intro b hb
    iterate 6 rw [Below.heap_setCell _ _ _ _ (by dsimp only; omega)]
  · simp [World.setCell]
  · iterate 6 refine Below.setCell ?_ (by dsimp only; omega) _
    exact hB3

set_option maxHeartbeats 1000000 in
theorem eqShow_same (a a' : Option Addr) (cap cap' : Nat) (L : List ByteArray) (f s : Int) (w : World) (h : ArgT w a L) (h' : ArgT w a' L) (hL : L.length ≤ 1048576) :
    Calls Try.prog 16 #[.agg #[.slice a L.length cap, .int .i64 f, .int .i64 s], .agg #[.slice a' L.length cap', .int .i64 f, .int .i64 s]] w fun e w' => e = .returned (.bool true) ∧ Below w.heap.size w w' := by
  have hP := two0 w (.slice a L.length cap) (.int .i64 f) (.int .i64 s) (.slice a' L.length cap') (.int .i64 f) (.int .i64 s) 26
  go_enter Try.func16, Try.ntmps16
  go_wp2_with fail
  refine (eqStringS_two a a' cap cap' L _ (h.call hP.2.2) (h'.call hP.2.2) hL).mono ?_
  rintro e w1 ⟨rfl, hb1⟩
  obtain ⟨⟨_, p1, p2, _⟩, ⟨_, q1, q2, _⟩, hB⟩ := hP.call hb1
  clear hP hb1
  go_wp2
  go_ret
  exact ⟨rfl, hB⟩

end Go.Proofs.Ytknepeleepbefaa
