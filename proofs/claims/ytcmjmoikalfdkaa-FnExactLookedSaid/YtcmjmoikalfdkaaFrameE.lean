/-
  A list of Binds among the arguments, as the walks want it.
-/
import Derived.Test.YtcmjmoikalfdkaaFrameT
import Derived.Test.YtcmjmoikalfdkaaEnvL
import Derived.Deep.Slices
import Derived.Deep.Strs
namespace Go.Proofs.Ytcmjmoikalfdkaa
open Go.ChangeShapes Go.WideShapes Go.ChangeAt Go.RowKit Go.Joins Go.Deep

theorem cellsBind : Try.prog.cellsOf 170 = 3 := by kernel_rfl
theorem cellsStr : Try.prog.cellsOf 9 = 1 := by kernel_rfl
theorem cellsBool : Try.prog.cellsOf 4 = 1 := by kernel_rfl
theorem cellsInt : Try.prog.cellsOf 2 = 1 := by kernel_rfl

set_option maxRecDepth 100000 in
/-- A list of Binds that came in. -/
theorem binds_in {H : Type} {enc : TypeId × Value → H} {W : World} {sp : Nat → Bool} {hd : Bool} {a : Option Addr} {len cap : Nat} {d : DataW H} {ps : List MemPlace} (h : DataW.Trod enc Try.prog W 0 sp hd 89 (.slice a len cap) d ps) :
    ∃ X : List Bd, X.length = len ∧ (RowA BdAt 3 W a X ∧ ∀ x ∈ X, okBd x) ∧ len ≤ maxLen := by
  obtain ⟨fuel, hf⟩ := h
  rcases open_slice Try.underlying89 hf with ⟨hcs, _⟩ | ⟨x, l, c, m, n, D, Pl, hcs, _, hl, hm, hmm, _, hx⟩
  · simp [Value.cells] at hcs
    obtain ⟨rfl, rfl, rfl⟩ := hcs
    exact ⟨[], rfl, ⟨fun j hj => absurd hj (Nat.not_lt_zero _), fun x hx => by cases hx⟩, Nat.zero_le _⟩
  · simp [Value.cells] at hcs
    obtain ⟨rfl, rfl, rfl⟩ := hcs
    have hle : len ≤ m := by rw [hmm]; split <;> omega
    rw [cellsBind] at hx
    have each : ∀ i, i < len → ∃ q : Bd, W.cell? (x.add (i * 3)) = some (.string q.n) ∧ W.cell? (x.add (i * 3 + 1)) = some (.bool q.s) ∧ W.cell? (x.add (i * 3 + 2)) = some (.int .i64 q.a) ∧ okBd q := by
      intro i hi
      obtain ⟨cs', h1, h2⟩ := hx i (by omega)
      obtain ⟨_, hlen, hcell⟩ := World.cells?_some h1
      obtain ⟨y0, y1, y2, k, _, _, g0, g1, g2⟩ := trod_struct3 Try.underlying170 h2
      match cs', hlen with
      | [v0, v1, v2], _ =>
        simp only [cellsStr, cellsBool, cellsInt] at g0 g1 g2
        simp at g0 g1 g2
        obtain ⟨s0, e0, _, w0⟩ := DataW.trod_string Try.underlying9 g0
        obtain ⟨b1, e1, _⟩ := DataW.trod_bool Try.underlying4 g1
        obtain ⟨n2, e2, _, w2⟩ := DataW.trod_int Try.underlying2 g2
        simp at e0 e1 e2
        subst e0 e1 e2
        have c0 := hcell 0 (by omega)
        have c1 := hcell 1 (by omega)
        have c2 := hcell 2 (by omega)
        rw [add_add] at c0 c1 c2
        exact ⟨⟨s0, b1, n2⟩, by simpa using c0, by simpa using c1, by simpa using c2, w0, bounds_i64 w2⟩
    haveI : Inhabited Bd := ⟨⟨ByteArray.empty, false, 0⟩⟩
    obtain ⟨q, hq⟩ := choose_lt each
    obtain ⟨b, off, spot⟩ := x
    refine ⟨(List.range len).map q, by simp, ⟨fun i hi => ?_, fun y hy => ?_⟩, by omega⟩
    · have hi' : i < len := by simpa using hi
      obtain ⟨c0, c1, c2, _⟩ := hq i hi'
      have hspot : spot = none := by
        have := World.cell?_spot (hq 0 (by omega)).1
        simpa [Addr.add] using this
      subst hspot
      have hplain : ∀ j, (⟨b, off, none⟩ : Addr).add j = ⟨b, off + j, none⟩ := fun j => by unfold Addr.add; split <;> simp_all
      rw [hplain] at c0 c1 c2
      have he : ((List.range len).map q)[i] = q i := by simp
      rw [he]
      refine ⟨b, off, rfl, ?_, c0, c1, c2⟩
      rcases Nat.lt_or_ge b W.heap.size with h | h
      · exact h
      · exfalso
        have hn : W.heap[b]? = none := Array.getElem?_eq_none h
        simp [World.cell?, hn] at c0
    · obtain ⟨i, hi, rfl⟩ := List.mem_map.1 hy
      exact (hq i (List.mem_range.1 hi)).2.2.2

end Go.Proofs.Ytcmjmoikalfdkaa
