/-
  A Show among the arguments, as the walks want it.
-/
import Derived.Test.YtnndfgceehfiiaaFrameT
namespace Go.Proofs.Ytnndfgceehfiiaa
open Go.ChangeShapes Go.WideShapes Go.ChangeAt Go.RowKit Go.Joins

theorem cellsShow : Try.prog.cellsOf 27 = 3 := by kernel_rfl

set_option maxRecDepth 100000 in
/-- A Show that came in. -/
theorem show_in {H : Type} {enc : TypeId × Value → H} {W : World} {sp : Nat → Bool} {hd : Bool} {r : Reach} {b0 : Nat} {v : Value} {d : DataW H} {ps : List MemPlace} (hv : Value.okWide Try.prog W r b0 27 v) (h : DataW.Trod enc Try.prog W 0 sp hd 27 v d ps) :
    ∃ (a : Option Addr) (cap : Nat) (L : List ByteArray) (f s : Int), v = .agg #[.slice a L.length cap, .int .i64 f, .int .i64 s] ∧ ArgT W a L ∧ L.length ≤ maxLen ∧ I64 f := by
  obtain ⟨c0, c1, c2, y0, y1, y2, m, rfl, _, _, hy0, hy1, hy2⟩ := open_agg3 Try.underlying27 (by kernel_rfl) cellsShow hv h
  obtain ⟨f, e1, _, wf⟩ := DataW.trod_int Try.underlying2 hy1
  obtain ⟨s, e2, _, _⟩ := DataW.trod_int Try.underlying2 hy2
  simp at e1 e2
  subst e1 e2
  rcases open_strings Try.underlying22 Try.underlying9 cellsString hy0 with ⟨hcs, _⟩ | ⟨x, len, cap, ss, hcs, _, hl, hm, hz, _, hcell, hws⟩
  · simp at hcs
    subst hcs
    exact ⟨none, 0, [], f, s, rfl, fun j hj => absurd hj (Nat.not_lt_zero _), Nat.zero_le _, bounds_i64 wf⟩
  · simp at hcs
    subst hcs
    have hle : len ≤ ss.length := by rw [hz]; split <;> omega
    have hlen : (ss.take len).length = len := by simp; omega
    exact ⟨some x, cap, ss.take len, f, s, by rw [hlen], args_of hle hcell hws, by omega, bounds_i64 wf⟩

end Go.Proofs.Ytnndfgceehfiiaa
