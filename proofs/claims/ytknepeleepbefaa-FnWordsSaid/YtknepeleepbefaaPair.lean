/-
  Two boxes of three cells that a law has laid, and a third one for an answer: what stays of them through draws, calls, new blocks and stores.
-/
import Derived.Test.YtknepeleepbefaaBase
import Derived.WalkSpells
import Derived.WalkLawsBesides
import Derived.Handy
import Derived.Deep.RegionHeld3
import Derived.Deep.DeepCutAuto
namespace Go.Proofs.Ytknepeleepbefaa
open Go.RowKit

/-- Three cells lie at B. -/
def Tri (B : Nat) (v0 v1 v2 : Value) (x : World) : Prop := x.cell? ⟨B, 0, none⟩ = some v0 ∧ x.cell? ⟨B, 1, none⟩ = some v1 ∧ x.cell? ⟨B, 2, none⟩ = some v2 ∧ B < x.heap.size
theorem Tri.call {B : Nat} {v0 v1 v2 : Value} {W w1 : World} (h : Tri B v0 v1 v2 W) (hb : Below W.heap.size W w1) : Tri B v0 v1 v2 w1 := by
  obtain ⟨h0, h1, h2, hz⟩ := h
  exact ⟨(hb.cell (p := ⟨B, 0, none⟩) hz).trans h0, (hb.cell (p := ⟨B, 1, none⟩) hz).trans h1, (hb.cell (p := ⟨B, 2, none⟩) hz).trans h2, Nat.lt_of_lt_of_le hz hb.size⟩
theorem Tri.drew {B : Nat} {v0 v1 v2 : Value} {W : World} (h : Tri B v0 v1 v2 W) : Tri B v0 v1 v2 W.drew := h
theorem Tri.alloc {B : Nat} {v0 v1 v2 : Value} {W : World} (h : Tri B v0 v1 v2 W) (o : Obj) : Tri B v0 v1 v2 (W.alloc o) :=
  h.call ((Below.refl _ _).alloc (Nat.le_refl _) o)
theorem Tri.set {B : Nat} {v0 v1 v2 : Value} {W : World} (h : Tri B v0 v1 v2 W) {p : Addr} (u : Value) (hp : B ≠ p.block) : Tri B v0 v1 v2 (W.setCell p u) := by
  obtain ⟨h0, h1, h2, hz⟩ := h
  have hk : ∀ o, (W.setCell p u).cell? ⟨B, o, none⟩ = W.cell? ⟨B, o, none⟩ := fun o => World.cell?_of_block (w := W) (Below.heap_setCell W p u B hp)
  exact ⟨(hk 0).trans h0, (hk 1).trans h1, (hk 2).trans h2, by simpa [World.setCell] using hz⟩
theorem tri0 (w : World) (v0 v1 v2 : Value) (T : TypeId) : Tri w.heap.size v0 v1 v2 (w.alloc (.cells #[v0, v1, v2] T)) := bbox0 w v0 v1 v2 T

/-- A block of the call's own that may be written. -/
def Own (B : Nat) (x : World) : Prop := (∃ v0, x.cell? ⟨B, 0, none⟩ = some v0) ∧ (∃ v1, x.cell? ⟨B, 1, none⟩ = some v1) ∧ (∃ v2, x.cell? ⟨B, 2, none⟩ = some v2) ∧ x.frozen? ⟨B, 0, none⟩ = false ∧ x.frozen? ⟨B, 1, none⟩ = false ∧ x.frozen? ⟨B, 2, none⟩ = false ∧ B < x.heap.size
theorem Own.call {B : Nat} {W w1 : World} (h : Own B W) (hb : Below W.heap.size W w1) : Own B w1 := by
  obtain ⟨⟨v0, h0⟩, ⟨v1, h1⟩, ⟨v2, h2⟩, f0, f1, f2, hz⟩ := h
  exact ⟨⟨v0, (hb.cell (p := ⟨B, 0, none⟩) hz).trans h0⟩, ⟨v1, (hb.cell (p := ⟨B, 1, none⟩) hz).trans h1⟩, ⟨v2, (hb.cell (p := ⟨B, 2, none⟩) hz).trans h2⟩, (hb.frozen (p := ⟨B, 0, none⟩) hz).trans f0, (hb.frozen (p := ⟨B, 1, none⟩) hz).trans f1, (hb.frozen (p := ⟨B, 2, none⟩) hz).trans f2, Nat.lt_of_lt_of_le hz hb.size⟩
theorem own0 (w : World) (v0 v1 v2 : Value) (T : TypeId) : Own w.heap.size (w.alloc (.cells #[v0, v1, v2] T)) := by
  obtain ⟨h0, h1, h2, hz⟩ := tri0 w v0 v1 v2 T
  exact ⟨⟨_, h0⟩, ⟨_, h1⟩, ⟨_, h2⟩, by simp [go_sem], by simp [go_sem], by simp [go_sem], hz⟩
theorem Own.drew {B : Nat} {W : World} (h : Own B W) : Own B W.drew := h

/-- What was written into a block of the call's own. -/
theorem Own.set {B : Nat} {W : World} (h : Own B W) (u0 u1 u2 : Value) : Tri B u0 u1 u2 (((W.setCell ⟨B, 0, none⟩ u0).setCell ⟨B, 1, none⟩ u1).setCell ⟨B, 2, none⟩ u2) := by
  obtain ⟨⟨v0, h0⟩, ⟨v1, h1⟩, ⟨v2, h2⟩, f0, f1, f2, hz⟩ := h
  refine ⟨?_, ?_, ?_, ?_⟩ <;> simp [go_sem, h0, h1, h2, hz]

/-- The two boxes of a law, and nothing turned that was there. -/
def Two (w : World) (a0 a1 a2 b0 b1 b2 : Value) (x : World) : Prop := Tri w.heap.size a0 a1 a2 x ∧ Tri (w.heap.size + 1) b0 b1 b2 x ∧ Below w.heap.size w x
section
variable {w W w1 : World} {a0 a1 a2 b0 b1 b2 : Value}
theorem Two.call (h : Two w a0 a1 a2 b0 b1 b2 W) (hb : Below W.heap.size W w1) : Two w a0 a1 a2 b0 b1 b2 w1 := ⟨h.1.call hb, h.2.1.call hb, bstep h.2.2 hb⟩
theorem Two.drew (h : Two w a0 a1 a2 b0 b1 b2 W) : Two w a0 a1 a2 b0 b1 b2 W.drew := ⟨h.1, h.2.1, h.2.2.drew⟩
theorem Two.alloc (h : Two w a0 a1 a2 b0 b1 b2 W) (o : Obj) : Two w a0 a1 a2 b0 b1 b2 (W.alloc o) := ⟨h.1.alloc o, h.2.1.alloc o, balloc h.2.2 o⟩
theorem Two.lt (h : Two w a0 a1 a2 b0 b1 b2 W) : w.heap.size + 1 < W.heap.size := h.2.1.2.2.2
theorem Two.set (h : Two w a0 a1 a2 b0 b1 b2 W) {p : Addr} (u : Value) (hp : w.heap.size + 1 < p.block) : Two w a0 a1 a2 b0 b1 b2 (W.setCell p u) :=
  ⟨h.1.set u (by omega), h.2.1.set u (by omega), bset h.2.2 u (by omega)⟩
theorem Two.set3 (h : Two w a0 a1 a2 b0 b1 b2 W) {B : Nat} (u0 u1 u2 : Value) (hp : w.heap.size + 1 < B) : Two w a0 a1 a2 b0 b1 b2 (((W.setCell ⟨B, 0, none⟩ u0).setCell ⟨B, 1, none⟩ u1).setCell ⟨B, 2, none⟩ u2) :=
  ((h.set u0 hp).set u1 hp).set u2 hp
end
theorem two0 (w : World) (a0 a1 a2 b0 b1 b2 : Value) (T : TypeId) : Two w a0 a1 a2 b0 b1 b2 ((w.alloc (.cells #[a0, a1, a2] T)).alloc (.cells #[b0, b1, b2] T)) := by
  refine ⟨(tri0 w a0 a1 a2 T).alloc _, ?_, balloc (balloc (Below.refl _ _) _) _⟩
  have h := tri0 (w.alloc (.cells #[a0, a1, a2] T)) b0 b1 b2 T
  rw [show (w.alloc (.cells #[a0, a1, a2] T)).heap.size = w.heap.size + 1 from by simp] at h
  exact h

/-- The two boxes, and the first answer's. -/
def Thr (w : World) (a0 a1 a2 b0 b1 b2 : Value) (B : Nat) (c0 c1 c2 : Value) (x : World) : Prop := Two w a0 a1 a2 b0 b1 b2 x ∧ Tri B c0 c1 c2 x
section
variable {w W w1 : World} {a0 a1 a2 b0 b1 b2 c0 c1 c2 : Value} {B : Nat}
theorem Thr.call (h : Thr w a0 a1 a2 b0 b1 b2 B c0 c1 c2 W) (hb : Below W.heap.size W w1) : Thr w a0 a1 a2 b0 b1 b2 B c0 c1 c2 w1 := ⟨h.1.call hb, h.2.call hb⟩
theorem Thr.drew (h : Thr w a0 a1 a2 b0 b1 b2 B c0 c1 c2 W) : Thr w a0 a1 a2 b0 b1 b2 B c0 c1 c2 W.drew := ⟨h.1.drew, h.2.drew⟩
theorem Thr.alloc (h : Thr w a0 a1 a2 b0 b1 b2 B c0 c1 c2 W) (o : Obj) : Thr w a0 a1 a2 b0 b1 b2 B c0 c1 c2 (W.alloc o) := ⟨h.1.alloc o, h.2.alloc o⟩
theorem Thr.lt (h : Thr w a0 a1 a2 b0 b1 b2 B c0 c1 c2 W) : w.heap.size + 1 < W.heap.size ∧ B < W.heap.size := ⟨h.1.lt, h.2.2.2.2⟩
theorem Thr.set3 (h : Thr w a0 a1 a2 b0 b1 b2 B c0 c1 c2 W) {D : Nat} (u0 u1 u2 : Value) (hp : w.heap.size + 1 < D ∧ B < D) : Thr w a0 a1 a2 b0 b1 b2 B c0 c1 c2 (((W.setCell ⟨D, 0, none⟩ u0).setCell ⟨D, 1, none⟩ u1).setCell ⟨D, 2, none⟩ u2) :=
  ⟨h.1.set3 u0 u1 u2 hp.1, ((h.2.set u0 (Nat.ne_of_lt hp.2)).set u1 (Nat.ne_of_lt hp.2)).set u2 (Nat.ne_of_lt hp.2)⟩
end
end Go.Proofs.Ytknepeleepbefaa
