/-
  The model's cursor is made of the bytes that came in; two Values are drawn; the draws of chapter 1 as the laws call them.
-/
import Derived.Test.YtlmibonebiaocaaDoorDrawW
import Derived.RegionTactic
import Derived.BigRegion
namespace Go.Proofs.YtlmibonebiaocaaDoor
open Go.RowKit

set_option maxHeartbeats 1000000 in
theorem l1New_any (a : Option Addr) (len cap : Nat) (w : World) (hcode : Code w.heap.size a len w) (hlen : len ≤ 4096) :
    Calls Tryd.prog 11 #[.slice a len cap] w fun e w' => e = .returned (.pointer (some ⟨w.heap.size, 0, none⟩)) ∧ Below w.heap.size w w' ∧ Cur w.heap.size a len cap w' := by
  go_enter Tryd.func11, Tryd.ntmps11
  go_wp2
  go_loop [3, 4] (fun v3 v4 => ∃ (h : Int) (i : Nat), v3 = .int .i64 h ∧ v4 = .int .i64 (i : Int) ∧ i ≤ len) (fun _ v4 => len - (intOf v4).toNat)
  case atStart => exact ⟨_, 0, rfl, rfl, Nat.zero_le _⟩
  case round =>
    obtain ⟨h, i, rfl, rfl, hi⟩ := hrel
    by_cases hlt : i < len
    · obtain ⟨sb, off, x, rfl, hs, hx, hx0, hx1⟩ := hcode i hlt
      have hlt' : (i : Int) < (len : Int) := by omega
      go_wp2
      go_round
      case rel => exact ⟨_, i + 1, rfl, by go_num, by omega⟩
      case measure => simp [intOf]; omega
    · have hlt' : ¬ (i : Int) < (len : Int) := by omega
      go_wp2
      go_ret
      refine ⟨rfl, balloc (Below.refl _ _) _, 0, h, ?_, ?_, ?_, Nat.zero_le _, ?_, ?_, ?_, by simp, ?_⟩
      iterate 6 (simp [go_sem])
      intro j hj
      obtain ⟨sb, off, x, ha, hs, hx, hx0, hx1⟩ := hcode j hj
      exact ⟨sb, off, x, ha, hs, (((Below.refl w.heap.size w).alloc (Nat.le_refl _) _).cell (p := ⟨sb, off + j, none⟩) hs).trans hx, hx0, hx1⟩

theorem own_set {B : Nat} {w : World} (h : Own B w) {p : Addr} (v : Value) (hp : B ≠ p.block) : Own B (w.setCell p v) := by
  obtain ⟨⟨v0, h0⟩, ⟨v1, h1⟩, ⟨v2, h2⟩, f0, f1, f2, hz⟩ := h
  have hk : (w.setCell p v).heap[B]? = w.heap[B]? := Below.heap_setCell w p v B hp
  have hcell : ∀ o, (w.setCell p v).cell? ⟨B, o, none⟩ = w.cell? ⟨B, o, none⟩ := fun o => World.cell?_of_block (w := w) (a := ⟨B, o, none⟩) hk
  have hfr : ∀ o, (w.setCell p v).frozen? ⟨B, o, none⟩ = w.frozen? ⟨B, o, none⟩ := fun o => World.frozen?_of_block (w := w) (a := ⟨B, o, none⟩) hk
  exact ⟨⟨v0, (hcell 0).trans h0⟩, ⟨v1, (hcell 1).trans h1⟩, ⟨v2, (hcell 2).trans h2⟩, (hfr 0).trans f0, (hfr 1).trans f1, (hfr 2).trans f2, by simpa [World.setCell] using hz⟩
theorem own_set3 {B D : Nat} {w : World} (h : Own B w) (u0 u1 u2 : Value) (hp : B ≠ D) : Own B (((w.setCell ⟨D, 0, none⟩ u0).setCell ⟨D, 1, none⟩ u1).setCell ⟨D, 2, none⟩ u2) :=
  own_set (own_set (own_set h u0 hp) u1 hp) u2 hp
theorem own_self {B : Nat} {w : World} (h : Own B w) (u0 u1 u2 : Value) : Own B (((w.setCell ⟨B, 0, none⟩ u0).setCell ⟨B, 1, none⟩ u1).setCell ⟨B, 2, none⟩ u2) := by
  obtain ⟨a0, a1, a2, az⟩ := Own.set h u0 u1 u2
  obtain ⟨_, _, _, f0, f1, f2, _⟩ := h
  exact ⟨⟨_, a0⟩, ⟨_, a1⟩, ⟨_, a2⟩, by simp [go_sem, f0], by simp [go_sem, f1], by simp [go_sem, f2], az⟩

theorem Code.up {B B' : Nat} {a : Option Addr} {len : Nat} {w w1 : World} (h : Code B a len w) (hB : B ≤ B') (hb : Below B w w1) : Code B' a len w1 := fun j hj => by
  obtain ⟨sb, off, x, ha, hs, hx, h0, h1⟩ := h j hj
  exact ⟨sb, off, x, ha, by omega, (hb.cell (p := ⟨sb, off + j, none⟩) hs).trans hx, h0, h1⟩

/-- laws.big. -/
theorem big_any (a : Option Addr) (len cap : Nat) (w : World) :
    Calls Tryd.prog 5 #[.slice a len cap] w fun e w' => e = .returned (.bool (decide ((4096 : Int) < len))) ∧ w' = w := by
  go_enter Tryd.func5, Tryd.ntmps5
  go_wp2
  go_ret
  exact ⟨rfl, rfl⟩

end Go.Proofs.YtlmibonebiaocaaDoor
