/-
  The cursor of a law that draws, at its start.
-/
import Derived.Test.YtknepeleepbefaaDrawB
import Derived.RegionTactic
import Derived.BigRegion
namespace Go.Proofs.Ytknepeleepbefaa
open Go.RowKit

set_option maxHeartbeats 1000000 in
theorem l1New_more (a : Option Addr) (len cap : Nat) (w : World) (hcode : Code w.heap.size a len w) (hlen : len ≤ 5000) :
    Calls Try.prog 17 #[.slice a len cap] w fun e w' => e = .returned (.pointer (some ⟨w.heap.size, 0, none⟩)) ∧ Below w.heap.size w w' ∧ Cur w.heap.size a len cap w' := by
  go_enter Try.func17, Try.ntmps17
  go_wp2
  go_loop [3, 4] (fun v3 v4 => ∃ (h : Int) (i : Nat), v3 = .int .i64 h ∧ v4 = .int .i64 (i : Int) ∧ i ≤ len) (fun _ v4 => len - (intOf v4).toNat)
  case atStart => exact ⟨_, 0, rfl, rfl, Nat.zero_le _⟩
  case round =>
    obtain ⟨h, i, rfl, rfl, hi⟩ := hrel
    by_cases hlt : i < len
    · obtain ⟨sb, off, x, rfl, hs, hx, hx0, hx1⟩ := hcode i hlt
      have hlt' : (i : Int) < (len : Int) := by omega
      go_wp2
      go_round
      case rel => exact ⟨_, i + 1, rfl, by go_num, by omega⟩
      case measure => simp [intOf]; omega
    · have hlt' : ¬ (i : Int) < (len : Int) := by omega
      go_wp2
      go_ret
      refine ⟨rfl, balloc (Below.refl _ _) _, 0, h, ?_, ?_, ?_, Nat.zero_le _, ?_, ?_, ?_, by simp, ?_⟩
      iterate 6 (simp [go_sem])
      intro j hj
      obtain ⟨sb, off, x, ha, hs, hx, hx0, hx1⟩ := hcode j hj
      exact ⟨sb, off, x, ha, hs, (((Below.refl w.heap.size w).alloc (Nat.le_refl _) _).cell (p := ⟨sb, off + j, none⟩) hs).trans hx, hx0, hx1⟩

theorem l1New_any (a : Option Addr) (len cap : Nat) (w : World) (hcode : Code w.heap.size a len w) (hlen : len ≤ 4096) :
    Calls Try.prog 17 #[.slice a len cap] w fun e w' => e = .returned (.pointer (some ⟨w.heap.size, 0, none⟩)) ∧ Below w.heap.size w w' ∧ Cur w.heap.size a len cap w' := l1New_more a len cap w hcode (by omega)

theorem Code.up {B B' : Nat} {a : Option Addr} {len : Nat} {w w1 : World} (h : Code B a len w) (hB : B ≤ B') (hb : Below B w w1) : Code B' a len w1 := fun j hj => by
  obtain ⟨sb, off, x, ha, hs, hx, h0, h1⟩ := h j hj
  exact ⟨sb, off, x, ha, by omega, (hb.cell (p := ⟨sb, off + j, none⟩) hs).trans hx, h0, h1⟩

/-- laws.big. -/
theorem big_any (a : Option Addr) (len cap : Nat) (w : World) :
    Calls Try.prog 6 #[.slice a len cap] w fun e w' => e = .returned (.bool (decide ((4096 : Int) < len))) ∧ w' = w := by
  go_enter Try.func6, Try.ntmps6
  go_wp2
  go_ret
  exact ⟨rfl, rfl⟩

end Go.Proofs.Ytknepeleepbefaa
