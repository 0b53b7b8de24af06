/-
  The model's draws, their lowest step: a byte of a cursor lies from 0 to 255; the cursor stays a cursor; nothing else has turned.
-/
import Derived.Test.YtknepeleepbefaaBut
import Derived.Laws.Bits128
namespace Go.Proofs.Ytknepeleepbefaa
open Go.RowKit

theorem i64_and255 (n : Int) : bits .and .i64 n 255 = n % 256 := by
  have h255 : (BitVec.ofInt 64 255).toNat = 2 ^ 8 - 1 := by decide
  have key : (BitVec.ofInt 64 n &&& BitVec.ofInt 64 255).toNat = (n % ((2 ^ 64 : Nat) : Int)).toNat % 2 ^ 8 := by
    rw [BitVec.toNat_and, BitVec.toNat_ofInt, h255, Nat.and_two_pow_sub_one_eq_mod]
  show IntKind.i64.wrap ((BitVec.ofInt 64 n &&& BitVec.ofInt 64 255).toNat : Nat) = n % 256
  rw [key, IntKind.wrap_i64]
  omega

theorem cur_two {c : Nat} {a : Option Addr} {len cap i : Nat} {h : Int} {w : World} (h0 : w.cell? ⟨c, 0, none⟩ = some (.slice a len cap)) (h1 : w.cell? ⟨c, 1, none⟩ = some (.int .i64 (i : Int))) (h2 : w.cell? ⟨c, 2, none⟩ = some (.int .i64 h)) (hi : i ≤ len)
    (f0 : w.frozen? ⟨c, 0, none⟩ = false) (f1 : w.frozen? ⟨c, 1, none⟩ = false) (f2 : w.frozen? ⟨c, 2, none⟩ = false) (hz : c < w.heap.size) (hc : Code c a len w) (v : Int) :
    Cur c a len cap (w.setCell ⟨c, 2, none⟩ (.int .i64 v)) := by
  refine ⟨i, v, ?_, ?_, ?_, hi, ?_, ?_, ?_, by simpa [World.setCell] using hz, hc.but (Nat.le_of_lt hz) ((But.refl c w).setCur 2 _)⟩
  all_goals simp [go_sem, h0, h1, h2, f0, f1, f2]
theorem Cur.one {c : Nat} {a : Option Addr} {len cap : Nat} {w : World} (h : Cur c a len cap w) (i : Nat) (hi : i ≤ len) : Cur c a len cap (w.setCell ⟨c, 1, none⟩ (.int .i64 (i : Int))) := by
  obtain ⟨j, v, h0, h1, h2, _, f0, f1, f2, hz, hc⟩ := h
  refine ⟨i, v, ?_, ?_, ?_, hi, ?_, ?_, ?_, by simpa [World.setCell] using hz, hc.but (Nat.le_of_lt hz) ((But.refl c w).setCur 1 _)⟩
  all_goals simp [go_sem, h0, h1, h2, f0, f1, f2]
theorem Cur.drewN {c : Nat} {a : Option Addr} {len cap : Nat} {w : World} (h : Cur c a len cap w) (n : Nat) : Cur c a len cap (w.drewN n) := h

set_option maxHeartbeats 1000000 in
theorem l1Byte_any (c : Nat) (a : Option Addr) (len cap : Nat) (w : World) (hcur : Cur c a len cap w) (hlen : len ≤ maxLen) :
    Calls Try.prog 32 #[.pointer (some ⟨c, 0, none⟩)] w fun e w' => ∃ x : Int, e = .returned (.int .i64 x) ∧ 0 ≤ x ∧ x ≤ 255 ∧ But c w w' ∧ Cur c a len cap w' := by
  unfold maxLen at hlen
  obtain ⟨i, h, h0, h1, h2, hi, f0, f1, f2, hz, hcode⟩ := hcur
  by_cases hlt : i < len
  · obtain ⟨sb, off, x, rfl, hs, hx, hx0, hx1⟩ := hcode i hlt
    have hne : sb ≠ c := by omega
    have hlt' : (i : Int) < (len : Int) := by omega
    have hx' : ∀ v, (w.setCell ⟨c, 2, none⟩ v).cell? ⟨sb, off + i, none⟩ = some (.int .u8 x) := fun v => ((But.refl c w).setCur 2 v).cell sb _ (by omega) hne |>.trans hx
    go_enter Try.func32, Try.ntmps32
    go_wp2
    go_quiet (fail)
    go_wp2
    go_quiet (fail)
    go_wp2
    go_quiet (fail)
    go_wp2
    go_ret
    refine ⟨_, rfl, ?_, ?_, ((But.refl c w).setCur 2 _).drewN _ |>.setCur 1 _, ?_⟩
    · rw [i64_and255]; omega
    · rw [i64_and255]; omega
    · exact ((cur_two h0 h1 h2 hi f0 f1 f2 hz hcode _).drewN _).one (i + 1) (by omega)
  · have hlt' : ¬ (i : Int) < (len : Int) := by omega
    go_enter Try.func32, Try.ntmps32
    go_wp2
    go_quiet (fail)
    go_wp2
    go_quiet (fail)
    go_wp2
    go_ret
    refine ⟨_, rfl, ?_, ?_, (But.refl c w).setCur 2 _, ?_⟩
    · rw [i64_and255]; omega
    · rw [i64_and255]; omega
    · exact cur_two h0 h1 h2 hi f0 f1 f2 hz hcode _

set_option maxHeartbeats 1000000 in
theorem l1Below_any (c : Nat) (a : Option Addr) (len cap : Nat) (n : Int) (w : World) (hcur : Cur c a len cap w) (hlen : len ≤ maxLen) (h0 : 0 < n) (h1 : n ≤ 256) :
    Calls Try.prog 27 #[.pointer (some ⟨c, 0, none⟩), .int .i64 n] w fun e w' => ∃ x : Int, e = .returned (.int .i64 x) ∧ 0 ≤ x ∧ x < n ∧ But c w w' ∧ Cur c a len cap w' := by
  go_enter Try.func27, Try.ntmps27
  go_wp2_with fail
  refine (l1Byte_any c a len cap _ hcur hlen).mono ?_
  rintro e w1 ⟨x, rfl, hx0, hx1, hb, hc⟩
  go_wp2
  go_ret
  exact ⟨_, rfl, Int.emod_nonneg _ (by omega), Int.emod_lt_of_pos _ h0, hb, hc⟩

set_option maxHeartbeats 1000000 in
theorem l1Once_any (c : Nat) (a : Option Addr) (len cap : Nat) (n : Int) (w : World) (hcur : Cur c a len cap w) (hlen : len ≤ maxLen) (h0 : 0 < n) (h1 : n ≤ 256) :
    Calls Try.prog 28 #[.pointer (some ⟨c, 0, none⟩), .int .i64 n] w fun e w' => ∃ b : Bool, e = .returned (.bool b) ∧ But c w w' ∧ Cur c a len cap w' := by
  go_enter Try.func28, Try.ntmps28
  go_wp2_with fail
  refine (l1Below_any c a len cap n _ hcur hlen h0 h1).mono ?_
  rintro e w1 ⟨x, rfl, hx0, hx1, hb, hc⟩
  go_wp2
  go_ret
  exact ⟨_, rfl, hb, hc⟩

set_option maxHeartbeats 1000000 in
theorem l1From_any (c : Nat) (a : Option Addr) (len cap : Nat) (lo hi : Int) (w : World) (hcur : Cur c a len cap w) (hlen : len ≤ maxLen) (h0 : lo ≤ hi) (h1 : hi ≤ lo + 255) (h2 : -1000000 ≤ lo) (h3 : lo ≤ 1000000) :
    Calls Try.prog 26 #[.pointer (some ⟨c, 0, none⟩), .int .i64 lo, .int .i64 hi] w fun e w' => ∃ x : Int, e = .returned (.int .i64 x) ∧ lo ≤ x ∧ x ≤ hi ∧ But c w w' ∧ Cur c a len cap w' := by
  go_enter Try.func26, Try.ntmps26
  go_wp2_with fail
  refine (l1Below_any c a len cap (hi - lo + 1) _ hcur hlen (by omega) (by omega)).mono ?_
  rintro e w1 ⟨x, rfl, hx0, hx1, hb, hc⟩
  go_wp2
  go_ret
  exact ⟨_, rfl, by omega, by omega, hb, hc⟩

end Go.Proofs.Ytknepeleepbefaa
