/-
  Chapter 9, the laws: two envs that are the same.
-/
import Derived.Test.YtcmjmoikalfdkaaEnvL
import Derived.Deep.RegionHeld3
import Derived.Deep.Cut
namespace Go.Proofs.Ytcmjmoikalfdkaa
open Go.RowKit

set_option maxHeartbeats 1000000 in
theorem eqBd_same (x : Bd) (w : World) :
    Calls Try.prog 147 #[.agg #[.string x.n, .bool x.s, .int .i64 x.a], .agg #[.string x.n, .bool x.s, .int .i64 x.a]] w fun e w' => e = .returned (.bool true) ∧ Below w.heap.size w w' := by
  obtain ⟨n, s, a⟩ := x
  simp only
  go_enter Try.func147, Try.ntmps147
  go_wp2
  go_ret
  exact ⟨rfl, balloc (balloc (Below.refl _ _) _) _⟩

/-- What a look at two of them needs. -/
def EqBind (w0 : World) (sb o sb' o' : Nat) (t : Bd) (x : World) : Prop := BdAt x sb o t ∧ BdAt x sb' o' t ∧ Below w0.heap.size w0 x
theorem EqBind.drew {w0 W : World} {sb o sb' o' : Nat} {t : Bd} (h : EqBind w0 sb o sb' o' t W) : EqBind w0 sb o sb' o' t W.drew := ⟨h.1, h.2.1, h.2.2.drew⟩
theorem EqBind.call {w0 W W' : World} {sb o sb' o' : Nat} {t : Bd} (h : EqBind w0 sb o sb' o' t W) (hs : sb < W.heap.size) (hs' : sb' < W.heap.size) (hb : Below W.heap.size W W') : EqBind w0 sb o sb' o' t W' := ⟨bd_stays _ _ _ _ _ hb hs h.1, bd_stays _ _ _ _ _ hb hs' h.2.1, bstep h.2.2 hb⟩

set_option maxHeartbeats 2000000 in
theorem eqBindS_same (a a' : Option Addr) (cap cap' : Nat) (X : List Bd) (w : World) (h : RowA BdAt 3 w a X) (h' : RowA BdAt 3 w a' X) (hL : X.length ≤ 2097152) :
    Calls Try.prog 78 #[.slice a X.length cap, .slice a' X.length cap'] w fun e w' => e = .returned (.bool true) ∧ Below w.heap.size w w' := by
  go_enter Try.func78, Try.ntmps78
  go_wp2
  go_loopw [5] (fun i wr => ∃ k : Nat, k ≤ X.length ∧ i = .int .i64 (k : Int) ∧ Below w.heap.size w wr) (fun i _ => X.length - (intOf i).toNat)
  case atStart => exact ⟨0, Nat.zero_le _, rfl, Below.refl _ _⟩
  case round =>
    obtain ⟨k, hk, rfl, hB⟩ := hrel
    by_cases hlt : k < X.length
    · obtain ⟨sb, off, rfl, hs, hat⟩ := h k hlt
      obtain ⟨sb', off', rfl, hs', hat2⟩ := h' k hlt
      have hT : EqBind w sb (off + k * 3) sb' (off' + k * 3) X[k] wr := ⟨bd_stays w wr sb _ _ hB hs hat, bd_stays w wr sb' _ _ hB hs' hat2, hB⟩
      have hz : sb < wr.heap.size ∧ sb' < wr.heap.size := ⟨Nat.lt_of_lt_of_le hs hB.size, Nat.lt_of_lt_of_le hs' hB.size⟩
      clear hat hat2
      generalize X[k] = t at hT
      have j0 : (0 : Int) ≤ (k : Int) := by omega
      have j2 : (k : Int) < (X.length : Int) := by omega
      go_upto_region 6 with fail
      go_region_held3 (fun x => (x.cell? ⟨sb, off + k * 3, none⟩ = some (.string t.n) ∧ x.cell? ⟨sb, off + k * 3 + 1, none⟩ = some (.bool t.s) ∧ x.cell? ⟨sb, off + k * 3 + 2, none⟩ = some (.int .i64 t.a)) ∧ (x.cell? ⟨sb', off' + k * 3, none⟩ = some (.string t.n) ∧ x.cell? ⟨sb', off' + k * 3 + 1, none⟩ = some (.bool t.s) ∧ x.cell? ⟨sb', off' + k * 3 + 2, none⟩ = some (.int .i64 t.a)) ∧ Below w.heap.size w x)
        ((show EqBind w sb (off + k * 3) sb' (off' + k * 3) t _; first | (with_reducible exact hT3) | (with_reducible exact hT.drew)))
        (first
          | (go_at_call 147; refine (eqBd_same t _).mono ?_; rintro e w3 ⟨rfl, hb3⟩; have hT3 := hT.drew.call hz.1 hz.2 hb3; clear hb3))
      all_goals go_wp2
      all_goals exact ⟨⟨k + 1, by omega, by go_num, hT3.2.2⟩, by simp [intOf]; omega⟩
    · go_wp2
      go_ret
      exact ⟨rfl, hB⟩

end Go.Proofs.Ytcmjmoikalfdkaa
