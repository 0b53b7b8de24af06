/-
  The model: where a name stands in a list.
-/
import Derived.Test.YtefgmhlpcfmhlaaDoorFreeW
namespace Go.Proofs.YtefgmhlpcfmhlaaDoor
open Go.RowKit

theorem Lst.txt {c sb off n cap : Nat} {w : World} {X : List ByteArray} (h : Lst c w (.slice (some ⟨sb, off, none⟩) n cap) X) : Txt sb off X w := fun i hi => by
  rcases h with ⟨h, _⟩ | ⟨sb', off', cap', hv, h1, h2, h3, h4, h5⟩
  · cases h
  · injection hv with ha _ hc
    injection ha with ha
    injection ha with e1 e2 _
    subst e1 e2
    exact (h5 i hi).1

set_option maxHeartbeats 400000 in
theorem l1At_lst (c : Nat) (v : Value) (X : List ByteArray) (s : ByteArray) (w : World) (h : Lst c w v X) (hl : X.length ≤ 5000000) :
    Calls Tryd.prog 23 #[v, .string s] w fun e w' => ∃ x : Int, e = .returned (.int .i64 x) ∧ (0 ≤ x ↔ inB X s = true) ∧ w' = w := by
  rcases id h with ⟨rfl, rfl⟩ | ⟨sb, off, cap, rfl, _⟩
  · go_enter Tryd.func23, Tryd.ntmps23
    go_wp2
    refine wp_loop_rounds 1 ?_
    rw [rounds_succ]
    go_wp2
    go_ret
    exact ⟨_, rfl, by simp [inB], rfl⟩
  · refine (l1At_any sb off cap X s w h.txt hl).mono ?_
    rintro e w' ⟨x, rfl, hx, rfl⟩
    exact ⟨x, rfl, hx.trans (inB_iff X s).symm, rfl⟩

end Go.Proofs.YtefgmhlpcfmhlaaDoor
