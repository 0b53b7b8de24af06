/-
  Beside goroutines that only leave: what a step may list, and the world but for the count of draws.
-/
import Derived.Test.YtnndfgceehfiiaaBase
import Derived.Conc.CompanyMem
import Derived.Conc.Starve
import Derived.Conc.RingFork
import Derived.Conc.AppendWalk
import Derived.RowKit
import Derived.OwnWalk
namespace Go.Proofs.Ytnndfgceehfiiaa
open Go.Conc Go.RowKit

/-- A plain access of a cell in a block that is not bad. -/
def EvP (Bad : Nat → Prop) (e : Event) : Prop := ∃ (a : Addr) (x : Bool), e = ⟨.cell a, x, false⟩ ∧ ¬ Bad a.block
theorem evP {Bad : Nat → Prop} (a : Addr) (x : Bool) (h : ¬ Bad a.block) : EvP Bad ⟨.cell a, x, false⟩ := ⟨a, x, rfl, h⟩
theorem termsP (Bad : Nat → Prop) : Terms AtRel (DE (EvP Bad)) := ⟨fun _ _ _ ⟨_, h⟩ ⟨d, k⟩ => ⟨d, by subst h; subst k; rfl⟩, fun _ _ he => by simp at he⟩

theorem at_cell (X : World) (d : Nat) (a : Addr) : (X.at d).cell? a = X.cell? a := rfl
theorem at_frozen (X : World) (d : Nat) (a : Addr) : (X.at d).frozen? a = X.frozen? a := rfl
theorem at_size (X : World) (d : Nat) : (X.at d).heap.size = X.heap.size := rfl
theorem at_at (X : World) (d d' : Nat) : (X.at d).at d' = X.at d' := rfl
theorem at_alloc (X : World) (d : Nat) (o : Obj) : (X.at d).alloc o = (X.alloc o).at d := rfl
theorem at_set (X : World) (d : Nat) (a : Addr) (v : Value) : (X.at d).setCell a v = (X.setCell a v).at d := rfl

end Go.Proofs.Ytnndfgceehfiiaa
