/-
  A scope with five labels, some of which the run falls into from the code ahead of them: to fall into a label is as to jump to it.
-/
import Derived.Test.YtmlopiphcnhcpaaGoto
namespace Go.Proofs.Ytmlopiphcnhcpaa
open Go.RowKit

theorem jumps_mono {J J' : Nat → Act → World → Prop} {Q : Exit → Act → World → Prop} (h : ∀ l a w, J l a w → J' l a w) : ∀ e a w, jumps J Q e a w → jumps J' Q e a w := fun e a w hq => by
  cases e with
  | goto l => exact h l a w hq
  | normal => exact hq
  | exit id => exact hq
  | ret => exact hq
  | panic ch => exact hq
  | outgrown => exact hq

/-- What a run that falls into a label may lean on: at a lower measure. -/
def Falls (P : Program) (r : Code) (J : Nat → Act → World → Prop) (μ : Nat → Act → World → Nat) (Q : Exit → Act → World → Prop) (j n : Nat) : Prop :=
  ∀ a w, J j a w → μ j a w < n → r.wp P (jumps (fun l a' w' => J l a' w' ∧ μ l a' w' < n) Q) a w

theorem wp_skip_seq {P : Program} {c : Code} {Q : Exit → Act → World → Prop} {a : Act} {w : World} (h : c.wp P Q a w) : (Code.skip.seq c).wp P Q a w := by
  apply wp_seq
  apply wp_skip
  exact h

theorem wp_scope_fall {P : Program} {a : Act} {w : World} {Q : Exit → Act → World → Prop} {c r0 r1 r2 r3 r4 : Code} (J : Nat → Act → World → Prop) (μ : Nat → Act → World → Nat)
    (h0 : findLabel c 0 = some (Code.skip.seq r0)) (h1 : findLabel c 1 = some (Code.skip.seq r1)) (h2 : findLabel c 2 = some (Code.skip.seq r2)) (h3 : findLabel c 3 = some (Code.skip.seq r3)) (h4 : findLabel c 4 = some (Code.skip.seq r4)) (hn : ∀ l a w, J (l + 5) a w → False)
    (first : (∀ a w, J 0 a w → r0.wp P (jumps J Q) a w) → c.wp P (jumps J Q) a w)
    (p0 : ∀ a w, J 0 a w → Falls P r3 J μ Q 3 (μ 0 a w) → r0.wp P (jumps (fun l' a' w' => J l' a' w' ∧ μ l' a' w' < μ 0 a w) Q) a w)
    (p1 : ∀ a w, J 1 a w → Falls P r4 J μ Q 4 (μ 1 a w) → r1.wp P (jumps (fun l' a' w' => J l' a' w' ∧ μ l' a' w' < μ 1 a w) Q) a w)
    (p2 : ∀ a w, J 2 a w → Falls P r1 J μ Q 1 (μ 2 a w) → r2.wp P (jumps (fun l' a' w' => J l' a' w' ∧ μ l' a' w' < μ 2 a w) Q) a w)
    (p3 : ∀ a w, J 3 a w → r3.wp P (jumps (fun l' a' w' => J l' a' w' ∧ μ l' a' w' < μ 3 a w) Q) a w)
    (p4 : ∀ a w, J 4 a w → r4.wp P (jumps (fun l' a' w' => J l' a' w' ∧ μ l' a' w' < μ 4 a w) Q) a w) : (Code.scope c).wp P Q a w := by
  have f3 : ∀ n, Falls P r3 J μ Q 3 n := fun n a w hJ hl => wp_mono (p3 a w hJ) (jumps_mono fun l a' w' h => ⟨h.1, by omega⟩)
  have f4 : ∀ n, Falls P r4 J μ Q 4 n := fun n a w hJ hl => wp_mono (p4 a w hJ) (jumps_mono fun l a' w' h => ⟨h.1, by omega⟩)
  have q1 := fun a w hJ => p1 a w hJ (f4 _)
  have f1 : ∀ n, Falls P r1 J μ Q 1 n := fun n a w hJ hl => wp_mono (q1 a w hJ) (jumps_mono fun l a' w' h => ⟨h.1, by omega⟩)
  have q0 := fun a w hJ => p0 a w hJ (f3 _)
  have q2 := fun a w hJ => p2 a w hJ (f1 _)
  exact wp_scope_five J μ h0 h1 h2 h3 h4 hn (first fun a w hJ => wp_mono (q0 a w hJ) (jumps_mono fun l a' w' h => h.1)) (fun a w h => wp_skip_seq (q0 a w h)) (fun a w h => wp_skip_seq (q1 a w h)) (fun a w h => wp_skip_seq (q2 a w h)) (fun a w h => wp_skip_seq (p3 a w h)) (fun a w h => wp_skip_seq (p4 a w h))
end Go.Proofs.Ytmlopiphcnhcpaa
