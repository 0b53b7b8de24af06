/-
  Chapter 4, the program's table of forms: what lies in it, and what each of its functions tells.
-/
import Derived.Test.YtlmibonebiaocaaDoorMachO
namespace Go.Proofs.YtlmibonebiaocaaDoor
open Go.RowKit

/-- The functions of the table, form by form. -/
def layF : List Nat := [23, 23, 23, 23, 23, 23, 24, 25, 26, 23, 26, 27, 23, 28, 28, 29, 30, 30, 28, 31, 32, 33, 34, 35, 35, 27, 27, 36, 35, 37, 36, 38, 39, 28]
def tabL : List ((List UInt8 × Nat × List Nat × Option Nat) × Nat) := formL.zip layF
theorem tab_len : tabL.length = 34 := rfl
theorem tab_fst : tabL.map Prod.fst = formL := rfl
def headV (x : (List UInt8 × Nat × List Nat × Option Nat) × Nat) : ByteArray := ⟨x.1.1.toArray⟩
/-- The table lies there. -/
def TabT (w : World) (g : Nat) : Prop := g < w.heap.size ∧ ∀ k (h : k < tabL.length), w.cell? ⟨g, k * 3, none⟩ = some (.string (headV tabL[k])) ∧ w.cell? ⟨g, k * 3 + 1, none⟩ = some (.int .i64 (tabL[k].1.2.1 : Int)) ∧ w.cell? ⟨g, k * 3 + 2, none⟩ = some (.func (.func tabL[k].2) #[] #[])
theorem TabT.call {w w' : World} {g : Nat} (h : TabT w g) (hb : Below w.heap.size w w') : TabT w' g :=
  ⟨Nat.lt_of_lt_of_le h.1 hb.size, fun k hk => ⟨(hb.cell (p := ⟨g, k * 3, none⟩) h.1).trans (h.2 k hk).1, (hb.cell (p := ⟨g, k * 3 + 1, none⟩) h.1).trans (h.2 k hk).2.1, (hb.cell (p := ⟨g, k * 3 + 2, none⟩) h.1).trans (h.2 k hk).2.2⟩⟩
theorem TabT.keep {w w' : World} {g B : Nat} (h : TabT w g) (hg : g < B) (hb : Below B w w') : TabT w' g :=
  ⟨Nat.lt_of_lt_of_le h.1 hb.size, fun k hk => ⟨(hb.cell (p := ⟨g, k * 3, none⟩) hg).trans (h.2 k hk).1, (hb.cell (p := ⟨g, k * 3 + 1, none⟩) hg).trans (h.2 k hk).2.1, (hb.cell (p := ⟨g, k * 3 + 2, none⟩) hg).trans (h.2 k hk).2.2⟩⟩

end Go.Proofs.YtlmibonebiaocaaDoor
