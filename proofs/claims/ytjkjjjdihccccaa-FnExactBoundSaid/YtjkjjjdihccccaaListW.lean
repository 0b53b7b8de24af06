/-
  Lists of texts that came in: their sum of sizes, and whether each is a sign.
-/
import Derived.Test.YtjkjjjdihccccaaSignK
namespace Go.Proofs.Ytjkjjjdihccccaa
open Go.RowKit

/-- Texts that lie behind one another at an address. -/
def ArgT (w : World) (a : Option Addr) (L : List ByteArray) : Prop := ∀ i (h : i < L.length), ∃ sb off, a = some ⟨sb, off, none⟩ ∧ sb < w.heap.size ∧ w.cell? ⟨sb, off + i, none⟩ = some (.string L[i]) ∧ L[i].size ≤ maxLen
theorem ArgT.call {w w' : World} {a : Option Addr} {L : List ByteArray} (h : ArgT w a L) (hb : Below w.heap.size w w') : ArgT w' a L := fun i hi => by
  obtain ⟨sb, off, ha, hs, hc, hm⟩ := h i hi
  exact ⟨sb, off, ha, Nat.lt_of_lt_of_le hs hb.size, (hb.cell (p := ⟨sb, off + i, none⟩) hs).trans hc, hm⟩

/-- Is each of them a sign? -/
def signsB (L : List ByteArray) : Bool := L.all signB
theorem signs_no {L : List ByteArray} {k : Nat} (h : k < L.length) (hb : signB L[k] = false) : signsB L = false := by
  unfold signsB
  rw [List.all_eq_false]
  exact ⟨L[k], List.getElem_mem h, by simp [hb]⟩
theorem signs_yes {L : List ByteArray} (h : ∀ k (h : k < L.length), signB L[k] = true) : signsB L = true := by
  unfold signsB
  rw [List.all_eq_true]
  intro x hx
  obtain ⟨i, hi, rfl⟩ := List.getElem_of_mem hx
  exact h i hi

end Go.Proofs.Ytjkjjjdihccccaa
