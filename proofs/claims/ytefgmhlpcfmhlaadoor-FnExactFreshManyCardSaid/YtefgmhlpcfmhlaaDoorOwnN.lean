/-
  A list of texts in memory of the call's own.
-/
import Derived.Test.YtefgmhlpcfmhlaaDoorMarkW
namespace Go.Proofs.YtefgmhlpcfmhlaaDoor
open Go.RowKit

/-- A list of texts in memory of the call's own, and not nil. -/
def OwnN (w : World) (B : Nat) (v : Value) (L : List ByteArray) : Prop := OwnT w B v L ∧ v ≠ .slice none 0 0
theorem OwnN.call {w w' : World} {B : Nat} {v : Value} {L : List ByteArray} (h : OwnN w B v L) (hb : Below w.heap.size w w') : OwnN w' B v L := ⟨h.1.call hb, h.2⟩
theorem OwnN.shape {w : World} {B : Nat} {v : Value} {L : List ByteArray} (h : OwnN w B v L) : ∃ g cap, v = .slice (some ⟨g, 0, none⟩) L.length cap := by
  rcases h.1.2 with ⟨hv, _⟩ | ⟨g, cap, cur, hv, _⟩
  · exact absurd hv h.2
  · exact ⟨g, cap, hv⟩
theorem ownN_new (w : World) (B : Nat) (h : B ≤ w.heap.size) : OwnN (w.alloc (.cells #[] 9)) B (.slice (some ⟨w.heap.size, 0, none⟩) 0 0) [] := ⟨ownT_new w B h, fun h => by cases h⟩
/-- Its texts, cell by cell. -/
theorem OwnN.cells {w : World} {B g n cap : Nat} {L : List ByteArray} (h : OwnN w B (.slice (some ⟨g, 0, none⟩) n cap) L) : ∀ j u, (L.map Value.string)[j]? = some u → w.cell? ((⟨g, 0, none⟩ : Addr).add j) = some u := fun j u hu => World.ownsRow.cells (w := w) h.1 (g := g) rfl j u hu

theorem ownT_mono {w : World} {B B' : Nat} {v : Value} {L : List ByteArray} (h : OwnT w B v L) (hb : B' ≤ B) : OwnT w B' v L := by
  refine ⟨h.1, ?_⟩
  rcases h.2 with hn | ⟨g, cap, cur, rfl, hB, rest⟩
  · exact .inl hn
  · exact .inr ⟨g, cap, cur, rfl, Nat.le_trans hb hB, rest⟩

/-- Texts in memory of the call's own, not nil. -/
def OwnG (w : World) (B : Nat) (g n cp : Nat) (X : List ByteArray) : Prop := w.ownsRow B 9 1 (.slice (some ⟨g, 0, none⟩) n cp) n (X.map Value.string)

theorem OwnG.row {w : World} {B g n cp : Nat} {X : List ByteArray} (h : OwnG w B g n cp X) : RowT w g X ∧ B ≤ g := by
  have hl := World.ownsRow.lt h g rfl
  refine ⟨⟨hl.2, fun i hi => ⟨?_, World.ownsRow.frozenAt h i⟩⟩, hl.1⟩
  have hc := World.ownsRow.cells h (g := g) rfl i (.string X[i]) (by simp [hi])
  have hadd : (⟨g, 0, none⟩ : Addr).add i = ⟨g, i, none⟩ := by unfold Addr.add; split <;> simp_all
  rwa [hadd] at hc
theorem OwnN.own {w : World} {B : Nat} {v : Value} {X : List ByteArray} (h : OwnN w B v X) : ∃ g cp, v = .slice (some ⟨g, 0, none⟩) X.length cp ∧ OwnG w B g X.length cp X := by
  obtain ⟨g, cp, rfl⟩ := h.shape
  exact ⟨g, cp, rfl, h.1⟩
theorem isT_row {w : World} {g cp : Nat} {X : List ByteArray} (h : RowT w g X) : IsT w 0 (.slice (some ⟨g, 0, none⟩) X.length cp) X := by
  by_cases hX : X = []
  · left
    subst hX
    exact ⟨rfl, _, _, rfl⟩
  · exact Or.inr ⟨hX, g, cp, rfl, Nat.zero_le _, h⟩

end Go.Proofs.YtefgmhlpcfmhlaaDoor
