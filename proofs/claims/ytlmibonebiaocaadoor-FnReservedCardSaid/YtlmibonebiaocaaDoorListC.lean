/-
  Lists of texts that came in: how much they hold, and a copy of them in memory of the call's own.
-/
import Derived.Test.YtlmibonebiaocaaDoorListW
import Derived.Deep.OwnRows
import Derived.Deep.QuietTactic
import Derived.BigQuiet
namespace Go.Proofs.YtlmibonebiaocaaDoor
open Go.RowKit

/-- How much room they take, each with one more. -/
def roomN (L : List ByteArray) (k : Nat) : Nat := ((L.take k).map fun s => s.size + 1).sum
theorem room_succ {L : List ByteArray} {k : Nat} (h : k < L.length) : roomN L (k + 1) = roomN L k + (L[k].size + 1) := by
  unfold roomN
  rw [List.take_succ_eq_append_getElem h, List.map_append, List.sum_append]
  simp only [List.map_cons, List.map_nil, List.sum_cons, List.sum_nil, Nat.add_zero]
theorem room_mono (L : List ByteArray) : ∀ n k, k ≤ n → n ≤ L.length → roomN L k ≤ roomN L n
  | 0, k, h, _ => by have : k = 0 := by omega
                     subst this; exact Nat.le_refl _
  | n + 1, k, h, hn => by
    by_cases e : k = n + 1
    · subst e; exact Nat.le_refl _
    · have := room_mono L n k (by omega) (by omega)
      rw [room_succ (by omega)]
      omega

/-- Texts lie in block g, one a cell, and may be written. -/
def RowT (w : World) (g : Nat) (L : List ByteArray) : Prop := g < w.heap.size ∧ ∀ i (h : i < L.length), w.cell? ⟨g, i, none⟩ = some (.string L[i]) ∧ w.frozen? ⟨g, i, none⟩ = false
theorem RowT.call {w w' : World} {g : Nat} {L : List ByteArray} (h : RowT w g L) (hb : Below w.heap.size w w') : RowT w' g L :=
  ⟨Nat.lt_of_lt_of_le h.1 hb.size, fun i hi => ⟨(hb.cell (p := ⟨g, i, none⟩) h.1).trans (h.2 i hi).1, (hb.frozen (p := ⟨g, i, none⟩) h.1).trans (h.2 i hi).2⟩⟩
theorem RowT.arg {w : World} {g : Nat} {L : List ByteArray} (h : RowT w g L) (hm : ∀ i (h : i < L.length), L[i].size ≤ maxLen) : ArgT w (some ⟨g, 0, none⟩) L :=
  fun i hi => ⟨g, 0, rfl, h.1, by rw [Nat.zero_add]; exact (h.2 i hi).1, hm i hi⟩

/-- Of a copy the first j are there. -/
def Fill (w : World) (g : Nat) (L : List ByteArray) (j : Nat) : Prop := g < w.heap.size ∧ ∀ i (h : i < L.length), (∃ x, w.cell? ⟨g, i, none⟩ = some (.string x) ∧ (i < j → x = L[i])) ∧ w.frozen? ⟨g, i, none⟩ = false
theorem fill_set {w : World} {g j : Nat} {L : List ByteArray} (h : Fill w g L j) (hj : j < L.length) : Fill (w.setCell ⟨g, j, none⟩ (.string L[j])) g L (j + 1) := by
  refine ⟨by simpa [World.setCell] using h.1, fun i hi => ⟨?_, ?_⟩⟩
  · obtain ⟨⟨x, hx, hm⟩, _⟩ := h.2 i hi
    by_cases e : i = j
    · subst e
      exact ⟨_, World.cell?_setCell_same w _ _ hx, fun _ => rfl⟩
    · refine ⟨x, (World.cell?_setCell_other w ⟨g, j, none⟩ ⟨g, i, none⟩ _ (fun hh => e (by injection hh with _ h2 _; exact h2.symm))).trans hx, fun hlt => hm (by omega)⟩
  · have := (h.2 i hi).2
    simpa [go_sem] using this
theorem fill_all {w : World} {g : Nat} {L : List ByteArray} (h : Fill w g L L.length) : RowT w g L :=
  ⟨h.1, fun i hi => by
    obtain ⟨⟨x, hx, hm⟩, hf⟩ := h.2 i hi
    rw [hm hi] at hx
    exact ⟨hx, hf⟩⟩

theorem fill_new (w : World) (L : List ByteArray) : Fill (w.alloc (.cells (madeCells #[.string ⟨#[]⟩] L.length) 9)) w.heap.size L 0 := by
  refine ⟨by simp, fun i hi => ⟨⟨⟨#[]⟩, ?_, fun h => absurd h (Nat.not_lt_zero _)⟩, ?_⟩⟩
  · have e : (madeCells #[Value.string ⟨#[]⟩] L.length)[i]? = some (.string ⟨#[]⟩) := by
      rw [← Array.getElem?_toList, toList_madeCells_one]
      simp [hi]
    have hh := heap_alloc_new w (.cells (madeCells #[Value.string ⟨#[]⟩] L.length) 9)
    simp only [World.cell?]
    rw [hh]
    exact e
  · simp [go_sem]

theorem infoT : (Tryd.prog.info? 9).map (fun i => (i.zero, i.size, i.bytes)) = some (some (.string ⟨#[]⟩), 1, 16) := by kernel_rfl

end Go.Proofs.YtlmibonebiaocaaDoor
