/-
  Which Values are numbers to the program and to its model: the same ones, at every Value.
-/
import Derived.Test.YtlmibonebiaocaaDoorShapes
namespace Go.Proofs.YtlmibonebiaocaaDoor
open Go.RowKit
attribute [local go_sem] asNoneOfNumber asNumberOfNumber asTextOfNumber asPlaceOfNumber asWrongOfNumber

/-- Is it a right VaNumber? -/
def isN (k n : Int) (s : ByteArray) : Bool := decide (k = 1) && okV k n s

theorem shapeV_yes {k n : Int} {s : ByteArray} (h : isN k n s = true) : shapeV k n s = .iface 74 (.agg #[.int .i64 n]) := by
  simp only [isN, Bool.and_eq_true, decide_eq_true_eq] at h
  obtain ⟨rfl, h⟩ := h
  unfold shapeV
  rw [if_pos h]
  rfl
theorem shapeV_no {k n : Int} {s : ByteArray} (h : isN k n s = false) : ∃ v, shapeV k n s = .iface 72 v ∨ shapeV k n s = .iface 77 v ∨ shapeV k n s = .iface 87 v ∨ shapeV k n s = .iface 81 v := by
  unfold shapeV
  cases ho : okV k n s
  · exact ⟨_, .inr (.inr (.inr rfl))⟩
  · simp [isN, ho] at h
    rw [if_pos rfl]
    unfold kindV
    by_cases h0 : k = 0
    · rw [if_pos h0]; exact ⟨_, .inl rfl⟩
    rw [if_neg h0, if_neg h]
    by_cases h2 : k = 2
    · rw [if_pos h2]; exact ⟨_, .inr (.inl rfl)⟩
    rw [if_neg h2]
    by_cases h3 : 3 ≤ k ∧ k ≤ 5
    · rw [if_pos h3]; exact ⟨_, .inr (.inr (.inl rfl))⟩
    · rw [if_neg h3]; exact ⟨_, .inr (.inr (.inr rfl))⟩

/-- impl.ValueOk. -/
theorem shapeOk_any (k n : Int) (s : ByteArray) (w : World) (hs : s.size ≤ maxLen) :
    Calls Tryd.prog 61 #[shapeV k n s] w fun e w' => e = .returned (.bool (okV k n s)) ∧ Below w.heap.size w w' := by
  unfold shapeV
  cases ho : okV k n s
  · exact shapeOk_wrong w
  rw [if_pos rfl]
  have H := ho
  unfold okV at ho
  unfold kindV
  by_cases h0 : k = 0
  · rw [if_pos h0]; exact shapeOk_none w
  rw [if_neg h0] at ho ⊢
  by_cases h1 : k = 1
  · rw [if_pos h1] at ho ⊢
    simp only [Bool.and_eq_true] at ho
    rw [← ho.1]; exact shapeOk_number n w
  rw [if_neg h1] at ho ⊢
  by_cases h2 : k = 2
  · rw [if_pos h2] at ho ⊢
    simp only [Bool.and_eq_true] at ho
    rw [← ho.1]; exact shapeOk_text s w hs
  rw [if_neg h2] at ho ⊢
  by_cases h3 : 3 ≤ k ∧ k ≤ 5
  · rw [if_pos h3] at ho ⊢
    simp only [Bool.and_eq_true] at ho
    rw [← ho.1]; exact shapeOk_place k n w
  rw [if_neg h3] at ho
  exact absurd ho (by decide)

end Go.Proofs.YtlmibonebiaocaaDoor
