/-
  Which Values are numbers to the program and to its model: the same ones, at every Value.
-/
import Derived.Test.YtofcbmccfeaddaaShapes
namespace Go.Proofs.Ytofcbmccfeaddaa
open Go.RowKit
attribute [local go_sem] asNoneOfNumber asNumberOfNumber asTextOfNumber asPlaceOfNumber asWrongOfNumber

/-- Is it a right VaNumber? -/
def isN (k n : Int) (s : ByteArray) : Bool := decide (k = 1) && okV k n s

theorem shapeV_yes {k n : Int} {s : ByteArray} (h : isN k n s = true) : shapeV k n s = .iface 60 (.agg #[.int .i64 n]) := by
  simp only [isN, Bool.and_eq_true, decide_eq_true_eq] at h
  obtain ⟨rfl, h⟩ := h
  unfold shapeV
  rw [if_pos h]
  rfl
theorem shapeV_no {k n : Int} {s : ByteArray} (h : isN k n s = false) : ∃ v, shapeV k n s = .iface 64 v ∨ shapeV k n s = .iface 66 v ∨ shapeV k n s = .iface 68 v ∨ shapeV k n s = .iface 69 v := by
  unfold shapeV
  cases ho : okV k n s
  · exact ⟨_, .inr (.inr (.inr rfl))⟩
  · simp [isN, ho] at h
    rw [if_pos rfl]
    unfold kindV
    by_cases h0 : k = 0
    · rw [if_pos h0]; exact ⟨_, .inl rfl⟩
    rw [if_neg h0, if_neg h]
    by_cases h2 : k = 2
    · rw [if_pos h2]; exact ⟨_, .inr (.inl rfl)⟩
    rw [if_neg h2]
    by_cases h3 : 3 ≤ k ∧ k ≤ 5
    · rw [if_pos h3]; exact ⟨_, .inr (.inr (.inl rfl))⟩
    · rw [if_neg h3]; exact ⟨_, .inr (.inr (.inr rfl))⟩

set_option maxHeartbeats 400000 in
theorem numberOf_yes (k n : Int) (s : ByteArray) (w : World) (hs : s.size ≤ maxLen) (h : isN k n s = true) :
    Calls Try.prog 37 #[.agg #[.int .i64 k, .int .i64 n, .string s]] w fun e w' =>
      e = .returned (.tuple #[.int .i64 n, .bool true]) ∧ Below w.heap.size w w' := by
  have HS : Hid (shapeV k n s = .iface 60 (.agg #[.int .i64 n])) := shapeV_yes h
  clear h
  go_enter Try.func37, Try.ntmps37
  go_wp2_with fail
  refine (shapeOf_any k n s _ hs).mono ?_
  rintro e w' ⟨rfl, hb⟩
  rw [HS.out]
  go_wp2
  go_ret2
  exact ⟨rfl, (by repeat' (first | (with_reducible exact Below.refl _ _) | (with_reducible refine Below.drew ?_) | (with_reducible refine balloc ?_ _) | (with_reducible refine bset ?_ _ ?_) | (with_reducible refine bstep ?_ (by with_reducible assumption)) | go_size))⟩

set_option maxHeartbeats 400000 in
theorem numberOf_no (k n : Int) (s : ByteArray) (w : World) (hs : s.size ≤ maxLen) (h : isN k n s = false) :
    Calls Try.prog 37 #[.agg #[.int .i64 k, .int .i64 n, .string s]] w fun e w' =>
      e = .returned (.tuple #[.int .i64 0, .bool false]) ∧ Below w.heap.size w w' := by
  obtain ⟨v, hv⟩ := shapeV_no h
  clear h
  rcases hv with hv | hv | hv | hv
  all_goals
    have HS : Hid (shapeV k n s = _) := hv
    clear hv
    go_enter Try.func37, Try.ntmps37
    go_wp2_with fail
    refine (shapeOf_any k n s _ hs).mono ?_
    rintro e w' ⟨rfl, hb⟩
    rw [HS.out]
    go_wp2
    go_ret2
    exact ⟨rfl, (by repeat' (first | (with_reducible exact Below.refl _ _) | (with_reducible refine Below.drew ?_) | (with_reducible refine balloc ?_ _) | (with_reducible refine bset ?_ _ ?_) | (with_reducible refine bstep ?_ (by with_reducible assumption)) | go_size))⟩

/-- impl.ValueOk. -/
theorem shapeOk_any (k n : Int) (s : ByteArray) (w : World) (hs : s.size ≤ maxLen) :
    Calls Try.prog 40 #[shapeV k n s] w fun e w' => e = .returned (.bool (okV k n s)) ∧ Below w.heap.size w w' := by
  unfold shapeV
  cases ho : okV k n s
  · exact shapeOk_wrong w
  rw [if_pos rfl]
  have H := ho
  unfold okV at ho
  unfold kindV
  by_cases h0 : k = 0
  · rw [if_pos h0]; exact shapeOk_none w
  rw [if_neg h0] at ho ⊢
  by_cases h1 : k = 1
  · rw [if_pos h1] at ho ⊢
    simp only [Bool.and_eq_true] at ho
    rw [← ho.1]; exact shapeOk_number n w
  rw [if_neg h1] at ho ⊢
  by_cases h2 : k = 2
  · rw [if_pos h2] at ho ⊢
    simp only [Bool.and_eq_true] at ho
    rw [← ho.1]; exact shapeOk_text s w hs
  rw [if_neg h2] at ho ⊢
  by_cases h3 : 3 ≤ k ∧ k ≤ 5
  · rw [if_pos h3] at ho ⊢
    simp only [Bool.and_eq_true] at ho
    rw [← ho.1]; exact shapeOk_place k n w
  rw [if_neg h3] at ho
  exact absurd ho (by decide)

set_option maxHeartbeats 400000 in
theorem valueOk_any (k n : Int) (s : ByteArray) (w : World) (hs : s.size ≤ maxLen) :
    Calls Try.prog 20 #[.agg #[.int .i64 k, .int .i64 n, .string s]] w fun e w' =>
      e = .returned (.bool (okV k n s)) ∧ Below w.heap.size w w' := by
  go_enter Try.func20, Try.ntmps20
  go_wp2_with fail
  refine (shapeOf_any k n s _ hs).mono ?_
  rintro e w' ⟨rfl, hb⟩
  go_wp2_with fail
  refine (shapeOk_any k n s _ hs).mono ?_
  rintro e w2 ⟨rfl, hb2⟩
  go_wp2
  go_ret
  exact ⟨rfl, (by repeat' (first | (with_reducible exact Below.refl _ _) | (with_reducible refine Below.drew ?_) | (with_reducible refine balloc ?_ _) | (with_reducible refine bset ?_ _ ?_) | (with_reducible refine bstep ?_ (by with_reducible assumption)) | go_size))⟩

set_option maxHeartbeats 400000 in
theorem l1IsNumber_any (k n : Int) (s : ByteArray) (w : World) (hs : s.size ≤ maxLen) :
    Calls Try.prog 38 #[.agg #[.int .i64 k, .int .i64 n, .string s]] w fun e w' =>
      e = .returned (.bool (isN k n s)) ∧ Below w.heap.size w w' := by
  by_cases h1 : k = 1
  · subst h1
    have HS : Hid (isN 1 n s = okV 1 n s) := by simp [Hid, isN]
    go_enter Try.func38, Try.ntmps38
    go_wp2_with fail
    refine (specOk_any 1 n s _ hs).mono ?_
    rintro e w' ⟨rfl, hb⟩
    go_wp2
    go_ret
    exact ⟨by rw [HS.out]; rfl, (by repeat' (first | (with_reducible exact Below.refl _ _) | (with_reducible refine Below.drew ?_) | (with_reducible refine balloc ?_ _) | (with_reducible refine bset ?_ _ ?_) | (with_reducible refine bstep ?_ (by with_reducible assumption)) | go_size))⟩
  · have HS : Hid (isN k n s = false) := by simp [Hid, isN, h1]
    go_enter Try.func38, Try.ntmps38
    go_wp2
    go_ret
    exact ⟨by rw [HS.out]; rfl, (by repeat' (first | (with_reducible exact Below.refl _ _) | (with_reducible refine Below.drew ?_) | (with_reducible refine balloc ?_ _) | (with_reducible refine bset ?_ _ ?_) | (with_reducible refine bstep ?_ (by with_reducible assumption)) | go_size))⟩

end Go.Proofs.Ytofcbmccfeaddaa
