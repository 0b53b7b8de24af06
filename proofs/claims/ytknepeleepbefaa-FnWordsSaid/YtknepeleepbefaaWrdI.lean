/-
  Chapter 10: no two that say or end otherwise have the same words, where what is said has neither blanks nor strokes.
-/
import Derived.Test.YtknepeleepbefaaWrdW
import Derived.Test.YtknepeleepbefaaDrwS
namespace Go.Proofs.Ytknepeleepbefaa
open Go.RowKit

/-- Two lists that part at the first x. -/
theorem split_at {x : UInt8} : ∀ (A B C D : List UInt8), x ∉ A → x ∉ B → A ++ x :: C = B ++ x :: D → A = B ∧ C = D
  | [], [], C, D, _, _, h => ⟨rfl, by simpa using h⟩
  | [], b :: B, C, D, _, hB, h => by
    simp at h
    exact absurd (List.mem_cons.2 (.inl h.1)) hB
  | a :: A, [], C, D, hA, _, h => by
    simp at h
    exact absurd (List.mem_cons.2 (.inl h.1.symm)) hA
  | a :: A, b :: B, C, D, hA, hB, h => by
    simp at h hA hB
    obtain ⟨rfl, h⟩ := h
    obtain ⟨e, h2⟩ := split_at A B C D hA.2 hB.2 h
    exact ⟨by rw [e], h2⟩

theorem tail_cons (y : List UInt8) (r : List (List UInt8)) : Lib.joinTail [47] (y :: r) = 47 :: (y ++ Lib.joinTail [47] r) := by simp [Lib.joinTail]
theorem tail_inj : ∀ (r r' : List (List UInt8)) (x x' : List UInt8), 47 ∉ x → 47 ∉ x' → (∀ y ∈ r, 47 ∉ y) → (∀ y ∈ r', 47 ∉ y) → x ++ Lib.joinTail [47] r = x' ++ Lib.joinTail [47] r' → x = x' ∧ r = r'
  | [], [], x, x', _, _, _, _, h => ⟨by simpa [Lib.joinTail] using h, rfl⟩
  | [], y :: r', x, x', hx, _, _, _, h => by
    rw [tail_cons] at h
    simp [Lib.joinTail] at h
    rw [h] at hx
    simp at hx
  | y :: r, [], x, x', _, hx', _, _, h => by
    rw [tail_cons] at h
    simp [Lib.joinTail] at h
    rw [← h] at hx'
    simp at hx'
  | y :: r, y' :: r', x, x', hx, hx', hr, hr', h => by
    rw [tail_cons, tail_cons] at h
    obtain ⟨e, h2⟩ := split_at _ _ _ _ hx hx' h
    obtain ⟨e2, h3⟩ := tail_inj r r' y y' (hr y (by simp)) (hr' y' (by simp)) (fun z hz => hr z (by simp [hz])) (fun z hz => hr' z (by simp [hz])) h2
    exact ⟨e, by rw [e2, h3]⟩
theorem bytes_inj {s t : ByteArray} (h : s.data.toList = t.data.toList) : s = t := by
  cases s; cases t
  simpa using h
theorem map_inj : ∀ (L M : List ByteArray), L.map (·.data.toList) = M.map (·.data.toList) → L = M
  | [], [], _ => rfl
  | [], _ :: _, h => by simp at h
  | _ :: _, [], h => by simp at h
  | x :: L, y :: M, h => by
    simp only [List.map_cons, List.cons.injEq] at h
    rw [bytes_inj h.1, map_inj L M h.2]

/-- A text that says neither a blank nor a stroke. -/
def plainT (t : ByteArray) : Prop := 47 ∉ t.data.toList ∧ 32 ∉ t.data.toList
theorem four_plain {t : ByteArray} (h : t ∈ fourL) : plainT t := by
  simp only [fourL, List.mem_cons, List.not_mem_nil, or_false] at h
  unfold plainT
  rcases h with rfl | rfl | rfl | rfl <;> decide
theorem four_size {t : ByteArray} (h : t ∈ fourL) : t.size ≤ 1 := by
  simp only [fourL, List.mem_cons, List.not_mem_nil, or_false] at h
  rcases h with rfl | rfl | rfl | rfl <;> decide
theorem tail_no (r : List (List UInt8)) (h : ∀ y ∈ r, (32 : UInt8) ∉ y) : (32 : UInt8) ∉ Lib.joinTail [47] r := by
  induction r with
  | nil => simp [Lib.joinTail]
  | cons y r ih =>
    rw [tail_cons]
    simp only [List.mem_cons, List.mem_append, not_or]
    exact ⟨by decide, h y (by simp), ih fun z hz => h z (by simp [hz])⟩

theorem end_inj {f g : Int} (hf : 0 ≤ f ∧ f ≤ 5) (hg : 0 ≤ g ∧ g ≤ 5) (h : (endT f).data.toList = (endT g).data.toList) : f = g := by
  obtain rfl | rfl | rfl | rfl | rfl | rfl : f = 0 ∨ f = 1 ∨ f = 2 ∨ f = 3 ∨ f = 4 ∨ f = 5 := by omega
  all_goals
    obtain rfl | rfl | rfl | rfl | rfl | rfl : g = 0 ∨ g = 1 ∨ g = 2 ∨ g = 3 ∨ g = 4 ∨ g = 5 := by omega
    all_goals first
      | rfl
      | (exfalso; revert h; decide +kernel)
theorem end_no {f : Int} (hf : 0 ≤ f ∧ f ≤ 5) : (32 : UInt8) ∉ (endT f).data.toList := by
  obtain rfl | rfl | rfl | rfl | rfl | rfl : f = 0 ∨ f = 1 ∨ f = 2 ∨ f = 3 ∨ f = 4 ∨ f = 5 := by omega
  all_goals decide +kernel
theorem wb_bytes (x : ByteArray) (r : List ByteArray) : (wbT (x :: r) (x :: r).length).data.toList = x.data.toList ++ Lib.joinTail [47] (r.map (·.data.toList)) := by
  have h := wb_join x r r.length (Nat.le_refl _)
  rw [List.take_of_length_le (by simp)] at h
  exact h
theorem wb_no (x : ByteArray) (r : List ByteArray) (h : ∀ y ∈ x :: r, plainT y) : (32 : UInt8) ∉ (wbT (x :: r) (x :: r).length).data.toList := by
  rw [wb_bytes, List.mem_append, not_or]
  refine ⟨(h x (by simp)).2, tail_no _ fun y hy => ?_⟩
  obtain ⟨z, hz, rfl⟩ := List.mem_map.1 hy
  exact (h z (by simp [hz])).2
/-- The words tell the texts and the fault. -/
theorem word_inj {L M : List ByteArray} {f g : Int} (hf : 0 ≤ f ∧ f ≤ 5) (hg : 0 ≤ g ∧ g ≤ 5) (hL : ∀ x ∈ L, plainT x) (hM : ∀ x ∈ M, plainT x) (h : wordT L f = wordT M g) : L = M ∧ f = g := by
  have hb := congrArg (fun b : ByteArray => b.data.toList) h
  cases L with
  | nil =>
    cases M with
    | nil =>
      rw [word_end hf rfl, word_end hg rfl] at hb
      exact ⟨rfl, end_inj hf hg hb⟩
    | cons y M =>
      rw [word_end hf rfl, word_said hg (by simp)] at hb
      exfalso
      have := end_no hf
      rw [hb] at this
      simp [ByteArray.data_append] at this
  | cons x L =>
    cases M with
    | nil =>
      rw [word_said hf (by simp), word_end hg rfl] at hb
      exfalso
      have := end_no hg
      rw [← hb] at this
      simp [ByteArray.data_append] at this
    | cons y M =>
      rw [word_said hf (by simp), word_said hg (by simp)] at hb
      simp only [ByteArray.data_append, Array.toList_append, List.append_assoc] at hb
      obtain ⟨e1, e2⟩ := split_at _ _ _ _ (wb_no x L hL) (wb_no y M hM) hb
      rw [wb_bytes, wb_bytes] at e1
      obtain ⟨e3, e4⟩ := tail_inj _ _ _ _ (hL x (by simp)).1 (hM y (by simp)).1 (fun z hz => by
        obtain ⟨z', hz', rfl⟩ := List.mem_map.1 hz
        exact (hL z' (by simp [hz'])).1) (fun z hz => by
        obtain ⟨z', hz', rfl⟩ := List.mem_map.1 hz
        exact (hM z' (by simp [hz'])).1) e1
      exact ⟨by rw [bytes_inj e3, map_inj _ _ e4], end_inj hf hg e2⟩
/-- .. and are empty of another fault alone. -/
theorem word_empty (L : List ByteArray) {f : Int} (hf : 0 ≤ f ∧ f ≤ 5) : (wordT L f).toList.isEmpty = false := by
  have hs : (wordT L f).size ≠ 0 := by
    have he : (endT f).size ≠ 0 := by
      obtain rfl | rfl | rfl | rfl | rfl | rfl : f = 0 ∨ f = 1 ∨ f = 2 ∨ f = 3 ∨ f = 4 ∨ f = 5 := by omega
      all_goals decide
    by_cases h0 : L.length = 0
    · rw [word_end hf h0]; exact he
    · rw [word_said hf h0, ByteArray.size_append]; omega
  rw [← decide_eq_emptyBytes]
  exact decide_eq_false fun h => hs (by rw [h]; rfl)

theorem txt_ne {a b : ByteArray} (h : a ≠ b) : (a.toList == b.toList) = false := by
  rw [ByteArray.toList_eq, ByteArray.toList_eq, beq_eq_false_iff_ne]
  exact fun e => h (bytes_inj e)

end Go.Proofs.Ytknepeleepbefaa
