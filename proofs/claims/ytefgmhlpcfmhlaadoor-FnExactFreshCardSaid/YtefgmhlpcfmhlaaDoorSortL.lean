/-
  Names in their order, each once: such a list is told by what is in it.
-/
import Derived.Test.YtefgmhlpcfmhlaaDoorPutL
namespace Go.Proofs.YtefgmhlpcfmhlaaDoor
open Go.RowKit

theorem bl_irrefl : ∀ x : List UInt8, Op.bytesLess x x = false
  | [] => rfl
  | a :: x => by simp [Op.bytesLess, bl_irrefl x]
theorem bl_trans : ∀ x y z : List UInt8, Op.bytesLess x y = true → Op.bytesLess y z = true → Op.bytesLess x z = true
  | _, [], _, h, _ => by simp [Op.bytesLess] at h
  | _, _ :: _, [], _, h => by simp [Op.bytesLess] at h
  | [], _ :: _, _ :: _, _, _ => rfl
  | a :: x, b :: y, c :: z, h, k => by
    simp only [Op.bytesLess, Bool.or_eq_true, Bool.and_eq_true, decide_eq_true_eq, beq_iff_eq] at h k ⊢
    rcases h with h | ⟨rfl, h⟩
    · rcases k with k | ⟨rfl, _⟩
      · exact Or.inl (UInt8.lt_trans h k)
      · exact Or.inl h
    · rcases k with k | ⟨rfl, k⟩
      · exact Or.inl k
      · exact Or.inr ⟨rfl, bl_trans x y z h k⟩
theorem bl_total : ∀ x y : List UInt8, x ≠ y → Op.bytesLess x y = true ∨ Op.bytesLess y x = true
  | [], [], h => absurd rfl h
  | [], _ :: _, _ => Or.inl rfl
  | _ :: _, [], _ => Or.inr rfl
  | a :: x, b :: y, h => by
    simp only [Op.bytesLess, Bool.or_eq_true, Bool.and_eq_true, decide_eq_true_eq, beq_iff_eq]
    by_cases hab : a = b
    · subst hab
      have hxy : x ≠ y := fun e => h (by rw [e])
      rcases bl_total x y hxy with k | k
      · exact Or.inl (Or.inr ⟨rfl, k⟩)
      · exact Or.inr (Or.inr ⟨rfl, k⟩)
    · rcases UInt8.lt_or_lt_of_ne hab with k | k
      · exact Or.inl (Or.inl k)
      · exact Or.inr (Or.inl k)
theorem lt_irrefl' (a : ByteArray) : ltB a a = false := bl_irrefl _
theorem lt_trans' {a b c : ByteArray} (h : ltB a b = true) (k : ltB b c = true) : ltB a c = true := bl_trans _ _ _ h k
theorem lt_total' {a b : ByteArray} (h : a ≠ b) : ltB a b = true ∨ ltB b a = true := bl_total _ _ (fun e => h (by rw [ByteArray.toList_eq, ByteArray.toList_eq] at e; exact bytes_ext e))
/-- Each is ahead of those behind it. -/
def Rise (X : List ByteArray) : Prop := X.Pairwise fun a b => ltB a b = true
/-- Two such lists with the same names are one. -/
theorem rise_one : ∀ {X Y : List ByteArray}, Rise X → Rise Y → (∀ s, s ∈ X ↔ s ∈ Y) → X = Y
  | [], [], _, _, _ => rfl
  | [], y :: Y, _, _, h => absurd ((h y).mpr (List.mem_cons_self ..)) (by simp)
  | x :: X, [], _, _, h => absurd ((h x).mp (List.mem_cons_self ..)) (by simp)
  | x :: X, y :: Y, hX, hY, h => by
    unfold Rise at hX hY
    rw [List.pairwise_cons] at hX hY
    have hxy : x = y := Classical.byContradiction fun hne => by
      have h1 := (h x).mp (List.mem_cons_self ..)
      have h2 := (h y).mpr (List.mem_cons_self ..)
      rcases List.mem_cons.mp h1 with e | h1
      · exact hne e
      · rcases List.mem_cons.mp h2 with e | h2
        · exact hne e.symm
        · have h3 := lt_trans' (hX.1 y h2) (hY.1 x h1)
          rw [lt_irrefl'] at h3
          cases h3
    subst hxy
    rw [rise_one hX.2 hY.2 (fun s => ?_)]
    constructor
    · intro hs
      rcases List.mem_cons.mp ((h s).mp (List.mem_cons_of_mem _ hs)) with e | hs2
      · subst e
        have := hX.1 s hs
        rw [lt_irrefl'] at this
        cases this
      · exact hs2
    · intro hs
      rcases List.mem_cons.mp ((h s).mpr (List.mem_cons_of_mem _ hs)) with e | hs2
      · subst e
        have := hY.1 s hs
        rw [lt_irrefl'] at this
        cases this
      · exact hs2
/-- A name put where it belongs: as a walk down the list. -/
theorem putL_cons (x s : ByteArray) (X : List ByteArray) : putL (x :: X) s = if ltB x s = true then x :: putL X s else if (x.toList == s.toList) = true then x :: X else s :: x :: X := by
  by_cases h : ltB x s = true
  · rw [if_pos h]
    have e : posN (x :: X) s = posN X s + 1 := by unfold posN; simp [h]
    unfold putL
    rw [e]
    have e2 : (x :: X).getD (posN X s + 1) ⟨#[]⟩ = X.getD (posN X s) ⟨#[]⟩ := by simp [List.getD]
    have e3 : decide (posN X s + 1 < (x :: X).length) = decide (posN X s < X.length) := by simp
    rw [e2, e3]
    split
    · rfl
    · rfl
  · rw [if_neg h]
    have e : posN (x :: X) s = 0 := by unfold posN; simp [h]
    unfold putL
    rw [e]
    have e2 : (x :: X).getD 0 ⟨#[]⟩ = x := rfl
    have e3 : decide (0 < (x :: X).length) = true := by simp
    rw [e2, e3, Bool.and_true]
    split
    · rfl
    · rfl
theorem putL_mem : ∀ (X : List ByteArray) (s t : ByteArray), t ∈ putL X s ↔ t = s ∨ t ∈ X
  | [], s, t => by
    have : putL [] s = [s] := by unfold putL posN; simp
    rw [this]
    simp
  | x :: X, s, t => by
    rw [putL_cons]
    split
    · rw [List.mem_cons, putL_mem X s t, List.mem_cons]
      constructor
      · rintro (h | h | h)
        · exact Or.inr (Or.inl h)
        · exact Or.inl h
        · exact Or.inr (Or.inr h)
      · rintro (h | h | h)
        · exact Or.inr (Or.inl h)
        · exact Or.inl h
        · exact Or.inr (Or.inr h)
    · split
      · rename_i h1
        have e : x = s := by
          rw [ByteArray.toList_eq, ByteArray.toList_eq, beq_iff_eq] at h1
          exact bytes_ext h1
        constructor
        · exact fun h => Or.inr h
        · rintro (h | h)
          · rw [h, e]; exact List.mem_cons_self ..
          · exact h
      · rw [List.mem_cons]
theorem putL_rise : ∀ (X : List ByteArray) (s : ByteArray), Rise X → Rise (putL X s)
  | [], s, _ => by
    have : putL [] s = [s] := by unfold putL posN; simp
    rw [this]
    exact List.pairwise_singleton ..
  | x :: X, s, h => by
    rw [putL_cons]
    have h' := h
    unfold Rise at h
    rw [List.pairwise_cons] at h
    split
    · rename_i h1
      refine List.pairwise_cons.mpr ⟨fun t ht => ?_, putL_rise X s h.2⟩
      rcases (putL_mem X s t).mp ht with e | ht
      · rw [e]; exact h1
      · exact h.1 t ht
    · split
      · exact h'
      · rename_i h1 h2
        have hne : x ≠ s := fun e => h2 (by rw [e]; simp)
        have hlt : ltB s x = true := (lt_total' hne).resolve_left h1
        refine List.pairwise_cons.mpr ⟨fun t ht => ?_, h'⟩
        rcases List.mem_cons.mp ht with e | ht
        · rw [e]; exact hlt
        · exact lt_trans' hlt (h.1 t ht)
theorem putAll_rise : ∀ (Y X : List ByteArray), Rise X → Rise (putAll X Y)
  | [], _, h => h
  | y :: Y, X, h => putAll_rise Y (putL X y) (putL_rise X y h)
theorem putAll_mem : ∀ (Y X : List ByteArray) (t : ByteArray), t ∈ putAll X Y ↔ t ∈ X ∨ t ∈ Y
  | [], X, t => by simp [putAll]
  | y :: Y, X, t => by
    have e : putAll X (y :: Y) = putAll (putL X y) Y := rfl
    rw [e, putAll_mem Y (putL X y) t, putL_mem, List.mem_cons]
    constructor
    · rintro ((h | h) | h)
      · exact Or.inr (Or.inl h)
      · exact Or.inl h
      · exact Or.inr (Or.inr h)
    · rintro (h | h | h)
      · exact Or.inl (Or.inr h)
      · exact Or.inl (Or.inl h)
      · exact Or.inr h
/-- A list of names in their order, each once, with just these in it, is that list. -/
theorem putAll_one {X Y : List ByteArray} (hX : Rise X) (h : ∀ s, s ∈ X ↔ s ∈ Y) : X = putAll [] Y := rise_one hX (putAll_rise Y [] List.Pairwise.nil) (fun s => by rw [putAll_mem, h]; simp)

end Go.Proofs.YtefgmhlpcfmhlaaDoor
