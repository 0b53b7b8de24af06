/-
  A heap of texts in plain words: what goes up, what goes down, and that the least one is ahead.
-/
import Derived.Test.YtefgmhlpcfmhlaaDoorSortL
namespace Go.Proofs.YtefgmhlpcfmhlaaDoor
open Go.RowKit

/-- Not behind it. -/
def leB (a b : ByteArray) : Prop := ltB b a = false
theorem le_refl' (a : ByteArray) : leB a a := lt_irrefl' a
theorem le_of_lt' {a b : ByteArray} (h : ltB a b = true) : leB a b := by
  unfold leB
  cases hq : ltB b a
  · rfl
  · have := lt_trans' h hq
    rw [lt_irrefl'] at this
    cases this
theorem le_trans' {a b c : ByteArray} (h : leB a b) (k : leB b c) : leB a c := by
  unfold leB at h k ⊢
  cases hq : ltB c a
  · rfl
  · by_cases e : b = a
    · rw [e, hq] at k; cases k
    · rcases lt_total' e with h1 | h1
      · rw [h1] at h; cases h
      · rw [lt_trans' hq h1] at k; cases k
theorem lt_of_le_ne' {a b : ByteArray} (h : leB a b) (hne : a ≠ b) : ltB a b = true := by
  rcases lt_total' hne with h1 | h1
  · exact h1
  · unfold leB at h
    rw [h1] at h; cases h
/-- The one at that place. -/
def gT (H : List ByteArray) (i : Nat) : ByteArray := H.getD i ⟨#[]⟩
theorem gT_get {H : List ByteArray} {i : Nat} (h : i < H.length) : gT H i = H[i] := by
  unfold gT
  simp [List.getD, h]
/-- Two of them in each other's place. -/
def swp (H : List ByteArray) (i j : Nat) : List ByteArray := (H.set i (gT H j)).set j (gT H i)
theorem swp_len (H : List ByteArray) (i j : Nat) : (swp H i j).length = H.length := by unfold swp; simp
theorem swp_at {H : List ByteArray} {i j : Nat} (hi : i < H.length) (hj : j < H.length) (k : Nat) : gT (swp H i j) k = if k = j then gT H i else if k = i then gT H j else gT H k := by
  unfold swp
  by_cases h1 : k = j
  · subst h1
    rw [if_pos rfl]
    unfold gT
    simp [List.getD, hj]
  · rw [if_neg h1]
    by_cases h2 : k = i
    · subst h2
      rw [if_pos rfl]
      have : ¬ j = k := fun e => h1 e.symm
      unfold gT
      simp [List.getD, hi, this]
    · rw [if_neg h2]
      have a1 : ¬ j = k := fun e => h1 e.symm
      have a2 : ¬ i = k := fun e => h2 e.symm
      unfold gT
      simp [List.getD, a1, a2]
/-- It is among the first so many. -/
def Has (H : List ByteArray) (n : Nat) (s : ByteArray) : Prop := ∃ k, k < n ∧ gT H k = s
theorem has_all (H : List ByteArray) (s : ByteArray) : Has H H.length s ↔ s ∈ H := by
  constructor
  · rintro ⟨k, hk, e⟩
    rw [gT_get hk] at e
    rw [← e]
    exact List.getElem_mem hk
  · intro h
    obtain ⟨k, hk, e⟩ := List.getElem_of_mem h
    exact ⟨k, hk, by rw [gT_get hk]; exact e⟩
theorem has_swp {H : List ByteArray} {i j n : Nat} (hi : i < n) (hj : j < n) (hn : n ≤ H.length) (s : ByteArray) : Has (swp H i j) n s ↔ Has H n s := by
  have hS := swp_at (H := H) (i := i) (j := j) (by omega) (by omega)
  constructor
  · rintro ⟨k, hk, e⟩
    rw [hS k] at e
    split at e
    · exact ⟨i, hi, e⟩
    · split at e
      · exact ⟨j, hj, e⟩
      · exact ⟨k, hk, e⟩
  · rintro ⟨k, hk, e⟩
    by_cases h1 : k = i
    · refine ⟨j, hj, ?_⟩
      rw [hS j, if_pos rfl, ← h1]; exact e
    · by_cases h2 : k = j
      · refine ⟨i, hi, ?_⟩
        rw [hS i]
        by_cases h3 : i = j
        · rw [if_pos h3, ← e, h2, h3]
        · rw [if_neg h3, if_pos rfl, ← h2]; exact e
      · refine ⟨k, hk, ?_⟩
        rw [hS k, if_neg h2, if_neg h1]; exact e
/-- The first so many are a heap. -/
def Hp (H : List ByteArray) (n : Nat) : Prop := ∀ c, 0 < c → c < n → leB (gT H ((c - 1) / 2)) (gT H c)
theorem hp_least {H : List ByteArray} {n : Nat} (h : Hp H n) : ∀ m c, c ≤ m → c < n → leB (gT H 0) (gT H c)
  | m, c, hm, hc => by
    by_cases h0 : c = 0
    · rw [h0]; exact le_refl' _
    · obtain ⟨m', rfl⟩ : ∃ m', m = m' + 1 := ⟨m - 1, by omega⟩
      exact le_trans' (hp_least h m' ((c - 1) / 2) (by omega) (by omega)) (h c (by omega) hc)
/-- A heap, but for one that may have to go up. -/
def UpI (H : List ByteArray) (n j : Nat) : Prop := (∀ c, 0 < c → c < n → c ≠ j → leB (gT H ((c - 1) / 2)) (gT H c)) ∧ (∀ c, 0 < c → c < n → (c - 1) / 2 = j → 0 < j → leB (gT H ((j - 1) / 2)) (gT H c))
theorem up_start {H : List ByteArray} (h : Hp H H.length) (x : ByteArray) : UpI (H ++ [x]) (H ++ [x]).length H.length := by
  have hg : ∀ k, k < H.length → gT (H ++ [x]) k = gT H k := fun k hk => by
    unfold gT
    simp [List.getD, List.getElem?_append, hk]
  rw [List.length_append]
  refine ⟨fun c h0 h1 h2 => ?_, fun c h0 h1 h2 h3 => ?_⟩
  · simp at h1
    rw [hg _ (by omega), hg _ (by omega)]
    exact h c h0 (by omega)
  · simp at h1
    omega
theorem up_step {H : List ByteArray} {n j : Nat} (h : UpI H n j) (hn : n ≤ H.length) (h0 : 0 < j) (hj : j < n) (hl : ltB (gT H j) (gT H ((j - 1) / 2)) = true) : UpI (swp H ((j - 1) / 2) j) n ((j - 1) / 2) := by
  obtain ⟨p, hp⟩ : ∃ p, p = (j - 1) / 2 := ⟨_, rfl⟩
  rw [← hp] at hl ⊢
  have hpj : p < j := by omega
  have hS := swp_at (H := H) (i := p) (j := j) (by omega) (by omega)
  obtain ⟨hA, hC⟩ := h
  refine ⟨fun c c0 c1 c2 => ?_, fun c c0 c1 c2 c3 => ?_⟩
  · rw [hS c]
    by_cases e1 : c = j
    · rw [if_pos e1, hS, e1, ← hp, if_neg (by omega), if_pos rfl]
      exact le_of_lt' hl
    · rw [if_neg e1, if_neg c2, hS]
      by_cases e2 : (c - 1) / 2 = j
      · rw [if_pos e2, hp]
        exact hC c c0 c1 e2 h0
      · rw [if_neg e2]
        by_cases e3 : (c - 1) / 2 = p
        · rw [if_pos e3]
          have := hA c c0 c1 e1
          rw [e3] at this
          exact le_trans' (le_of_lt' hl) this
        · rw [if_neg e3]
          exact hA c c0 c1 e1
  · have hpp : leB (gT H ((p - 1) / 2)) (gT H p) := hA p c3 (by omega) (by omega)
    rw [hS ((p - 1) / 2), if_neg (by omega), if_neg (by omega), hS c]
    by_cases e1 : c = j
    · rw [if_pos e1]
      exact hpp
    · rw [if_neg e1, if_neg (by omega)]
      have := hA c c0 c1 e1
      rw [c2] at this
      exact le_trans' hpp this
theorem up_end {H : List ByteArray} {n j : Nat} (h : UpI H n j) (he : j = 0 ∨ ltB (gT H j) (gT H ((j - 1) / 2)) = false) : Hp H n := fun c c0 c1 => by
  by_cases e : c = j
  · rcases he with h0 | h0
    · omega
    · rw [e]; exact h0
  · exact h.1 c c0 c1 e
/-- A heap, but for one that may have to go down. -/
def DnI (H : List ByteArray) (n i : Nat) : Prop := (∀ c, 0 < c → c < n → (c - 1) / 2 ≠ i → leB (gT H ((c - 1) / 2)) (gT H c)) ∧ (∀ c, 0 < c → c < n → (c - 1) / 2 = i → 0 < i → leB (gT H ((i - 1) / 2)) (gT H c))
theorem dn_start {H : List ByteArray} {n : Nat} (h : Hp H (n + 1)) (hn : n + 1 = H.length) : DnI (swp H 0 n) n 0 := by
  have hS := swp_at (H := H) (i := 0) (j := n) (by omega) (by omega)
  refine ⟨fun c c0 c1 c2 => ?_, fun c c0 c1 c2 c3 => by omega⟩
  rw [hS c, if_neg (by omega), if_neg (by omega), hS, if_neg (by omega), if_neg c2]
  exact h c c0 (by omega)
theorem dn_step {H : List ByteArray} {n i j : Nat} (h : DnI H n i) (hn : n ≤ H.length) (hj : j < n) (hij : (j - 1) / 2 = i) (h0 : 0 < j) (hm : ∀ c, 0 < c → c < n → (c - 1) / 2 = i → leB (gT H j) (gT H c)) (hl : ltB (gT H j) (gT H i) = true) : DnI (swp H i j) n j := by
  have hS := swp_at (H := H) (i := i) (j := j) (by omega) (by omega)
  obtain ⟨hA, hC⟩ := h
  refine ⟨fun c c0 c1 c2 => ?_, fun c c0 c1 c2 c3 => ?_⟩
  · rw [hS c]
    by_cases e1 : c = j
    · rw [if_pos e1, hS, e1, hij, if_neg (by omega), if_pos rfl]
      exact le_of_lt' hl
    · rw [if_neg e1]
      by_cases e2 : c = i
      · rw [if_pos e2, hS, if_neg c2, if_neg (by omega), e2]
        exact hC j h0 hj hij (by omega)
      · rw [if_neg e2, hS, if_neg c2]
        by_cases e3 : (c - 1) / 2 = i
        · rw [if_pos e3]
          exact hm c c0 c1 e3
        · rw [if_neg e3]
          exact hA c c0 c1 e3
  · rw [hij, hS i, if_neg (by omega), if_pos rfl, hS c, if_neg (by omega), if_neg (by omega)]
    have := hA c c0 c1 (by omega)
    rw [c2] at this
    exact this
theorem dn_end {H : List ByteArray} {n i : Nat} (h : DnI H n i) (he : ∀ c, 0 < c → c < n → (c - 1) / 2 = i → leB (gT H i) (gT H c)) : Hp H n := fun c c0 c1 => by
  by_cases e : (c - 1) / 2 = i
  · rw [e]; exact he c c0 c1 e
  · exact h.1 c c0 c1 e

/-- What has been told rises, and all that waits stands behind it or is the last one. -/
structure Tld (X H : List ByteArray) : Prop where
  rise : Rise X
  ahead : ∀ a ∈ X, ∀ b ∈ H, leB a b
theorem rise_le_last {X : List ByteArray} {z : ByteArray} (h : Rise (X ++ [z])) : ∀ a ∈ X ++ [z], leB a z := fun a ha => by
  rcases List.mem_append.mp ha with h1 | h1
  · exact le_of_lt' ((List.pairwise_append.mp h).2.2 a h1 z (List.mem_singleton.mpr rfl))
  · rw [List.mem_singleton.mp h1]; exact le_refl' _
/-- The least one is told, if it is not the last one that was. -/
def tel (X : List ByteArray) (x : ByteArray) : List ByteArray := if X.getLast? = some x then X else X ++ [x]
theorem tel_mem (X : List ByteArray) (x s : ByteArray) : s ∈ tel X x ↔ s ∈ X ∨ s = x := by
  unfold tel
  split
  · rename_i h
    constructor
    · exact Or.inl
    · rintro (h1 | h1)
      · exact h1
      · rw [h1]; exact List.mem_of_getLast? h
  · rw [List.mem_append, List.mem_singleton]
theorem tld_step {X H K : List ByteArray} {x : ByteArray} (h : Tld X H) (hx : x ∈ H) (hmin : ∀ b ∈ H, leB x b) (hK : ∀ b ∈ K, b ∈ H) : Tld (tel X x) K := by
  have hall : ∀ a ∈ X, leB a x := fun a ha => h.ahead a ha x hx
  refine ⟨?_, fun a ha b hb => ?_⟩
  · unfold tel
    split
    · exact h.rise
    · rename_i hne
      refine List.pairwise_append.mpr ⟨h.rise, List.pairwise_singleton .., fun a ha b hb => ?_⟩
      rw [List.mem_singleton.mp hb]
      refine lt_of_le_ne' (hall a ha) (fun e => ?_)
      subst e
      refine hne ?_
      rcases List.eq_nil_or_concat X with h0 | ⟨Y, z, h0⟩
      · rw [h0] at ha; cases ha
      · rw [List.concat_eq_append] at h0
        subst h0
        have h1 := hall z (by simp)
        have h2 := rise_le_last h.rise a ha
        have : z = a := Classical.byContradiction fun hz => by
          have h3 := lt_of_le_ne' h1 hz
          unfold leB at h2
          rw [h3] at h2
          cases h2
        rw [this]; simp
  · rcases (tel_mem X x a).mp ha with h1 | h1
    · exact h.ahead a h1 b (hK b hb)
    · rw [h1]; exact hmin b (hK b hb)

end Go.Proofs.YtefgmhlpcfmhlaaDoor
