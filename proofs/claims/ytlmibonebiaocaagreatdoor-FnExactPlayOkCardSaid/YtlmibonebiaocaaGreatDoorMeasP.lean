/-
  Chapter 3, the program's way in plain words: the signs from a place on, how many brackets are open behind each; where the item ends, how deep it is.
-/
import Derived.Test.YtlmibonebiaocaaGreatDoorPlayS
namespace Go.Proofs.YtlmibonebiaocaaGreatDoor
open Go.RowKit

/-- How many are open behind this sign. -/
def opN (s : ByteArray) (o : Int) : Int := if isW s [40] then o + 1 else if isW s [41] then o - 1 else o
/-- The places from i on with what is open behind each, up to what is no sign or closes what was never opened. -/
def seqF (L : List ByteArray) : Nat → Nat → Int → List (Int × Int)
  | 0, _, _ => []
  | f + 1, i, o => if i < L.length ∧ signB (L.getD i ⟨#[]⟩) = true ∧ 0 ≤ opN (L.getD i ⟨#[]⟩) o then ((i : Int), opN (L.getD i ⟨#[]⟩) o) :: seqF L f (i + 1) (opN (L.getD i ⟨#[]⟩) o) else []
/-- Behind the first one where nothing is open; the most that was open up to it. -/
def firstZ : List (Int × Int) → Int → Int × Int
  | [], _ => (-1, -1)
  | x :: xs, d => if x.2 = 0 then (x.1 + 1, max d x.2) else firstZ xs (max d x.2)
def mostZ (xs : List (Int × Int)) (d : Int) : Int := xs.foldl (fun d x => max d x.2) d
theorem mostZ_snoc (xs : List (Int × Int)) (x : Int × Int) (d : Int) : mostZ (xs ++ [x]) d = max (mostZ xs d) x.2 := by
  unfold mostZ
  rw [List.foldl_append]
  rfl
theorem firstZ_on : ∀ (xs ys : List (Int × Int)) (d : Int), (∀ x ∈ xs, x.2 ≠ 0) → firstZ (xs ++ ys) d = firstZ ys (mostZ xs d)
  | [], _, _, _ => rfl
  | x :: xs, ys, d, h => by
    show (if x.2 = 0 then (x.1 + 1, max d x.2) else firstZ (xs ++ ys) (max d x.2)) = _
    rw [if_neg (h x (by simp)), firstZ_on xs ys _ fun y hy => h y (by simp [hy])]
    rfl
/-- What the program measures at a place. -/
def measZ (L : List ByteArray) (i : Int) : Int × Int := if i < 0 then (-1, -1) else firstZ (seqF L (L.length + 1) i.toNat 0) 0
theorem seqF_out {L : List ByteArray} {f i : Nat} {o : Int} (h : ¬ (i < L.length ∧ signB (L.getD i ⟨#[]⟩) = true ∧ 0 ≤ opN (L.getD i ⟨#[]⟩) o)) : seqF L f i o = [] := by
  cases f with
  | zero => rfl
  | succ f =>
    unfold seqF
    rw [if_neg h]
theorem seqF_in {L : List ByteArray} {f i : Nat} {o : Int} (h : i < L.length ∧ signB (L.getD i ⟨#[]⟩) = true ∧ 0 ≤ opN (L.getD i ⟨#[]⟩) o) : seqF L (f + 1) i o = ((i : Int), opN (L.getD i ⟨#[]⟩) o) :: seqF L f (i + 1) (opN (L.getD i ⟨#[]⟩) o) := by
  show (if _ then _ else _) = _
  rw [if_pos h]
theorem seqF_len (L : List ByteArray) : ∀ f i o, (seqF L f i o).length ≤ L.length - i
  | 0, _, _ => Nat.zero_le _
  | f + 1, i, o => by
    by_cases h : i < L.length ∧ signB (L.getD i ⟨#[]⟩) = true ∧ 0 ≤ opN (L.getD i ⟨#[]⟩) o
    · rw [seqF_in h]
      have := seqF_len L f (i + 1) (opN (L.getD i ⟨#[]⟩) o)
      simp only [List.length_cons]
      omega
    · rw [seqF_out h]
      exact Nat.zero_le _
/-- Where the model tells an end and all up to it are signs, the program measures the same. -/
theorem firstZ_item (L : List ByteArray) : ∀ (f : Nat) (i o : Nat) (d e : Int), itemF L f i o = e → 0 ≤ e → (∀ k, i ≤ k → (k : Int) < e → signB (L.getD k ⟨#[]⟩) = true) → 0 ≤ d → (o : Int) ≤ d → firstZ (seqF L f i (o : Int)) d = (e, dpF L (e - (i : Int)).toNat i (o : Int) d)
  | 0, i, o, d, e, h, he, _, _, _ => by
    have : (-1 : Int) = e := h
    omega
  | f + 1, i, o, d, e, h, he, hs, hd, hod => by
    have hends := itemF_ends L (f + 1) i o
    rw [h] at hends
    have hie : (i : Int) < e := by omega
    have hil : i < L.length := by omega
    have hsi := hs i (Nat.le_refl _) hie
    have hstep : (e - (i : Int)).toNat = (e - ((i + 1 : Nat) : Int)).toNat + 1 := by omega
    have hs' : ∀ k, i + 1 ≤ k → (k : Int) < e → signB (L.getD k ⟨#[]⟩) = true := fun k h1 h2 => hs k (by omega) h2
    have IH := firstZ_item L f (i + 1)
    unfold itemF at h
    rw [if_pos hil] at h
    rw [hstep]
    unfold dpF
    cases h40 : isW (L.getD i ⟨#[]⟩) [40]
    · rw [h40] at h
      cases h41 : isW (L.getD i ⟨#[]⟩) [41]
      · rw [h41] at h
        have hop : opN (L.getD i ⟨#[]⟩) (o : Int) = (o : Int) := by unfold opN; rw [h40, h41]; rfl
        rw [seqF_in ⟨hil, hsi, by rw [hop]; omega⟩, hop]
        simp only [firstZ]
        simp only [Bool.false_eq_true, if_false] at h ⊢
        have hmx : max d (o : Int) = d := by omega
        rw [hmx]
        by_cases ho : o = 0
        · rw [if_pos ho] at h
          rw [if_pos (by omega), show (e - ((i + 1 : Nat) : Int)).toNat = 0 by omega]
          rw [h]
          rfl
        · rw [if_neg ho] at h
          rw [if_neg (by omega)]
          exact IH o d e h he hs' hd hod
      · rw [h41] at h
        have hop : opN (L.getD i ⟨#[]⟩) (o : Int) = (o : Int) - 1 := by unfold opN; rw [h40, h41]; rfl
        simp only [Bool.false_eq_true, if_false, if_true] at h ⊢
        by_cases ho : o = 0
        · rw [if_pos ho] at h
          omega
        · rw [if_neg ho] at h
          rw [seqF_in ⟨hil, hsi, by rw [hop]; omega⟩, hop]
          simp only [firstZ]
          have hmx : max d ((o : Int) - 1) = d := by omega
          rw [hmx]
          by_cases ho1 : o = 1
          · rw [if_pos ho1] at h
            rw [if_pos (by omega), show (e - ((i + 1 : Nat) : Int)).toNat = 0 by omega]
            rw [h]
            rfl
          · rw [if_neg ho1] at h
            rw [if_neg (by omega)]
            have hc : ((o - 1 : Nat) : Int) = (o : Int) - 1 := by omega
            have := IH (o - 1) d e h he hs' hd (by omega)
            rw [hc] at this
            exact this
    · rw [h40] at h
      have hop : opN (L.getD i ⟨#[]⟩) (o : Int) = (o : Int) + 1 := by unfold opN; rw [h40]; rfl
      rw [seqF_in ⟨hil, hsi, by rw [hop]; omega⟩, hop]
      simp only [firstZ]
      simp only [if_true] at h ⊢
      rw [if_neg (by omega)]
      have hc : ((o + 1 : Nat) : Int) = (o : Int) + 1 := by omega
      have := IH (o + 1) (max d ((o : Int) + 1)) e h he hs' (by omega) (by omega)
      rw [hc] at this
      exact this
theorem measZ_item {L : List ByteArray} {i : Int} (h : 0 ≤ itemE L i) (hs : ∀ k, i ≤ k → k < itemE L i → signB (sgAt L k) = true) : measZ L i = (itemE L i, depE L i) := by
  have hE := itemE_ends L i
  unfold Ends at hE
  have h0 : ¬ i < 0 := by omega
  unfold measZ depE
  rw [if_neg h0, if_neg (by omega)]
  have he : itemF L (L.length + 1) i.toNat 0 = itemE L i := by unfold itemE; rw [if_neg h0]
  have := firstZ_item L (L.length + 1) i.toNat 0 0 (itemE L i) he h (fun k h1 h2 => by
    have hk := hs (k : Int) (by omega) h2
    rw [sgAt_in (by omega) (by omega)] at hk
    have hkl : k < L.length := by omega
    simpa [List.getD, hkl] using hk) (by omega) (by omega)
  rw [show ((i.toNat : Nat) : Int) = i by omega] at this
  exact this

end Go.Proofs.YtlmibonebiaocaaGreatDoor
