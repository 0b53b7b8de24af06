/-
  What is joined of two right texts is a right text; joined texts, and their faults, written out.
-/
import Derived.Test.YtofcbmccfeaddaaDoorJoin
namespace Go.Proofs.YtofcbmccfeaddaaDoor
open Go.RowKit

theorem plain_append (a b : ByteArray) : plainB (a ++ b) = (plainB a && plainB b) := by
  simp [plainB]
theorem dec_plain (m : Nat) : (Lib.decDigits m).all (fun c => byteB (c.toNat : Int)) = true := by
  induction m using Nat.strongRecOn with
  | ind m ih =>
    have hd : ∀ d, d < 10 → byteB (((UInt8.ofNat (48 + d)).toNat : Nat) : Int) = true := by decide
    rw [Lib.decDigits]
    split
    · next h => simpa using hd m h
    · rw [List.all_append, ih (m / 10) (by omega)]
      simpa using hd (m % 10) (by omega)
theorem itoa_plain (n : Int) : plainB ⟨(Lib.itoa n).toArray⟩ = true := by
  unfold plainB Lib.itoa
  split
  · simp only [List.all_cons, Bool.and_eq_true]
    exact ⟨by decide, dec_plain _⟩
  · exact dec_plain _
theorem txt_plain {k n : Int} {s : ByteArray} (h : txF k n s = 0) : plainB (txt k n s) = true := by
  unfold txF at h
  by_cases hc : okV k n s = true ∧ k < 3
  · obtain ⟨ho, hk⟩ := hc
    have hlo := okV_lo ho
    unfold txt
    rw [if_pos ho]
    by_cases h0 : k = 0
    · rw [if_pos h0]; decide
    rw [if_neg h0]
    by_cases h1 : k = 1
    · rw [if_pos h1]; exact itoa_plain n
    rw [if_neg h1]
    by_cases h2 : k = 2
    · rw [if_pos h2]
      subst h2
      simp [okV, textB] at ho
      exact ho.1.1
    · omega
  · rw [if_neg hc] at h; exact absurd h (by decide)
/-- A text that was joined is right, and is its own text. -/
theorem join_ok {a b : ByteArray} (ha : plainB a = true) (hb : plainB b = true) (h : a.size + b.size ≤ 60) : okV 2 0 (a ++ b) = true := by
  simp [okV, textB, plain_append, ha, hb, h]
theorem join_txt {x : ByteArray} (h : okV 2 0 x = true) : txt 2 0 x = x ∧ txF 2 0 x = 0 := by
  simp [txt, txF, h]
theorem jT_size (a b : ByteArray) (f g : Int) : (jT a b f g).size ≤ 60 := by
  unfold jT
  split
  · next h =>
    simp [jOk] at h
    simp
    omega
  · decide
end Go.Proofs.YtofcbmccfeaddaaDoor
