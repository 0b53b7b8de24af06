/-
  What the model reads as a number: walked.
-/
import Derived.Test.YtjkjjjdihccccaaSignW
import Derived.Test.YtjkjjjdihccccaaKind
namespace Go.Proofs.Ytjkjjjdihccccaa
open Go.RowKit

/-- What ReadNumber answers beside its flag. -/
def numN (s : ByteArray) : Int := if numerB s then readN s else 0
theorem num_no {s : ByteArray} (h : numerB s = false) : numerB s = false ∧ numN s = 0 := ⟨h, by simp [numN, h]⟩
theorem num_yes {s : ByteArray} {n : Int} (h : numerB s = true) (e : readN s = n) : numerB s = true ∧ numN s = n := ⟨h, by simp [numN, h, e]⟩

end Go.Proofs.Ytjkjjjdihccccaa
