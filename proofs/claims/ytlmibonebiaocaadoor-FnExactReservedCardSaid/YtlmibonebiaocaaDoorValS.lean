/-
  ValueIn, the model's, by a contract.
-/
import Derived.Test.YtlmibonebiaocaaDoorSignK
import Derived.Test.YtlmibonebiaocaaDoorLeaf
namespace Go.Proofs.YtlmibonebiaocaaDoor
open Go.RowKit

/-- Is it the word none? -/
def noneB (s : ByteArray) : Bool := s.toList == [110, 111, 110, 101]
theorem none_kind {s : ByteArray} (h : noneB s = true) : kindN s = 2 := by
  unfold noneB at h
  rw [ByteArray.toList_eq, beq_iff_eq] at h
  have hs : s = ⟨#[110, 111, 110, 101]⟩ := bytes_ext h
  rw [hs]
  rfl

/-- What a sign is read as: its kind, its number, its text, and whether it is read. -/
def viK (s : ByteArray) : Int := if numerB s then 1 else if quotB s then 2 else 0
def viN (s : ByteArray) : Int := if numerB s then readN s else 0
def viT (s : ByteArray) : ByteArray := if numerB s then ⟨#[]⟩ else if quotB s then s.extract 1 (s.size - 1) else ⟨#[]⟩
def viB (s : ByteArray) : Bool := numerB s || quotB s || noneB s
theorem vi_num {s : ByteArray} (h : numerB s = true) : viK s = 1 ∧ viN s = readN s ∧ viT s = ⟨#[]⟩ ∧ viB s = true := by simp [viK, viN, viT, viB, h]
theorem vi_quot {s : ByteArray} (h : numerB s = false) (hq : quotB s = true) : viK s = 2 ∧ viN s = 0 ∧ viT s = s.extract 1 (s.size - 1) ∧ viB s = true := by simp [viK, viN, viT, viB, h, hq]
theorem vi_rest {s : ByteArray} (h : numerB s = false) (hq : quotB s = false) : viK s = 0 ∧ viN s = 0 ∧ viT s = ⟨#[]⟩ ∧ viB s = noneB s := by simp [viK, viN, viT, viB, h, hq]
theorem numer_none {s : ByteArray} (h : noneB s = true) : numerB s = false ∧ quotB s = false := by
  have hk := none_kind h
  constructor
  · refine Bool.eq_false_iff.mpr fun hn => ?_
    rw [kind_numer ((numerB_iff s).mp hn)] at hk
    exact absurd hk (by decide)
  · refine Bool.eq_false_iff.mpr fun hn => ?_
    rw [kind_quot ((quotB_iff s).mp hn)] at hk
    exact absurd hk (by decide)

end Go.Proofs.YtlmibonebiaocaaDoor
