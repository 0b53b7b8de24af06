/-
  The law of Scoped: program and model answer the same; what came in stays.
-/
import Derived.Test.YtlmodefajpkakaaGreatDoorZRdN
import Derived.Test.YtlmodefajpkakaaGreatDoorZFreeC
import Derived.Test.YtlmodefajpkakaaGreatDoorZPlain
namespace Go.Proofs.YtlmodefajpkakaaGreatDoor
open Go.RowKit

theorem putAll_empty (Y : List ByteArray) : (putAll [] Y).isEmpty = Y.isEmpty := by
  cases Y with
  | nil => rfl
  | cons y Y =>
    have h : y ∈ putAll [] (y :: Y) := (putAll_mem (y :: Y) [] y).mpr (Or.inr (List.mem_cons_self ..))
    cases hq : putAll [] (y :: Y) with
    | nil => rw [hq] at h; cases h
    | cons z Z => rfl
theorem scop_same (L : List ByteArray) : (playB L && ((findO L).fr.isEmpty && ((findO L).sc.isEmpty && !(findO L).bad))) = scopB L := by
  unfold scopB fndO Ot.plus
  simp only [Ot.none, Bool.false_or]
  rw [putAll_empty, putAll_empty]

end Go.Proofs.YtlmodefajpkakaaGreatDoor
