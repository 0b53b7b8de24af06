/-
  No cell of these rows narrows 'for every input' (looked for: loops, veiled, ifaces, maps, wideKeys, modest, calm, conditions, laid).
  DERIVED. THE GIVEN ROWS OF THIS SEAT. 5 by the template 'for every input the law returns true; each argument reads behind the call as it read before'; 0 by the template 'total and deterministic' (their statements: YtekcofbgohnkhaaTotals.lean).
  GIVEN WITH THE SEED: the statements are not yours to turn. If you find one false, say at which input.
  Laid BY PROGRAM, IN A SANDBOX (cutbox-rows.mjs): the forced cells as the released guide's own fill.sh prints them over the translation 772ce8b3bd9fd2b9… (all of the seat's roots in one cut). By AI agents, Wed Nov 11 2026. No macro, syntax, notation, axiom, sorry.
-/
import Derived.Test.YtekcofbgohnkhaaChecked
import GoSem.Claim
import GoSem.ClaimJoined
import GoSem.ClaimMapViews
import Derived.JoinedTies
import Derived.KernelRfl
namespace Go.Proofs.Ytekcofbgohnkhaa
/- THE CELL 'sum', in the pinned program and in every row, IS THE sha256 OF THE DUMP (.gsa) THAT YtekcofbgohnkhaaProg.lean LOADS. Nothing in Lean hashes anything: it is a label: what it is worth is what the hold of that sum in a sandbox is worth. -/
noncomputable def Try.pinned : Pinned := { name := "ytekcofbgohnkhaa", sum := "772ce8b3bd9fd2b9bc5cd263a291e81dfcd79e1f16bff5ec27b6640a9c5b6c06", checked := Try.checked }
namespace Rows
def none {H : Type} : Left H := { results := [], args := [] }

/-- 'laws.FnSigns': WHATEVER THE INPUT: true; the input reads as it did. -/
def fnSignsSpec : ChangeSpec := { name := "fnSigns", fn := fun _ => fun
  | [d] => { results := [.lit (.bool true)], args := [d] }
  | _ => none }
def fnSignsRow : OpenClaim := { program := "ytekcofbgohnkhaa", sum := "772ce8b3bd9fd2b9bc5cd263a291e81dfcd79e1f16bff5ec27b6640a9c5b6c06", func := "loop.example/g00544/laws.FnSigns", spec := "fnSigns", inPlace := ["internal/abi.NoEscape"], recurses := true, apart := false }
def FnSignsSaid : Prop := fnSignsRow.holds Try.pinned (OpenSpec.ofChange fnSignsSpec)

/-- ITS FALSE NEIGHBOUR: 'it returns false'. Refute it at one input. -/
def fnSignsWrong : ChangeSpec := { name := "fnSigns", fn := fun _ => fun
  | [d] => { results := [.lit (.bool false)], args := [d] }
  | _ => none }
def FnSignsWrongFalsely : Prop := fnSignsRow.holds Try.pinned (OpenSpec.ofChange fnSignsWrong)

/-- 'laws.FnSpliced': WHATEVER THE INPUT: true; the input reads as it did. -/
def fnSplicedSpec : ChangeSpec := { name := "fnSpliced", fn := fun _ => fun
  | [d] => { results := [.lit (.bool true)], args := [d] }
  | _ => none }
def fnSplicedRow : OpenClaim := { program := "ytekcofbgohnkhaa", sum := "772ce8b3bd9fd2b9bc5cd263a291e81dfcd79e1f16bff5ec27b6640a9c5b6c06", func := "loop.example/g00544/laws.FnSpliced", spec := "fnSpliced", unfollowed := true, recurses := true, apart := false }
def FnSplicedSaid : Prop := fnSplicedRow.holds Try.pinned (OpenSpec.ofChange fnSplicedSpec)

/-- ITS FALSE NEIGHBOUR: 'it returns false'. Refute it at one input. -/
def fnSplicedWrong : ChangeSpec := { name := "fnSpliced", fn := fun _ => fun
  | [d] => { results := [.lit (.bool false)], args := [d] }
  | _ => none }
def FnSplicedWrongFalsely : Prop := fnSplicedRow.holds Try.pinned (OpenSpec.ofChange fnSplicedWrong)

/-- 'laws.FnExactShowSigns': WHATEVER THE INPUT: true; the input reads as it did. -/
def fnExactShowSignsSpec : ChangeSpec := { name := "fnExactShowSigns", fn := fun _ => fun
  | [d] => { results := [.lit (.bool true)], args := [d] }
  | _ => none }
def fnExactShowSignsRow : OpenClaim := { program := "ytekcofbgohnkhaa", sum := "772ce8b3bd9fd2b9bc5cd263a291e81dfcd79e1f16bff5ec27b6640a9c5b6c06", func := "loop.example/g00544/laws.FnExactShowSigns", spec := "fnExactShowSigns", inPlace := ["internal/abi.NoEscape"], apart := false }
def FnExactShowSignsSaid : Prop := fnExactShowSignsRow.holds Try.pinned (OpenSpec.ofChange fnExactShowSignsSpec)

/-- ITS FALSE NEIGHBOUR: 'it returns false'. Refute it at one input. -/
def fnExactShowSignsWrong : ChangeSpec := { name := "fnExactShowSigns", fn := fun _ => fun
  | [d] => { results := [.lit (.bool false)], args := [d] }
  | _ => none }
def FnExactShowSignsWrongFalsely : Prop := fnExactShowSignsRow.holds Try.pinned (OpenSpec.ofChange fnExactShowSignsWrong)

/-- 'laws.FnExactItemsIn': WHATEVER THE INPUT: true; the input reads as it did. -/
def fnExactItemsInSpec : ChangeSpec := { name := "fnExactItemsIn", fn := fun _ => fun
  | [d1, d2] => { results := [.lit (.bool true)], args := [d1, d2] }
  | _ => none }
def fnExactItemsInRow : OpenClaim := { program := "ytekcofbgohnkhaa", sum := "772ce8b3bd9fd2b9bc5cd263a291e81dfcd79e1f16bff5ec27b6640a9c5b6c06", func := "loop.example/g00544/laws.FnExactItemsIn", spec := "fnExactItemsIn", unfollowed := true, recurses := true, apart := false }
def FnExactItemsInSaid : Prop := fnExactItemsInRow.holds Try.pinned (OpenSpec.ofChange fnExactItemsInSpec)

/-- ITS FALSE NEIGHBOUR: 'it returns false'. Refute it at one input. -/
def fnExactItemsInWrong : ChangeSpec := { name := "fnExactItemsIn", fn := fun _ => fun
  | [d1, d2] => { results := [.lit (.bool false)], args := [d1, d2] }
  | _ => none }
def FnExactItemsInWrongFalsely : Prop := fnExactItemsInRow.holds Try.pinned (OpenSpec.ofChange fnExactItemsInWrong)

/-- 'laws.FnExactHeadOf': WHATEVER THE INPUT: true; the input reads as it did. -/
def fnExactHeadOfSpec : ChangeSpec := { name := "fnExactHeadOf", fn := fun _ => fun
  | [d1, d2] => { results := [.lit (.bool true)], args := [d1, d2] }
  | _ => none }
def fnExactHeadOfRow : OpenClaim := { program := "ytekcofbgohnkhaa", sum := "772ce8b3bd9fd2b9bc5cd263a291e81dfcd79e1f16bff5ec27b6640a9c5b6c06", func := "loop.example/g00544/laws.FnExactHeadOf", spec := "fnExactHeadOf", unfollowed := true, recurses := true, apart := false }
def FnExactHeadOfSaid : Prop := fnExactHeadOfRow.holds Try.pinned (OpenSpec.ofChange fnExactHeadOfSpec)

/-- ITS FALSE NEIGHBOUR: 'it returns false'. Refute it at one input. -/
def fnExactHeadOfWrong : ChangeSpec := { name := "fnExactHeadOf", fn := fun _ => fun
  | [d1, d2] => { results := [.lit (.bool false)], args := [d1, d2] }
  | _ => none }
def FnExactHeadOfWrongFalsely : Prop := fnExactHeadOfRow.holds Try.pinned (OpenSpec.ofChange fnExactHeadOfWrong)

/- THE SECOND FORM. 'bulk': how many values and letters a reading holds, each counted each time it is reached (what is shared counts as often as it is met; a slice's spare places count too). A statement '..UptoSaid' is the law's where the arguments, and the package variables that the reading takes, are together of bulk at most 1048576: NARROWER than '..Said'. Prove '..Said' where nothing that the law and all that it calls make is longer than what came in: it says more and counts as full. Else prove '..UptoSaid'. A law counts once. -/
mutual
def uptoBulk {H : Type} : DataW H → Nat
  | .lit (.string bytes) => bytes.length + 1
  | .lit _ => 1
  | .nil => 1
  | .ptr d => uptoBulk d + 1
  | .slice elems spare => uptoBulkAll elems + uptoBulkAll spare + 1
  | .agg parts => uptoBulkAll parts + 1
  | .iface _ d => uptoBulk d + 1
  | .map entries => uptoBulkEntries entries + 1
  | .held _ => 1
def uptoBulkAll {H : Type} : List (DataW H) → Nat
  | [] => 0
  | d :: r => uptoBulk d + uptoBulkAll r
def uptoBulkEntries {H : Type} : List (Lit × DataW H) → Nat
  | [] => 0
  | x :: r => uptoBulkEntry x + uptoBulkEntries r
def uptoBulkEntry {H : Type} : Lit × DataW H → Nat
  | (.string bytes, d) => bytes.length + uptoBulk d + 1
  | (_, d) => uptoBulk d + 1
 end
def uptoSmall : (H : Type) → List (DataW H) → Bool := fun _ ds => decide (uptoBulkAll ds ≤ 1048576)
def OpenSpec.upto (s : _root_.Go.ChangeSpec) : _root_.Go.OpenSpec := { _root_.Go.OpenSpec.ofChange s with cond := some uptoSmall }

/-- 'laws.FnSigns', WHERE WHAT IT READS IS OF BULK AT MOST 1048576: true; the input reads as it did. -/
def fnSignsUptoRow : OpenClaim := { program := "ytekcofbgohnkhaa", sum := "772ce8b3bd9fd2b9bc5cd263a291e81dfcd79e1f16bff5ec27b6640a9c5b6c06", func := "loop.example/g00544/laws.FnSigns", spec := "fnSigns", inPlace := ["internal/abi.NoEscape"], recurses := true, apart := false, narrowed := true }
def FnSignsUptoSaid : Prop := fnSignsUptoRow.holds Try.pinned (OpenSpec.upto fnSignsSpec)

/-- 'laws.FnSpliced', WHERE WHAT IT READS IS OF BULK AT MOST 1048576: true; the input reads as it did. -/
def fnSplicedUptoRow : OpenClaim := { program := "ytekcofbgohnkhaa", sum := "772ce8b3bd9fd2b9bc5cd263a291e81dfcd79e1f16bff5ec27b6640a9c5b6c06", func := "loop.example/g00544/laws.FnSpliced", spec := "fnSpliced", unfollowed := true, recurses := true, apart := false, narrowed := true }
def FnSplicedUptoSaid : Prop := fnSplicedUptoRow.holds Try.pinned (OpenSpec.upto fnSplicedSpec)

/-- 'laws.FnExactShowSigns', WHERE WHAT IT READS IS OF BULK AT MOST 1048576: true; the input reads as it did. -/
def fnExactShowSignsUptoRow : OpenClaim := { program := "ytekcofbgohnkhaa", sum := "772ce8b3bd9fd2b9bc5cd263a291e81dfcd79e1f16bff5ec27b6640a9c5b6c06", func := "loop.example/g00544/laws.FnExactShowSigns", spec := "fnExactShowSigns", inPlace := ["internal/abi.NoEscape"], apart := false, narrowed := true }
def FnExactShowSignsUptoSaid : Prop := fnExactShowSignsUptoRow.holds Try.pinned (OpenSpec.upto fnExactShowSignsSpec)

/-- 'laws.FnExactItemsIn', WHERE WHAT IT READS IS OF BULK AT MOST 1048576: true; the input reads as it did. -/
def fnExactItemsInUptoRow : OpenClaim := { program := "ytekcofbgohnkhaa", sum := "772ce8b3bd9fd2b9bc5cd263a291e81dfcd79e1f16bff5ec27b6640a9c5b6c06", func := "loop.example/g00544/laws.FnExactItemsIn", spec := "fnExactItemsIn", unfollowed := true, recurses := true, apart := false, narrowed := true }
def FnExactItemsInUptoSaid : Prop := fnExactItemsInUptoRow.holds Try.pinned (OpenSpec.upto fnExactItemsInSpec)

/-- 'laws.FnExactHeadOf', WHERE WHAT IT READS IS OF BULK AT MOST 1048576: true; the input reads as it did. -/
def fnExactHeadOfUptoRow : OpenClaim := { program := "ytekcofbgohnkhaa", sum := "772ce8b3bd9fd2b9bc5cd263a291e81dfcd79e1f16bff5ec27b6640a9c5b6c06", func := "loop.example/g00544/laws.FnExactHeadOf", spec := "fnExactHeadOf", unfollowed := true, recurses := true, apart := false, narrowed := true }
def FnExactHeadOfUptoSaid : Prop := fnExactHeadOfUptoRow.holds Try.pinned (OpenSpec.upto fnExactHeadOfSpec)

end Rows
end Go.Proofs.Ytekcofbgohnkhaa
