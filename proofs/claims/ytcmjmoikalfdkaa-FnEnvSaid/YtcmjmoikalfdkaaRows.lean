/-
  No cell of these rows narrows 'for every input' (looked for: loops, veiled, ifaces, maps, wideKeys, modest, calm, conditions, laid).
  DERIVED. THE GIVEN ROWS OF THIS SEAT. 12 by the template 'for every input the law returns true; each argument reads behind the call as it read before'; 0 by the template 'total and deterministic' (their statements: YtcmjmoikalfdkaaTotals.lean).
  GIVEN WITH THE SEED: the statements are not yours to turn. If you find one false, say at which input.
  Laid BY PROGRAM, IN A SANDBOX (cutbox-rows.mjs): the forced cells as the released guide's own fill.sh prints them over the translation 75fe1072805811df… (all of the seat's roots in one cut). By AI agents, Wed Nov 11 2026. No macro, syntax, notation, axiom, sorry.
-/
import Derived.Test.YtcmjmoikalfdkaaChecked
import GoSem.Claim
import GoSem.ClaimJoined
import GoSem.ClaimMapViews
import Derived.JoinedTies
import Derived.KernelRfl
namespace Go.Proofs.Ytcmjmoikalfdkaa
/- THE CELL 'sum', in the pinned program and in every row, IS THE sha256 OF THE DUMP (.gsa) THAT YtcmjmoikalfdkaaProg.lean LOADS. Nothing in Lean hashes anything: it is a label: what it is worth is what the hold of that sum in a sandbox is worth. -/
noncomputable def Try.pinned : Pinned := { name := "ytcmjmoikalfdkaa", sum := "75fe1072805811dfd9f43f6acab579f2f2bd347b592273909dc502bdd91ca08c", checked := Try.checked }
namespace Rows
def none {H : Type} : Left H := { results := [], args := [] }

/-- 'laws.FnSums': WHATEVER THE INPUT: true; the input reads as it did. -/
def fnSumsSpec : ChangeSpec := { name := "fnSums", fn := fun _ => fun
  | [d] => { results := [.lit (.bool true)], args := [d] }
  | _ => none }
def fnSumsRow : OpenClaim := { program := "ytcmjmoikalfdkaa", sum := "75fe1072805811dfd9f43f6acab579f2f2bd347b592273909dc502bdd91ca08c", func := "loop.example/g00544/laws.FnSums", spec := "fnSums", unfollowed := true, recurses := true, plainKeys := false, apart := false }
def FnSumsSaid : Prop := fnSumsRow.holds Try.pinned (OpenSpec.ofChange fnSumsSpec)

/-- ITS FALSE NEIGHBOUR: 'it returns false'. Refute it at one input. -/
def fnSumsWrong : ChangeSpec := { name := "fnSums", fn := fun _ => fun
  | [d] => { results := [.lit (.bool false)], args := [d] }
  | _ => none }
def FnSumsWrongFalsely : Prop := fnSumsRow.holds Try.pinned (OpenSpec.ofChange fnSumsWrong)

/-- 'laws.FnSpliced': WHATEVER THE INPUT: true; the input reads as it did. -/
def fnSplicedSpec : ChangeSpec := { name := "fnSpliced", fn := fun _ => fun
  | [d] => { results := [.lit (.bool true)], args := [d] }
  | _ => none }
def fnSplicedRow : OpenClaim := { program := "ytcmjmoikalfdkaa", sum := "75fe1072805811dfd9f43f6acab579f2f2bd347b592273909dc502bdd91ca08c", func := "loop.example/g00544/laws.FnSpliced", spec := "fnSpliced", unfollowed := true, recurses := true, plainKeys := false, apart := false }
def FnSplicedSaid : Prop := fnSplicedRow.holds Try.pinned (OpenSpec.ofChange fnSplicedSpec)

/-- ITS FALSE NEIGHBOUR: 'it returns false'. Refute it at one input. -/
def fnSplicedWrong : ChangeSpec := { name := "fnSpliced", fn := fun _ => fun
  | [d] => { results := [.lit (.bool false)], args := [d] }
  | _ => none }
def FnSplicedWrongFalsely : Prop := fnSplicedRow.holds Try.pinned (OpenSpec.ofChange fnSplicedWrong)

/-- 'laws.FnEnv': WHATEVER THE INPUT: true; the input reads as it did. -/
def fnEnvSpec : ChangeSpec := { name := "fnEnv", fn := fun _ => fun
  | [d] => { results := [.lit (.bool true)], args := [d] }
  | _ => none }
def fnEnvRow : OpenClaim := { program := "ytcmjmoikalfdkaa", sum := "75fe1072805811dfd9f43f6acab579f2f2bd347b592273909dc502bdd91ca08c", func := "loop.example/g00544/laws.FnEnv", spec := "fnEnv", unfollowed := true, recurses := true, plainKeys := false, apart := false }
def FnEnvSaid : Prop := fnEnvRow.holds Try.pinned (OpenSpec.ofChange fnEnvSpec)

/-- ITS FALSE NEIGHBOUR: 'it returns false'. Refute it at one input. -/
def fnEnvWrong : ChangeSpec := { name := "fnEnv", fn := fun _ => fun
  | [d] => { results := [.lit (.bool false)], args := [d] }
  | _ => none }
def FnEnvWrongFalsely : Prop := fnEnvRow.holds Try.pinned (OpenSpec.ofChange fnEnvWrong)

/-- 'laws.FnExactTruth': WHATEVER THE INPUT: true; the input reads as it did. -/
def fnExactTruthSpec : ChangeSpec := { name := "fnExactTruth", fn := fun _ => fun
  | [d] => { results := [.lit (.bool true)], args := [d] }
  | _ => none }
def fnExactTruthRow : OpenClaim := { program := "ytcmjmoikalfdkaa", sum := "75fe1072805811dfd9f43f6acab579f2f2bd347b592273909dc502bdd91ca08c", func := "loop.example/g00544/laws.FnExactTruth", spec := "fnExactTruth", unfollowed := true, recurses := true, plainKeys := false, apart := false }
def FnExactTruthSaid : Prop := fnExactTruthRow.holds Try.pinned (OpenSpec.ofChange fnExactTruthSpec)

/-- ITS FALSE NEIGHBOUR: 'it returns false'. Refute it at one input. -/
def fnExactTruthWrong : ChangeSpec := { name := "fnExactTruth", fn := fun _ => fun
  | [d] => { results := [.lit (.bool false)], args := [d] }
  | _ => none }
def FnExactTruthWrongFalsely : Prop := fnExactTruthRow.holds Try.pinned (OpenSpec.ofChange fnExactTruthWrong)

/-- 'laws.FnExactSignsOf': WHATEVER THE INPUT: true; the input reads as it did. -/
def fnExactSignsOfSpec : ChangeSpec := { name := "fnExactSignsOf", fn := fun _ => fun
  | [d] => { results := [.lit (.bool true)], args := [d] }
  | _ => none }
def fnExactSignsOfRow : OpenClaim := { program := "ytcmjmoikalfdkaa", sum := "75fe1072805811dfd9f43f6acab579f2f2bd347b592273909dc502bdd91ca08c", func := "loop.example/g00544/laws.FnExactSignsOf", spec := "fnExactSignsOf", plainKeys := false, apart := false }
def FnExactSignsOfSaid : Prop := fnExactSignsOfRow.holds Try.pinned (OpenSpec.ofChange fnExactSignsOfSpec)

/-- ITS FALSE NEIGHBOUR: 'it returns false'. Refute it at one input. -/
def fnExactSignsOfWrong : ChangeSpec := { name := "fnExactSignsOf", fn := fun _ => fun
  | [d] => { results := [.lit (.bool false)], args := [d] }
  | _ => none }
def FnExactSignsOfWrongFalsely : Prop := fnExactSignsOfRow.holds Try.pinned (OpenSpec.ofChange fnExactSignsOfWrong)

/-- 'laws.FnExactShowSigns': WHATEVER THE INPUT: true; the input reads as it did. -/
def fnExactShowSignsSpec : ChangeSpec := { name := "fnExactShowSigns", fn := fun _ => fun
  | [d] => { results := [.lit (.bool true)], args := [d] }
  | _ => none }
def fnExactShowSignsRow : OpenClaim := { program := "ytcmjmoikalfdkaa", sum := "75fe1072805811dfd9f43f6acab579f2f2bd347b592273909dc502bdd91ca08c", func := "loop.example/g00544/laws.FnExactShowSigns", spec := "fnExactShowSigns", inPlace := ["internal/abi.NoEscape"], plainKeys := false, apart := false }
def FnExactShowSignsSaid : Prop := fnExactShowSignsRow.holds Try.pinned (OpenSpec.ofChange fnExactShowSignsSpec)

/-- ITS FALSE NEIGHBOUR: 'it returns false'. Refute it at one input. -/
def fnExactShowSignsWrong : ChangeSpec := { name := "fnExactShowSigns", fn := fun _ => fun
  | [d] => { results := [.lit (.bool false)], args := [d] }
  | _ => none }
def FnExactShowSignsWrongFalsely : Prop := fnExactShowSignsRow.holds Try.pinned (OpenSpec.ofChange fnExactShowSignsWrong)

/-- 'laws.FnExactItemsIn': WHATEVER THE INPUT: true; the input reads as it did. -/
def fnExactItemsInSpec : ChangeSpec := { name := "fnExactItemsIn", fn := fun _ => fun
  | [d1, d2] => { results := [.lit (.bool true)], args := [d1, d2] }
  | _ => none }
def fnExactItemsInRow : OpenClaim := { program := "ytcmjmoikalfdkaa", sum := "75fe1072805811dfd9f43f6acab579f2f2bd347b592273909dc502bdd91ca08c", func := "loop.example/g00544/laws.FnExactItemsIn", spec := "fnExactItemsIn", unfollowed := true, recurses := true, plainKeys := false, apart := false }
def FnExactItemsInSaid : Prop := fnExactItemsInRow.holds Try.pinned (OpenSpec.ofChange fnExactItemsInSpec)

/-- ITS FALSE NEIGHBOUR: 'it returns false'. Refute it at one input. -/
def fnExactItemsInWrong : ChangeSpec := { name := "fnExactItemsIn", fn := fun _ => fun
  | [d1, d2] => { results := [.lit (.bool false)], args := [d1, d2] }
  | _ => none }
def FnExactItemsInWrongFalsely : Prop := fnExactItemsInRow.holds Try.pinned (OpenSpec.ofChange fnExactItemsInWrong)

/-- 'laws.FnExactNamesIn': WHATEVER THE INPUT: true; the input reads as it did. -/
def fnExactNamesInSpec : ChangeSpec := { name := "fnExactNamesIn", fn := fun _ => fun
  | [d] => { results := [.lit (.bool true)], args := [d] }
  | _ => none }
def fnExactNamesInRow : OpenClaim := { program := "ytcmjmoikalfdkaa", sum := "75fe1072805811dfd9f43f6acab579f2f2bd347b592273909dc502bdd91ca08c", func := "loop.example/g00544/laws.FnExactNamesIn", spec := "fnExactNamesIn", unfollowed := true, recurses := true, plainKeys := false, apart := false }
def FnExactNamesInSaid : Prop := fnExactNamesInRow.holds Try.pinned (OpenSpec.ofChange fnExactNamesInSpec)

/-- ITS FALSE NEIGHBOUR: 'it returns false'. Refute it at one input. -/
def fnExactNamesInWrong : ChangeSpec := { name := "fnExactNamesIn", fn := fun _ => fun
  | [d] => { results := [.lit (.bool false)], args := [d] }
  | _ => none }
def FnExactNamesInWrongFalsely : Prop := fnExactNamesInRow.holds Try.pinned (OpenSpec.ofChange fnExactNamesInWrong)

/-- 'laws.FnExactMemOk': WHATEVER THE INPUT: true; the input reads as it did. -/
def fnExactMemOkSpec : ChangeSpec := { name := "fnExactMemOk", fn := fun _ => fun
  | [d] => { results := [.lit (.bool true)], args := [d] }
  | _ => none }
def fnExactMemOkRow : OpenClaim := { program := "ytcmjmoikalfdkaa", sum := "75fe1072805811dfd9f43f6acab579f2f2bd347b592273909dc502bdd91ca08c", func := "loop.example/g00544/laws.FnExactMemOk", spec := "fnExactMemOk", unfollowed := true, recurses := true, plainKeys := false, apart := false }
def FnExactMemOkSaid : Prop := fnExactMemOkRow.holds Try.pinned (OpenSpec.ofChange fnExactMemOkSpec)

/-- ITS FALSE NEIGHBOUR: 'it returns false'. Refute it at one input. -/
def fnExactMemOkWrong : ChangeSpec := { name := "fnExactMemOk", fn := fun _ => fun
  | [d] => { results := [.lit (.bool false)], args := [d] }
  | _ => none }
def FnExactMemOkWrongFalsely : Prop := fnExactMemOkRow.holds Try.pinned (OpenSpec.ofChange fnExactMemOkWrong)

/-- 'laws.FnExactSlotGet': WHATEVER THE INPUT: true; the input reads as it did. -/
def fnExactSlotGetSpec : ChangeSpec := { name := "fnExactSlotGet", fn := fun _ => fun
  | [d1, d2, d3] => { results := [.lit (.bool true)], args := [d1, d2, d3] }
  | _ => none }
def fnExactSlotGetRow : OpenClaim := { program := "ytcmjmoikalfdkaa", sum := "75fe1072805811dfd9f43f6acab579f2f2bd347b592273909dc502bdd91ca08c", func := "loop.example/g00544/laws.FnExactSlotGet", spec := "fnExactSlotGet", unfollowed := true, recurses := true, plainKeys := false, apart := false }
def FnExactSlotGetSaid : Prop := fnExactSlotGetRow.holds Try.pinned (OpenSpec.ofChange fnExactSlotGetSpec)

/-- ITS FALSE NEIGHBOUR: 'it returns false'. Refute it at one input. -/
def fnExactSlotGetWrong : ChangeSpec := { name := "fnExactSlotGet", fn := fun _ => fun
  | [d1, d2, d3] => { results := [.lit (.bool false)], args := [d1, d2, d3] }
  | _ => none }
def FnExactSlotGetWrongFalsely : Prop := fnExactSlotGetRow.holds Try.pinned (OpenSpec.ofChange fnExactSlotGetWrong)

/-- 'laws.FnExactTableGet': WHATEVER THE INPUT: true; the input reads as it did. -/
def fnExactTableGetSpec : ChangeSpec := { name := "fnExactTableGet", fn := fun _ => fun
  | [d1, d2, d3] => { results := [.lit (.bool true)], args := [d1, d2, d3] }
  | _ => none }
def fnExactTableGetRow : OpenClaim := { program := "ytcmjmoikalfdkaa", sum := "75fe1072805811dfd9f43f6acab579f2f2bd347b592273909dc502bdd91ca08c", func := "loop.example/g00544/laws.FnExactTableGet", spec := "fnExactTableGet", unfollowed := true, recurses := true, plainKeys := false, apart := false }
def FnExactTableGetSaid : Prop := fnExactTableGetRow.holds Try.pinned (OpenSpec.ofChange fnExactTableGetSpec)

/-- ITS FALSE NEIGHBOUR: 'it returns false'. Refute it at one input. -/
def fnExactTableGetWrong : ChangeSpec := { name := "fnExactTableGet", fn := fun _ => fun
  | [d1, d2, d3] => { results := [.lit (.bool false)], args := [d1, d2, d3] }
  | _ => none }
def FnExactTableGetWrongFalsely : Prop := fnExactTableGetRow.holds Try.pinned (OpenSpec.ofChange fnExactTableGetWrong)

/-- 'laws.FnExactLooked': WHATEVER THE INPUT: true; the input reads as it did. -/
def fnExactLookedSpec : ChangeSpec := { name := "fnExactLooked", fn := fun _ => fun
  | [d1, d2, d3] => { results := [.lit (.bool true)], args := [d1, d2, d3] }
  | _ => none }
def fnExactLookedRow : OpenClaim := { program := "ytcmjmoikalfdkaa", sum := "75fe1072805811dfd9f43f6acab579f2f2bd347b592273909dc502bdd91ca08c", func := "loop.example/g00544/laws.FnExactLooked", spec := "fnExactLooked", unfollowed := true, recurses := true, plainKeys := false, apart := false }
def FnExactLookedSaid : Prop := fnExactLookedRow.holds Try.pinned (OpenSpec.ofChange fnExactLookedSpec)

/-- ITS FALSE NEIGHBOUR: 'it returns false'. Refute it at one input. -/
def fnExactLookedWrong : ChangeSpec := { name := "fnExactLooked", fn := fun _ => fun
  | [d1, d2, d3] => { results := [.lit (.bool false)], args := [d1, d2, d3] }
  | _ => none }
def FnExactLookedWrongFalsely : Prop := fnExactLookedRow.holds Try.pinned (OpenSpec.ofChange fnExactLookedWrong)

/- THE SECOND FORM. 'bulk': how many values and letters a reading holds, each counted each time it is reached (what is shared counts as often as it is met; a slice's spare places count too). A statement '..UptoSaid' is the law's where the arguments, and the package variables that the reading takes, are together of bulk at most 1048576: NARROWER than '..Said'. Prove '..Said' where nothing that the law and all that it calls make is longer than what came in: it says more and counts as full. Else prove '..UptoSaid'. A law counts once. -/
mutual
def uptoBulk {H : Type} : DataW H → Nat
  | .lit (.string bytes) => bytes.length + 1
  | .lit _ => 1
  | .nil => 1
  | .ptr d => uptoBulk d + 1
  | .slice elems spare => uptoBulkAll elems + uptoBulkAll spare + 1
  | .agg parts => uptoBulkAll parts + 1
  | .iface _ d => uptoBulk d + 1
  | .map entries => uptoBulkEntries entries + 1
  | .held _ => 1
def uptoBulkAll {H : Type} : List (DataW H) → Nat
  | [] => 0
  | d :: r => uptoBulk d + uptoBulkAll r
def uptoBulkEntries {H : Type} : List (Lit × DataW H) → Nat
  | [] => 0
  | x :: r => uptoBulkEntry x + uptoBulkEntries r
def uptoBulkEntry {H : Type} : Lit × DataW H → Nat
  | (.string bytes, d) => bytes.length + uptoBulk d + 1
  | (_, d) => uptoBulk d + 1
 end
def uptoSmall : (H : Type) → List (DataW H) → Bool := fun _ ds => decide (uptoBulkAll ds ≤ 1048576)
def OpenSpec.upto (s : _root_.Go.ChangeSpec) : _root_.Go.OpenSpec := { _root_.Go.OpenSpec.ofChange s with cond := some uptoSmall }

/-- 'laws.FnSums', WHERE WHAT IT READS IS OF BULK AT MOST 1048576: true; the input reads as it did. -/
def fnSumsUptoRow : OpenClaim := { program := "ytcmjmoikalfdkaa", sum := "75fe1072805811dfd9f43f6acab579f2f2bd347b592273909dc502bdd91ca08c", func := "loop.example/g00544/laws.FnSums", spec := "fnSums", unfollowed := true, recurses := true, plainKeys := false, apart := false, narrowed := true }
def FnSumsUptoSaid : Prop := fnSumsUptoRow.holds Try.pinned (OpenSpec.upto fnSumsSpec)

/-- 'laws.FnSpliced', WHERE WHAT IT READS IS OF BULK AT MOST 1048576: true; the input reads as it did. -/
def fnSplicedUptoRow : OpenClaim := { program := "ytcmjmoikalfdkaa", sum := "75fe1072805811dfd9f43f6acab579f2f2bd347b592273909dc502bdd91ca08c", func := "loop.example/g00544/laws.FnSpliced", spec := "fnSpliced", unfollowed := true, recurses := true, plainKeys := false, apart := false, narrowed := true }
def FnSplicedUptoSaid : Prop := fnSplicedUptoRow.holds Try.pinned (OpenSpec.upto fnSplicedSpec)

/-- 'laws.FnEnv', WHERE WHAT IT READS IS OF BULK AT MOST 1048576: true; the input reads as it did. -/
def fnEnvUptoRow : OpenClaim := { program := "ytcmjmoikalfdkaa", sum := "75fe1072805811dfd9f43f6acab579f2f2bd347b592273909dc502bdd91ca08c", func := "loop.example/g00544/laws.FnEnv", spec := "fnEnv", unfollowed := true, recurses := true, plainKeys := false, apart := false, narrowed := true }
def FnEnvUptoSaid : Prop := fnEnvUptoRow.holds Try.pinned (OpenSpec.upto fnEnvSpec)

/-- 'laws.FnExactTruth', WHERE WHAT IT READS IS OF BULK AT MOST 1048576: true; the input reads as it did. -/
def fnExactTruthUptoRow : OpenClaim := { program := "ytcmjmoikalfdkaa", sum := "75fe1072805811dfd9f43f6acab579f2f2bd347b592273909dc502bdd91ca08c", func := "loop.example/g00544/laws.FnExactTruth", spec := "fnExactTruth", unfollowed := true, recurses := true, plainKeys := false, apart := false, narrowed := true }
def FnExactTruthUptoSaid : Prop := fnExactTruthUptoRow.holds Try.pinned (OpenSpec.upto fnExactTruthSpec)

/-- 'laws.FnExactSignsOf', WHERE WHAT IT READS IS OF BULK AT MOST 1048576: true; the input reads as it did. -/
def fnExactSignsOfUptoRow : OpenClaim := { program := "ytcmjmoikalfdkaa", sum := "75fe1072805811dfd9f43f6acab579f2f2bd347b592273909dc502bdd91ca08c", func := "loop.example/g00544/laws.FnExactSignsOf", spec := "fnExactSignsOf", plainKeys := false, apart := false, narrowed := true }
def FnExactSignsOfUptoSaid : Prop := fnExactSignsOfUptoRow.holds Try.pinned (OpenSpec.upto fnExactSignsOfSpec)

/-- 'laws.FnExactShowSigns', WHERE WHAT IT READS IS OF BULK AT MOST 1048576: true; the input reads as it did. -/
def fnExactShowSignsUptoRow : OpenClaim := { program := "ytcmjmoikalfdkaa", sum := "75fe1072805811dfd9f43f6acab579f2f2bd347b592273909dc502bdd91ca08c", func := "loop.example/g00544/laws.FnExactShowSigns", spec := "fnExactShowSigns", inPlace := ["internal/abi.NoEscape"], plainKeys := false, apart := false, narrowed := true }
def FnExactShowSignsUptoSaid : Prop := fnExactShowSignsUptoRow.holds Try.pinned (OpenSpec.upto fnExactShowSignsSpec)

/-- 'laws.FnExactItemsIn', WHERE WHAT IT READS IS OF BULK AT MOST 1048576: true; the input reads as it did. -/
def fnExactItemsInUptoRow : OpenClaim := { program := "ytcmjmoikalfdkaa", sum := "75fe1072805811dfd9f43f6acab579f2f2bd347b592273909dc502bdd91ca08c", func := "loop.example/g00544/laws.FnExactItemsIn", spec := "fnExactItemsIn", unfollowed := true, recurses := true, plainKeys := false, apart := false, narrowed := true }
def FnExactItemsInUptoSaid : Prop := fnExactItemsInUptoRow.holds Try.pinned (OpenSpec.upto fnExactItemsInSpec)

/-- 'laws.FnExactNamesIn', WHERE WHAT IT READS IS OF BULK AT MOST 1048576: true; the input reads as it did. -/
def fnExactNamesInUptoRow : OpenClaim := { program := "ytcmjmoikalfdkaa", sum := "75fe1072805811dfd9f43f6acab579f2f2bd347b592273909dc502bdd91ca08c", func := "loop.example/g00544/laws.FnExactNamesIn", spec := "fnExactNamesIn", unfollowed := true, recurses := true, plainKeys := false, apart := false, narrowed := true }
def FnExactNamesInUptoSaid : Prop := fnExactNamesInUptoRow.holds Try.pinned (OpenSpec.upto fnExactNamesInSpec)

/-- 'laws.FnExactMemOk', WHERE WHAT IT READS IS OF BULK AT MOST 1048576: true; the input reads as it did. -/
def fnExactMemOkUptoRow : OpenClaim := { program := "ytcmjmoikalfdkaa", sum := "75fe1072805811dfd9f43f6acab579f2f2bd347b592273909dc502bdd91ca08c", func := "loop.example/g00544/laws.FnExactMemOk", spec := "fnExactMemOk", unfollowed := true, recurses := true, plainKeys := false, apart := false, narrowed := true }
def FnExactMemOkUptoSaid : Prop := fnExactMemOkUptoRow.holds Try.pinned (OpenSpec.upto fnExactMemOkSpec)

/-- 'laws.FnExactSlotGet', WHERE WHAT IT READS IS OF BULK AT MOST 1048576: true; the input reads as it did. -/
def fnExactSlotGetUptoRow : OpenClaim := { program := "ytcmjmoikalfdkaa", sum := "75fe1072805811dfd9f43f6acab579f2f2bd347b592273909dc502bdd91ca08c", func := "loop.example/g00544/laws.FnExactSlotGet", spec := "fnExactSlotGet", unfollowed := true, recurses := true, plainKeys := false, apart := false, narrowed := true }
def FnExactSlotGetUptoSaid : Prop := fnExactSlotGetUptoRow.holds Try.pinned (OpenSpec.upto fnExactSlotGetSpec)

/-- 'laws.FnExactTableGet', WHERE WHAT IT READS IS OF BULK AT MOST 1048576: true; the input reads as it did. -/
def fnExactTableGetUptoRow : OpenClaim := { program := "ytcmjmoikalfdkaa", sum := "75fe1072805811dfd9f43f6acab579f2f2bd347b592273909dc502bdd91ca08c", func := "loop.example/g00544/laws.FnExactTableGet", spec := "fnExactTableGet", unfollowed := true, recurses := true, plainKeys := false, apart := false, narrowed := true }
def FnExactTableGetUptoSaid : Prop := fnExactTableGetUptoRow.holds Try.pinned (OpenSpec.upto fnExactTableGetSpec)

/-- 'laws.FnExactLooked', WHERE WHAT IT READS IS OF BULK AT MOST 1048576: true; the input reads as it did. -/
def fnExactLookedUptoRow : OpenClaim := { program := "ytcmjmoikalfdkaa", sum := "75fe1072805811dfd9f43f6acab579f2f2bd347b592273909dc502bdd91ca08c", func := "loop.example/g00544/laws.FnExactLooked", spec := "fnExactLooked", unfollowed := true, recurses := true, plainKeys := false, apart := false, narrowed := true }
def FnExactLookedUptoSaid : Prop := fnExactLookedUptoRow.holds Try.pinned (OpenSpec.upto fnExactLookedSpec)

end Rows
end Go.Proofs.Ytcmjmoikalfdkaa
