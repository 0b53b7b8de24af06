/-
  No cell of these rows narrows 'for every input' (looked for: loops, veiled, ifaces, maps, wideKeys, modest, calm, conditions, laid).
  DERIVED. THE GIVEN ROWS OF THIS SEAT. 4 by the template 'for every input the law returns true; each argument reads behind the call as it read before'; 0 by the template 'total and deterministic' (their statements: YtjkjjjdihccccaaTotals.lean).
  GIVEN WITH THE SEED: the statements are not yours to turn. If you find one false, say at which input.
  Laid BY PROGRAM, IN A SANDBOX (cutbox-rows.mjs): the forced cells as the released guide's own fill.sh prints them over the translation 64f790a96448af7e… (all of the seat's roots in one cut). By AI agents, Wed Nov 11 2026. No macro, syntax, notation, axiom, sorry.
-/
import Derived.Test.YtjkjjjdihccccaaChecked
import GoSem.Claim
import GoSem.ClaimJoined
import GoSem.ClaimMapViews
import Derived.JoinedTies
import Derived.KernelRfl
namespace Go.Proofs.Ytjkjjjdihccccaa
/- THE CELL 'sum', in the pinned program and in every row, IS THE sha256 OF THE DUMP (.gsa) THAT YtjkjjjdihccccaaProg.lean LOADS. Nothing in Lean hashes anything: it is a label: what it is worth is what the hold of that sum in a sandbox is worth. -/
noncomputable def Try.pinned : Pinned := { name := "ytjkjjjdihccccaa", sum := "64f790a96448af7e7ef946243ceb6b30b2a37ad1c4b65f7a44329a485f41eea1", checked := Try.checked }
namespace Rows
def none {H : Type} : Left H := { results := [], args := [] }

/-- 'laws.FnEnv': WHATEVER THE INPUT: true; the input reads as it did. -/
def fnEnvSpec : ChangeSpec := { name := "fnEnv", fn := fun _ => fun
  | [d] => { results := [.lit (.bool true)], args := [d] }
  | _ => none }
def fnEnvRow : OpenClaim := { program := "ytjkjjjdihccccaa", sum := "64f790a96448af7e7ef946243ceb6b30b2a37ad1c4b65f7a44329a485f41eea1", func := "loop.example/g00544/laws.FnEnv", spec := "fnEnv", unfollowed := true, recurses := true, apart := false }
def FnEnvSaid : Prop := fnEnvRow.holds Try.pinned (OpenSpec.ofChange fnEnvSpec)

/-- ITS FALSE NEIGHBOUR: 'it returns false'. Refute it at one input. -/
def fnEnvWrong : ChangeSpec := { name := "fnEnv", fn := fun _ => fun
  | [d] => { results := [.lit (.bool false)], args := [d] }
  | _ => none }
def FnEnvWrongFalsely : Prop := fnEnvRow.holds Try.pinned (OpenSpec.ofChange fnEnvWrong)

/-- 'laws.FnExactEnvOk': WHATEVER THE INPUT: true; the input reads as it did. -/
def fnExactEnvOkSpec : ChangeSpec := { name := "fnExactEnvOk", fn := fun _ => fun
  | [d] => { results := [.lit (.bool true)], args := [d] }
  | _ => none }
def fnExactEnvOkRow : OpenClaim := { program := "ytjkjjjdihccccaa", sum := "64f790a96448af7e7ef946243ceb6b30b2a37ad1c4b65f7a44329a485f41eea1", func := "loop.example/g00544/laws.FnExactEnvOk", spec := "fnExactEnvOk", apart := false }
def FnExactEnvOkSaid : Prop := fnExactEnvOkRow.holds Try.pinned (OpenSpec.ofChange fnExactEnvOkSpec)

/-- ITS FALSE NEIGHBOUR: 'it returns false'. Refute it at one input. -/
def fnExactEnvOkWrong : ChangeSpec := { name := "fnExactEnvOk", fn := fun _ => fun
  | [d] => { results := [.lit (.bool false)], args := [d] }
  | _ => none }
def FnExactEnvOkWrongFalsely : Prop := fnExactEnvOkRow.holds Try.pinned (OpenSpec.ofChange fnExactEnvOkWrong)

/-- 'laws.FnExactBound': WHATEVER THE INPUT: true; the input reads as it did. -/
def fnExactBoundSpec : ChangeSpec := { name := "fnExactBound", fn := fun _ => fun
  | [d1, d2, d3, d4] => { results := [.lit (.bool true)], args := [d1, d2, d3, d4] }
  | _ => none }
def fnExactBoundRow : OpenClaim := { program := "ytjkjjjdihccccaa", sum := "64f790a96448af7e7ef946243ceb6b30b2a37ad1c4b65f7a44329a485f41eea1", func := "loop.example/g00544/laws.FnExactBound", spec := "fnExactBound", apart := false }
def FnExactBoundSaid : Prop := fnExactBoundRow.holds Try.pinned (OpenSpec.ofChange fnExactBoundSpec)

/-- ITS FALSE NEIGHBOUR: 'it returns false'. Refute it at one input. -/
def fnExactBoundWrong : ChangeSpec := { name := "fnExactBound", fn := fun _ => fun
  | [d1, d2, d3, d4] => { results := [.lit (.bool false)], args := [d1, d2, d3, d4] }
  | _ => none }
def FnExactBoundWrongFalsely : Prop := fnExactBoundRow.holds Try.pinned (OpenSpec.ofChange fnExactBoundWrong)

/-- 'laws.FnExactLooked': WHATEVER THE INPUT: true; the input reads as it did. -/
def fnExactLookedSpec : ChangeSpec := { name := "fnExactLooked", fn := fun _ => fun
  | [d1, d2, d3] => { results := [.lit (.bool true)], args := [d1, d2, d3] }
  | _ => none }
def fnExactLookedRow : OpenClaim := { program := "ytjkjjjdihccccaa", sum := "64f790a96448af7e7ef946243ceb6b30b2a37ad1c4b65f7a44329a485f41eea1", func := "loop.example/g00544/laws.FnExactLooked", spec := "fnExactLooked", unfollowed := true, recurses := true, apart := false }
def FnExactLookedSaid : Prop := fnExactLookedRow.holds Try.pinned (OpenSpec.ofChange fnExactLookedSpec)

/-- ITS FALSE NEIGHBOUR: 'it returns false'. Refute it at one input. -/
def fnExactLookedWrong : ChangeSpec := { name := "fnExactLooked", fn := fun _ => fun
  | [d1, d2, d3] => { results := [.lit (.bool false)], args := [d1, d2, d3] }
  | _ => none }
def FnExactLookedWrongFalsely : Prop := fnExactLookedRow.holds Try.pinned (OpenSpec.ofChange fnExactLookedWrong)

/- THE SECOND FORM. 'bulk': how many values and letters a reading holds, each counted each time it is reached (what is shared counts as often as it is met; a slice's spare places count too). A statement '..UptoSaid' is the law's where the arguments, and the package variables that the reading takes, are together of bulk at most 1048576: NARROWER than '..Said'. Prove '..Said' where nothing that the law and all that it calls make is longer than what came in: it says more and counts as full. Else prove '..UptoSaid'. A law counts once. -/
mutual
def uptoBulk {H : Type} : DataW H → Nat
  | .lit (.string bytes) => bytes.length + 1
  | .lit _ => 1
  | .nil => 1
  | .ptr d => uptoBulk d + 1
  | .slice elems spare => uptoBulkAll elems + uptoBulkAll spare + 1
  | .agg parts => uptoBulkAll parts + 1
  | .iface _ d => uptoBulk d + 1
  | .map entries => uptoBulkEntries entries + 1
  | .held _ => 1
def uptoBulkAll {H : Type} : List (DataW H) → Nat
  | [] => 0
  | d :: r => uptoBulk d + uptoBulkAll r
def uptoBulkEntries {H : Type} : List (Lit × DataW H) → Nat
  | [] => 0
  | x :: r => uptoBulkEntry x + uptoBulkEntries r
def uptoBulkEntry {H : Type} : Lit × DataW H → Nat
  | (.string bytes, d) => bytes.length + uptoBulk d + 1
  | (_, d) => uptoBulk d + 1
 end
def uptoSmall : (H : Type) → List (DataW H) → Bool := fun _ ds => decide (uptoBulkAll ds ≤ 1048576)
def OpenSpec.upto (s : _root_.Go.ChangeSpec) : _root_.Go.OpenSpec := { _root_.Go.OpenSpec.ofChange s with cond := some uptoSmall }

/-- 'laws.FnEnv', WHERE WHAT IT READS IS OF BULK AT MOST 1048576: true; the input reads as it did. -/
def fnEnvUptoRow : OpenClaim := { program := "ytjkjjjdihccccaa", sum := "64f790a96448af7e7ef946243ceb6b30b2a37ad1c4b65f7a44329a485f41eea1", func := "loop.example/g00544/laws.FnEnv", spec := "fnEnv", unfollowed := true, recurses := true, apart := false, narrowed := true }
def FnEnvUptoSaid : Prop := fnEnvUptoRow.holds Try.pinned (OpenSpec.upto fnEnvSpec)

/-- 'laws.FnExactEnvOk', WHERE WHAT IT READS IS OF BULK AT MOST 1048576: true; the input reads as it did. -/
def fnExactEnvOkUptoRow : OpenClaim := { program := "ytjkjjjdihccccaa", sum := "64f790a96448af7e7ef946243ceb6b30b2a37ad1c4b65f7a44329a485f41eea1", func := "loop.example/g00544/laws.FnExactEnvOk", spec := "fnExactEnvOk", apart := false, narrowed := true }
def FnExactEnvOkUptoSaid : Prop := fnExactEnvOkUptoRow.holds Try.pinned (OpenSpec.upto fnExactEnvOkSpec)

/-- 'laws.FnExactBound', WHERE WHAT IT READS IS OF BULK AT MOST 1048576: true; the input reads as it did. -/
def fnExactBoundUptoRow : OpenClaim := { program := "ytjkjjjdihccccaa", sum := "64f790a96448af7e7ef946243ceb6b30b2a37ad1c4b65f7a44329a485f41eea1", func := "loop.example/g00544/laws.FnExactBound", spec := "fnExactBound", apart := false, narrowed := true }
def FnExactBoundUptoSaid : Prop := fnExactBoundUptoRow.holds Try.pinned (OpenSpec.upto fnExactBoundSpec)

/-- 'laws.FnExactLooked', WHERE WHAT IT READS IS OF BULK AT MOST 1048576: true; the input reads as it did. -/
def fnExactLookedUptoRow : OpenClaim := { program := "ytjkjjjdihccccaa", sum := "64f790a96448af7e7ef946243ceb6b30b2a37ad1c4b65f7a44329a485f41eea1", func := "loop.example/g00544/laws.FnExactLooked", spec := "fnExactLooked", unfollowed := true, recurses := true, apart := false, narrowed := true }
def FnExactLookedUptoSaid : Prop := fnExactLookedUptoRow.holds Try.pinned (OpenSpec.upto fnExactLookedSpec)

end Rows
end Go.Proofs.Ytjkjjjdihccccaa
