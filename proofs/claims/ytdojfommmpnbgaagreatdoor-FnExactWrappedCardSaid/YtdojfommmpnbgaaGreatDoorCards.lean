/-
  DERIVED. GIVEN WITH THE SEED: THE CARDS: each row of YtdojfommmpnbgaaGreatDoorRows.lean that lists a variable, with what it lists TIED to the program's text (the seventh form; the later family's looks); each row that meets fmt, with fmt's text TOLD by the authors' own Lean function (tested against real Go, not proved from fmt's source: count such statements apart). THE CARD IS WHAT COUNTS. Prove the row's statement (the work); the ties are given (YtdojfommmpnbgaaGreatDoorTie.lean); close each card by the builder's one call (the guide's Derived/Test/ToyasCard.lean, 'card_holds'). Laid BY PROGRAM, IN A SANDBOX (cutbox-door.mjs). By AI agents, Wed Nov 11 2026. No macro, syntax, notation, axiom, sorry.
-/
import Derived.Test.YtdojfommmpnbgaaGreatDoorRows
import GoSem.ClaimSeven
namespace Go.Proofs.YtdojfommmpnbgaaGreatDoor
namespace Rows

/-- THE TIED CARD OF 'laws.FnExactWrapped'. -/
def fnExactWrappedCard : Claim7 := { stood := { row := fnExactWrappedRow, standIns := [], harness := (true, "f2d58d4aa1423a11e3de7c3af854cc028469a5fd29717c01d99f09eb9b5f4745"), looks := true }, kinds := [], alts := [], laidByText := true, laidKinds := [.data, .data, .data, .sentinel, .sentinel], laidTests := true, laidLooks := .later }
def FnExactWrappedCardSaid : Prop := Claim7.holds Tryz.pinned (.plain (OpenSpec.ofChange fnExactWrappedSpec)) fnExactWrappedCard

/-- THE SECOND FORM's CARD OF 'laws.FnExactWrapped'. -/
def fnExactWrappedUptoCard : Claim7 := { stood := { row := fnExactWrappedUptoRow, standIns := [], harness := (true, "f2d58d4aa1423a11e3de7c3af854cc028469a5fd29717c01d99f09eb9b5f4745"), looks := true }, kinds := [], alts := [], laidByText := true, laidKinds := [.data, .data, .data, .sentinel, .sentinel], laidTests := true, laidLooks := .later }
def FnExactWrappedUptoCardSaid : Prop := Claim7.holds Tryz.pinned (.plain (OpenSpec.upto fnExactWrappedSpec)) fnExactWrappedUptoCard
end Rows
end Go.Proofs.YtdojfommmpnbgaaGreatDoor
