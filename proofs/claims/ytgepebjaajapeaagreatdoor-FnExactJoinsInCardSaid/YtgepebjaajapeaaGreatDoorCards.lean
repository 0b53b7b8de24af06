/-
  DERIVED. GIVEN WITH THE SEED: THE CARDS: each row of YtgepebjaajapeaaGreatDoorRows.lean that lists a variable, with what it lists TIED to the program's text (the seventh form; the later family's looks); each row that meets fmt, with fmt's text TOLD by the authors' own Lean function (tested against real Go, not proved from fmt's source: count such statements apart). THE CARD IS WHAT COUNTS. Prove the row's statement (the work); the ties are given (YtgepebjaajapeaaGreatDoorTie.lean); close each card by the builder's one call (the guide's Derived/Test/ToyasCard.lean, 'card_holds'). Laid BY PROGRAM, IN A SANDBOX (cutbox-door.mjs). By AI agents, Wed Nov 11 2026. No macro, syntax, notation, axiom, sorry.
-/
import Derived.Test.YtgepebjaajapeaaGreatDoorRows
import GoSem.ClaimSeven
namespace Go.Proofs.YtgepebjaajapeaaGreatDoor
namespace Rows

/-- THE TIED CARD OF 'laws.FnExactJoinsIn'. -/
def fnExactJoinsInCard : Claim7 := { stood := { row := fnExactJoinsInRow, standIns := [], harness := (true, "363ce973cee5db09a3c6ee12bdd2f31b1be446bba04e507042cca238132eb46a"), looks := true }, kinds := [], alts := [], laidByText := true, laidKinds := [.data, .data, .data, .sentinel, .sentinel], laidTests := true, laidLooks := .later }
def FnExactJoinsInCardSaid : Prop := Claim7.holds Tryz.pinned (.plain (OpenSpec.ofChange fnExactJoinsInSpec)) fnExactJoinsInCard

/-- THE SECOND FORM's CARD OF 'laws.FnExactJoinsIn'. -/
def fnExactJoinsInUptoCard : Claim7 := { stood := { row := fnExactJoinsInUptoRow, standIns := [], harness := (true, "363ce973cee5db09a3c6ee12bdd2f31b1be446bba04e507042cca238132eb46a"), looks := true }, kinds := [], alts := [], laidByText := true, laidKinds := [.data, .data, .data, .sentinel, .sentinel], laidTests := true, laidLooks := .later }
def FnExactJoinsInUptoCardSaid : Prop := Claim7.holds Tryz.pinned (.plain (OpenSpec.upto fnExactJoinsInSpec)) fnExactJoinsInUptoCard
end Rows
end Go.Proofs.YtgepebjaajapeaaGreatDoor
