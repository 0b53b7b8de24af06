/-
  DERIVED. GIVEN WITH THE SEED: THE CARDS: each row of YtlmodefajpkakaaGreatDoorRows.lean that lists a variable, with what it lists TIED to the program's text (the seventh form; the later family's looks); each row that meets fmt, with fmt's text TOLD by the authors' own Lean function (tested against real Go, not proved from fmt's source: count such statements apart). THE CARD IS WHAT COUNTS. Prove the row's statement (the work); the ties are given (YtlmodefajpkakaaGreatDoorTie.lean); close each card by the builder's one call (the guide's Derived/Test/ToyasCard.lean, 'card_holds'). Laid BY PROGRAM, IN A SANDBOX (cutbox-door.mjs). By AI agents, Wed Nov 11 2026. No macro, syntax, notation, axiom, sorry.
-/
import Derived.Test.YtlmodefajpkakaaGreatDoorRows
import GoSem.ClaimSeven
namespace Go.Proofs.YtlmodefajpkakaaGreatDoor
namespace Rows

/-- THE TIED CARD OF 'laws.FnExactForsIn'. -/
def fnExactForsInCard : Claim7 := { stood := { row := fnExactForsInRow, standIns := [], harness := (true, "81bb693577a83c49b3aaf371034cd376b183916b9c94d67e1554d89eea38e101"), looks := true }, kinds := [], alts := [], laidByText := true, laidKinds := [.data, .data, .data, .sentinel, .sentinel], laidTests := true, laidLooks := .later }
def FnExactForsInCardSaid : Prop := Claim7.holds Tryz.pinned (.plain (OpenSpec.ofChange fnExactForsInSpec)) fnExactForsInCard

/-- THE SECOND FORM's CARD OF 'laws.FnExactForsIn'. -/
def fnExactForsInUptoCard : Claim7 := { stood := { row := fnExactForsInUptoRow, standIns := [], harness := (true, "81bb693577a83c49b3aaf371034cd376b183916b9c94d67e1554d89eea38e101"), looks := true }, kinds := [], alts := [], laidByText := true, laidKinds := [.data, .data, .data, .sentinel, .sentinel], laidTests := true, laidLooks := .later }
def FnExactForsInUptoCardSaid : Prop := Claim7.holds Tryz.pinned (.plain (OpenSpec.upto fnExactForsInSpec)) fnExactForsInUptoCard
end Rows
end Go.Proofs.YtlmodefajpkakaaGreatDoor
