/-
  DERIVED. GIVEN WITH THE SEED: THE CARDS: each row of YtdgihicpjonjgaaGreatDoorRows.lean that lists a variable, with what it lists TIED to the program's text (the seventh form; the later family's looks); each row that meets fmt, with fmt's text TOLD by the authors' own Lean function (tested against real Go, not proved from fmt's source: count such statements apart). THE CARD IS WHAT COUNTS. Prove the row's statement (the work); the ties are given (YtdgihicpjonjgaaGreatDoorTie.lean); close each card by the builder's one call (the guide's Derived/Test/ToyasCard.lean, 'card_holds'). Laid BY PROGRAM, IN A SANDBOX (cutbox-door.mjs). By AI agents, Wed Nov 11 2026. No macro, syntax, notation, axiom, sorry.
-/
import Derived.Test.YtdgihicpjonjgaaGreatDoorRows
import GoSem.ClaimSeven
namespace Go.Proofs.YtdgihicpjonjgaaGreatDoor
namespace Rows

/-- THE TIED CARD OF 'laws.FnExactCaptured'. -/
def fnExactCapturedCard : Claim7 := { stood := { row := fnExactCapturedRow, standIns := [], harness := (true, "d2f541ca2fbc8589925fa2204c7d236cb8d1c72e56275599cddd2928d9196459"), looks := true }, kinds := [], alts := [], laidByText := true, laidKinds := [.data, .data, .data, .sentinel, .sentinel], laidTests := true, laidLooks := .later }
def FnExactCapturedCardSaid : Prop := Claim7.holds Tryz.pinned (.plain (OpenSpec.ofChange fnExactCapturedSpec)) fnExactCapturedCard

/-- THE TIED CARD OF 'laws.FnExactLetsIn'. -/
def fnExactLetsInCard : Claim7 := { stood := { row := fnExactLetsInRow, standIns := [], harness := (true, "d2f541ca2fbc8589925fa2204c7d236cb8d1c72e56275599cddd2928d9196459"), looks := true }, kinds := [], alts := [], laidByText := true, laidKinds := [.data, .data, .data, .sentinel, .sentinel], laidTests := true, laidLooks := .later }
def FnExactLetsInCardSaid : Prop := Claim7.holds Tryz.pinned (.plain (OpenSpec.ofChange fnExactLetsInSpec)) fnExactLetsInCard

/-- THE SECOND FORM's CARD OF 'laws.FnExactCaptured'. -/
def fnExactCapturedUptoCard : Claim7 := { stood := { row := fnExactCapturedUptoRow, standIns := [], harness := (true, "d2f541ca2fbc8589925fa2204c7d236cb8d1c72e56275599cddd2928d9196459"), looks := true }, kinds := [], alts := [], laidByText := true, laidKinds := [.data, .data, .data, .sentinel, .sentinel], laidTests := true, laidLooks := .later }
def FnExactCapturedUptoCardSaid : Prop := Claim7.holds Tryz.pinned (.plain (OpenSpec.upto fnExactCapturedSpec)) fnExactCapturedUptoCard

/-- THE SECOND FORM's CARD OF 'laws.FnExactLetsIn'. -/
def fnExactLetsInUptoCard : Claim7 := { stood := { row := fnExactLetsInUptoRow, standIns := [], harness := (true, "d2f541ca2fbc8589925fa2204c7d236cb8d1c72e56275599cddd2928d9196459"), looks := true }, kinds := [], alts := [], laidByText := true, laidKinds := [.data, .data, .data, .sentinel, .sentinel], laidTests := true, laidLooks := .later }
def FnExactLetsInUptoCardSaid : Prop := Claim7.holds Tryz.pinned (.plain (OpenSpec.upto fnExactLetsInSpec)) fnExactLetsInUptoCard
end Rows
end Go.Proofs.YtdgihicpjonjgaaGreatDoor
