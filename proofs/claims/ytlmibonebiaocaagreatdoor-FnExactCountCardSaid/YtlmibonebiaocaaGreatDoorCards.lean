/-
  DERIVED. GIVEN WITH THE SEED: THE CARDS: each row of YtlmibonebiaocaaGreatDoorRows.lean that lists a variable, with what it lists TIED to the program's text (the seventh form; the later family's looks); each row that meets fmt, with fmt's text TOLD by the authors' own Lean function (tested against real Go, not proved from fmt's source: count such statements apart). THE CARD IS WHAT COUNTS. Prove the row's statement (the work); the ties are given (YtlmibonebiaocaaGreatDoorTie.lean); close each card by the builder's one call (the guide's Derived/Test/ToyasCard.lean, 'card_holds'). Laid BY PROGRAM, IN A SANDBOX (cutbox-door.mjs). By AI agents, Wed Nov 11 2026. No macro, syntax, notation, axiom, sorry.
-/
import Derived.Test.YtlmibonebiaocaaGreatDoorRows
import GoSem.ClaimSeven
namespace Go.Proofs.YtlmibonebiaocaaGreatDoor
namespace Rows

/-- THE TIED CARD OF 'laws.FnExactSumEnd'. -/
def fnExactSumEndCard : Claim7 := { stood := { row := fnExactSumEndRow, standIns := [], harness := (true, "f551879eae44f7d99e9e7629d203ef225bebcebcbbc5f34bec3b40c57d8440ce"), looks := true }, kinds := [], alts := [], laidByText := true, laidKinds := [.data, .data, .data, .sentinel, .sentinel], laidTests := true, laidLooks := .later }
def FnExactSumEndCardSaid : Prop := Claim7.holds Tryz.pinned (.plain (OpenSpec.ofChange fnExactSumEndSpec)) fnExactSumEndCard

/-- THE TIED CARD OF 'laws.FnExactDeedEnd'. -/
def fnExactDeedEndCard : Claim7 := { stood := { row := fnExactDeedEndRow, standIns := [], harness := (true, "f551879eae44f7d99e9e7629d203ef225bebcebcbbc5f34bec3b40c57d8440ce"), looks := true }, kinds := [], alts := [], laidByText := true, laidKinds := [.data, .data, .data, .sentinel, .sentinel], laidTests := true, laidLooks := .later }
def FnExactDeedEndCardSaid : Prop := Claim7.holds Tryz.pinned (.plain (OpenSpec.ofChange fnExactDeedEndSpec)) fnExactDeedEndCard

/-- THE TIED CARD OF 'laws.FnExactPlayOk'. -/
def fnExactPlayOkCard : Claim7 := { stood := { row := fnExactPlayOkRow, standIns := [], harness := (true, "f551879eae44f7d99e9e7629d203ef225bebcebcbbc5f34bec3b40c57d8440ce"), looks := true }, kinds := [], alts := [], laidByText := true, laidKinds := [.data, .data, .data, .sentinel, .sentinel], laidTests := true, laidLooks := .later }
def FnExactPlayOkCardSaid : Prop := Claim7.holds Tryz.pinned (.plain (OpenSpec.ofChange fnExactPlayOkSpec)) fnExactPlayOkCard

/-- THE TIED CARD OF 'laws.FnExactCount'. -/
def fnExactCountCard : Claim7 := { stood := { row := fnExactCountRow, standIns := [], harness := (true, "f551879eae44f7d99e9e7629d203ef225bebcebcbbc5f34bec3b40c57d8440ce"), looks := true }, kinds := [], alts := [], laidByText := true, laidKinds := [.data, .data, .data, .sentinel, .sentinel], laidTests := true, laidLooks := .later }
def FnExactCountCardSaid : Prop := Claim7.holds Tryz.pinned (.plain (OpenSpec.ofChange fnExactCountSpec)) fnExactCountCard

/-- THE SECOND FORM's CARD OF 'laws.FnExactSumEnd'. -/
def fnExactSumEndUptoCard : Claim7 := { stood := { row := fnExactSumEndUptoRow, standIns := [], harness := (true, "f551879eae44f7d99e9e7629d203ef225bebcebcbbc5f34bec3b40c57d8440ce"), looks := true }, kinds := [], alts := [], laidByText := true, laidKinds := [.data, .data, .data, .sentinel, .sentinel], laidTests := true, laidLooks := .later }
def FnExactSumEndUptoCardSaid : Prop := Claim7.holds Tryz.pinned (.plain (OpenSpec.upto fnExactSumEndSpec)) fnExactSumEndUptoCard

/-- THE SECOND FORM's CARD OF 'laws.FnExactDeedEnd'. -/
def fnExactDeedEndUptoCard : Claim7 := { stood := { row := fnExactDeedEndUptoRow, standIns := [], harness := (true, "f551879eae44f7d99e9e7629d203ef225bebcebcbbc5f34bec3b40c57d8440ce"), looks := true }, kinds := [], alts := [], laidByText := true, laidKinds := [.data, .data, .data, .sentinel, .sentinel], laidTests := true, laidLooks := .later }
def FnExactDeedEndUptoCardSaid : Prop := Claim7.holds Tryz.pinned (.plain (OpenSpec.upto fnExactDeedEndSpec)) fnExactDeedEndUptoCard

/-- THE SECOND FORM's CARD OF 'laws.FnExactPlayOk'. -/
def fnExactPlayOkUptoCard : Claim7 := { stood := { row := fnExactPlayOkUptoRow, standIns := [], harness := (true, "f551879eae44f7d99e9e7629d203ef225bebcebcbbc5f34bec3b40c57d8440ce"), looks := true }, kinds := [], alts := [], laidByText := true, laidKinds := [.data, .data, .data, .sentinel, .sentinel], laidTests := true, laidLooks := .later }
def FnExactPlayOkUptoCardSaid : Prop := Claim7.holds Tryz.pinned (.plain (OpenSpec.upto fnExactPlayOkSpec)) fnExactPlayOkUptoCard

/-- THE SECOND FORM's CARD OF 'laws.FnExactCount'. -/
def fnExactCountUptoCard : Claim7 := { stood := { row := fnExactCountUptoRow, standIns := [], harness := (true, "f551879eae44f7d99e9e7629d203ef225bebcebcbbc5f34bec3b40c57d8440ce"), looks := true }, kinds := [], alts := [], laidByText := true, laidKinds := [.data, .data, .data, .sentinel, .sentinel], laidTests := true, laidLooks := .later }
def FnExactCountUptoCardSaid : Prop := Claim7.holds Tryz.pinned (.plain (OpenSpec.upto fnExactCountSpec)) fnExactCountUptoCard
end Rows
end Go.Proofs.YtlmibonebiaocaaGreatDoor
