/-
  DERIVED. GIVEN WITH THE SEED: THE CARDS: each row of YtfmbakjphhlehaaGreatDoorRows.lean that lists a variable, with what it lists TIED to the program's text (the seventh form; the later family's looks); each row that meets fmt, with fmt's text TOLD by the authors' own Lean function (tested against real Go, not proved from fmt's source: count such statements apart). THE CARD IS WHAT COUNTS. Prove the row's statement (the work); the ties are given (YtfmbakjphhlehaaGreatDoorTie.lean); close each card by the builder's one call (the guide's Derived/Test/ToyasCard.lean, 'card_holds'). Laid BY PROGRAM, IN A SANDBOX (cutbox-door.mjs). By AI agents, Wed Nov 11 2026. No macro, syntax, notation, axiom, sorry.
-/
import Derived.Test.YtfmbakjphhlehaaGreatDoorRows
import GoSem.ClaimSeven
namespace Go.Proofs.YtfmbakjphhlehaaGreatDoor
namespace Rows

/-- THE TIED CARD OF 'laws.FnExactDeclared'. -/
def fnExactDeclaredCard : Claim7 := { stood := { row := fnExactDeclaredRow, standIns := [], harness := (true, "e493bc741f91c2a7955439ec70310a0111b4d565739b591f41f88c53cd953f27"), looks := true }, kinds := [], alts := [], laidByText := true, laidKinds := [.data, .data, .data, .sentinel, .sentinel], laidTests := true, laidLooks := .later }
def FnExactDeclaredCardSaid : Prop := Claim7.holds Tryz.pinned (.plain (OpenSpec.ofChange fnExactDeclaredSpec)) fnExactDeclaredCard

/-- THE TIED CARD OF 'laws.FnExactFreeIn'. -/
def fnExactFreeInCard : Claim7 := { stood := { row := fnExactFreeInRow, standIns := [], harness := (true, "e493bc741f91c2a7955439ec70310a0111b4d565739b591f41f88c53cd953f27"), looks := true }, kinds := [], alts := [], laidByText := true, laidKinds := [.data, .data, .data, .sentinel, .sentinel], laidTests := true, laidLooks := .later }
def FnExactFreeInCardSaid : Prop := Claim7.holds Tryz.pinned (.plain (OpenSpec.ofChange fnExactFreeInSpec)) fnExactFreeInCard

/-- THE TIED CARD OF 'laws.FnExactSecret'. -/
def fnExactSecretCard : Claim7 := { stood := { row := fnExactSecretRow, standIns := [], harness := (true, "e493bc741f91c2a7955439ec70310a0111b4d565739b591f41f88c53cd953f27"), looks := true }, kinds := [], alts := [], laidByText := true, laidKinds := [.data, .data, .data, .sentinel, .sentinel], laidTests := true, laidLooks := .later }
def FnExactSecretCardSaid : Prop := Claim7.holds Tryz.pinned (.plain (OpenSpec.ofChange fnExactSecretSpec)) fnExactSecretCard

/-- THE TIED CARD OF 'laws.FnExactScoped'. -/
def fnExactScopedCard : Claim7 := { stood := { row := fnExactScopedRow, standIns := [], harness := (true, "e493bc741f91c2a7955439ec70310a0111b4d565739b591f41f88c53cd953f27"), looks := true }, kinds := [], alts := [], laidByText := true, laidKinds := [.data, .data, .data, .sentinel, .sentinel], laidTests := true, laidLooks := .later }
def FnExactScopedCardSaid : Prop := Claim7.holds Tryz.pinned (.plain (OpenSpec.ofChange fnExactScopedSpec)) fnExactScopedCard

/-- THE SECOND FORM's CARD OF 'laws.FnExactDeclared'. -/
def fnExactDeclaredUptoCard : Claim7 := { stood := { row := fnExactDeclaredUptoRow, standIns := [], harness := (true, "e493bc741f91c2a7955439ec70310a0111b4d565739b591f41f88c53cd953f27"), looks := true }, kinds := [], alts := [], laidByText := true, laidKinds := [.data, .data, .data, .sentinel, .sentinel], laidTests := true, laidLooks := .later }
def FnExactDeclaredUptoCardSaid : Prop := Claim7.holds Tryz.pinned (.plain (OpenSpec.upto fnExactDeclaredSpec)) fnExactDeclaredUptoCard

/-- THE SECOND FORM's CARD OF 'laws.FnExactFreeIn'. -/
def fnExactFreeInUptoCard : Claim7 := { stood := { row := fnExactFreeInUptoRow, standIns := [], harness := (true, "e493bc741f91c2a7955439ec70310a0111b4d565739b591f41f88c53cd953f27"), looks := true }, kinds := [], alts := [], laidByText := true, laidKinds := [.data, .data, .data, .sentinel, .sentinel], laidTests := true, laidLooks := .later }
def FnExactFreeInUptoCardSaid : Prop := Claim7.holds Tryz.pinned (.plain (OpenSpec.upto fnExactFreeInSpec)) fnExactFreeInUptoCard

/-- THE SECOND FORM's CARD OF 'laws.FnExactSecret'. -/
def fnExactSecretUptoCard : Claim7 := { stood := { row := fnExactSecretUptoRow, standIns := [], harness := (true, "e493bc741f91c2a7955439ec70310a0111b4d565739b591f41f88c53cd953f27"), looks := true }, kinds := [], alts := [], laidByText := true, laidKinds := [.data, .data, .data, .sentinel, .sentinel], laidTests := true, laidLooks := .later }
def FnExactSecretUptoCardSaid : Prop := Claim7.holds Tryz.pinned (.plain (OpenSpec.upto fnExactSecretSpec)) fnExactSecretUptoCard

/-- THE SECOND FORM's CARD OF 'laws.FnExactScoped'. -/
def fnExactScopedUptoCard : Claim7 := { stood := { row := fnExactScopedUptoRow, standIns := [], harness := (true, "e493bc741f91c2a7955439ec70310a0111b4d565739b591f41f88c53cd953f27"), looks := true }, kinds := [], alts := [], laidByText := true, laidKinds := [.data, .data, .data, .sentinel, .sentinel], laidTests := true, laidLooks := .later }
def FnExactScopedUptoCardSaid : Prop := Claim7.holds Tryz.pinned (.plain (OpenSpec.upto fnExactScopedSpec)) fnExactScopedUptoCard
end Rows
end Go.Proofs.YtfmbakjphhlehaaGreatDoor
