/-
  DERIVED. GIVEN WITH THE SEED: THE CARDS: each row of YtlmibonebiaocaaDoorRows.lean that lists a variable, with what it lists TIED to the program's text (the seventh form; the later family's looks); each row that meets fmt, with fmt's text TOLD by the authors' own Lean function (tested against real Go, not proved from fmt's source: count such statements apart). THE CARD IS WHAT COUNTS. Prove the row's statement (the work); the ties are given (YtlmibonebiaocaaDoorTie.lean); close each card by the builder's one call (the guide's Derived/Test/ToyasCard.lean, 'card_holds'). Laid BY PROGRAM, IN A SANDBOX (cutbox-door.mjs). By AI agents, Wed Nov 11 2026. No macro, syntax, notation, axiom, sorry.
-/
import Derived.Test.YtlmibonebiaocaaDoorRows
import GoSem.ClaimSeven
namespace Go.Proofs.YtlmibonebiaocaaDoor
namespace Rows

/-- THE TIED CARD OF 'laws.FnReserved'. -/
def fnReservedCard : Claim7 := { stood := { row := fnReservedRow, standIns := [], harness := (true, "53f29944ed41509d35ca2e942d6cc7715e1834a33f67f7933067d4a284c92fe7"), looks := true }, kinds := [], alts := [], laidByText := true, laidKinds := [.data, .data, .data, .sentinel, .sentinel], laidTests := true, laidLooks := .later }
def FnReservedCardSaid : Prop := Claim7.holds Tryd.pinned (.plain (OpenSpec.ofChange fnReservedSpec)) fnReservedCard

/-- THE TIED CARD OF 'laws.FnExactReserved'. -/
def fnExactReservedCard : Claim7 := { stood := { row := fnExactReservedRow, standIns := [], harness := (true, "53f29944ed41509d35ca2e942d6cc7715e1834a33f67f7933067d4a284c92fe7"), looks := true }, kinds := [], alts := [], laidByText := true, laidKinds := [.data, .data, .data], laidTests := true, laidLooks := .later }
def FnExactReservedCardSaid : Prop := Claim7.holds Tryd.pinned (.plain (OpenSpec.ofChange fnExactReservedSpec)) fnExactReservedCard

/-- THE SECOND FORM's CARD OF 'laws.FnReserved'. -/
def fnReservedUptoCard : Claim7 := { stood := { row := fnReservedUptoRow, standIns := [], harness := (true, "53f29944ed41509d35ca2e942d6cc7715e1834a33f67f7933067d4a284c92fe7"), looks := true }, kinds := [], alts := [], laidByText := true, laidKinds := [.data, .data, .data, .sentinel, .sentinel], laidTests := true, laidLooks := .later }
def FnReservedUptoCardSaid : Prop := Claim7.holds Tryd.pinned (.plain (OpenSpec.upto fnReservedSpec)) fnReservedUptoCard

/-- THE SECOND FORM's CARD OF 'laws.FnExactReserved'. -/
def fnExactReservedUptoCard : Claim7 := { stood := { row := fnExactReservedUptoRow, standIns := [], harness := (true, "53f29944ed41509d35ca2e942d6cc7715e1834a33f67f7933067d4a284c92fe7"), looks := true }, kinds := [], alts := [], laidByText := true, laidKinds := [.data, .data, .data], laidTests := true, laidLooks := .later }
def FnExactReservedUptoCardSaid : Prop := Claim7.holds Tryd.pinned (.plain (OpenSpec.upto fnExactReservedSpec)) fnExactReservedUptoCard
end Rows
end Go.Proofs.YtlmibonebiaocaaDoor
