/-
  DERIVED. GIVEN WITH THE SEED: THE CARDS: each row of YtcpnofagnnncoaaGreatDoorRows.lean that lists a variable, with what it lists TIED to the program's text (the seventh form; the later family's looks); each row that meets fmt, with fmt's text TOLD by the authors' own Lean function (tested against real Go, not proved from fmt's source: count such statements apart). THE CARD IS WHAT COUNTS. Prove the row's statement (the work); the ties are given (YtcpnofagnnncoaaGreatDoorTie.lean); close each card by the builder's one call (the guide's Derived/Test/ToyasCard.lean, 'card_holds'). Laid BY PROGRAM, IN A SANDBOX (cutbox-door.mjs). By AI agents, Wed Nov 11 2026. No macro, syntax, notation, axiom, sorry.
-/
import Derived.Test.YtcpnofagnnncoaaGreatDoorRows
import GoSem.ClaimSeven
namespace Go.Proofs.YtcpnofagnnncoaaGreatDoor
namespace Rows

/-- THE TIED CARD OF 'laws.FnExactCaptured'. -/
def fnExactCapturedCard : Claim7 := { stood := { row := fnExactCapturedRow, standIns := [], harness := (true, "eba22b09de2caac400d24bf593713ad2be7c2a81f2b137654630e8a2be3bfe39"), looks := true }, kinds := [], alts := [], laidByText := true, laidKinds := [.data, .data, .data, .sentinel, .sentinel], laidTests := true, laidLooks := .later }
def FnExactCapturedCardSaid : Prop := Claim7.holds Tryz.pinned (.plain (OpenSpec.ofChange fnExactCapturedSpec)) fnExactCapturedCard

/-- THE TIED CARD OF 'laws.FnExactLoopDos'. -/
def fnExactLoopDosCard : Claim7 := { stood := { row := fnExactLoopDosRow, standIns := [], harness := (true, "eba22b09de2caac400d24bf593713ad2be7c2a81f2b137654630e8a2be3bfe39"), looks := true }, kinds := [], alts := [], laidByText := true, laidKinds := [.data, .data, .data, .sentinel, .sentinel], laidTests := true, laidLooks := .later }
def FnExactLoopDosCardSaid : Prop := Claim7.holds Tryz.pinned (.plain (OpenSpec.ofChange fnExactLoopDosSpec)) fnExactLoopDosCard

/-- THE SECOND FORM's CARD OF 'laws.FnExactCaptured'. -/
def fnExactCapturedUptoCard : Claim7 := { stood := { row := fnExactCapturedUptoRow, standIns := [], harness := (true, "eba22b09de2caac400d24bf593713ad2be7c2a81f2b137654630e8a2be3bfe39"), looks := true }, kinds := [], alts := [], laidByText := true, laidKinds := [.data, .data, .data, .sentinel, .sentinel], laidTests := true, laidLooks := .later }
def FnExactCapturedUptoCardSaid : Prop := Claim7.holds Tryz.pinned (.plain (OpenSpec.upto fnExactCapturedSpec)) fnExactCapturedUptoCard

/-- THE SECOND FORM's CARD OF 'laws.FnExactLoopDos'. -/
def fnExactLoopDosUptoCard : Claim7 := { stood := { row := fnExactLoopDosUptoRow, standIns := [], harness := (true, "eba22b09de2caac400d24bf593713ad2be7c2a81f2b137654630e8a2be3bfe39"), looks := true }, kinds := [], alts := [], laidByText := true, laidKinds := [.data, .data, .data, .sentinel, .sentinel], laidTests := true, laidLooks := .later }
def FnExactLoopDosUptoCardSaid : Prop := Claim7.holds Tryz.pinned (.plain (OpenSpec.upto fnExactLoopDosSpec)) fnExactLoopDosUptoCard
end Rows
end Go.Proofs.YtcpnofagnnncoaaGreatDoor
