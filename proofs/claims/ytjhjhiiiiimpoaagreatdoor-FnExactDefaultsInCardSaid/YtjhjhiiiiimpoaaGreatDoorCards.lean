/-
  DERIVED. GIVEN WITH THE SEED: THE CARDS: each row of YtjhjhiiiiimpoaaGreatDoorRows.lean that lists a variable, with what it lists TIED to the program's text (the seventh form; the later family's looks); each row that meets fmt, with fmt's text TOLD by the authors' own Lean function (tested against real Go, not proved from fmt's source: count such statements apart). THE CARD IS WHAT COUNTS. Prove the row's statement (the work); the ties are given (YtjhjhiiiiimpoaaGreatDoorTie.lean); close each card by the builder's one call (the guide's Derived/Test/ToyasCard.lean, 'card_holds'). Laid BY PROGRAM, IN A SANDBOX (cutbox-door.mjs). By AI agents, Wed Nov 11 2026. No macro, syntax, notation, axiom, sorry.
-/
import Derived.Test.YtjhjhiiiiimpoaaGreatDoorRows
import GoSem.ClaimSeven
namespace Go.Proofs.YtjhjhiiiiimpoaaGreatDoor
namespace Rows

/-- THE TIED CARD OF 'laws.FnExactDefaultsIn'. -/
def fnExactDefaultsInCard : Claim7 := { stood := { row := fnExactDefaultsInRow, standIns := [], harness := (true, "35c15d05426f4640ca327f00c021933e51a1d6adbeca51cdd4e3bdf383c73ab9"), looks := true }, kinds := [], alts := [], laidByText := true, laidKinds := [.data, .data, .data, .sentinel, .sentinel], laidTests := true, laidLooks := .later }
def FnExactDefaultsInCardSaid : Prop := Claim7.holds Tryz.pinned (.plain (OpenSpec.ofChange fnExactDefaultsInSpec)) fnExactDefaultsInCard

/-- THE SECOND FORM's CARD OF 'laws.FnExactDefaultsIn'. -/
def fnExactDefaultsInUptoCard : Claim7 := { stood := { row := fnExactDefaultsInUptoRow, standIns := [], harness := (true, "35c15d05426f4640ca327f00c021933e51a1d6adbeca51cdd4e3bdf383c73ab9"), looks := true }, kinds := [], alts := [], laidByText := true, laidKinds := [.data, .data, .data, .sentinel, .sentinel], laidTests := true, laidLooks := .later }
def FnExactDefaultsInUptoCardSaid : Prop := Claim7.holds Tryz.pinned (.plain (OpenSpec.upto fnExactDefaultsInSpec)) fnExactDefaultsInUptoCard
end Rows
end Go.Proofs.YtjhjhiiiiimpoaaGreatDoor
