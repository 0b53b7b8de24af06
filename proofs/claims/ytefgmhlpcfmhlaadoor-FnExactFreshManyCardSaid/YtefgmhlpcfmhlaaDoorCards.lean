/-
  DERIVED. GIVEN WITH THE SEED: THE CARDS: each row of YtefgmhlpcfmhlaaDoorRows.lean that lists a variable, with what it lists TIED to the program's text (the seventh form; the later family's looks); each row that meets fmt, with fmt's text TOLD by the authors' own Lean function (tested against real Go, not proved from fmt's source: count such statements apart). THE CARD IS WHAT COUNTS. Prove the row's statement (the work); the ties are given (YtefgmhlpcfmhlaaDoorTie.lean); close each card by the builder's one call (the guide's Derived/Test/ToyasCard.lean, 'card_holds'). Laid BY PROGRAM, IN A SANDBOX (cutbox-door.mjs). By AI agents, Wed Nov 11 2026. No macro, syntax, notation, axiom, sorry.
-/
import Derived.Test.YtefgmhlpcfmhlaaDoorRows
import GoSem.ClaimSeven
namespace Go.Proofs.YtefgmhlpcfmhlaaDoor
namespace Rows

/-- THE TIED CARD OF 'laws.FnExactFresh'. -/
def fnExactFreshCard : Claim7 := { stood := { row := fnExactFreshRow, standIns := [], harness := (true, "52d33b981d3c780c086063bf73e8fbfaa0f43a9891f50c3fa883a4d78a0e11e2"), looks := true }, kinds := [], alts := [], laidByText := true, laidKinds := [.data, .data, .data], laidTests := true, laidLooks := .later }
def FnExactFreshCardSaid : Prop := Claim7.holds Tryd.pinned (.plain (OpenSpec.ofChange fnExactFreshSpec)) fnExactFreshCard

/-- THE TIED CARD OF 'laws.FnExactFreshMany'. -/
def fnExactFreshManyCard : Claim7 := { stood := { row := fnExactFreshManyRow, standIns := [], harness := (true, "52d33b981d3c780c086063bf73e8fbfaa0f43a9891f50c3fa883a4d78a0e11e2"), looks := true }, kinds := [], alts := [], laidByText := true, laidKinds := [.data, .data, .data], laidTests := true, laidLooks := .later }
def FnExactFreshManyCardSaid : Prop := Claim7.holds Tryd.pinned (.plain (OpenSpec.ofChange fnExactFreshManySpec)) fnExactFreshManyCard

/-- THE SECOND FORM's CARD OF 'laws.FnExactFresh'. -/
def fnExactFreshUptoCard : Claim7 := { stood := { row := fnExactFreshUptoRow, standIns := [], harness := (true, "52d33b981d3c780c086063bf73e8fbfaa0f43a9891f50c3fa883a4d78a0e11e2"), looks := true }, kinds := [], alts := [], laidByText := true, laidKinds := [.data, .data, .data], laidTests := true, laidLooks := .later }
def FnExactFreshUptoCardSaid : Prop := Claim7.holds Tryd.pinned (.plain (OpenSpec.upto fnExactFreshSpec)) fnExactFreshUptoCard

/-- THE SECOND FORM's CARD OF 'laws.FnExactFreshMany'. -/
def fnExactFreshManyUptoCard : Claim7 := { stood := { row := fnExactFreshManyUptoRow, standIns := [], harness := (true, "52d33b981d3c780c086063bf73e8fbfaa0f43a9891f50c3fa883a4d78a0e11e2"), looks := true }, kinds := [], alts := [], laidByText := true, laidKinds := [.data, .data, .data], laidTests := true, laidLooks := .later }
def FnExactFreshManyUptoCardSaid : Prop := Claim7.holds Tryd.pinned (.plain (OpenSpec.upto fnExactFreshManySpec)) fnExactFreshManyUptoCard
end Rows
end Go.Proofs.YtefgmhlpcfmhlaaDoor
