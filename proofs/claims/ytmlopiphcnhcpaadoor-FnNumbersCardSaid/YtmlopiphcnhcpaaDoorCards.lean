/-
  DERIVED. GIVEN WITH THE SEED: THE CARDS: each row of YtmlopiphcnhcpaaDoorRows.lean that lists a variable, with what it lists TIED to the program's text (the seventh form; the later family's looks); each row that meets fmt, with fmt's text TOLD by the authors' own Lean function (tested against real Go, not proved from fmt's source: count such statements apart). THE CARD IS WHAT COUNTS. Prove the row's statement (the work); the ties are given (YtmlopiphcnhcpaaDoorTie.lean); close each card by the builder's one call (the guide's Derived/Test/ToyasCard.lean, 'card_holds'). Laid BY PROGRAM, IN A SANDBOX (cutbox-door.mjs). By AI agents, Wed Nov 11 2026. No macro, syntax, notation, axiom, sorry.
-/
import Derived.Test.YtmlopiphcnhcpaaDoorRows
import GoSem.ClaimSeven
namespace Go.Proofs.YtmlopiphcnhcpaaDoor
namespace Rows

/-- THE TIED CARD OF 'laws.FnNumbers'. -/
def fnNumbersCard : Claim7 := { stood := { row := fnNumbersRow, standIns := [], harness := (true, "d3e3011775474fdabd885c305cb81f2c3ef03de14ca65df6ddb1c5b4ef89e514"), looks := true }, kinds := [], alts := [], laidByText := true, laidKinds := [.data, .data, .data, .sentinel, .sentinel], laidTests := true, laidLooks := .later }
def FnNumbersCardSaid : Prop := Claim7.holds Tryd.pinned (.plain (OpenSpec.ofChange fnNumbersSpec)) fnNumbersCard

/-- THE TIED CARD OF 'laws.FnExactReadNumber'. -/
def fnExactReadNumberCard : Claim7 := { stood := { row := fnExactReadNumberRow, standIns := [], harness := (true, "d3e3011775474fdabd885c305cb81f2c3ef03de14ca65df6ddb1c5b4ef89e514"), looks := true }, kinds := [], alts := [], laidByText := true, laidKinds := [.data, .data, .data, .sentinel, .sentinel], laidTests := true, laidLooks := .later }
def FnExactReadNumberCardSaid : Prop := Claim7.holds Tryd.pinned (.plain (OpenSpec.ofChange fnExactReadNumberSpec)) fnExactReadNumberCard

/-- THE TIED CARD OF 'laws.FnExactSignOf'. -/
def fnExactSignOfCard : Claim7 := { stood := { row := fnExactSignOfRow, standIns := [], harness := (true, "d3e3011775474fdabd885c305cb81f2c3ef03de14ca65df6ddb1c5b4ef89e514"), looks := true }, kinds := [], alts := [], laidByText := true, laidKinds := [.data, .data, .data], laidTests := true, laidLooks := .later }
def FnExactSignOfCardSaid : Prop := Claim7.holds Tryd.pinned (.plain (OpenSpec.ofChange fnExactSignOfSpec)) fnExactSignOfCard

/-- THE TIED CARD OF 'laws.FnExactValueIn'. -/
def fnExactValueInCard : Claim7 := { stood := { row := fnExactValueInRow, standIns := [], harness := (true, "d3e3011775474fdabd885c305cb81f2c3ef03de14ca65df6ddb1c5b4ef89e514"), looks := true }, kinds := [], alts := [], laidByText := true, laidKinds := [.data, .data, .data, .sentinel, .sentinel], laidTests := true, laidLooks := .later }
def FnExactValueInCardSaid : Prop := Claim7.holds Tryd.pinned (.plain (OpenSpec.ofChange fnExactValueInSpec)) fnExactValueInCard

/-- THE SECOND FORM's CARD OF 'laws.FnNumbers'. -/
def fnNumbersUptoCard : Claim7 := { stood := { row := fnNumbersUptoRow, standIns := [], harness := (true, "d3e3011775474fdabd885c305cb81f2c3ef03de14ca65df6ddb1c5b4ef89e514"), looks := true }, kinds := [], alts := [], laidByText := true, laidKinds := [.data, .data, .data, .sentinel, .sentinel], laidTests := true, laidLooks := .later }
def FnNumbersUptoCardSaid : Prop := Claim7.holds Tryd.pinned (.plain (OpenSpec.upto fnNumbersSpec)) fnNumbersUptoCard

/-- THE SECOND FORM's CARD OF 'laws.FnExactReadNumber'. -/
def fnExactReadNumberUptoCard : Claim7 := { stood := { row := fnExactReadNumberUptoRow, standIns := [], harness := (true, "d3e3011775474fdabd885c305cb81f2c3ef03de14ca65df6ddb1c5b4ef89e514"), looks := true }, kinds := [], alts := [], laidByText := true, laidKinds := [.data, .data, .data, .sentinel, .sentinel], laidTests := true, laidLooks := .later }
def FnExactReadNumberUptoCardSaid : Prop := Claim7.holds Tryd.pinned (.plain (OpenSpec.upto fnExactReadNumberSpec)) fnExactReadNumberUptoCard

/-- THE SECOND FORM's CARD OF 'laws.FnExactSignOf'. -/
def fnExactSignOfUptoCard : Claim7 := { stood := { row := fnExactSignOfUptoRow, standIns := [], harness := (true, "d3e3011775474fdabd885c305cb81f2c3ef03de14ca65df6ddb1c5b4ef89e514"), looks := true }, kinds := [], alts := [], laidByText := true, laidKinds := [.data, .data, .data], laidTests := true, laidLooks := .later }
def FnExactSignOfUptoCardSaid : Prop := Claim7.holds Tryd.pinned (.plain (OpenSpec.upto fnExactSignOfSpec)) fnExactSignOfUptoCard

/-- THE SECOND FORM's CARD OF 'laws.FnExactValueIn'. -/
def fnExactValueInUptoCard : Claim7 := { stood := { row := fnExactValueInUptoRow, standIns := [], harness := (true, "d3e3011775474fdabd885c305cb81f2c3ef03de14ca65df6ddb1c5b4ef89e514"), looks := true }, kinds := [], alts := [], laidByText := true, laidKinds := [.data, .data, .data, .sentinel, .sentinel], laidTests := true, laidLooks := .later }
def FnExactValueInUptoCardSaid : Prop := Claim7.holds Tryd.pinned (.plain (OpenSpec.upto fnExactValueInSpec)) fnExactValueInUptoCard
end Rows
end Go.Proofs.YtmlopiphcnhcpaaDoor
