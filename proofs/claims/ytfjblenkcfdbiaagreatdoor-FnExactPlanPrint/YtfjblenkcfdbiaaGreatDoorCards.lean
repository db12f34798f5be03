/-
  DERIVED. GIVEN WITH THE SEED: THE CARDS: each row of YtfjblenkcfdbiaaGreatDoorRows.lean that lists a variable, with what it lists TIED to the program's text (the seventh form; the later family's looks); each row that meets fmt, with fmt's text TOLD by the authors' own Lean function (tested against real Go, not proved from fmt's source: count such statements apart). THE CARD IS WHAT COUNTS. Prove the row's statement (the work); the ties are given (YtfjblenkcfdbiaaGreatDoorTie.lean); close each card by the builder's one call (the guide's Derived/Test/ToyasCard.lean, 'card_holds'). Laid BY PROGRAM, IN A SANDBOX (cutbox-door.mjs). By AI agents, Wed Nov 11 2026. No macro, syntax, notation, axiom, sorry.
-/
import Derived.Test.YtfjblenkcfdbiaaGreatDoorRows
import GoSem.ClaimSeven
namespace Go.Proofs.YtfjblenkcfdbiaaGreatDoor
namespace Rows

/-- THE TIED CARD OF 'laws.FnExactPlanPrint'. -/
def fnExactPlanPrintCard : Claim7 := { stood := { row := fnExactPlanPrintRow, standIns := [], harness := (true, "bd138add8d74d3cede145e1f2792ad9b7e013be794b027267e062e434102a6f7"), looks := true }, kinds := [], alts := [], laidByText := true, laidKinds := [.data, .data, .data, .data], laidTests := true, laidLooks := .later }
def FnExactPlanPrintCardSaid : Prop := Claim7.holds Tryz.pinned (.plain (OpenSpec.ofChange fnExactPlanPrintSpec)) fnExactPlanPrintCard

/-- THE TIED CARD OF 'laws.FnExactPlanStands'. -/
def fnExactPlanStandsCard : Claim7 := { stood := { row := fnExactPlanStandsRow, standIns := [], harness := (true, "bd138add8d74d3cede145e1f2792ad9b7e013be794b027267e062e434102a6f7"), looks := true }, kinds := [], alts := [], laidByText := true, laidKinds := [.data], laidTests := true, laidLooks := .later }
def FnExactPlanStandsCardSaid : Prop := Claim7.holds Tryz.pinned (.plain (OpenSpec.ofChange fnExactPlanStandsSpec)) fnExactPlanStandsCard

/-- THE SECOND FORM's CARD OF 'laws.FnExactPlanPrint'. -/
def fnExactPlanPrintUptoCard : Claim7 := { stood := { row := fnExactPlanPrintUptoRow, standIns := [], harness := (true, "bd138add8d74d3cede145e1f2792ad9b7e013be794b027267e062e434102a6f7"), looks := true }, kinds := [], alts := [], laidByText := true, laidKinds := [.data, .data, .data, .data], laidTests := true, laidLooks := .later }
def FnExactPlanPrintUptoCardSaid : Prop := Claim7.holds Tryz.pinned (.plain (OpenSpec.upto fnExactPlanPrintSpec)) fnExactPlanPrintUptoCard

/-- THE SECOND FORM's CARD OF 'laws.FnExactPlanStands'. -/
def fnExactPlanStandsUptoCard : Claim7 := { stood := { row := fnExactPlanStandsUptoRow, standIns := [], harness := (true, "bd138add8d74d3cede145e1f2792ad9b7e013be794b027267e062e434102a6f7"), looks := true }, kinds := [], alts := [], laidByText := true, laidKinds := [.data], laidTests := true, laidLooks := .later }
def FnExactPlanStandsUptoCardSaid : Prop := Claim7.holds Tryz.pinned (.plain (OpenSpec.upto fnExactPlanStandsSpec)) fnExactPlanStandsUptoCard
end Rows
end Go.Proofs.YtfjblenkcfdbiaaGreatDoor
