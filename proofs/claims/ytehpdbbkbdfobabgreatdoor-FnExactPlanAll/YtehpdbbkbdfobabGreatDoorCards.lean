/-
  DERIVED. GIVEN WITH THE SEED: THE CARDS: each row of YtehpdbbkbdfobabGreatDoorRows.lean that lists a variable, with what it lists TIED to the program's text (the seventh form; the later family's looks); each row that meets fmt, with fmt's text TOLD by the authors' own Lean function (tested against real Go, not proved from fmt's source: count such statements apart). THE CARD IS WHAT COUNTS. Prove the row's statement (the work); the ties are given (YtehpdbbkbdfobabGreatDoorTie.lean); close each card by the builder's one call (the guide's Derived/Test/ToyasCard.lean, 'card_holds'). Laid BY PROGRAM, IN A SANDBOX (cutbox-door.mjs). By AI agents, Wed Nov 11 2026. No macro, syntax, notation, axiom, sorry.
-/
import Derived.Test.YtehpdbbkbdfobabGreatDoorRows
import GoSem.ClaimSeven
namespace Go.Proofs.YtehpdbbkbdfobabGreatDoor
namespace Rows

/-- THE TIED CARD OF 'laws.FnExactPlanParse'. -/
def fnExactPlanParseCard : Claim7 := { stood := { row := fnExactPlanParseRow, standIns := [], harness := (true, "95112e5e0be8b853730bbf546bb1074b1dcba5d9575778d5e80ae5128d1c3279"), looks := true }, kinds := [], alts := [], laidByText := true, laidKinds := [.data, .handle, .data, .pinned], laidTests := true, laidLooks := .later }
def FnExactPlanParseCardSaid : Prop := Claim7.holds Tryz.pinned (.plain (OpenSpec.ofChange fnExactPlanParseSpec)) fnExactPlanParseCard

/-- THE TIED CARD OF 'laws.FnExactPlanPrint'. -/
def fnExactPlanPrintCard : Claim7 := { stood := { row := fnExactPlanPrintRow, standIns := [], harness := (true, "95112e5e0be8b853730bbf546bb1074b1dcba5d9575778d5e80ae5128d1c3279"), looks := true }, kinds := [], alts := [], laidByText := true, laidKinds := [.data, .data, .data, .data], laidTests := true, laidLooks := .later }
def FnExactPlanPrintCardSaid : Prop := Claim7.holds Tryz.pinned (.plain (OpenSpec.ofChange fnExactPlanPrintSpec)) fnExactPlanPrintCard

/-- THE TIED CARD OF 'laws.FnExactPlanStands'. -/
def fnExactPlanStandsCard : Claim7 := { stood := { row := fnExactPlanStandsRow, standIns := [], harness := (true, "95112e5e0be8b853730bbf546bb1074b1dcba5d9575778d5e80ae5128d1c3279"), looks := true }, kinds := [], alts := [], laidByText := true, laidKinds := [.data], laidTests := true, laidLooks := .later }
def FnExactPlanStandsCardSaid : Prop := Claim7.holds Tryz.pinned (.plain (OpenSpec.ofChange fnExactPlanStandsSpec)) fnExactPlanStandsCard

/-- THE TIED CARD OF 'laws.FnExactPlanAll'. -/
def fnExactPlanAllCard : Claim7 := { stood := { row := fnExactPlanAllRow, standIns := [], harness := (true, "95112e5e0be8b853730bbf546bb1074b1dcba5d9575778d5e80ae5128d1c3279"), looks := true }, kinds := [], alts := [], laidByText := true, laidKinds := [.data], laidTests := true, laidLooks := .later }
def FnExactPlanAllCardSaid : Prop := Claim7.holds Tryz.pinned (.plain (OpenSpec.ofChange fnExactPlanAllSpec)) fnExactPlanAllCard

/-- THE SECOND FORM's CARD OF 'laws.FnExactPlanParse'. -/
def fnExactPlanParseUptoCard : Claim7 := { stood := { row := fnExactPlanParseUptoRow, standIns := [], harness := (true, "95112e5e0be8b853730bbf546bb1074b1dcba5d9575778d5e80ae5128d1c3279"), looks := true }, kinds := [], alts := [], laidByText := true, laidKinds := [.data, .handle, .data, .pinned], laidTests := true, laidLooks := .later }
def FnExactPlanParseUptoCardSaid : Prop := Claim7.holds Tryz.pinned (.plain (OpenSpec.upto fnExactPlanParseSpec)) fnExactPlanParseUptoCard

/-- THE SECOND FORM's CARD OF 'laws.FnExactPlanPrint'. -/
def fnExactPlanPrintUptoCard : Claim7 := { stood := { row := fnExactPlanPrintUptoRow, standIns := [], harness := (true, "95112e5e0be8b853730bbf546bb1074b1dcba5d9575778d5e80ae5128d1c3279"), looks := true }, kinds := [], alts := [], laidByText := true, laidKinds := [.data, .data, .data, .data], laidTests := true, laidLooks := .later }
def FnExactPlanPrintUptoCardSaid : Prop := Claim7.holds Tryz.pinned (.plain (OpenSpec.upto fnExactPlanPrintSpec)) fnExactPlanPrintUptoCard

/-- THE SECOND FORM's CARD OF 'laws.FnExactPlanStands'. -/
def fnExactPlanStandsUptoCard : Claim7 := { stood := { row := fnExactPlanStandsUptoRow, standIns := [], harness := (true, "95112e5e0be8b853730bbf546bb1074b1dcba5d9575778d5e80ae5128d1c3279"), looks := true }, kinds := [], alts := [], laidByText := true, laidKinds := [.data], laidTests := true, laidLooks := .later }
def FnExactPlanStandsUptoCardSaid : Prop := Claim7.holds Tryz.pinned (.plain (OpenSpec.upto fnExactPlanStandsSpec)) fnExactPlanStandsUptoCard

/-- THE SECOND FORM's CARD OF 'laws.FnExactPlanAll'. -/
def fnExactPlanAllUptoCard : Claim7 := { stood := { row := fnExactPlanAllUptoRow, standIns := [], harness := (true, "95112e5e0be8b853730bbf546bb1074b1dcba5d9575778d5e80ae5128d1c3279"), looks := true }, kinds := [], alts := [], laidByText := true, laidKinds := [.data], laidTests := true, laidLooks := .later }
def FnExactPlanAllUptoCardSaid : Prop := Claim7.holds Tryz.pinned (.plain (OpenSpec.upto fnExactPlanAllSpec)) fnExactPlanAllUptoCard
end Rows
end Go.Proofs.YtehpdbbkbdfobabGreatDoor
