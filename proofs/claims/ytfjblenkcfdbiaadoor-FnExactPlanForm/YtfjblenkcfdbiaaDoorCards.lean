/-
  DERIVED. GIVEN WITH THE SEED: THE CARDS: each row of YtfjblenkcfdbiaaDoorRows.lean that lists a variable, with what it lists TIED to the program's text (the seventh form; the later family's looks); each row that meets fmt, with fmt's text TOLD by the authors' own Lean function (tested against real Go, not proved from fmt's source: count such statements apart). THE CARD IS WHAT COUNTS. Prove the row's statement (the work); the ties are given (YtfjblenkcfdbiaaDoorTie.lean); close each card by the builder's one call (the guide's Derived/Test/ToyasCard.lean, 'card_holds'). Laid BY PROGRAM, IN A SANDBOX (cutbox-door.mjs). By AI agents, Wed Nov 11 2026. No macro, syntax, notation, axiom, sorry.
-/
import Derived.Test.YtfjblenkcfdbiaaDoorRows
import GoSem.ClaimSeven
namespace Go.Proofs.YtfjblenkcfdbiaaDoor
namespace Rows

/-- THE TIED CARD OF 'laws.FnExactPlanForm'. -/
def fnExactPlanFormCard : Claim7 := { stood := { row := fnExactPlanFormRow, standIns := [], harness := (true, "d4047927e518d07dd3f132807e1a0226db9b4bf1f1a4d474f482595886812e09"), looks := false }, kinds := [], alts := [], laidByText := true, laidKinds := [.data, .data, .data, .data], laidTests := true, laidLooks := .later }
def FnExactPlanFormCardSaid : Prop := Claim7.holds Tryd.pinned (.plain (OpenSpec.ofChange fnExactPlanFormSpec)) fnExactPlanFormCard

/-- THE TIED CARD OF 'laws.FnExactPlanRead'. -/
def fnExactPlanReadCard : Claim7 := { stood := { row := fnExactPlanReadRow, standIns := [], harness := (true, "d4047927e518d07dd3f132807e1a0226db9b4bf1f1a4d474f482595886812e09"), looks := false }, kinds := [], alts := [], laidByText := true, laidKinds := [.data, .data, .pinned], laidTests := true, laidLooks := .later }
def FnExactPlanReadCardSaid : Prop := Claim7.holds Tryd.pinned (.plain (OpenSpec.ofChange fnExactPlanReadSpec)) fnExactPlanReadCard

/-- THE SECOND FORM's CARD OF 'laws.FnExactPlanForm'. -/
def fnExactPlanFormUptoCard : Claim7 := { stood := { row := fnExactPlanFormUptoRow, standIns := [], harness := (true, "d4047927e518d07dd3f132807e1a0226db9b4bf1f1a4d474f482595886812e09"), looks := false }, kinds := [], alts := [], laidByText := true, laidKinds := [.data, .data, .data, .data], laidTests := true, laidLooks := .later }
def FnExactPlanFormUptoCardSaid : Prop := Claim7.holds Tryd.pinned (.plain (OpenSpec.upto fnExactPlanFormSpec)) fnExactPlanFormUptoCard

/-- THE SECOND FORM's CARD OF 'laws.FnExactPlanRead'. -/
def fnExactPlanReadUptoCard : Claim7 := { stood := { row := fnExactPlanReadUptoRow, standIns := [], harness := (true, "d4047927e518d07dd3f132807e1a0226db9b4bf1f1a4d474f482595886812e09"), looks := false }, kinds := [], alts := [], laidByText := true, laidKinds := [.data, .data, .pinned], laidTests := true, laidLooks := .later }
def FnExactPlanReadUptoCardSaid : Prop := Claim7.holds Tryd.pinned (.plain (OpenSpec.upto fnExactPlanReadSpec)) fnExactPlanReadUptoCard
end Rows
end Go.Proofs.YtfjblenkcfdbiaaDoor
