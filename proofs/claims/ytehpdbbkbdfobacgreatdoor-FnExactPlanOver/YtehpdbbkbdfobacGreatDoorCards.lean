/-
  DERIVED. GIVEN WITH THE SEED: THE CARDS: each row of YtehpdbbkbdfobacGreatDoorRows.lean that lists a variable, with what it lists TIED to the program's text (the seventh form; the later family's looks); each row that meets fmt, with fmt's text TOLD by the authors' own Lean function (tested against real Go, not proved from fmt's source: count such statements apart). THE CARD IS WHAT COUNTS. Prove the row's statement (the work); the ties are given (YtehpdbbkbdfobacGreatDoorTie.lean); close each card by the builder's one call (the guide's Derived/Test/ToyasCard.lean, 'card_holds'). Laid BY PROGRAM, IN A SANDBOX (cutbox-door.mjs). By AI agents, Wed Nov 11 2026. No macro, syntax, notation, axiom, sorry.
-/
import Derived.Test.YtehpdbbkbdfobacGreatDoorRows
import GoSem.ClaimSeven
namespace Go.Proofs.YtehpdbbkbdfobacGreatDoor
namespace Rows

/-- THE TIED CARD OF 'laws.FnExactPlanPathOf'. -/
def fnExactPlanPathOfCard : Claim7 := { stood := { row := fnExactPlanPathOfRow, standIns := [], harness := (true, "4afdc5889155738255afc832f88fab213745c6105676ce236b403ea3e0b46804"), looks := true }, kinds := [], alts := [], laidByText := true, laidKinds := [.data], laidTests := true, laidLooks := .later }
def FnExactPlanPathOfCardSaid : Prop := Claim7.holds Tryz.pinned (.plain (OpenSpec.ofChange fnExactPlanPathOfSpec)) fnExactPlanPathOfCard

/-- THE TIED CARD OF 'laws.FnExactPlanOver'. -/
def fnExactPlanOverCard : Claim7 := { stood := { row := fnExactPlanOverRow, standIns := [], harness := (true, "4afdc5889155738255afc832f88fab213745c6105676ce236b403ea3e0b46804"), looks := true }, kinds := [], alts := [], laidByText := true, laidKinds := [.data], laidTests := true, laidLooks := .later }
def FnExactPlanOverCardSaid : Prop := Claim7.holds Tryz.pinned (.plain (OpenSpec.ofChange fnExactPlanOverSpec)) fnExactPlanOverCard

/-- THE TIED CARD OF 'laws.FnExactPlanSession'. -/
def fnExactPlanSessionCard : Claim7 := { stood := { row := fnExactPlanSessionRow, standIns := [], harness := (true, "4afdc5889155738255afc832f88fab213745c6105676ce236b403ea3e0b46804"), looks := true }, kinds := [], alts := [], laidByText := true, laidKinds := [.data, .data, .data, .data, .handle, .data, .data, .data, .pinned], laidTests := true, laidLooks := .later }
def FnExactPlanSessionCardSaid : Prop := Claim7.holds Tryz.pinned (.plain (OpenSpec.ofChange fnExactPlanSessionSpec)) fnExactPlanSessionCard

/-- THE SECOND FORM's CARD OF 'laws.FnExactPlanPathOf'. -/
def fnExactPlanPathOfUptoCard : Claim7 := { stood := { row := fnExactPlanPathOfUptoRow, standIns := [], harness := (true, "4afdc5889155738255afc832f88fab213745c6105676ce236b403ea3e0b46804"), looks := true }, kinds := [], alts := [], laidByText := true, laidKinds := [.data], laidTests := true, laidLooks := .later }
def FnExactPlanPathOfUptoCardSaid : Prop := Claim7.holds Tryz.pinned (.plain (OpenSpec.upto fnExactPlanPathOfSpec)) fnExactPlanPathOfUptoCard

/-- THE SECOND FORM's CARD OF 'laws.FnExactPlanOver'. -/
def fnExactPlanOverUptoCard : Claim7 := { stood := { row := fnExactPlanOverUptoRow, standIns := [], harness := (true, "4afdc5889155738255afc832f88fab213745c6105676ce236b403ea3e0b46804"), looks := true }, kinds := [], alts := [], laidByText := true, laidKinds := [.data], laidTests := true, laidLooks := .later }
def FnExactPlanOverUptoCardSaid : Prop := Claim7.holds Tryz.pinned (.plain (OpenSpec.upto fnExactPlanOverSpec)) fnExactPlanOverUptoCard

/-- THE SECOND FORM's CARD OF 'laws.FnExactPlanSession'. -/
def fnExactPlanSessionUptoCard : Claim7 := { stood := { row := fnExactPlanSessionUptoRow, standIns := [], harness := (true, "4afdc5889155738255afc832f88fab213745c6105676ce236b403ea3e0b46804"), looks := true }, kinds := [], alts := [], laidByText := true, laidKinds := [.data, .data, .data, .data, .handle, .data, .data, .data, .pinned], laidTests := true, laidLooks := .later }
def FnExactPlanSessionUptoCardSaid : Prop := Claim7.holds Tryz.pinned (.plain (OpenSpec.upto fnExactPlanSessionSpec)) fnExactPlanSessionUptoCard
end Rows
end Go.Proofs.YtehpdbbkbdfobacGreatDoor
