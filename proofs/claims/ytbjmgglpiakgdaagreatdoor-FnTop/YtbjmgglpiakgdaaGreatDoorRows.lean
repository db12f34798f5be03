/-
  NARROWER THAN 'FOR EVERY INPUT', by the rows' own cells (each row's printed sentence says how): FnTop: laid · FnPath: laid · FnOver: laid.
  DERIVED. THE GIVEN ROWS OF THIS SEAT. 3 by the template 'for every input the law returns true; each argument reads behind the call as it read before'; 0 by the template 'total and deterministic' (their statements: YtbjmgglpiakgdaaGreatDoorTotals.lean).
  GIVEN WITH THE SEED: the statements are not yours to turn. If you find one false, say at which input.
  Laid BY PROGRAM, IN A SANDBOX (cutbox-rows.mjs): the forced cells as the released guide's own fill.sh prints them over the translation 40a172d48977b9d5… (all of the seat's roots in one cut). By AI agents, Wed Nov 11 2026. No macro, syntax, notation, axiom, sorry.
-/
import Derived.Test.YtbjmgglpiakgdaaGreatDoorChecked
import GoSem.Claim
import GoSem.ClaimJoined
import GoSem.ClaimMapViews
import Derived.JoinedTies
import Derived.KernelRfl
namespace Go.Proofs.YtbjmgglpiakgdaaGreatDoor
/- THE CELL 'sum', in the pinned program and in every row, IS THE sha256 OF THE DUMP (.gsa) THAT YtbjmgglpiakgdaaGreatDoorProg.lean LOADS. Nothing in Lean hashes anything: it is a label: what it is worth is what the hold of that sum in a sandbox is worth. -/
noncomputable def Tryz.pinned : Pinned := { name := "ytbjmgglpiakgdaagreatdoor", sum := "40a172d48977b9d57ab3630c0e652f2ca2f830b8370f4415719c849321388fe5", checked := Tryz.checked }
namespace Rows
def none {H : Type} : Left H := { results := [], args := [] }

/- WHAT THE LISTED PACKAGE-LEVEL VARIABLES READ AS WHEN THE CALL BEGINS. Each datum BY PROGRAM (the guide's laid-datum.mjs) off the statement by which the dump's own 'gosem.cut.vars' lays the variable. In a bare row this is a premise. The card (YtbjmgglpiakgdaaGreatDoorCards.lean) ties it to the program's text. -/
def laid_loop_example_lapplan_impl_neededThings {H : Type} : DataW H := .agg [.lit (.int .i64 1), .lit (.int .i64 2), .lit (.int .i64 3), .lit (.int .i64 4)]

/-- 'laws.FnTop': WHATEVER THE INPUT: true; the input reads as it did. -/
def fnTopSpec : ChangeSpec := { name := "fnTop", vars := ["loop.example/lapplan/impl.neededThings"], fn := fun _ => fun
  | [d, g1] => { results := [.lit (.bool true)], args := [d], vars := [g1] }
  | _ => none }
def fnTopRow : OpenClaim := { program := "ytbjmgglpiakgdaagreatdoor", sum := "40a172d48977b9d57ab3630c0e652f2ca2f830b8370f4415719c849321388fe5", func := "loop.example/lapplan/laws.FnTop", spec := "fnTop", inPlace := ["internal/bytealg.abigen_runtime_cmpstring"], unfollowed := true, recurses := true, named := ["loop.example/lapplan/impl.neededThings"], plainKeys := false, apart := false, laid := [("loop.example/lapplan/impl.neededThings", laid_loop_example_lapplan_impl_neededThings)] }
def FnTopSaid : Prop := fnTopRow.holds Tryz.pinned (OpenSpec.ofChange fnTopSpec)

/-- ITS FALSE NEIGHBOUR: 'it returns false'. Refute it at one input. -/
def fnTopWrong : ChangeSpec := { name := "fnTop", vars := ["loop.example/lapplan/impl.neededThings"], fn := fun _ => fun
  | [d, g1] => { results := [.lit (.bool false)], args := [d], vars := [g1] }
  | _ => none }
def FnTopWrongFalsely : Prop := fnTopRow.holds Tryz.pinned (OpenSpec.ofChange fnTopWrong)

/-- 'laws.FnPath': WHATEVER THE INPUT: true; the input reads as it did. -/
def fnPathSpec : ChangeSpec := { name := "fnPath", vars := ["loop.example/lapplan/impl.neededThings"], fn := fun _ => fun
  | [d, g1] => { results := [.lit (.bool true)], args := [d], vars := [g1] }
  | _ => none }
def fnPathRow : OpenClaim := { program := "ytbjmgglpiakgdaagreatdoor", sum := "40a172d48977b9d57ab3630c0e652f2ca2f830b8370f4415719c849321388fe5", func := "loop.example/lapplan/laws.FnPath", spec := "fnPath", unfollowed := true, recurses := true, named := ["loop.example/lapplan/impl.neededThings"], plainKeys := false, apart := false, laid := [("loop.example/lapplan/impl.neededThings", laid_loop_example_lapplan_impl_neededThings)] }
def FnPathSaid : Prop := fnPathRow.holds Tryz.pinned (OpenSpec.ofChange fnPathSpec)

/-- ITS FALSE NEIGHBOUR: 'it returns false'. Refute it at one input. -/
def fnPathWrong : ChangeSpec := { name := "fnPath", vars := ["loop.example/lapplan/impl.neededThings"], fn := fun _ => fun
  | [d, g1] => { results := [.lit (.bool false)], args := [d], vars := [g1] }
  | _ => none }
def FnPathWrongFalsely : Prop := fnPathRow.holds Tryz.pinned (OpenSpec.ofChange fnPathWrong)

/-- 'laws.FnOver': WHATEVER THE INPUT: true; the input reads as it did. -/
def fnOverSpec : ChangeSpec := { name := "fnOver", vars := ["loop.example/lapplan/impl.neededThings"], fn := fun _ => fun
  | [d1, d2, g1] => { results := [.lit (.bool true)], args := [d1, d2], vars := [g1] }
  | _ => none }
def fnOverRow : OpenClaim := { program := "ytbjmgglpiakgdaagreatdoor", sum := "40a172d48977b9d57ab3630c0e652f2ca2f830b8370f4415719c849321388fe5", func := "loop.example/lapplan/laws.FnOver", spec := "fnOver", unfollowed := true, recurses := true, named := ["loop.example/lapplan/impl.neededThings"], plainKeys := false, apart := false, laid := [("loop.example/lapplan/impl.neededThings", laid_loop_example_lapplan_impl_neededThings)] }
def FnOverSaid : Prop := fnOverRow.holds Tryz.pinned (OpenSpec.ofChange fnOverSpec)

/-- ITS FALSE NEIGHBOUR: 'it returns false'. Refute it at one input. -/
def fnOverWrong : ChangeSpec := { name := "fnOver", vars := ["loop.example/lapplan/impl.neededThings"], fn := fun _ => fun
  | [d1, d2, g1] => { results := [.lit (.bool false)], args := [d1, d2], vars := [g1] }
  | _ => none }
def FnOverWrongFalsely : Prop := fnOverRow.holds Tryz.pinned (OpenSpec.ofChange fnOverWrong)

/- THE SECOND FORM. 'bulk': how many values and letters a reading holds, each counted each time it is reached (what is shared counts as often as it is met; a slice's spare places count too). A statement '..UptoSaid' is the law's where the arguments, and the package variables that the reading takes, are together of bulk at most 1048576: NARROWER than '..Said'. Prove '..Said' where nothing that the law and all that it calls make is longer than what came in: it says more and counts as full. Else prove '..UptoSaid'. A law counts once. -/
mutual
def uptoBulk {H : Type} : DataW H → Nat
  | .lit (.string bytes) => bytes.length + 1
  | .lit _ => 1
  | .nil => 1
  | .ptr d => uptoBulk d + 1
  | .slice elems spare => uptoBulkAll elems + uptoBulkAll spare + 1
  | .agg parts => uptoBulkAll parts + 1
  | .iface _ d => uptoBulk d + 1
  | .map entries => uptoBulkEntries entries + 1
  | .held _ => 1
def uptoBulkAll {H : Type} : List (DataW H) → Nat
  | [] => 0
  | d :: r => uptoBulk d + uptoBulkAll r
def uptoBulkEntries {H : Type} : List (Lit × DataW H) → Nat
  | [] => 0
  | x :: r => uptoBulkEntry x + uptoBulkEntries r
def uptoBulkEntry {H : Type} : Lit × DataW H → Nat
  | (.string bytes, d) => bytes.length + uptoBulk d + 1
  | (_, d) => uptoBulk d + 1
 end
def uptoSmall : (H : Type) → List (DataW H) → Bool := fun _ ds => decide (uptoBulkAll ds ≤ 1048576)
def OpenSpec.upto (s : _root_.Go.ChangeSpec) : _root_.Go.OpenSpec := { _root_.Go.OpenSpec.ofChange s with cond := some uptoSmall }

/-- 'laws.FnTop', WHERE WHAT IT READS IS OF BULK AT MOST 1048576: true; the input reads as it did. -/
def fnTopUptoRow : OpenClaim := { program := "ytbjmgglpiakgdaagreatdoor", sum := "40a172d48977b9d57ab3630c0e652f2ca2f830b8370f4415719c849321388fe5", func := "loop.example/lapplan/laws.FnTop", spec := "fnTop", inPlace := ["internal/bytealg.abigen_runtime_cmpstring"], unfollowed := true, recurses := true, named := ["loop.example/lapplan/impl.neededThings"], plainKeys := false, apart := false, laid := [("loop.example/lapplan/impl.neededThings", laid_loop_example_lapplan_impl_neededThings)], narrowed := true }
def FnTopUptoSaid : Prop := fnTopUptoRow.holds Tryz.pinned (OpenSpec.upto fnTopSpec)

/-- 'laws.FnPath', WHERE WHAT IT READS IS OF BULK AT MOST 1048576: true; the input reads as it did. -/
def fnPathUptoRow : OpenClaim := { program := "ytbjmgglpiakgdaagreatdoor", sum := "40a172d48977b9d57ab3630c0e652f2ca2f830b8370f4415719c849321388fe5", func := "loop.example/lapplan/laws.FnPath", spec := "fnPath", unfollowed := true, recurses := true, named := ["loop.example/lapplan/impl.neededThings"], plainKeys := false, apart := false, laid := [("loop.example/lapplan/impl.neededThings", laid_loop_example_lapplan_impl_neededThings)], narrowed := true }
def FnPathUptoSaid : Prop := fnPathUptoRow.holds Tryz.pinned (OpenSpec.upto fnPathSpec)

/-- 'laws.FnOver', WHERE WHAT IT READS IS OF BULK AT MOST 1048576: true; the input reads as it did. -/
def fnOverUptoRow : OpenClaim := { program := "ytbjmgglpiakgdaagreatdoor", sum := "40a172d48977b9d57ab3630c0e652f2ca2f830b8370f4415719c849321388fe5", func := "loop.example/lapplan/laws.FnOver", spec := "fnOver", unfollowed := true, recurses := true, named := ["loop.example/lapplan/impl.neededThings"], plainKeys := false, apart := false, laid := [("loop.example/lapplan/impl.neededThings", laid_loop_example_lapplan_impl_neededThings)], narrowed := true }
def FnOverUptoSaid : Prop := fnOverUptoRow.holds Tryz.pinned (OpenSpec.upto fnOverSpec)

end Rows
end Go.Proofs.YtbjmgglpiakgdaaGreatDoor
