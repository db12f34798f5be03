/-
  Joined: RowTx0, RowTx1.
-/
import Derived.Test.YtcmgddnckohdaaaGreatDoorLaidForm
import Derived.Test.YtcmgddnckohdaaaGreatDoorCards
import Derived.Test.YtcmgddnckohdaaaGreatDoorTie
import Derived.ProofKit
import Derived.ShutString
import Derived.Deep.DeepHandedRow
set_option linter.unusedVariables false
namespace Go.Proofs.YtcmgddnckohdaaaGreatDoor.text2
open Go.ChangeShapes Go.WideShapes Go.ChangeAt Go.RowKit Go.Deep
/-- The cells of a plain datum. -/
def AL:Nat→DataW Unit→List Value
 | 0,_=>[]
 | _+1,.lit (.int k n)=>[.int k n]
 | _+1,.lit (.string l)=>[.string ⟨l.toArray⟩]
 | n+1,.agg ps=>ps.flatMap (AL n)
 | _+1,_=>[]
/-- The world with a variable's block holding these cells. -/
def uG (w:World) (g:Nat) (d:DataW Unit):World :=
 { w with heap:=w.heap.modify g fun
   | .cells _ t fr=>.cells (AL 4 d).toArray t fr
   | o=>o }
/-- The listed variables laid. -/
def layAll (w:World):World :=
 let w1:=uG (uG (uG (uG (uG (uG w 7 Rows.laid_math_bits_deBruijn32tab) 8 Rows.laid_math_bits_deBruijn64tab) 4 Rows.laid_internal_strconv_uint64pow10) 6 Rows.laid_unicode_utf8_acceptRanges) 5 Rows.laid_unicode_utf8_first) 2 Rows.laid_loop_example_lapplan_impl_saidWords
 { w1 with heap:=w1.heap.modify 1 fun
   | .cells _ t fr=>.cells #[.iface 217 (.agg #[.pointer (some ⟨10,54,none⟩)])] t fr
   | o=>o }
theorem Lr (os:Os):laidMetH Tryz.prog Rows.fnTextRow.laid ((layAll (World.holding Tryz.prog os ⟨#[],#[],[]⟩)).forCall (fun _ _=>0) ⟨#[],#[.slice none 0 0],[]⟩).memory :=
 laidMetH_of_parts (laidMet_of_run' 8 (by kernel_rfl) (by kernel_rfl)) (by kernel_rfl)
theorem reads (os:Os) {H:Type} (enc:TypeId×Value→H):∃ dv places,DataW.whole enc Tryz.prog ((layAll (World.holding Tryz.prog os ⟨#[],#[],[]⟩)).forCall (fun _ _=>0) ⟨#[],#[.slice none 0 0],[]⟩).memory Tryz.f3.params.toList Rows.fnTextSpec.vars false #[Value.slice none 0 0].toList 8=some ([.nil],[dv],places) :=
 ⟨Rows.laid_loop_example_lapplan_impl_saidWords,MemPlace.row ⟨2,0,none⟩ 10,by kernel_rfl⟩
open Go.ChangeShapes Go.WideShapes Go.ChangeAt Go.RowKit Go.Deep
theorem closed:joinedFacts Tryz.pinned.checked.prog 3 Tryz.f3 (OpenSpec.ofChange Rows.fnTextSpec).bare Rows.fnTextRow=true:=by kernel_rfl
end Go.Proofs.YtcmgddnckohdaaaGreatDoor.text2
