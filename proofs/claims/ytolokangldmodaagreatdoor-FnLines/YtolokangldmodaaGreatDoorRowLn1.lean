/-
  Joined: RowLn0, RowLn1.
-/
import Derived.Test.YtolokangldmodaaGreatDoorLaidForm
import Derived.Test.YtolokangldmodaaGreatDoorCards
import Derived.Test.YtolokangldmodaaGreatDoorTie
import Derived.ProofKit
import Derived.ShutString
import Derived.Deep.DeepHandedRow
set_option linter.unusedVariables false
namespace Go.Proofs.YtolokangldmodaaGreatDoor.lines2
open Go.ChangeShapes Go.WideShapes Go.ChangeAt Go.RowKit Go.Deep
/-- The cells of a plain datum. -/
def F7:Nat->DataW Unit->List Value
 |0,_=>[]
 |_+1,.lit (.int k n)=>[.int k n]
 |_+1,.lit (.string l)=>[.string ⟨l.toArray⟩]
 |n+1,.agg ps=>ps.flatMap (F7 n)
 |_+1,_=>[]
/-- The world with a variable's block holding these cells. -/
def rV(w:World)(g:Nat)(d:DataW Unit):World :=
 { w with heap:=w.heap.modify g fun
   |.cells _ t fr=>.cells (F7 4 d).toArray t fr
   |o=>o }
/-- The listed variables laid. -/
def layAll(w:World):World :=
 let w1:=rV (rV (rV (rV (rV (rV (rV (rV w 8 Rows.laid_math_bits_deBruijn32tab) 9 Rows.laid_math_bits_deBruijn64tab) 7 Rows.laid_internal_strconv_uint64pow10) 4 Rows.laid_unicode_utf8_acceptRanges) 3 Rows.laid_unicode_utf8_first) 6 Rows.laid_loop_example_lapplan_impl_saidWords) 5 Rows.laid_loop_example_lapplan_impl_neededThings) 0 Rows.laid_loop_example_lapplan_impl_faultAnswers
 { w1 with heap:=w1.heap.modify 1 fun
   |.cells _ t fr=>.cells #[.iface 210 (.agg #[.pointer (some ⟨10,64,none⟩)])] t fr
   |o=>o }
theorem TQ(os:Os):laidMetH Tryz.prog Rows.fnLinesRow.laid ((layAll (World.holding Tryz.prog os ⟨#[],#[],[]⟩)).forCall (λ_ _=>0) ⟨#[],#[.slice none 0 0],[]⟩).memory :=
 laidMetH_of_parts (laidMet_of_run' 8 (by kernel_rfl) (by kernel_rfl)) (by kernel_rfl)
theorem reads(os:Os){H:Type}(enc:TypeId×Value->H):∃d1 d2 d3 places,DataW.whole enc Tryz.prog ((layAll (World.holding Tryz.prog os ⟨#[],#[],[]⟩)).forCall (λ_ _=>0) ⟨#[],#[.slice none 0 0],[]⟩).memory Tryz.f3.params.toList Rows.fnLinesSpec.vars false #[Value.slice none 0 0].toList 8=some ([.nil],[d1,d2,d3],places) :=
 ⟨Rows.laid_loop_example_lapplan_impl_faultAnswers,Rows.laid_loop_example_lapplan_impl_neededThings,Rows.laid_loop_example_lapplan_impl_saidWords,MemPlace.row ⟨0,0,none⟩ 8++(MemPlace.row ⟨5,0,none⟩ 4++MemPlace.row ⟨6,0,none⟩ 10),by kernel_rfl⟩
open Go.ChangeShapes Go.WideShapes Go.ChangeAt Go.RowKit Go.Deep
theorem closed:joinedFacts Tryz.pinned.checked.prog 3 Tryz.f3 (OpenSpec.ofChange Rows.fnLinesSpec).bare Rows.fnLinesRow=true:=by kernel_rfl
end Go.Proofs.YtolokangldmodaaGreatDoor.lines2
