import Derived.Test.YtbjmgglpiakgdaaGreatDoorBook7
import Derived.DeepKeys4

namespace Go.Proofs.YtbjmgglpiakgdaaGreatDoor
open Go.RowKit
theorem laidOutM:laidOutB Tryz.prog=true:=by kernel_rfl
theorem rowK:(135:TypeId) < Tryz.prog.types.size:=of_decide_eq_true (by kernel_rfl)
theorem sizeP:0 < Tryz.prog.types.size:=of_decide_eq_true (by kernel_rfl)
theorem deepK:Tryz.prog.keyType 135=true:=by kernel_rfl
theorem wideK:(match Tryz.prog.underlying 135 with | some (.array _ _) | some (.struct _)=>true | _=>false)=true:=by kernel_rfl
set_option maxRecDepth 100000 in
theorem lawK:WideMaps.KeyLaw Tryz.prog 135:=deep_law_laid laidOutM (m:=2) (by omega) rowK (by kernel_rfl) wideK
theorem keyedK:Maps.Keyed Tryz.prog 135:=Maps.Keyed.of_law lawK
theorem cellsK:Tryz.prog.cellsOf 135=2:=by kernel_rfl
theorem cellsS:Tryz.prog.cellsOf 9=1:=by kernel_rfl
theorem cellsI:Tryz.prog.cellsOf 3=1:=by kernel_rfl
def klK (f:ByteArray) (n:Int):Lit:=.string (keyBytes [.string f.data.toList,.int .i64 n])
theorem keyOf_K {f:ByteArray} {n:Int} (hf:f.size≤maxLen) (hn:(Lit.int .i64 n).wf=true):keyOf Tryz.prog 135 (.agg #[.string f,.int .i64 n])=some (klK f n):=by
 obtain ⟨m,hm⟩:∃ m,Tryz.prog.types.size=m+1:=by
  have h:=sizeP
  generalize Tryz.prog.types.size=N at h ⊢
  exact ⟨N - 1,by omega⟩
 have hfm:(Tryz.prog.keyType 135 && (Value.agg #[.string f,.int .i64 n]).formed Tryz.prog 135)=true:=by
  rw [deepK]; simp [Value.formed,Tryz.underlying135,cellsK]
 have hl:Tryz.prog.keyLits (Tryz.prog.types.size+1) 135 [.string f,.int .i64 n]=some [.string f.data.toList,.int .i64 n]:=by
  rw [hm]
  simp [Program.keyLits,Tryz.underlying135,Tryz.underlying9,Tryz.underlying3,cellsK,cellsS,cellsI,hf,hn]
 unfold keyOf
 rw [Tryz.underlying135]
 simp only []
 rw [if_pos hfm]
 have e:(Value.agg #[.string f,.int .i64 n]).cells.toList=[.string f,.int .i64 n]:=rfl
 rw [e,hl]
 rfl
theorem klK_inj {f g:ByteArray} {n m:Int} (hf:f.size≤maxLen) (hn:(Lit.int .i64 n).wf=true) (hg:g.size≤maxLen) (hm:(Lit.int .i64 m).wf=true) (h:klK f n=klK g m):f=g∧n=m:=by
 have h1:=keyedK.inj (keyOf_K hf hn) (h ▸ keyOf_K hg hm)
 simp at h1
 exact h1
end Go.Proofs.YtbjmgglpiakgdaaGreatDoor
namespace Go.Proofs.YtbjmgglpiakgdaaGreatDoor
open Go.RowKit
def fldD (f:Fld):DataW Unit:=.agg [.lit (.int .i64 f.what),.lit (.int .i64 f.num),.lit (.string f.v.data.toList)]
def RFL:List Value→Option (DataW Unit × List MemPlace)
 | [.int .i64 a,.int .i64 b,.string s]=>some (fldD ⟨a,b,s⟩,[])
 | _=>none
def RF:Value→Option (DataW Unit × List MemPlace)
 | .agg cs=>RFL cs.toList
 | _=>none
def KeyFit (c:Chg):Prop:=c.f.size≤maxLen∧(Lit.int .i64 c.what).wf=true
def MapIs (w:World) (b n:Nat) (S:List Chg):Prop:=∃ D:DataW Unit,w.ownsMap Tryz.prog 135 RF b n D∧Maps.IsMap D ∧
 ∀ k:Chg,KeyFit k→∀ z,D.atKey (klK k.f k.what) z=match S.find? fun a=>keyEq a k with
  | some a=>fldD (fldC a)
  | none=>z
theorem MapIs.made (w:World):MapIs (w.alloc (.map #[] 0)) w.heap.size 0 []:=⟨.map [],World.ownsMap_made w _ _ _,Maps.isMap_empty,fun k _ z=>by simp [DataW.atKey]⟩
theorem MapIs.kept {w w':World} {b n:Nat} {S:List Chg} {row:Option Nat} (h:MapIs w b n S) (hg:w.grownBy w' row) (hne:some b ≠ row):MapIs w' b n S:=by
 obtain ⟨D,h1,h2,h3⟩:=h
 exact ⟨D,h1.kept hg hne,h2,h3⟩
end Go.Proofs.YtbjmgglpiakgdaaGreatDoor
