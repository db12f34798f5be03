import Derived.Test.YtcmgddnckohdaaaGreatDoorMark3
import Derived.DeepKeys4
set_option maxRecDepth 100000

namespace Go.Proofs.YtcmgddnckohdaaaGreatDoor
open Go.RowKit
theorem Lt:laidOutB Tryz.prog=true:=by kernel_rfl
theorem rowK:(295:TypeId)<Tryz.prog.types.size:=of_decide_eq_true (by kernel_rfl)
theorem sizeP:0<Tryz.prog.types.size:=of_decide_eq_true (by kernel_rfl)
theorem deepK:Tryz.prog.keyType 295=true:=by kernel_rfl
theorem wideK:(match Tryz.prog.underlying 295 with | some (.array _ _) | some (.struct _)=>true | _=>false)=true:=by kernel_rfl
theorem lawK:WideMaps.KeyLaw Tryz.prog 295:=deep_law_laid Lt (m:=2) (by omega) rowK (by kernel_rfl) wideK
theorem qX:Maps.Keyed Tryz.prog 295:=Maps.Keyed.of_law lawK
theorem G6:Tryz.prog.cellsOf 295=2:=by kernel_rfl
theorem cellsS:Tryz.prog.cellsOf 9=1:=by kernel_rfl
theorem Mv:Tryz.prog.cellsOf 3=1:=by kernel_rfl
def vR (f:ByteArray) (n:Int):Lit:=.string (keyBytes [.string f.data.toList,.int .i64 n])
theorem pF {f:ByteArray} {n:Int} (hf:f.size≤maxLen) (hn:(Lit.int .i64 n).wf=true):keyOf Tryz.prog 295 (.agg #[.string f,.int .i64 n])=some (vR f n):=by
 obtain ⟨m,hm⟩:∃ m,Tryz.prog.types.size=m+1:=by
  have h:=sizeP;generalize Tryz.prog.types.size=N at h ⊢
  exact ⟨N-1,by omega⟩
 have hfm:(Tryz.prog.keyType 295&&(Value.agg #[.string f,.int .i64 n]).formed Tryz.prog 295)=true:=by
  rw [deepK];simp [Value.formed,Tryz.underlying295,G6]
 have hl:Tryz.prog.keyLits (Tryz.prog.types.size+1) 295 [.string f,.int .i64 n]=some [.string f.data.toList,.int .i64 n]:=by
  rw [hm]
  simp [Program.keyLits,Tryz.underlying295,Tryz.underlying9,Tryz.underlying3,G6,cellsS,Mv,hf,hn]
 unfold keyOf;rw [Tryz.underlying295]
 simp only []
 rw [if_pos hfm];have e:(Value.agg #[.string f,.int .i64 n]).cells.toList=[.string f,.int .i64 n]:=rfl;rw [e,hl]
 rfl
theorem Ir {f g:ByteArray} {n m:Int} (hf:f.size≤maxLen) (hn:(Lit.int .i64 n).wf=true) (hg:g.size≤maxLen) (hm:(Lit.int .i64 m).wf=true) (h:vR f n=vR g m):f=g∧n=m:=by
 have h1:=qX.inj (pF hf hn) (h ▸ pF hg hm)
 simp at h1
 exact h1
end Go.Proofs.YtcmgddnckohdaaaGreatDoor
namespace Go.Proofs.YtcmgddnckohdaaaGreatDoor
open Go.RowKit
def vV (f:fI):DataW Unit:=.agg [.lit (.int .i64 f.what),.lit (.int .i64 f.num),.lit (.string f.v.data.toList)]
def RFL:List Value→Option (DataW Unit×List MemPlace)
 | [.int .i64 a,.int .i64 b,.string s]=>some (vV ⟨a,b,s⟩,[])
 | _=>none
def RF:Value→Option (DataW Unit×List MemPlace)
 | .agg cs=>RFL cs.toList
 | _=>none
theorem RF_mk (f:fI):RF (.agg #[.int .i64 f.what,.int .i64 f.num,.string f.v])=some (vV f,[]):=rfl
theorem Mc {f g:fI} (h:vV f=vV g):f=g:=by
 obtain ⟨a,b,s⟩:=f;obtain ⟨a',b',s'⟩:=g
 simp only [vV,DataW.agg.injEq,List.cons.injEq,DataW.lit.injEq,Lit.int.injEq,Lit.string.injEq,true_and,and_true] at h
 obtain ⟨rfl,rfl,h⟩:=h;rw [bq h]
theorem RFL_inv {l:List Value} {f:fI} {ps:List MemPlace} (h:RFL l=some (vV f,ps)):l=[.int .i64 f.what,.int .i64 f.num,.string f.v]:=by
 unfold RFL at h
 split at h
 ·simp only [Option.some.injEq,Prod.mk.injEq] at h
  have:=Mc h.1;subst this
  rfl
 ·cases h
theorem RF_inv {v:Value} {f:fI} {ps:List MemPlace} (h:RF v=some (vV f,ps)):v=.agg #[.int .i64 f.what,.int .i64 f.num,.string f.v]:=by
 cases v
 case agg cs =>
  have:=RFL_inv h;rw [← Array.toArray_toList (xs:=cs),this]
 all_goals cases h
def noF:fI:=⟨0,0,⟨#[]⟩⟩
def sO (S:List dP) (k:dP):fI:=match S.find? fun a=>eX a k with
 | some a=>dZ a
 | none=>noF
def iN (c:dP):Prop:=c.f.size≤maxLen∧(Lit.int .i64 c.what).wf=true
def jh (w:World) (b n:Nat) (S:List dP):Prop:=∃ D:DataW Unit,w.ownsMap Tryz.prog 295 RF b n D∧Maps.IsMap D ∧
 ∀ k:dP,iN k→∀ z,D.atKey (vR k.f k.what) z=match S.find? fun a=>eX a k with
  | some a=>vV (dZ a)
  | none=>z
theorem jh.made (w:World):jh (w.alloc (.map #[] 0)) w.heap.size 0 []:=⟨.map [],World.ownsMap_made w _ _ _,Maps.isMap_empty,fun k _ z=>by simp [DataW.atKey]⟩
theorem jh.kept {w w':World} {b n:Nat} {S:List dP} {row:Option Nat} (h:jh w b n S) (hg:w.grownBy w' row) (hne:some b≠row):jh w' b n S:=by
 obtain ⟨D,h1,h2,h3⟩:=h;exact ⟨D,h1.kept hg hne,h2,h3⟩
theorem zeroF (w:World):(zeroValue 67).run Tryz.prog w=.ok (.agg #[.int .i64 0,.int .i64 0,.string ⟨#[]⟩]) w:=by kernel_rfl
theorem jh.lookup {w:World} {b n:Nat} {S:List dP} (h:jh w b n S) (k:dP) (hk:iN k) :
  (Instr.lookup 291 (.map (some b)) (.agg #[.string k.f,.int .i64 k.what]) false).run Tryz.prog w=.ok (.agg #[.int .i64 (sO S k).what,.int .i64 (sO S k).num,.string (sO S k).v]) w:=by
 obtain ⟨D,h1,_,h3⟩:=h;obtain ⟨v,ps,hr,hv⟩:=h1.lookup qX Tryz.underlying291 (zeroF w) (RF_mk noF) (pF hk.1 hk.2)
 have e:D.atKey (vR k.f k.what) (vV noF)=vV (sO S k):=by
  rw [h3 k hk];unfold sO
  cases S.find? fun a=>eX a k <;> rfl
 rw [e] at hv;rw [hr,RF_inv hv]
theorem jh.update {w:World} {b n:Nat} {S:List dP} (h:jh w b n S) (c:dP) (hc:iN c) (hS:gF S) (hn:n<maxLen) (hnew:pX S c=true) :
  ∃ w',(Instr.mapUpdate 291 (.map (some b)) (.agg #[.string c.f,.int .i64 c.what]) (.agg #[.int .i64 c.what,.int .i64 c.num,.string c.v])).run Tryz.prog w=.ok () w'∧jh w' b (n+1) (gp S c)∧w.grownBy w' (some b):=by
 obtain ⟨D,h1,h2,h3⟩:=h;obtain ⟨w',hr,h4,hg⟩:=h1.update qX Tryz.underlying291 hn (pF hc.1 hc.2) (RF_mk (dZ c));refine ⟨w',hr,⟨_,h4,h2.put _ _,fun k hk z=>?_⟩,hg⟩;rw [Je c k hS]
 cases hck:eX c k with
 | true =>
  obtain ⟨e1,e2⟩:=ig.1 hck;rw [← e1,← e2,Maps.atKey_put_same h2 (qX.key (pF hc.1 hc.2)),hnew]
  rfl
 | false =>
  rw [Maps.atKey_put_other,h3 k hk z]
  ·rfl
  ·intro e
   obtain ⟨e1,e2⟩:=Ir hk.1 hk.2 hc.1 hc.2 e;rw [ig.2 ⟨e1.symm,e2.symm⟩] at hck
   cases hck
end Go.Proofs.YtcmgddnckohdaaaGreatDoor
