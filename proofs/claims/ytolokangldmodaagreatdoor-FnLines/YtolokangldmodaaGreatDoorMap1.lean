import Derived.Test.YtolokangldmodaaGreatDoorBook7
import Derived.DeepKeys4
set_option maxRecDepth 100000

open Go.Proofs.Tryz
namespace Go.Proofs.YtolokangldmodaaGreatDoor
open Go.RowKit
theorem TR:laidOutB prog=true:=by kernel_rfl
theorem rowK:(299:TypeId)<prog.types.size:=of_decide_eq_true (by kernel_rfl)
theorem sizeP:0<prog.types.size:=of_decide_eq_true (by kernel_rfl)
theorem deepK:prog.keyType 299=true:=by kernel_rfl
theorem wideK:(match prog.underlying 299 with|some (.array _ _)|some (.struct _)=>true|_=>false)=true:=by kernel_rfl
theorem lawK:WideMaps.KeyLaw prog 299:=deep_law_laid TR (m:=2) (by omega) rowK (by kernel_rfl) wideK
theorem vg:Maps.Keyed prog 299:=Maps.Keyed.of_law lawK
theorem Oc:prog.cellsOf 299=2:=by kernel_rfl
theorem cellsS:prog.cellsOf 9=1:=by kernel_rfl
theorem UN:prog.cellsOf 3=1:=by kernel_rfl
def Ac(f:ByteArray)(n:Int):Lit:=.string (keyBytes [.string f.data.toList,.int .i64 n])
theorem tY{f:ByteArray}{n:Int}(hf:f.size<=maxLen)(hn:(Lit.int .i64 n).wf=true):keyOf prog 299 (.agg #[.string f,.int .i64 n])=some (Ac f n):=by
 obtain⟨m,hm⟩:∃m,prog.types.size=m+1:=by
  have h:=sizeP;generalize prog.types.size=N at h ⊢
  exact⟨N-1,by omega⟩
 have ad:(prog.keyType 299&&(Value.agg #[.string f,.int .i64 n]).formed prog 299)=true:=by
  rw[deepK];simp[Value.formed,underlying299,Oc]
 have hl:prog.keyLits (prog.types.size+1) 299 [.string f,.int .i64 n]=some [.string f.data.toList,.int .i64 n]:=by
  rw[hm]
  simp[Program.keyLits,underlying299,underlying9,underlying3,Oc,cellsS,UN,hf,hn]
 unfold keyOf;rw[underlying299]
 simp only[]
 rw[if_pos ad];have e:(Value.agg #[.string f,.int .i64 n]).cells.toList=[.string f,.int .i64 n]:=rfl;rw[e,hl]
 rfl
theorem O1{f g:ByteArray}{n m:Int}(hf:f.size<=maxLen)(hn:(Lit.int .i64 n).wf=true)(hg:g.size<=maxLen)(hm:(Lit.int .i64 m).wf=true)(h:Ac f n=Ac g m):f=g/\n=m:=by
 have h1:=vg.inj (tY hf hn) (h▸tY hg hm)
 simp at h1
 exact h1
end Go.Proofs.YtolokangldmodaaGreatDoor
namespace Go.Proofs.YtolokangldmodaaGreatDoor
open Go.RowKit
def Af(f:eT):DataW Unit:=.agg [.lit (.int .i64 f.what),.lit (.int .i64 f.num),.lit (.string f.v.data.toList)]
def RFL:List Value->Option (DataW Unit×List MemPlace)
 |[.int .i64 a,.int .i64 b,.string s]=>some (Af ⟨a,b,s⟩,[])
 |_=>none
def RF:Value->Option (DataW Unit×List MemPlace)
 |.agg cs=>RFL cs.toList
 |_=>none
theorem RF_mk(f:eT):RF (.agg #[.int .i64 f.what,.int .i64 f.num,.string f.v])=some (Af f,[]):=rfl
theorem Uz{f g:eT}(h:Af f=Af g):f=g:=by
 obtain⟨a,b,s⟩:=f;obtain⟨a',b',s'⟩:=g
 simp only[Af,DataW.agg.injEq,List.cons.injEq,DataW.lit.injEq,Lit.int.injEq,Lit.string.injEq,true_and,and_true] at h
 obtain⟨rfl,rfl,h⟩:=h;rw[bd h]
theorem RFL_inv{l:List Value}{f:eT}{ps:List MemPlace}(h:RFL l=some (Af f,ps)):l=[.int .i64 f.what,.int .i64 f.num,.string f.v]:=by
 unfold RFL at h
 split at h
 .simp only [Option.some.injEq,Prod.mk.injEq] at h
  have:=Uz h.1;subst this
  rfl
 .cases h
theorem RF_inv{v:Value}{f:eT}{ps:List MemPlace}(h:RF v=some (Af f,ps)):v=.agg #[.int .i64 f.what,.int .i64 f.num,.string f.v]:=by
 cases v
 case agg cs =>
  have:=RFL_inv h;rw[<-Array.toArray_toList (xs:=cs),this]
 all_goals cases h
def noF:eT:=⟨0,0,⟨#[]⟩⟩
def CX(S:List eH)(k:eH):eT:=match S.find? λa=>fH a k with
 |some a=>fD a
 |none=>noF
def ku(c:eH):Prop:=c.f.size<=maxLen/\(Lit.int .i64 c.what).wf=true
def kS(w:World)(b n:Nat)(S:List eH):Prop:=∃D:DataW Unit,w.ownsMap prog 299 RF b n D/\Maps.IsMap D /\
 ∀k:eH,ku k->∀z,D.atKey (Ac k.f k.what) z=match S.find? λa=>fH a k with
  |some a=>Af (fD a)
  |none=>z
theorem kS.made(w:World):kS (w.alloc (.map #[] 0)) w.heap.size 0 []:=⟨.map [],World.ownsMap_made w _ _ _,Maps.isMap_empty,λk _ z=>by simp[DataW.atKey]⟩
theorem kS.kept{w w':World}{b n:Nat}{S:List eH}{row:Option Nat}(h:kS w b n S)(hg:w.grownBy w' row)(hne:some b≠row):kS w' b n S:=by
 obtain⟨D,h1,h2,h3⟩:=h;exact⟨D,h1.kept hg hne,h2,h3⟩
theorem zeroF(w:World):(zeroValue 107).run prog w=.ok (.agg #[.int .i64 0,.int .i64 0,.string ⟨#[]⟩]) w:=by kernel_rfl
theorem kS.lookup{w:World}{b n:Nat}{S:List eH}(h:kS w b n S)(k:eH)(hk:ku k) :
  (Instr.lookup 295 (.map (some b)) (.agg #[.string k.f,.int .i64 k.what]) false).run prog w=.ok (.agg #[.int .i64 (CX S k).what,.int .i64 (CX S k).num,.string (CX S k).v]) w:=by
 obtain⟨D,h1,_,h3⟩:=h;obtain⟨v,ps,hr,hv⟩:=h1.lookup vg underlying295 (zeroF w) (RF_mk noF) (tY hk.1 hk.2)
 have e:D.atKey (Ac k.f k.what) (Af noF)=Af (CX S k):=by
  rw[h3 k hk];unfold CX
  cases S.find? λa=>fH a k<;>rfl
 rw[e] at hv;rw[hr,RF_inv hv]
theorem kS.update{w:World}{b n:Nat}{S:List eH}(h:kS w b n S)(c:eH)(hc:ku c)(hS:ig S)(hn:n<maxLen)(hnew:uq S c=true) :
  ∃w',(Instr.mapUpdate 295 (.map (some b)) (.agg #[.string c.f,.int .i64 c.what]) (.agg #[.int .i64 c.what,.int .i64 c.num,.string c.v])).run prog w=.ok () w'/\kS w' b (n+1) (gZ S c)/\w.grownBy w' (some b):=by
 obtain⟨D,h1,h2,h3⟩:=h;obtain⟨w',hr,h4,hg⟩:=h1.update vg underlying295 hn (tY hc.1 hc.2) (RF_mk (fD c));refine⟨w',hr,⟨_,h4,h2.put _ _,λk hk z=>?_⟩,hg⟩;rw[P6 c k hS]
 cases ab:fH c k with
 |true =>
  obtain⟨e1,e2⟩:=jk.1 ab;rw[<-e1,<-e2,Maps.atKey_put_same h2 (vg.key (tY hc.1 hc.2)),hnew]
  rfl
 |false =>
  rw[Maps.atKey_put_other,h3 k hk z]
  .rfl
  .intro e
   obtain⟨e1,e2⟩:=O1 hk.1 hk.2 hc.1 hc.2 e;rw[jk.2 ⟨e1.symm,e2.symm⟩] at ab
   cases ab
end Go.Proofs.YtolokangldmodaaGreatDoor
