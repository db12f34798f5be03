import Derived.Test.YtolokangldmodaaGreatDoorRead1
import Derived.OpenShut
import Derived.Lib.LaidU8
import Derived.Deep.Fields
namespace Go.Proofs.YtolokangldmodaaGreatDoor
open Go.RowKit Go.ChangeShapes Go.WideShapes Go.Deep
theorem gSaid:Tryz.prog.globalNamed "loop.example/lapplan/impl.saidWords"=some 6:=by kernel_rfl
theorem tSaid:(Tryz.prog.globals[6]?).map (·.type)=some 292:=by kernel_rfl
theorem cSaid:Tryz.prog.cellsOf 291=2:=by kernel_rfl
theorem cSaids:Tryz.prog.cellsOf 292=10:=by kernel_rfl
theorem cInt:Tryz.prog.cellsOf 3=1:=by kernel_rfl
theorem cStr:Tryz.prog.cellsOf 9=1:=by kernel_rfl
theorem tPow:(Tryz.prog.globals[7]?).map (·.type)=some 309:=by kernel_rfl
theorem Sm{l:List UInt8}{s:ByteArray}(h:s.data.toList=l):s=⟨l.toArray⟩:=by
 subst h;rfl
theorem rH{H:Type}{enc:TypeId×Value->H}{w:World}{base:Nat}{sp:Nat->Bool}{held:Bool}{fuel:Nat}{cs:List Value}{n:Int}{l:List UInt8}{p:List MemPlace}(h:DataW.trod enc Tryz.prog w base sp held fuel 291 cs=some (.agg [.lit (.int .i64 n),.lit (.string l)],p)):cs=[.int .i64 n,.string ⟨l.toArray⟩]:=by
 obtain⟨y0,y1,m,hx,hl,h0,h1⟩:=trod_struct2 Tryz.underlying291 h;dsimp only at h0 h1;rw[cInt] at h0;rw[cStr] at h1;rw[cSaid] at hl
 match cs,hl with
 |[c0,c1],_ =>
  obtain⟨z,e0,e1,_⟩:=DataW.trod_int Tryz.underlying3 h0;obtain⟨s,e2,e3,_⟩:=DataW.trod_string Tryz.underlying9 h1;rw[e1,e3] at hx
  simp only[Prod.mk.injEq,DataW.agg.injEq,List.cons.injEq,DataW.lit.injEq,Lit.int.injEq,Lit.string.injEq,true_and,and_true] at hx
  obtain⟨⟨rfl,hs⟩,_⟩:=hx
  have f0:c0=.int .i64 n:=by simpa using e0
  have f1:c1=.string s:=by simpa using e2
  rw[f0,f1,Sm hs.symm]
theorem said_of{w:World}(h:Lib.VarReads Tryz.prog w "loop.example/lapplan/impl.saidWords" Rows.laid_loop_example_lapplan_impl_saidWords):jh w:=by
 obtain⟨g,t,cs,fuel,p,hg,ht,hvar,hd⟩:=h;obtain rfl:=Option.some.inj (gSaid.symm.trans hg);obtain rfl:=Option.some.inj (tSaid.symm.trans ht);obtain⟨xs,m,_,hx,hl,hxl,hall⟩:=DataW.trod_array Tryz.underlying292 hd;rw[cSaids] at hl;rw[cSaid] at hall
 match xs,hxl with
 |[x0,x1,x2,x3,x4],_ =>
  have q0:=hall 0 (by omega);have q1:=hall 1 (by omega);have q2:=hall 2 (by omega);have q3:=hall 3 (by omega);have q4:=hall 4 (by omega)
  simp only[Rows.laid_loop_example_lapplan_impl_saidWords,Prod.mk.injEq,DataW.agg.injEq,List.map_cons,List.map_nil,List.cons.injEq,and_true] at hx
  obtain⟨⟨r0,r1,r2,r3,r4⟩,_⟩:=hx;obtain⟨d0,p0⟩:=x0;obtain⟨d1,p1⟩:=x1;obtain⟨d2,p2⟩:=x2;obtain⟨d3,p3⟩:=x3;obtain⟨d4,p4⟩:=x4;dsimp only at r0 r1 r2 r3 r4;subst r0 r1 r2 r3 r4;have k0:=rH q0;have k1:=rH q1;have k2:=rH q2;have k3:=rH q3;have k4:=rH q4
  have hcs:cs.toList=uD.toList:=by
   generalize cs.toList=l at *
   match l,hl with
   |[a0,a1,a2,a3,a4,a5,a6,a7,a8,a9],_ =>
    simp at k0 k1 k2 k3 k4
    obtain⟨rfl,rfl⟩:=k0;obtain⟨rfl,rfl⟩:=k1;obtain⟨rfl,rfl⟩:=k2;obtain⟨rfl,rfl⟩:=k3;obtain⟨rfl,rfl⟩:=k4
    rfl
  have hc:cs=uD:=Array.toList_inj.1 hcs;subst hc
  simp only[World.var?,gSaid,Option.bind_some] at hvar
  split at hvar
  .rename_i c t fr hb
   cases hvar
   exact⟨t,fr,hb⟩
  .cases hvar
theorem pow_of{w:World}(h:Lib.VarReads Tryz.prog w "internal/strconv.uint64pow10" Rows.laid_internal_strconv_uint64pow10):Lib.TabIs Tryz.prog w "internal/strconv.uint64pow10" .u64 Lib.pow10Tab:=by
 obtain⟨g,t,cs,fuel,p,hg,ht,hvar,hd⟩:=h;obtain rfl:=Option.some.inj (gPow.symm.trans hg);obtain rfl:=Option.some.inj (tPow.symm.trans ht);have e:(Rows.laid_internal_strconv_uint64pow10:DataW Unit)=Lib.tabData .u64 Lib.pow10Tab:=rfl;rw[e] at hd
 have hc:=Lib.cells_of_tab Tryz.underlying309 Tryz.underlying285 (by kernel_rfl) (by kernel_rfl) hd
 unfold Lib.TabIs;rw[hvar,<-hc]
end Go.Proofs.YtolokangldmodaaGreatDoor
