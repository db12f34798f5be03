import Derived.Test.YtcmgddnckohdaaaGreatDoorLev00
import Derived.Test.YtcmgddnckohdaaaGreatDoorShelf2
import Derived.Laws.CopyOwn
import Derived.Test.YtcmgddnckohdaaaGreatDoorMark1
set_option linter.unusedSimpArgs false
set_option linter.unusedVariables false
namespace Go.Proofs.YtcmgddnckohdaaaGreatDoor.Sd
open Go.RowKit
theorem clone_any (s:ByteArray) (w:World) (hs:s.size≤1048576) :
  Calls Tryz.prog 209 #[.string s] w fun e w'=>e=.returned (.string s)∧Below w.heap.size w w':=by
 go_enter Tryz.func209,Tryz.ntmps209
 go_wp2_with fail
 refine (Tryz.stringslite_Clone s _ (by omega)).mono ?_
 rintro e w' ⟨rfl,hb⟩;go_wp2;go_ret;exact ⟨rfl,hb⟩
def SNew (w:World) (B:Nat) (v:Value) (l:List ByteArray):Prop:=w.ownsRow B 9 1 v l.length (l.map Value.string)
open Go.RowKit
def pv (ks:List Tri) (f:Fld) (u:Value):Value :=
 if f.what=1 then .iface 335 (.agg #[.string (at' ks (plc ks f.v)).s,.int .i64 (at' ks (plc ks f.v)).x,.int .i64 (at' ks (plc ks f.v)).y])
 else if f.what=2 then .iface 337 (.agg #[.int .i64 (tmF (cutW f.v)),.int .i64 (tmY (cutW f.v))])
 else if f.what=3 then .iface 340 (.agg #[.int .i64 (rdN f.v)])
 else if f.what=4 then .iface 343 (.agg #[u])
 else .iface 332 (.agg #[.bool (decide (f.v=closedS))])
open Go.RowKit
structure KeptS (w w':World) (S:Nat→Prop):Prop where
 os:w'.os=w.os
 tape:w'.tape=w.tape
 output:w'.output=w.output
 size:w.heap.size≤w'.heap.size
 block:∀ j,j<w.heap.size→¬ S j→w'.heap[j]?=w.heap[j]?
theorem KeptS.below {B:Nat} {w w0 w':World} {S:Nat→Prop} (h0:Below B w0 w) (h:KeptS w w' S) (hB:B≤w.heap.size) (hS:∀ j,S j→B≤j):Below B w0 w' :=
 ⟨h.os.trans h0.os,h.tape.trans h0.tape,h.output.trans h0.output,Nat.le_trans h0.size h.size,fun k hk=>(h.block k (by omega) (fun hs=>by have:=hS k hs;omega)).trans (h0.block k hk)⟩
theorem own_type {w:World} {base:Nat} {e:TypeId} {size:Nat} {v:Value} {n:Nat} {xs:List Value} {B:Nat} {C:Array Value} {t:TypeId} (h:w.ownsRow base e size v n xs) (hB:w.heap[B]?=some (.cells C t (0,0))) (hne:e≠t):some B≠v.ownBlock:=by
 rcases h.2 with ⟨rfl,_⟩ | ⟨g,cap,cur,rfl,hg,hc,_⟩
 ·intro e;cases e
 ·intro e
  simp only [Value.ownBlock,Option.some.injEq] at e
  subst e;rw [hc] at hB
  simp at hB
  exact hne hB.2
open Go.RowKit
def PartsNew (w:World) (B:Nat) (v:Value) (ks:List Tri) (fs:List Fld):Prop :=
 ∃ us:List Value,us.length=fs.length∧w.ownsRow B 326 1 v fs.length (List.zipWith (pv ks) fs us)∧∀ (i:Nat) (f:Fld) (u:Value),fs[i]?=some f→us[i]?=some u→f.what=4→SNew w B u (cutW f.v)
theorem PartsNew.keep {w w':World} {B:Nat} {v:Value} {ks:List Tri} {fs:List Fld} (h:PartsNew w B v ks fs) (hb:Below w.heap.size w w'):PartsNew w' B v ks fs:=by
 obtain ⟨us,h1,h2,h3⟩:=h;exact ⟨us,h1,Lv.own_keep h2 hb,fun i f u hf hu h4=>Lv.own_keep (h3 i f u hf hu h4) hb⟩
theorem PartsNew.slice {w:World} {B:Nat} {v:Value} {ks:List Tri} {fs:List Fld} (h:PartsNew w B v ks fs):∃ a c,v=.slice a fs.length c:=by
 obtain ⟨us,h1,h2,h3⟩:=h;exact Lv.own_slice h2
theorem grown_rowS (w:World) (g:Nat) (cs:Array Value):w.grownBy (w.setRow g cs) (some g):=⟨rfl,rfl,rfl,by simp,fun k _ hk=>setRow_other _ _ _ _ (fun e=>hk (by rw [e]))⟩
theorem SNew.mono {w:World} {B B':Nat} {v:Value} {l:List ByteArray} (h:SNew w B v l) (hb:B'≤B):SNew w B' v l:=by
 refine ⟨h.1,?_⟩
 rcases h.2 with h2 | ⟨g,cap,cur,hv,hg,rest⟩
 ·exact .inl h2
 ·exact .inr ⟨g,cap,cur,hv,by omega,rest⟩
open Go.RowKit
theorem PartsNew.cells {w:World} {B:Nat} {v:Value} {ks:List Tri} {fs:List Fld} (h:PartsNew w B v ks fs):∃ a c,v=.slice a fs.length c∧fs.length≤c∧c≤maxLen∧∀ i,i<fs.length→∃ g u,a=some ⟨g,0,none⟩∧w.cell? ⟨g,i,none⟩=some (pv ks (fat fs i) u)∧((fat fs i).what=4→SNew w B u (cutW (fat fs i).v)):=by
 obtain ⟨us,h1,⟨h2,h3⟩,h4⟩:=h
 rcases h3 with ⟨rfl,h0⟩ | ⟨g,cap,cur,rfl,hB,hb,hn,hc,hs,ht⟩
 ·exact ⟨none,0,by rw [h0],by omega,Nat.zero_le _,fun i hi=>by omega⟩
 ·refine ⟨_,cap,rfl,hn,hc,fun i hi=>⟨g,us.getD i (.slice none 0 0),rfl,?_,fun hw=>?_⟩⟩
  ·have hu:us[i]?=some (us.getD i (.slice none 0 0)):=by simp [show i<us.length by omega]
   have hz:(List.zipWith (pv ks) fs us)[i]?=some (pv ks (fat fs i) (us.getD i (.slice none 0 0))):=by
    rw [List.getElem?_zipWith,bE hi,hu]
   rw [← ht,List.getElem?_take,if_pos (by omega)] at hz
   simp only [World.cell?,hb,Option.isSome_none,Bool.false_eq_true,if_false]
   simpa using hz
  ·exact h4 i _ _ (bE hi) (by simp [show i<us.length by omega]) hw
open Go.RowKit
def needC:Array Value:=#[.int .i64 1,.int .i64 2,.int .i64 3,.int .i64 4]
def NeedIn (w:World):Prop:=∃ t fr,w.heap[9]?=some (.cells needC t fr)
theorem NeedIn.lt {w:World} (h:NeedIn w):9<w.heap.size:=by
 obtain ⟨t,fr,h⟩:=h;exact (Array.getElem?_eq_some_iff.1 h).1
theorem NeedIn.keep {w w':World} (h:NeedIn w) (hb:Below w.heap.size w w'):NeedIn w':=by
 have hl:=h.lt;obtain ⟨t,fr,h⟩:=h;exact ⟨t,fr,(hb.block _ hl).trans h⟩
theorem NeedIn.cells {w:World} (h:NeedIn w):(w.cell? ⟨9,0,none⟩=some (.int .i64 1)∧w.cell? ⟨9,1,none⟩=some (.int .i64 2))∧w.cell? ⟨9,2,none⟩=some (.int .i64 3)∧w.cell? ⟨9,3,none⟩=some (.int .i64 4):=by
 obtain ⟨t,fr,h⟩:=h
 refine ⟨⟨?_,?_⟩,?_,?_⟩ <;> simp [World.cell?,h,needC]
open Go.RowKit
open Go.RowKit
theorem grown_setI (w:World) (b i:Nat) (v:Value):w.grownBy (w.setCell ⟨b,i,none⟩ v) (some b) :=
 ⟨rfl,rfl,rfl,by simp,fun j _ hr=>Below.heap_setCell w ⟨b,i,none⟩ v j (fun e=>hr (by rw [e]))⟩
def RtIs (w:World) (B:Nat) (rt:Value):Option Fld→Prop
 | some f=>SNew w B rt (cutW f.v)
 | none=>rt=.slice none 0 0
theorem RtIs.keep {w w':World} {B:Nat} {rt:Value} {o:Option Fld} (h:RtIs w B rt o) (hb:Below w.heap.size w w'):RtIs w' B rt o:=by
 cases o with
 | none=>exact h
 | some f=>exact Lv.own_keep (show SNew w B rt (cutW f.v) from h) hb
theorem RtIs.slice {w:World} {B:Nat} {rt:Value} {o:Option Fld} (h:RtIs w B rt o):∃ a n c,rt=.slice a n c:=by
 cases o with
 | none=>exact ⟨none,0,0,h⟩
 | some f =>
  obtain ⟨a,c,e⟩:=Lv.own_slice (show SNew w B rt (cutW f.v) from h)
  exact ⟨a,_,c,e⟩
theorem RtIs.set {w:World} {B Fb i:Nat} {rt x:Value} {o:Option Fld} {cs:Array Value} (h:RtIs w B rt o) (hF:w.heap[Fb]?=some (.cells cs 136 (0,0))):RtIs (w.setCell ⟨Fb,i,none⟩ x) B rt o:=by
 cases o with
 | none=>exact h
 | some f =>
  have h':SNew w B rt (cutW f.v):=h
  exact Lv.own_far h' (row:=some Fb) (grown_setI w Fb i x) (fun k hk e=>own_type h' hF (by decide) (by rw [hk,e]))
theorem RtIs.row {w:World} {B Fb:Nat} {rt:Value} {o:Option Fld} {cs cs':Array Value} (h:RtIs w B rt o) (hF:w.heap[Fb]?=some (.cells cs 136 (0,0))):RtIs (w.setRow Fb cs') B rt o:=by
 cases o with
 | none=>exact h
 | some f =>
  have h':SNew w B rt (cutW f.v):=h
  exact Lv.own_far h' (grown_rowS w Fb cs') (fun k hk e=>own_type h' hF (by decide) (by rw [hk,e]))
open Go.RowKit
theorem RtIs.mono {w:World} {B B':Nat} {rt:Value} {o:Option Fld} (h:RtIs w B rt o) (hb:B'≤B):RtIs w B' rt o:=by
 cases o with
 | none=>exact h
 | some f=>exact SNew.mono (show SNew w B rt (cutW f.v) from h) hb
end Go.Proofs.YtcmgddnckohdaaaGreatDoor.Sd
