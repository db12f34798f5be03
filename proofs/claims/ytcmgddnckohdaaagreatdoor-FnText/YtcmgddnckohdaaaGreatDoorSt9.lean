import Derived.Test.YtcmgddnckohdaaaGreatDoorBook5
import Derived.Test.YtcmgddnckohdaaaGreatDoorLev00
import Derived.Test.YtcmgddnckohdaaaGreatDoorShelf2
import Derived.Laws.CopyOwn
set_option linter.unusedSimpArgs false
set_option linter.unusedVariables false
namespace Go.Proofs.YtcmgddnckohdaaaGreatDoor.Sd
open Go.RowKit
theorem jm (s:ByteArray) (w:World) (hs:s.size≤1048576) :
  Calls Tryz.prog 209 #[.string s] w fun e w'=>e=.returned (.string s)∧Below w.heap.size w w':=by
 go_enter Tryz.func209,Tryz.ntmps209
 go_wp2_with fail
 refine (Tryz.stringslite_Clone s _ (by omega)).mono ?_
 rintro e w' ⟨rfl,hb⟩;go_wp2;go_ret;exact ⟨rfl,hb⟩
def kr (w:World) (B:Nat) (v:Value) (l:List ByteArray):Prop:=w.ownsRow B 9 1 v l.length (l.map Value.string)
theorem kr.snoc {w:World} {B n:Nat} {v:Value} {l:List ByteArray} {x:ByteArray} (hn:l.length=n) (h:w.ownsRow B 9 1 v (n+1) (l.map Value.string++[.string x])):kr w B v (l++[x]):=by
 unfold kr;rw [List.length_append,List.map_append];subst hn;exact h
open Go.RowKit
def pv (ks:List dx) (f:fI) (u:Value):Value :=
 if f.what=1 then .iface 335 (.agg #[.string (at' ks (iH ks f.v)).s,.int .i64 (at' ks (iH ks f.v)).x,.int .i64 (at' ks (iH ks f.v)).y])
 else if f.what=2 then .iface 337 (.agg #[.int .i64 (I5 (dn f.v)),.int .i64 (FV (dn f.v))])
 else if f.what=3 then .iface 340 (.agg #[.int .i64 (Ja f.v)])
 else if f.what=4 then .iface 343 (.agg #[u])
 else .iface 332 (.agg #[.bool (decide (f.v=pJ))])
open Go.RowKit
structure IV (w w':World) (S:Nat→Prop):Prop where
 os:w'.os=w.os
 tape:w'.tape=w.tape
 output:w'.output=w.output
 size:w.heap.size≤w'.heap.size
 block:∀ j,j<w.heap.size→¬ S j→w'.heap[j]?=w.heap[j]?
theorem IV.below {B:Nat} {w w0 w':World} {S:Nat→Prop} (h0:Below B w0 w) (h:IV w w' S) (hB:B≤w.heap.size) (hS:∀ j,S j→B≤j):Below B w0 w' :=
 ⟨h.os.trans h0.os,h.tape.trans h0.tape,h.output.trans h0.output,Nat.le_trans h0.size h.size,fun k hk=>(h.block k (by omega) (fun hs=>by have:=hS k hs;omega)).trans (h0.block k hk)⟩
theorem Ji {w w':World} {S:Nat→Prop} {base:Nat} {e:TypeId} {size:Nat} {v:Value} {n:Nat} {xs:List Value} (h:w.ownsRow base e size v n xs) (hk:IV w w' S) (hs:∀ k,v.ownBlock=some k→¬ S k):w'.ownsRow base e size v n xs:=by
 refine ⟨h.1,?_⟩
 rcases h.2 with h2 | ⟨g,cap,cur,hv,hb,hc,rest⟩
 ·exact .inl h2
 ·exact .inr ⟨g,cap,cur,hv,hb,(hk.block g (Array.getElem?_eq_some_iff.1 hc).1 (hs g (by rw [hv];rfl))).trans hc,rest⟩
theorem rX {w:World} {base:Nat} {e:TypeId} {size:Nat} {v:Value} {n:Nat} {xs:List Value} {B:Nat} {C:Array Value} {t:TypeId} (h:w.ownsRow base e size v n xs) (hB:w.heap[B]?=some (.cells C t (0,0))) (hne:e≠t):some B≠v.ownBlock:=by
 rcases h.2 with ⟨rfl,_⟩ | ⟨g,cap,cur,rfl,hg,hc,_⟩
 ·intro e;cases e
 ·intro e
  simp only [Value.ownBlock,Option.some.injEq] at e
  subst e;rw [hc] at hB
  simp at hB
  exact hne hB.2
open Go.RowKit
def jy (w:World) (B:Nat) (v:Value) (ks:List dx) (fs:List fI):Prop :=
 ∃ us:List Value,us.length=fs.length∧w.ownsRow B 326 1 v fs.length (List.zipWith (pv ks) fs us)∧∀ (i:Nat) (f:fI) (u:Value),fs[i]?=some f→us[i]?=some u→f.what=4→kr w B u (dn f.v)
theorem jy.keep {w w':World} {B:Nat} {v:Value} {ks:List dx} {fs:List fI} (h:jy w B v ks fs) (hb:Below w.heap.size w w'):jy w' B v ks fs:=by
 obtain ⟨us,h1,h2,h3⟩:=h;exact ⟨us,h1,Lv.rZ h2 hb,fun i f u hf hu h4=>Lv.rZ (h3 i f u hf hu h4) hb⟩
theorem jy.slice {w:World} {B:Nat} {v:Value} {ks:List dx} {fs:List fI} (h:jy w B v ks fs):∃ a c,v=.slice a fs.length c:=by
 obtain ⟨us,h1,h2,h3⟩:=h;exact Lv.cZ h2
theorem GU (w:World) (g:Nat) (cs:Array Value):w.grownBy (w.setRow g cs) (some g):=⟨rfl,rfl,rfl,by simp,fun k _ hk=>setRow_other _ _ _ _ (fun e=>hk (by rw [e]))⟩
theorem CU (ks:List dx):∀ (fs:List fI) (us:List Value) (f:fI) (u:Value),us.length=fs.length→List.zipWith (pv ks) (fs++[f]) (us++[u])=List.zipWith (pv ks) fs us++[pv ks f u]
 | [],[],f,u,_=>rfl
 | [],_::_,f,u,h=>by simp at h
 | _::_,[],f,u,h=>by simp at h
 | a::fs,b::us,f,u,h=>by simp [CU ks fs us f u (by simpa using h)]
theorem kr.mono {w:World} {B B':Nat} {v:Value} {l:List ByteArray} (h:kr w B v l) (hb:B'≤B):kr w B' v l:=by
 refine ⟨h.1,?_⟩
 rcases h.2 with h2 | ⟨g,cap,cur,hv,hg,rest⟩
 ·exact .inl h2
 ·exact .inr ⟨g,cap,cur,hv,by omega,rest⟩
theorem jy.snoc {w w':World} {B D:Nat} {v v':Value} {ks:List dx} {fs:List fI} {f:fI} {u:Value} {us:List Value} (h1:us.length=fs.length)
  (h3:∀ (i:Nat) (f:fI) (u:Value),fs[i]?=some f→us[i]?=some u→f.what=4→kr w B u (dn f.v)) (hu:f.what=4→kr w B u (dn f.v))
  (hD:w.heap[D]?=some (.cells #[v,.string ⟨#[]⟩] 307 (0,0)) ∨ ∃ nm,w.heap[D]?=some (.cells #[v,nm] 307 (0,0))) (hown:w.ownsRow B 326 1 v fs.length (List.zipWith (pv ks) fs us))
  (hk:IV w w' (fun j=>j=D∨some j=v.ownBlock)) (hn:w'.ownsRow B 326 1 v' (fs.length+1) (List.zipWith (pv ks) fs us++[pv ks f u])):jy w' B v' ks (fs++[f]):=by
 have hDD:∃ nm,w.heap[D]?=some (.cells #[v,nm] 307 (0,0)):=by
  rcases hD with h | h
  ·exact ⟨_,h⟩
  ·exact h
 obtain ⟨nm,hDD⟩:=hDD
 have far:∀ (x:Value) (l:List ByteArray),kr w B x l→kr w' B x l:=fun x l hx=>by
  refine Ji hx hk (fun k hk' hs=>?_)
  rcases hs with rfl | hs
  ·exact rX hx hDD (by decide) hk'.symm
  ·rcases hx.2 with ⟨rfl,_⟩ | ⟨g,cap,cur,rfl,hg,hc,_⟩
   ·cases hk'
   ·simp only [Value.ownBlock,Option.some.injEq] at hk'
    subst hk'
    exact rX hown hc (by decide) hs
 refine ⟨us++[u],by simp [h1],?_,fun i f' u' hf hu' h4=>?_⟩
 ·rw [CU ks fs us f u h1,List.length_append]
  exact hn
 ·by_cases hi:i<fs.length
  ·rw [List.getElem?_append_left hi] at hf
   rw [List.getElem?_append_left (by omega)] at hu'
   exact far _ _ (h3 i f' u' hf hu' h4)
  ·rw [List.getElem?_append_right (by omega)] at hf
   rw [List.getElem?_append_right (by omega),h1] at hu'
   have hi0:i-fs.length=0:=by
    have:=(List.getElem?_eq_some_iff.1 hf).1
    simp at this;omega
   rw [hi0] at hf hu'
   simp at hf hu'
   subst hf hu';exact far _ _ (hu h4)
open Go.RowKit
theorem jy.cells {w:World} {B:Nat} {v:Value} {ks:List dx} {fs:List fI} (h:jy w B v ks fs):∃ a c,v=.slice a fs.length c∧fs.length≤c∧c≤maxLen∧∀ i,i<fs.length→∃ g u,a=some ⟨g,0,none⟩∧w.cell? ⟨g,i,none⟩=some (pv ks (fH fs i) u)∧((fH fs i).what=4→kr w B u (dn (fH fs i).v)):=by
 obtain ⟨us,h1,⟨h2,h3⟩,h4⟩:=h
 rcases h3 with ⟨rfl,h0⟩ | ⟨g,cap,cur,rfl,hB,hb,hn,hc,hs,ht⟩
 ·exact ⟨none,0,by rw [h0],by omega,Nat.zero_le _,fun i hi=>by omega⟩
 ·refine ⟨_,cap,rfl,hn,hc,fun i hi=>⟨g,us.getD i (.slice none 0 0),rfl,?_,fun hw=>?_⟩⟩
  ·have hu:us[i]?=some (us.getD i (.slice none 0 0)):=by simp [show i<us.length by omega]
   have hz:(List.zipWith (pv ks) fs us)[i]?=some (pv ks (fH fs i) (us.getD i (.slice none 0 0))):=by
    rw [List.getElem?_zipWith,b7 hi,hu]
   rw [← ht,List.getElem?_take,if_pos (by omega)] at hz
   simp only [World.cell?,hb,Option.isSome_none,Bool.false_eq_true,if_false]
   simpa using hz
  ·exact h4 i _ _ (b7 hi) (by simp [show i<us.length by omega]) hw
open Go.RowKit
def needC:Array Value:=#[.int .i64 1,.int .i64 2,.int .i64 3,.int .i64 4]
def ry (w:World):Prop:=∃ t fr,w.heap[9]?=some (.cells needC t fr)
theorem ry.lt {w:World} (h:ry w):9<w.heap.size:=by
 obtain ⟨t,fr,h⟩:=h;exact (Array.getElem?_eq_some_iff.1 h).1
theorem ry.keep {w w':World} (h:ry w) (hb:Below w.heap.size w w'):ry w':=by
 have hl:=h.lt;obtain ⟨t,fr,h⟩:=h;exact ⟨t,fr,(hb.block _ hl).trans h⟩
theorem ry.cells {w:World} (h:ry w):(w.cell? ⟨9,0,none⟩=some (.int .i64 1)∧w.cell? ⟨9,1,none⟩=some (.int .i64 2))∧w.cell? ⟨9,2,none⟩=some (.int .i64 3)∧w.cell? ⟨9,3,none⟩=some (.int .i64 4):=by
 obtain ⟨t,fr,h⟩:=h
 refine ⟨⟨?_,?_⟩,?_,?_⟩ <;> simp [World.cell?,h,needC]
open Go.RowKit
open Go.RowKit
theorem GQ (w:World) (b i:Nat) (v:Value):w.grownBy (w.setCell ⟨b,i,none⟩ v) (some b) :=
 ⟨rfl,rfl,rfl,by simp,fun j _ hr=>Below.heap_setCell w ⟨b,i,none⟩ v j (fun e=>hr (by rw [e]))⟩
def tK (w:World) (B:Nat) (rt:Value):Option fI→Prop
 | some f=>kr w B rt (dn f.v)
 | none=>rt=.slice none 0 0
theorem tK.keep {w w':World} {B:Nat} {rt:Value} {o:Option fI} (h:tK w B rt o) (hb:Below w.heap.size w w'):tK w' B rt o:=by
 cases o with
 | none=>exact h
 | some f=>exact Lv.rZ (show kr w B rt (dn f.v) from h) hb
theorem tK.slice {w:World} {B:Nat} {rt:Value} {o:Option fI} (h:tK w B rt o):∃ a n c,rt=.slice a n c:=by
 cases o with
 | none=>exact ⟨none,0,0,h⟩
 | some f =>
  obtain ⟨a,c,e⟩:=Lv.cZ (show kr w B rt (dn f.v) from h)
  exact ⟨a,_,c,e⟩
theorem tK.set {w:World} {B Fb i:Nat} {rt x:Value} {o:Option fI} {cs:Array Value} (h:tK w B rt o) (hF:w.heap[Fb]?=some (.cells cs 136 (0,0))):tK (w.setCell ⟨Fb,i,none⟩ x) B rt o:=by
 cases o with
 | none=>exact h
 | some f =>
  have h':kr w B rt (dn f.v):=h
  exact Lv.Ij h' (row:=some Fb) (GQ w Fb i x) (fun k hk e=>rX h' hF (by decide) (by rw [hk,e]))
theorem tK.row {w:World} {B Fb:Nat} {rt:Value} {o:Option fI} {cs cs':Array Value} (h:tK w B rt o) (hF:w.heap[Fb]?=some (.cells cs 136 (0,0))):tK (w.setRow Fb cs') B rt o:=by
 cases o with
 | none=>exact h
 | some f =>
  have h':kr w B rt (dn f.v):=h
  exact Lv.Ij h' (GU w Fb cs') (fun k hk e=>rX h' hF (by decide) (by rw [hk,e]))
open Go.RowKit
theorem tK.mono {w:World} {B B':Nat} {rt:Value} {o:Option fI} (h:tK w B rt o) (hb:B'≤B):tK w B' rt o:=by
 cases o with
 | none=>exact h
 | some f=>exact kr.mono (show kr w B rt (dn f.v) from h) hb
end Go.Proofs.YtcmgddnckohdaaaGreatDoor.Sd
