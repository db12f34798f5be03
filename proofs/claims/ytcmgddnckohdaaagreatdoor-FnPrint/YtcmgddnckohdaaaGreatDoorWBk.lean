import Derived.Test.YtcmgddnckohdaaaGreatDoorMark1
set_option maxRecDepth 100000
set_option maxHeartbeats 6400000
set_option linter.unusedSimpArgs false
set_option linter.unusedVariables false
namespace Go.Proofs.YtcmgddnckohdaaaGreatDoor
open Go.RowKit
def EntsOwn (lo:Nat) (w:World) (v:Value) (l:List Ent):Prop :=
 ∃ (b:Nat) (rows:List (List Value)),lo≤b∧v=.slice (some ⟨b,0,none⟩) l.length l.length∧HeldL w b l.length 2 rows∧rows.length=l.length ∧
  ∀ (i:Nat) (e:Ent),l[i]?=some e→∃ fb:Nat,fb≠b∧lo≤fb∧rows[i]?=some [.string e.name,.slice (some ⟨fb,0,none⟩) e.fs.length e.fs.length]∧HeldL w fb e.fs.length 3 (e.fs.map fldRow)
theorem HeldL.flds {wr:World} {B n:Nat} {l:List Fld} (h:HeldL wr B n 3 (l.map fldRow)) (hn:l.length=n) (cap:Nat) (hc:n≤cap) (hm:cap≤maxLen):FldsAt wr (.slice (some ⟨B,0,none⟩) n cap) l :=
 ⟨some ⟨B,0,none⟩,cap,by rw [hn],by omega,hm,fun i f hf=>⟨B,0,rfl,by
  have hr:(l.map fldRow)[i]?=some (fldRow f):=by rw [List.getElem?_map,hf];rfl
  refine ⟨?_,?_,?_⟩
  ·simpa using h.cell hr (j:=0) (v:=.int .i64 f.what) rfl
  ·simpa using h.cell hr (j:=1) (v:=.int .i64 f.num) rfl
  ·simpa using h.cell hr (j:=2) (v:=.string f.v) rfl⟩⟩
theorem EntsOwn.at {lo:Nat} {w:World} {v:Value} {l:List Ent} (h:EntsOwn lo w v l) (hm:l.length≤1048576) (hf:∀ e∈l,e.fs.length≤1048576):EntsAt w v l:=by
 obtain ⟨b,rows,_,rfl,hh,_,hr⟩:=h
 refine ⟨some ⟨b,0,none⟩,l.length,rfl,Nat.le_refl _,by unfold maxLen;omega,fun i e he=>⟨b,0,rfl,?_⟩⟩
 obtain ⟨fb,_,_,h1,h2⟩:=hr i e he
 refine ⟨_,?_,?_,h2.flds rfl _ aH (by have:=hf e (List.mem_of_getElem? he);unfold maxLen;omega)⟩
 ·simpa using hh.cell h1 (j:=0) rfl
 ·simpa using hh.cell h1 (j:=1) rfl
theorem EntsOwn.keep {lo:Nat} {w w':World} {v:Value} {l:List Ent} (h:EntsOwn lo w v l) (hb:Below w.heap.size w w'):EntsOwn lo w' v l:=by
 obtain ⟨b,rows,hl,hv,hh,hn,hr⟩:=h;refine ⟨b,rows,hl,hv,hh.keep hb,hn,fun i e he=>?_⟩;obtain ⟨fb,h0,h1,h2,h3⟩:=hr i e he;exact ⟨fb,h0,h1,h2,h3.keep hb⟩
theorem EntsOwn.other {lo:Nat} {w:World} {v:Value} {l:List Ent} (h:EntsOwn lo w v l) {k o:Nat} (hk:k<lo) (x:Value):EntsOwn lo (w.setCell ⟨k,o,none⟩ x) v l:=by
 obtain ⟨b,rows,hl,hv,hh,hn,hr⟩:=h
 refine ⟨b,rows,hl,hv,hh.other (by omega) x,hn,fun i e he=>?_⟩
 obtain ⟨fb,h0,h1,h2,h3⟩:=hr i e he
 exact ⟨fb,h0,h1,h2,h3.other (by omega) x⟩
theorem EntsOwn.mono {lo lo':Nat} {w:World} {v:Value} {l:List Ent} (h:EntsOwn lo w v l) (hlo:lo'≤lo):EntsOwn lo' w v l:=by
 obtain ⟨b,rows,hl,hv,hh,hn,hr⟩:=h
 refine ⟨b,rows,by omega,hv,hh,hn,fun i e he=>?_⟩
 obtain ⟨fb,h0,h1,h2,h3⟩:=hr i e he
 exact ⟨fb,h0,by omega,h2,h3⟩
structure EntsTo (w wr:World) (B:Nat) (l:List Ent) (k:Nat) (rows:List (List Value)):Prop where
 fill:FilledL w wr B l.length 2 rows
 len:rows.length=k
 has:∀ (i:Nat) (e:Ent),i<k→l[i]?=some e→∃ fb:Nat,fb≠B∧w.heap.size≤fb∧rows[i]?=some [.string e.name,.slice (some ⟨fb,0,none⟩) e.fs.length e.fs.length]∧HeldL wr fb e.fs.length 3 (e.fs.map fldRow)
theorem setCells_held {wr:World} {B o:Nat} {vs:List Value} {b n c:Nat} {rows:List (List Value)} (h:HeldL wr b n c rows) (hb:B≠b):HeldL (wr.setCells B o vs) b n c rows:=by
 induction vs generalizing wr o with
 | nil=>exact h
 | cons v vs ih=>exact ih (h.other hb v)
theorem EntsTo.next {w wr w1:World} {B k fb:Nat} {l:List Ent} {rows:List (List Value)} {e:Ent} (h:EntsTo w wr B l k rows) (hk:k<l.length) (he:l[k]?=some e) (hb:Below wr.heap.size wr w1) (hfb:wr.heap.size≤fb) (hh:HeldL w1 fb e.fs.length 3 (e.fs.map fldRow)) :
  EntsTo w (w1.setCells B (k*2) [.string e.name,.slice (some ⟨fb,0,none⟩) e.fs.length e.fs.length]) B l (k+1) (rows++[[.string e.name,.slice (some ⟨fb,0,none⟩) e.fs.length e.fs.length]]):=by
 have hne:B≠fb:=by have:=h.fill.big;omega
 have hst:=(h.fill.call hb).store (r:=[.string e.name,.slice (some ⟨fb,0,none⟩) e.fs.length e.fs.length]) (by rw [h.len];exact hk) rfl
 rw [h.len] at hst
 refine ⟨hst,by simp [h.len],fun i e' hi he'=>?_⟩
 by_cases ei:i=k
 ·subst ei
  rw [he] at he';cases he'
  refine ⟨fb,Ne.symm hne,by have:=h.fill.below.size;omega,?_,setCells_held hh hne⟩
  rw [List.getElem?_append_right (by rw [h.len];exact Nat.le_refl _),h.len];simp
 ·obtain ⟨fb',h0,h1,h2,h3⟩:=h.has i e' (by omega) he'
  refine ⟨fb',h0,h1,?_,setCells_held (h3.keep hb) (Ne.symm h0)⟩
  rw [List.getElem?_append_left (by rw [h.len];omega)];exact h2
theorem EntsTo.done {w wr:World} {B lo:Nat} {l:List Ent} {rows:List (List Value)} (h:EntsTo w wr B l l.length rows) (hlo:lo≤w.heap.size):EntsOwn lo wr (.slice (some ⟨B,0,none⟩) l.length l.length) l :=
 ⟨B,rows,by have:=h.fill.old;omega,rfl,h.fill.held,h.len,fun i e he=>by
  obtain ⟨fb,h0,h1,h2,h3⟩:=h.has i e (List.getElem?_eq_some_iff.1 he).1 he
  exact ⟨fb,h0,by omega,h2,h3⟩⟩
open Go.RowKit
structure BookAt (w:World) (vk vp ve:Value) (ks ps:List Tri) (es:List Ent):Prop where
 k:TrisAt w vk ks
 p:TrisAt w vp ps
 e:EntsAt w ve es
theorem BookAt.keep {w w':World} {vk vp ve:Value} {ks ps:List Tri} {es:List Ent} (h:BookAt w vk vp ve ks ps es) (hb:Below w.heap.size w w'):BookAt w' vk vp ve ks ps es:=⟨h.k.keep hb,h.p.keep hb,h.e.keep hb⟩
structure BNames (ks ps:List Tri) (es:List Ent):Prop where
 k:Names ks
 p:Names ps
 e:ENames es
structure BookOwn (lo:Nat) (w:World) (vk vp ve:Value) (ks ps:List Tri) (es:List Ent):Prop where
 k:TrisOwn lo w vk ks
 p:TrisOwn lo w vp ps
 e:EntsOwn lo w ve es
 d:∀ b n c b' n' c',vk=.slice (some ⟨b,0,none⟩) n c∨vp=.slice (some ⟨b,0,none⟩) n c→ve=.slice (some ⟨b',0,none⟩) n' c'→b≠b'
theorem BookOwn.keep {lo:Nat} {w w':World} {vk vp ve:Value} {ks ps:List Tri} {es:List Ent} (h:BookOwn lo w vk vp ve ks ps es) (hb:Below w.heap.size w w'):BookOwn lo w' vk vp ve ks ps es:=⟨h.k.keep hb,h.p.keep hb,h.e.keep hb,h.d⟩
def szBook (ks ps:List Tri) (es:List Ent):Nat:=szTris ks+szTris ps+szEnts es
structure BSmall (ks ps:List Tri) (es:List Ent):Prop where
 k:ks.length≤1048576
 p:ps.length≤1048576
 e:es.length≤1048576
 f:∀ e∈es,e.fs.length≤1048576
 n:∀ e∈es,e.name.size≤1048576
 v:∀ e∈es,∀ f∈e.fs,f.v.size≤1048576
theorem BSmall.of {ks ps:List Tri} {es:List Ent} (h:szBook ks ps es≤1048576):BSmall ks ps es:=by
 unfold szBook szTris szEnts at h
 have one:∀ e∈es,szEnt e≤1048576:=fun e he=>by have:=sumN_mem szEnt es e he;omega
 refine ⟨by omega,by omega,by omega,fun e he=>?_,fun e he=>?_,fun e he f hf=>?_⟩
 ·have:=one e he;unfold szEnt szFlds at this;omega
 ·have:=one e he;unfold szEnt szFlds at this;omega
 ·have:=one e he;unfold szEnt szFlds at this;have h2:f.v.size≤_:=sumN_mem (fun f:Fld=>f.v.size) e.fs f hf;omega
theorem BookOwn.at {lo:Nat} {w:World} {vk vp ve:Value} {ks ps:List Tri} {es:List Ent} (h:BookOwn lo w vk vp ve ks ps es) (hs:BSmall ks ps es):BookAt w vk vp ve ks ps es:=⟨h.k.at hs.k,h.p.at hs.p,h.e.at hs.e hs.f⟩
end Go.Proofs.YtcmgddnckohdaaaGreatDoor
namespace Go.Proofs.YtcmgddnckohdaaaGreatDoor.Dr
open Go.RowKit
theorem str_not {w:World} {R p b o:Nat} {s:ByteArray} (h:Rd w R p) (hc:w.cell? ⟨b,o,none⟩=some (.string s)):b≠R:=by
 obtain ⟨v,n,hn,hx,a,cap,rfl,-⟩:=h.box;intro e;subst e
 simp only [World.cell?,hx] at hc
 rcases o with - | - | o <;> simp at hc
theorem cell_box {w w':World} {R b o:Nat} {u:Value} (hg:w.grownBy w' (some R)) (hb:b≠R) (hc:w.cell? ⟨b,o,none⟩=some u):w'.cell? ⟨b,o,none⟩=some u:=by
 rw [World.cell?_of_block (w:=w) (hg.block b (ar hc) (fun e=>hb (Option.some.inj e)))];exact hc
theorem StrsAt_box {w w':World} {R p:Nat} {v:Value} {ws:List ByteArray} (h:StrsAt w v ws) (hr:Rd w R p) (hg:w.grownBy w' (some R)):StrsAt w' v ws:=by
 obtain ⟨g,off,cap,rfl,h1,h2,h3⟩:=h;exact ⟨g,off,cap,rfl,h1,h2,fun i x hx=>cell_box hg (str_not hr (h3 i x hx)) (h3 i x hx)⟩
theorem cj {w w':World} {R p:Nat} {v:Value} {l:List Tri} (h:TrisAt w v l) (hr:Rd w R p) (hg:w.grownBy w' (some R)):TrisAt w' v l:=by
 obtain ⟨a,cap,rfl,h1,h2,h3⟩:=h;refine ⟨a,cap,rfl,h1,h2,fun i t ht=>?_⟩;obtain ⟨b,off,e,d0,d1,d2⟩:=h3 i t ht;have hb:=str_not hr d0;exact ⟨b,off,e,cell_box hg hb d0,cell_box hg hb d1,cell_box hg hb d2⟩
def wst (ws:List ByteArray) (i:Nat):ByteArray:=ws.getD i ⟨#[]⟩
theorem wst_get {ws:List ByteArray} {i:Nat} (h:i<ws.length):ws[i]?=some (wst ws i):=by simp [wst,h]
theorem of_any (R p:Nat) (v:Value) (ws:List ByteArray) (w:World) (h:Rd w R p) (hp:p≤1000000) (hv:StrsAt w v ws) (hw:1≤ws.length∧ws.length≤1000) :
  Calls Tryz.prog 49 #[.pointer (some ⟨R,0,none⟩),v] w fun e w'=>∃ s,e=.returned (.string s)∧s∈ws∧Rd w' R (p+1)∧w.grownBy w' (some R):=by
 have HV:Hid (∀ w',w.grownBy w' (some R)→StrsAt w' v ws):=fun w' hg=>StrsAt_box hv h hg
 have HP:Hid (Calls Tryz.prog 25 #[.pointer (some ⟨R,0,none⟩),.int .i64 (ws.length:Int)] w fun e w'=>∃ x:Int,e=.returned (.int .i64 x)∧0≤x∧(1≤(ws.length:Int)→x<(ws.length:Int))∧((ws.length:Int)<1→x=0)∧Rd w' R (p+1)∧w.grownBy w' (some R)):=aF R p _ w h hp (by omega)
 obtain ⟨g,off,cap,rfl,h1,h2,-⟩:=hv;unfold maxLen at h2;obtain ⟨hw1,hw2⟩:=hw
 go_enter Tryz.func49,Tryz.ntmps49
 go_wp2_with fail;refine HP.out.mono ?_;rintro e w1 ⟨x,rfl,hx0,hx1,-,hr,hg⟩
 have hx1':=hx1 (by omega)
 obtain ⟨i,rfl⟩:∃ i:Nat,x=i:=⟨x.toNat,by omega⟩
 obtain ⟨g',off',cap',e9,-,-,h3⟩:=HV.out _ hg
 cases e9
 have c0:=h3 i _ (wst_get (by omega))
 have HM:Hid (wst ws i∈ws):=List.mem_of_getElem? (wst_get (by omega))
 have HR:=am hr;have HG:=am hg;clear h3 hr hg hx1;generalize wst ws i=s at *;go_wp2;go_ret;exact ⟨s,rfl,HM.out,HR.out,HG.out⟩
theorem l1Many_any (s:ByteArray) (n:Nat) (w:World) (hs:s.size*n≤1000) (hn:n≤1000) (hs1:s.size≤1000) :
  Calls Tryz.prog 29 #[.string s,.int .i64 n] w fun e w'=>∃ t:ByteArray,e=.returned (.string t)∧t.size≤s.size*n∧w'=w:=by
 go_enter Tryz.func29,Tryz.ntmps29
 go_wp2
 go_loopw [0,1,5] (fun sv nv ov wr=>∃ (a b:ByteArray) (m:Nat),sv=.string a∧nv=.int .i64 m∧ov=.string b∧Hid (wr=w)∧Hid (a.size*m+b.size=s.size*n∧m≤n∧(m=0∨a.size≤1000))) (fun _ nv _ _=>(intOf nv).toNat)
 case atStart=>exact ⟨s,⟨#[]⟩,n,rfl,rfl,rfl,rfl,(by show s.size*n+0=_;omega),Nat.le_refl _,.inr hs1⟩
 case round =>
  obtain ⟨a,b,m,rfl,rfl,rfl,HW,HI⟩:=hrel
  by_cases hm:m=0
  ·subst hm
   have hb:=HI.out.1
   have HB:Hid (b.size≤s.size*n):=by show _≤_;omega
   clear HI;go_wp2;go_ret;exact ⟨b,rfl,HB.out,HW.out⟩
  ·have hm0:(0:Int)<(m:Int):=by omega
   have hmn:(0:Int)≤(m:Int):=by omega
   obtain ⟨h1,h2,h3⟩:=HI.out
   have ha:a.size≤1000:=by omega
   have hb:b.size≤1000:=by omega
   obtain ⟨q,r,hq,hr⟩:∃ q r:Nat,m=2*q+r∧r<2:=⟨m / 2,m % 2,by omega,by omega⟩
   have hdiv:((m:Int) / 2)=(q:Int):=by omega
   have hmod:((m:Int) % 2)=(r:Int):=by omega
   have HQW:Hid (wrap64 (q:Int)=(q:Int)):=by show _=_;unfold wrap64;omega
   have e1:a.size*m=(a.size+a.size)*q+a.size*r:=by rw [hq,Nat.mul_add,← Nat.mul_assoc,Nat.mul_comm a.size 2,Nat.two_mul]
   by_cases hr1:r=1
   ·have hrb:((r:Int)==1)=true:=by simp [hr1]
    have HN:Hid ((a++a).size*q+(b++a).size=s.size*n∧q≤n∧(q=0∨(a++a).size≤1000)):=by
     rw [hr1] at e1
     refine ⟨by simp only [ByteArray.size_append];omega,by omega,?_⟩
     by_cases hq0:q=0
     ·exact .inl hq0
     ·right
      simp only [ByteArray.size_append]
      have:=Nat.le_mul_of_pos_right (a.size+a.size) (show 0<q by omega)
      omega
    have HQ:Hid (q<m):=by show q<m;omega
    clear h1 h2 h3 e1 hq hr hr1 HI;go_wp2
    exact ⟨⟨a++a,b++a,q,rfl,by rw [HQW.out],rfl,HW,HN⟩,by have:=HQ.out;rw [HQW.out];simp only [intOf];omega⟩
   ·have hrb:((r:Int)==1)=false:=by simp;omega
    have HN:Hid ((a++a).size*q+b.size=s.size*n∧q≤n∧(q=0∨(a++a).size≤1000)):=by
     have hr0:r=0:=by omega
     rw [hr0] at e1
     refine ⟨by simp only [ByteArray.size_append];omega,by omega,?_⟩
     by_cases hq0:q=0
     ·exact .inl hq0
     ·right
      simp only [ByteArray.size_append]
      have:=Nat.le_mul_of_pos_right (a.size+a.size) (show 0<q by omega)
      omega
    have HQ:Hid (q<m):=by show q<m;omega
    clear h1 h2 h3 e1 hq hr hr1 HI;go_wp2
    exact ⟨⟨a++a,b,q,rfl,by rw [HQW.out],rfl,HW,HN⟩,by have:=HQ.out;rw [HQW.out];simp only [intOf];omega⟩
end Go.Proofs.YtcmgddnckohdaaaGreatDoor.Dr
namespace Go.Proofs.YtcmgddnckohdaaaGreatDoor
open Go.RowKit
attribute [local go_sem] Later.cell Later.frozen
def ruleV (what:Int):Value :=
 if what=1 then .iface 260 (.agg #[]) else if what=2 then .iface 261 (.agg #[]) else if what=3 then .iface 262 (.agg #[]) else if what=4 then .iface 263 (.agg #[]) else if what=5 then .iface 264 (.agg #[]) else .nilIface
theorem ruleOf_any (what:Int) (w:World) :
  Calls Tryz.prog 165 #[.int .i64 what] w fun e w'=>e=.returned (ruleV what)∧w'=w:=by
 have HR:Hid (ruleV what=ruleV what):=rfl
 by_cases h1:what=1
 ·subst h1
  go_enter Tryz.func165,Tryz.ntmps165
  go_wp2;go_ret;exact ⟨rfl,rfl⟩
 by_cases h2:what=2
 ·subst h2
  go_enter Tryz.func165,Tryz.ntmps165
  go_wp2;go_ret;exact ⟨rfl,rfl⟩
 by_cases h3:what=3
 ·subst h3
  go_enter Tryz.func165,Tryz.ntmps165
  go_wp2;go_ret;exact ⟨rfl,rfl⟩
 by_cases h4:what=4
 ·subst h4
  go_enter Tryz.func165,Tryz.ntmps165
  go_wp2;go_ret;exact ⟨rfl,rfl⟩
 by_cases h5:what=5
 ·subst h5
  go_enter Tryz.func165,Tryz.ntmps165
  go_wp2;go_ret;exact ⟨rfl,rfl⟩
 have e:ruleV what=.nilIface:=by simp [ruleV,h1,h2,h3,h4,h5]
 have g1:(what==1)=false:=by simp [h1]
 have g2:(what==2)=false:=by simp [h2]
 have g3:(what==3)=false:=by simp [h3]
 have g4:(what==4)=false:=by simp [h4]
 have g5:(what==5)=false:=by simp [h5]
 rw [e];clear h1 h2 h3 h4 h5 e HR
 go_enter Tryz.func165,Tryz.ntmps165
 go_wp2;go_ret;exact ⟨rfl,rfl⟩
theorem meth1:∀ w:World,(method 502 260 (.agg #[]) "loop.example/lapplan/impl.fits").run Tryz.prog w=.ok (330,.agg #[]) w:=fun _=>by kernel_rfl
theorem meth2:∀ w:World,(method 502 261 (.agg #[]) "loop.example/lapplan/impl.fits").run Tryz.prog w=.ok (331,.agg #[]) w:=fun _=>by kernel_rfl
theorem meth3:∀ w:World,(method 502 262 (.agg #[]) "loop.example/lapplan/impl.fits").run Tryz.prog w=.ok (332,.agg #[]) w:=fun _=>by kernel_rfl
theorem meth4:∀ w:World,(method 502 263 (.agg #[]) "loop.example/lapplan/impl.fits").run Tryz.prog w=.ok (333,.agg #[]) w:=fun _=>by kernel_rfl
theorem meth5:∀ w:World,(method 502 264 (.agg #[]) "loop.example/lapplan/impl.fits").run Tryz.prog w=.ok (334,.agg #[]) w:=fun _=>by kernel_rfl
theorem valueFits_any (vk vp:Value) (ks ps:List Tri) (what:Int) (s:ByteArray) (w:World) (hk:TrisAt w vk ks) (hp:TrisAt w vp ps) (hs:s.size≤1048576) :
  Calls Tryz.prog 135 #[.agg #[vk,vp],.int .i64 what,.string s] w fun e w'=>e=.returned (.bool (valB2 ks ps what s))∧Below w.heap.size w w':=by
 have HK:=hk;have HP:=hp;obtain ⟨ak,ck,rfl,-,-,-⟩:=hk;obtain ⟨ap,cp,rfl,-,-,-⟩:=hp;have HK1:Hid (TrisAt w (.slice ak ks.length ck) ks):=HK;have HP1:Hid (TrisAt w (.slice ap ps.length cp) ps):=HP;clear HK HP
 by_cases h1:what=1
 ·subst h1
  have HE:Hid (valB2 ks ps 1 s=hasB ks s):=rfl;have hm:=meth1
  go_enter Tryz.func135,Tryz.ntmps135
  go_wp2_with fail;refine (ruleOf_any _ _).mono ?_;rintro e w1 ⟨rfl,rfl⟩;have e1:ruleV 1=.iface 260 (.agg #[]):=rfl;rw [e1];clear e1;go_wp2_with fail;refine (kindRule_any _ _ ks s _ (HK1.out.alloc _)).mono ?_;rintro e w2 ⟨rfl,hb2⟩;go_wp2;go_ret;exact ⟨aw HE.out.symm,aa (aO) hb2⟩
 by_cases h2:what=2
 ·subst h2
  have HE:Hid (valB2 ks ps 2 s=timeB (cutW s)):=rfl;have hm:=meth2
  go_enter Tryz.func135,Tryz.ntmps135
  go_wp2_with fail;refine (ruleOf_any _ _).mono ?_;rintro e w1 ⟨rfl,rfl⟩;have e1:ruleV 2=.iface 261 (.agg #[]):=rfl;rw [e1];clear e1;go_wp2_with fail;refine (timeRule_any _ _ s _ hs).mono ?_;rintro e w2 ⟨rfl,hb2⟩;go_wp2;go_ret;exact ⟨aw HE.out.symm,aa (aO) hb2⟩
 by_cases h3:what=3
 ·subst h3
  have HE:Hid (valB2 ks ps 3 s=levelB s):=rfl;have hm:=meth3
  go_enter Tryz.func135,Tryz.ntmps135
  go_wp2_with fail;refine (ruleOf_any _ _).mono ?_;rintro e w1 ⟨rfl,rfl⟩;have e1:ruleV 3=.iface 262 (.agg #[]):=rfl;rw [e1];clear e1;go_wp2_with fail;refine (levelRule_any _ _ s _ hs).mono ?_;rintro e w2 ⟨rfl,hb2⟩;go_wp2;go_ret;exact ⟨aw HE.out.symm,aa (aO) hb2⟩
 by_cases h4:what=4
 ·subst h4
  have HE:Hid (valB2 ks ps 4 s=routeB ps (cutW s)):=rfl;have hm:=meth4
  go_enter Tryz.func135,Tryz.ntmps135
  go_wp2_with fail;refine (ruleOf_any _ _).mono ?_;rintro e w1 ⟨rfl,rfl⟩;have e1:ruleV 4=.iface 263 (.agg #[]):=rfl;rw [e1];clear e1;go_wp2_with fail;refine (routeRule_any _ _ ps s _ hs (HP1.out.alloc _)).mono ?_;rintro e w2 ⟨rfl,hb2⟩;go_wp2;go_ret;exact ⟨aw HE.out.symm,aa (aO) hb2⟩
 by_cases h5:what=5
 ·subst h5
  have HE:Hid (valB2 ks ps 5 s=stateB s):=rfl;have hm:=meth5
  go_enter Tryz.func135,Tryz.ntmps135
  go_wp2_with fail;refine (ruleOf_any _ _).mono ?_;rintro e w1 ⟨rfl,rfl⟩;have e1:ruleV 5=.iface 264 (.agg #[]):=rfl;rw [e1];clear e1;go_wp2_with fail;refine (stateRule_any _ _ s _).mono ?_;rintro e w2 ⟨rfl,hb2⟩;go_wp2;go_ret;exact ⟨aw HE.out.symm,aa (aO) hb2⟩
 have HE:Hid (valB2 ks ps what s=false):=by show valB2 ks ps what s=false;simp [valB2,h1,h2,h3,h4,h5]
 have HR:Hid (ruleV what=.nilIface):=by show ruleV what=_;simp [ruleV,h1,h2,h3,h4,h5]
 clear h1 h2 h3 h4 h5
 go_enter Tryz.func135,Tryz.ntmps135
 go_wp2_with fail;refine (ruleOf_any _ _).mono ?_;rw [HR.out];rintro e w1 ⟨rfl,rfl⟩;go_wp2;go_ret;exact ⟨aw HE.out.symm,(aO)⟩
end Go.Proofs.YtcmgddnckohdaaaGreatDoor
namespace Go.Proofs.YtcmgddnckohdaaaGreatDoor
open Go.RowKit
attribute [local go_sem] Later.cell Later.frozen
theorem changeFits_any (vk vp:Value) (ks ps:List Tri) (c:Chg) (w:World) (hk:TrisAt w vk ks) (hp:TrisAt w vp ps) (hf:c.f.size≤1048576) (hs:c.v.size≤1048576) :
  Calls Tryz.prog 81 #[.agg #[vk,vp],.agg #[.string c.f,.int .i64 c.what,.int .i64 c.num,.string c.v]] w fun e w'=>e=.returned (.bool (fitB ks ps c))∧Below w.heap.size w w':=by
 have HK:=hk;have HP:=hp;obtain ⟨ak,ck,rfl,-,-,-⟩:=hk;obtain ⟨ap,cp,rfl,-,-,-⟩:=hp;have HK1:Hid (TrisAt w (.slice ak ks.length ck) ks):=HK;have HP1:Hid (TrisAt w (.slice ap ps.length cp) ps):=HP;clear HK HP;obtain ⟨f,what,num,v⟩:=c;dsimp only at *;have HE:Hid (fitB ks ps ⟨f,what,num,v⟩=(nameB f&&(inB num 1 1000000&&valB2 ks ps what v))):=rfl;generalize fitB ks ps ⟨f,what,num,v⟩=res at HE ⊢
 go_enter Tryz.func81,Tryz.ntmps81
 go_wp2_with fail
 refine (b7 f _ (by unfold maxLen;omega)).mono ?_
 rintro e w1 ⟨rfl,hb1⟩
 have k0:w1.cell? ⟨w.heap.size,0,none⟩=some (.slice ak ks.length ck):=ag hb1 aH (by simp [go_sem])
 have k1:w1.cell? ⟨w.heap.size,1,none⟩=some (.slice ap ps.length cp):=ag hb1 aH (by simp [go_sem])
 have c0:w1.cell? ⟨w.heap.size+1,0,none⟩=some (.string f):=ag hb1 aH (by simp [go_sem])
 have c1:w1.cell? ⟨w.heap.size+1,1,none⟩=some (.int .i64 what):=ag hb1 aH (by simp [go_sem])
 have c2:w1.cell? ⟨w.heap.size+1,2,none⟩=some (.int .i64 num):=ag hb1 aH (by simp [go_sem])
 have c3:w1.cell? ⟨w.heap.size+1,3,none⟩=some (.string v):=ag hb1 aH (by simp [go_sem])
 have HB1:Hid (Below w.heap.size w w1):=aa ((aO).alloc (by simp) _) hb1
 clear hb1;generalize nameB f=b1 at *
 cases b1
 ·go_wp2
  go_ret
  exact ⟨aw (by rw [HE.out];rfl),HB1.out⟩
 ·go_wp2_with fail
  refine (cJ _ _).mono ?_;rintro e w2 ⟨rfl,hw2⟩;subst hw2;generalize inB num 1 1000000=b2 at *
  cases b2
  ·go_wp2
   go_ret
   exact ⟨aw (by rw [HE.out];rfl),HB1.out⟩
  ·go_wp2_with fail
   refine (valueFits_any _ _ ks ps what v _ (HK1.out.keep HB1.out) (HP1.out.keep HB1.out) hs).mono ?_;rintro e w3 ⟨rfl,hb3⟩;go_wp2;go_ret
   exact ⟨aw (by rw [HE.out];rfl),aa HB1.out hb3⟩
end Go.Proofs.YtcmgddnckohdaaaGreatDoor
namespace Go.Proofs.YtcmgddnckohdaaaGreatDoor
open Go.RowKit
attribute [local go_sem] Later.cell Later.frozen
def ascE (l:List Ent) (i:Nat):Bool:=!(decide (0<i)&&geB (eat l (i-1)).name (eat l i).name)
theorem ascE_zero (l:List Ent):ascE l 0=true:=by simp [ascE]
theorem ascE_succ (l:List Ent) (m:Nat):ascE l (m+1)=!geB (eat l m).name (eat l (m+1)).name:=by simp [ascE]
def namesE (l:List Ent):Bool:=decide (l.length≤12)&&allB l.length fun i=>nameB (eat l i).name&&ascE l i
def chgOf (n:ByteArray) (f:Fld):Chg:=⟨n,f.what,f.num,f.v⟩
def ascF (l:List Fld) (i:Nat):Bool:=!(decide (0<i)&&decide ((fat l i).what≤(fat l (i-1)).what))
def fieldsB (ks ps:List Tri) (n:ByteArray) (l:List Fld):Bool:=(allB l.length fun i=>ascF l i&&fitB ks ps (chgOf n (fat l i)))&&decide (0<l.length)
def bookB (ks ps:List Tri) (es:List Ent):Bool:=baseB ks ps&&(namesE es&&allB es.length fun i=>fieldsB ks ps (eat es i).name (eat es i).fs)
theorem entryName_any (n:ByteArray) (fv:Value) (w:World) :
  Calls Tryz.prog 42 #[.agg #[.string n,fv]] w fun e w'=>e=.returned (.string n)∧Below w.heap.size w w':=by
 go_enter Tryz.func42,Tryz.ntmps42
 go_wp2;go_ret;exact ⟨rfl,(aO)⟩
theorem namesEntry_any (v:Value) (l:List Ent) (w:World) (hv:EntsAt w v l) (hs:ENames l) :
  Calls Tryz.prog 41 #[v,.int .i64 12,.func (.func 42) #[] #[]] w fun e w'=>e=.returned (.bool (namesE l))∧Below w.heap.size w w':=by
 obtain ⟨a,cap,rfl,hlc,hcm,hc⟩:=hv;unfold maxLen at hcm;have HC:Hid (∀ i f,l[i]?=some f→∃ b off,a=some ⟨b,off,none⟩∧EntAt w b (off+i*2) f):=hc;have HS:Hid (ENames l):=hs;clear hc hs
 by_cases hn:(12:Int)<(l.length:Int)
 ·have e:namesE l=false:=by simp [namesE];omega
  rw [e];clear e
  go_enter Tryz.func41,Tryz.ntmps41
  go_wp2;go_ret;exact ⟨rfl,Below.refl _ _⟩
 ·have e:namesE l=allB l.length fun i=>nameB (eat l i).name&&ascE l i:=by
   have:l.length≤12:=by omega
   simp [namesE,this]
  rw [e];clear e
  go_enter Tryz.func41,Tryz.ntmps41
  go_wp2
  go_loopw [7,8,15] (fun _ _ i wr=>∃ k:Nat,k≤l.length∧i=.int .i64 k∧Below w.heap.size w wr∧Hid (∀ j,j<k→(nameB (eat l j).name&&ascE l j)=true)) (fun _ _ i _=>l.length-(intOf i).toNat)
  case atStart=>exact ⟨0,Nat.zero_le _,rfl,Below.refl _ _,fun j hj=>absurd hj (Nat.not_lt_zero _)⟩
  case round =>
   obtain ⟨k,hk,rfl,hb,HA⟩:=hrel
   by_cases hlt:k<l.length
   ·obtain ⟨b,off,rfl,hc⟩:=HC.out k _ (bo hlt)
    obtain ⟨fv,d0,d1,hfl⟩:=hc.keep hb;obtain ⟨fa,fc,rfl,-,-,-⟩:=hfl;have hsk:(eat l k).name.size≤maxLen:=(HS.out _ (List.mem_of_getElem? (bo hlt))).1
    have BAD:Hid (nameB (eat l k).name=false→allB l.length (fun i=>nameB (eat l i).name&&ascE l i)=false):=fun h=>ba hlt (by simp [h])
    have BAD':Hid (ascE l k=false→allB l.length (fun i=>nameB (eat l i).name&&ascE l i)=false):=fun h=>ba hlt (by simp [h])
    have hk0:(0:Int)≤(k:Int):=by omega
    have hk1:(k:Int)<(l.length:Int):=by omega
    have HO0:Hid (OwnAt wr (wr.alloc (.cells #[.string (eat l k).name,.slice fa (eat l k).fs.length fc] 65)) [[.string (eat l k).name,.slice fa (eat l k).fs.length fc]]):=(OwnAt.start wr).push rfl _ _;generalize hnl:(eat l k).fs.length=nl at *;clear hnl;go_wp2_with fail;refine (entryName_any (eat l k).name _ _).mono ?_;rintro e w1 ⟨rfl,hb1⟩;go_wp2_with fail;refine (b7 (eat l k).name _ hsk).mono ?_;rintro e w2 ⟨rfl,hb2⟩;have HO2:Hid (OwnAt wr w2 _):=(HO0.out.call hb1).call hb2;have HBW:Hid (Below w.heap.size w w2):=aa hb HO2.out.below;have n0:w2.cell? ⟨wr.heap.size,0,none⟩=some (.string (eat l k).name):=(HO2.out.has 0 _ rfl 0 _ rfl).1;have n1:w2.cell? ⟨wr.heap.size,1,none⟩=some (.slice fa nl fc):=(HO2.out.has 0 _ rfl 1 _ rfl).1;have nz:wr.heap.size<w2.heap.size:=ar n0;clear d0 d1 hb1 hb2 HO0 HO2
    cases hnm:nameB (eat l k).name
    ·have HN:Hid (nameB (eat l k).name=false):=hnm
     clear hnm;go_wp2;go_ret;exact ⟨aw (BAD.out HN.out).symm,HBW.out⟩
    ·have HN:Hid (nameB (eat l k).name=true):=hnm
     clear hnm;have hne:=Later.some w2;have GN:Hid (∀ (n:ByteArray) (u:Value) (y:Later w2),Calls Tryz.prog 42 #[.agg #[.string n,u]] y.val fun e w''=>e=.returned (.string n)∧∃ z:Later w2,w''=z.val):=fun n u y=>Calls.later (entryName_any n u y.val)
     by_cases hkz:k=0
     ·subst hkz
      go_wp2
      refine aq (by kernel_rfl) (by kernel_rfl) ?_
      repeat (go_big_quiet_step (first | (go_at_call 42;exact GN.out _ _ _)))
      refine wpQuiet_nil ?_;rintro _ ⟨x,rfl⟩;go_wp2
      exact ⟨⟨1,by omega,by go_num,aa HBW.out x.below,fun j hj=>by
       obtain rfl:j=0:=by omega
       rw [HN.out,ascE_zero];rfl⟩,by simp [intOf];omega⟩
     ·obtain ⟨m,rfl⟩:∃ m,k=m+1:=⟨k-1,by omega⟩
      obtain ⟨b',off',hbo,hcm'⟩:=HC.out m _ (bo (by omega))
      cases hbo
      obtain ⟨fv',m0,m1,hfl'⟩:=hcm'.keep HBW.out;obtain ⟨fa',fc',rfl,-,-,-⟩:=hfl';have mz:b<w2.heap.size:=ar m0;have HE:Hid (ascE l (m+1)=!geB (eat l m).name (eat l (m+1)).name):=ascE_succ l m
      have hi0:(0:Int)≤(m:Int):=by omega
      have hi1:(m:Int)<(l.length:Int):=by omega
      have hi2:(0:Int)<(m:Int)+1:=by omega
      have hw1:IntKind.i64.wrap (m:Int)=(m:Int):=by rw [IntKind.wrap_i64];omega
      have hw2:IntKind.i64.wrap ((m:Int)+1-1)=(m:Int):=by rw [IntKind.wrap_i64];omega
      clear hc hcm';go_wp2
      refine aq (by kernel_rfl) (by kernel_rfl) ?_
      repeat (go_big_quiet_step (first | (go_at_call 42;exact GN.out _ _ _)))
      refine wpQuiet_nil ?_;rintro _ ⟨x,rfl⟩;go_wp2
      ·rename_i h
       go_ret
       exact ⟨aw (BAD'.out (by rw [HE.out];unfold geB;rw [h];rfl)).symm,aa HBW.out x.below⟩
      ·rename_i h
       exact ⟨⟨m+1+1,by omega,by go_num,aa HBW.out x.below,fun j hj=>if e:j=m+1 then by rw [e,HN.out,HE.out];unfold geB;rw [h];rfl else HA.out j (by omega)⟩,by simp [intOf];omega⟩
   ·go_wp2
    go_ret
    exact ⟨aw (aY fun j hj=>HA.out j (by omega)).symm,hb⟩
end Go.Proofs.YtcmgddnckohdaaaGreatDoor
namespace Go.Proofs.YtcmgddnckohdaaaGreatDoor
open Go.RowKit
attribute [local go_sem] Later.cell Later.frozen
theorem wBase_any (vk vp uk up:Value) (ks ps ks' ps':List Tri) (w:World) (hk:TrisAt w vk ks) (hp:TrisAt w vp ps) (hk':TrisAt w uk ks') (hp':TrisAt w up ps') (lk:ks.length≤1048576) (lp:ps.length≤1048576) :
  Calls Tryz.prog 35 #[.agg #[vk,vp],.agg #[uk,up]] w fun e w'=>e=.returned (.bool (sameBs ks ks' ps ps'))∧Below w.heap.size w w':=by
 obtain ⟨ak,ck,rfl,-,m1,h1⟩:=hk;obtain ⟨ap,cp,rfl,-,m2,h2⟩:=hp;obtain ⟨ak',ck',rfl,-,m3,h3⟩:=hk';obtain ⟨ap',cp',rfl,-,m4,h4⟩:=hp';unfold maxLen at m1 m2 m3 m4;have HU:Hid (∀ i t,ks[i]?=some t→∃ b off,ak=some ⟨b,off,none⟩∧w.cell? ⟨b,off+i*3,none⟩=some (.string t.s)∧w.cell? ⟨b,off+i*3+1,none⟩=some (.int .i64 t.x)∧w.cell? ⟨b,off+i*3+2,none⟩=some (.int .i64 t.y)):=h1;have HP:Hid (∀ i t,ps[i]?=some t→∃ b off,ap=some ⟨b,off,none⟩∧w.cell? ⟨b,off+i*3,none⟩=some (.string t.s)∧w.cell? ⟨b,off+i*3+1,none⟩=some (.int .i64 t.x)∧w.cell? ⟨b,off+i*3+2,none⟩=some (.int .i64 t.y)):=h2;have HV:Hid (∀ i t,ks'[i]?=some t→∃ b off,ak'=some ⟨b,off,none⟩∧w.cell? ⟨b,off+i*3,none⟩=some (.string t.s)∧w.cell? ⟨b,off+i*3+1,none⟩=some (.int .i64 t.x)∧w.cell? ⟨b,off+i*3+2,none⟩=some (.int .i64 t.y)):=h3;have HQ:Hid (∀ i t,ps'[i]?=some t→∃ b off,ap'=some ⟨b,off,none⟩∧w.cell? ⟨b,off+i*3,none⟩=some (.string t.s)∧w.cell? ⟨b,off+i*3+1,none⟩=some (.int .i64 t.x)∧w.cell? ⟨b,off+i*3+2,none⟩=some (.int .i64 t.y)):=h4;clear h1 h2 h3 h4
 have HX0:Hid (OwnAt w ((w.alloc (.cells #[.slice ak ks.length ck,.slice ap ps.length cp] 27)).alloc (.cells #[.slice ak' ks'.length ck',.slice ap' ps'.length cp'] 27)) [[.slice ak ks.length ck,.slice ap ps.length cp],[.slice ak' ks'.length ck',.slice ap' ps'.length cp']]):=((OwnAt.start w).push rfl _ _).push (by simp) _ _
 by_cases hl1:ks.length=ks'.length
 ·have q1:(((ks.length:Nat):Int) != ((ks'.length:Nat):Int))=false:=by simp [hl1]
  have HLK:Hid (ks.length=ks'.length):=hl1
  have le1:ks.length≤ks'.length:=by omega
  clear hl1
  by_cases hl2:ps.length=ps'.length
  ·have q2:(((ps.length:Nat):Int) != ((ps'.length:Nat):Int))=false:=by simp [hl2]
   have HLP:Hid (ps.length=ps'.length):=hl2
   have le2:ps.length≤ps'.length:=by omega
   clear hl2
   go_enter Tryz.func35,Tryz.ntmps35
   go_wp2
   go_loopw [5] (fun i wr=>∃ k:Nat,k≤ks.length∧i=.int .i64 k∧Hid (∀ i,i<k→triEq (at' ks i) (at' ks' i)=true)∧Hid (OwnAt w wr [[.slice ak ks.length ck,.slice ap ps.length cp],[.slice ak' ks'.length ck',.slice ap' ps'.length cp']])) (fun i _=>ks.length-(intOf i).toNat)
   case atStart=>exact ⟨0,Nat.zero_le _,rfl,fun i hi=>absurd hi (Nat.not_lt_zero _),HX0.out⟩
   case round =>
    clear HX0;obtain ⟨k,hk,rfl,HA,HX⟩:=hrel;have x0:wr.cell? ⟨w.heap.size,0,none⟩=some (.slice ak ks.length ck):=(HX.out.has 0 _ rfl 0 _ rfl).1;have x1:wr.cell? ⟨w.heap.size,1,none⟩=some (.slice ap ps.length cp):=(HX.out.has 0 _ rfl 1 _ rfl).1;have y0:wr.cell? ⟨w.heap.size+1,0,none⟩=some (.slice ak' ks'.length ck'):=(HX.out.has 1 _ rfl 0 _ rfl).1;have y1:wr.cell? ⟨w.heap.size+1,1,none⟩=some (.slice ap' ps'.length cp'):=(HX.out.has 1 _ rfl 1 _ rfl).1;have hxz:w.heap.size<wr.heap.size:=ar x0;have hyz:w.heap.size+1<wr.heap.size:=ar y0
    by_cases hlt:k<ks.length
    ·obtain ⟨b,off,rfl,d0,d1,d2⟩:=HU.out k _ (aX hlt)
     obtain ⟨b',off',rfl,e0,e1,e2⟩:=HV.out k _ (aX (show k<ks'.length by omega))
     have c0:=ag HX.out.below aH d0;have c1:=ag HX.out.below aH d1;have c2:=ag HX.out.below aH d2;have f0:=ag HX.out.below aH e0;have f1:=ag HX.out.below aH e1;have f2:=ag HX.out.below aH e2;have z1:=ar c0;have z2:=ar f0;clear d0 d1 d2 e0 e1 e2
     have hk0:(0:Int)≤(k:Int):=by omega
     have hk1:(k:Int)<(ks.length:Int):=by omega
     have hk2:(k:Int)<(ks'.length:Int):=by omega
     have hne:=Later.some wr
     rcases triEq_cases (at' ks k) (at' ks' k) with ⟨ht,h1,h2,h3⟩ | ⟨ht,h1⟩
     ·have HN:Hid (∀ i,i<k+1→triEq (at' ks i) (at' ks' i)=true):=fun i hi=>by
       by_cases e:i=k
       ·subst e;exact ht
       ·exact HA.out i (by omega)
      clear ht;go_wp2
      refine aq (by kernel_rfl) (by kernel_rfl) ?_
      repeat (go_big_quiet_step (fail))
      refine wpQuiet_nil ?_;rintro _ ⟨x,rfl⟩;have HB2:Hid (OwnAt w x.val _):=HX.out.call x.below;go_wp2
      exact ⟨⟨k+1,by omega,by go_num,HN,HB2⟩,by simp [intOf];omega⟩
     ·have HS:Hid (sameBs ks ks' ps ps'=false):=by
       have h0:=sameT_stop hlt ht
       show _=_
       unfold sameBs;rw [h0]
       simp
      clear ht
      rcases h1 with h1 | ⟨h1,h2⟩ | ⟨h1,h2,h3⟩
      all_goals
       go_wp2
       refine aq (by kernel_rfl) (by kernel_rfl) ?_
       repeat (go_big_quiet_step (fail))
       refine wpQuiet_nil ?_;rintro _ ⟨x,rfl⟩;have HB2:Hid (Below w.heap.size w x.val):=aa HX.out.below x.below;go_wp2;go_ret;exact ⟨ret_boolS HS.out.symm,HB2.out⟩
    ·have HK1:Hid (sameT ks ks'=true):=sameT_all HLK.out (fun i hi=>HA.out i (by omega))
     have HX0:=HX;clear HX HA;go_wp2;clear x0 x1 y0 y1 hxz hyz
     go_loopw [6] (fun i wr=>∃ k:Nat,k≤ps.length∧i=.int .i64 k∧Hid (∀ i,i<k→triEq (at' ps i) (at' ps' i)=true)∧Hid (OwnAt w wr [[.slice ak ks.length ck,.slice ap ps.length cp],[.slice ak' ks'.length ck',.slice ap' ps'.length cp']])) (fun i _=>ps.length-(intOf i).toNat)
     case atStart=>exact ⟨0,Nat.zero_le _,rfl,fun i hi=>absurd hi (Nat.not_lt_zero _),HX0.out⟩
     case round =>
      clear HX0;obtain ⟨k,hk,rfl,HA,HX⟩:=hrel;have x0:wr.cell? ⟨w.heap.size,0,none⟩=some (.slice ak ks.length ck):=(HX.out.has 0 _ rfl 0 _ rfl).1;have x1:wr.cell? ⟨w.heap.size,1,none⟩=some (.slice ap ps.length cp):=(HX.out.has 0 _ rfl 1 _ rfl).1;have y0:wr.cell? ⟨w.heap.size+1,0,none⟩=some (.slice ak' ks'.length ck'):=(HX.out.has 1 _ rfl 0 _ rfl).1;have y1:wr.cell? ⟨w.heap.size+1,1,none⟩=some (.slice ap' ps'.length cp'):=(HX.out.has 1 _ rfl 1 _ rfl).1;have hxz:w.heap.size<wr.heap.size:=ar x0;have hyz:w.heap.size+1<wr.heap.size:=ar y0
      by_cases hlt:k<ps.length
      ·obtain ⟨b,off,rfl,d0,d1,d2⟩:=HP.out k _ (aX hlt)
       obtain ⟨b',off',rfl,e0,e1,e2⟩:=HQ.out k _ (aX (show k<ps'.length by omega))
       have c0:=ag HX.out.below aH d0;have c1:=ag HX.out.below aH d1;have c2:=ag HX.out.below aH d2;have f0:=ag HX.out.below aH e0;have f1:=ag HX.out.below aH e1;have f2:=ag HX.out.below aH e2;have z1:=ar c0;have z2:=ar f0;clear d0 d1 d2 e0 e1 e2
       have hk0:(0:Int)≤(k:Int):=by omega
       have hk1:(k:Int)<(ps.length:Int):=by omega
       have hk2:(k:Int)<(ps'.length:Int):=by omega
       have hne:=Later.some wr
       rcases triEq_cases (at' ps k) (at' ps' k) with ⟨ht,h1,h2,h3⟩ | ⟨ht,h1⟩
       ·have HN:Hid (∀ i,i<k+1→triEq (at' ps i) (at' ps' i)=true):=fun i hi=>by
         by_cases e:i=k
         ·subst e;exact ht
         ·exact HA.out i (by omega)
        clear ht;go_wp2
        refine aq (by kernel_rfl) (by kernel_rfl) ?_
        repeat (go_big_quiet_step (fail))
        refine wpQuiet_nil ?_;rintro _ ⟨x,rfl⟩;have HB2:Hid (OwnAt w x.val _):=HX.out.call x.below;go_wp2
        exact ⟨⟨k+1,by omega,by go_num,HN,HB2⟩,by simp [intOf];omega⟩
       ·have HS:Hid (sameBs ks ks' ps ps'=false):=by
         have h0:=sameT_stop hlt ht
         show _=_
         unfold sameBs;rw [h0]
         simp
        clear ht
        rcases h1 with h1 | ⟨h1,h2⟩ | ⟨h1,h2,h3⟩
        all_goals
         go_wp2
         refine aq (by kernel_rfl) (by kernel_rfl) ?_
         repeat (go_big_quiet_step (fail))
         refine wpQuiet_nil ?_;rintro _ ⟨x,rfl⟩;have HB2:Hid (Below w.heap.size w x.val):=aa HX.out.below x.below;go_wp2;go_ret;exact ⟨ret_boolS HS.out.symm,HB2.out⟩
      ·have HS:Hid (sameBs ks ks' ps ps'=true):=by
        have h0:=sameT_all HLP.out (fun i hi=>HA.out i (by omega))
        show _=_
        unfold sameBs;rw [HK1.out,h0]
        rfl
       go_wp2;go_ret;exact ⟨ret_boolS HS.out.symm,HX.out.below⟩
  ·have q2:(((ps.length:Nat):Int) != ((ps'.length:Nat):Int))=true:=by simp;omega
   have HS:Hid (sameBs ks ks' ps ps'=false):=by
    show _=_
    unfold sameBs;rw [sameT_len hl2]
    simp
   clear hl2
   go_enter Tryz.func35,Tryz.ntmps35
   go_wp2;go_ret;exact ⟨ret_boolS HS.out.symm,HX0.out.below⟩
 ·have q1:(((ks.length:Nat):Int) != ((ks'.length:Nat):Int))=true:=by simp;omega
  have HS:Hid (sameBs ks ks' ps ps'=false):=by
   show _=_
   unfold sameBs;rw [sameT_len hl1]
   simp
  clear hl1
  go_enter Tryz.func35,Tryz.ntmps35
  go_wp2;go_ret;exact ⟨ret_boolS HS.out.symm,HX0.out.below⟩
end Go.Proofs.YtcmgddnckohdaaaGreatDoor
namespace Go.Proofs.YtcmgddnckohdaaaGreatDoor
open Go.RowKit
attribute [local go_sem] Later.cell Later.frozen
theorem sameT_refl (l:List Tri):sameT l l=true:=sameT_all rfl (fun i _=>by simp [triEq])
theorem sameBs_refl (ks ps:List Tri):sameBs ks ks ps ps=true:=by
 unfold sameBs;rw [sameT_refl,sameT_refl]
 rfl
theorem wBook_same (vk vp ve uk up ue:Value) (ks ps:List Tri) (es:List Ent) (w:World) (hB:BookAt w vk vp ve ks ps es) (hB':BookAt w uk up ue ks ps es) (sB:BSmall ks ps es) :
  Calls Tryz.prog 10 #[.agg #[vk,vp,ve],.agg #[uk,up,ue]] w fun e w'=>e=.returned (.bool true)∧Below w.heap.size w w':=by
 have lk:=sB.k;have lp:=sB.p;have le:=sB.e;have HL:Hid (∀ e∈es,e.fs.length≤1048576):=sB.f
 have HW:Hid (∀ wx:World,Below w.heap.size w wx→Calls Tryz.prog 35 #[.agg #[vk,vp],.agg #[uk,up]] wx fun e w'=>e=.returned (.bool true)∧Below wx.heap.size wx w'):=fun wx hx=>by
  have h:=wBase_any vk vp uk up ks ps ks ps wx (hB.k.keep hx) (hB.p.keep hx) (hB'.k.keep hx) (hB'.p.keep hx) lk lp;rw [sameBs_refl] at h;exact h
 clear sB;obtain ⟨⟨ak,ck,rfl,-,m1,-⟩,⟨ap,cp,rfl,-,m2,-⟩,⟨ae,ce,rfl,-,m3,h3⟩⟩:=hB;obtain ⟨⟨ak',ck',rfl,-,n1,-⟩,⟨ap',cp',rfl,-,n2,-⟩,⟨ae',ce',rfl,-,n3,h3'⟩⟩:=hB';unfold maxLen at m1 m2 m3 n1 n2 n3;have HE:Hid (∀ i e,es[i]?=some e→∃ b off,ae=some ⟨b,off,none⟩∧EntAt w b (off+i*2) e):=h3;have HE':Hid (∀ i e,es[i]?=some e→∃ b off,ae'=some ⟨b,off,none⟩∧EntAt w b (off+i*2) e):=h3';clear h3 h3'
 have HX0:Hid (OwnAt w ((w.alloc (.cells #[.slice ak ks.length ck,.slice ap ps.length cp,.slice ae es.length ce] 30)).alloc (.cells #[.slice ak' ks.length ck',.slice ap' ps.length cp',.slice ae' es.length ce'] 30)) [[.slice ak ks.length ck,.slice ap ps.length cp,.slice ae es.length ce],[.slice ak' ks.length ck',.slice ap' ps.length cp',.slice ae' es.length ce']]):=((OwnAt.start w).push rfl _ _).push (by simp) _ _
 have HZ:Hid (∀ wr:World,OwnAt w wr [[.slice ak ks.length ck,.slice ap ps.length cp,.slice ae es.length ce],[.slice ak' ks.length ck',.slice ap' ps.length cp',.slice ae' es.length ce']]→(wr.cell? ⟨w.heap.size,0,none⟩=some (.slice ak ks.length ck)∧wr.cell? ⟨w.heap.size,1,none⟩=some (.slice ap ps.length cp)∧wr.cell? ⟨w.heap.size,2,none⟩=some (.slice ae es.length ce))∧wr.cell? ⟨w.heap.size+1,0,none⟩=some (.slice ak' ks.length ck')∧wr.cell? ⟨w.heap.size+1,1,none⟩=some (.slice ap' ps.length cp')∧wr.cell? ⟨w.heap.size+1,2,none⟩=some (.slice ae' es.length ce')):=fun wr h=>⟨⟨(h.has 0 _ rfl 0 _ rfl).1,(h.has 0 _ rfl 1 _ rfl).1,(h.has 0 _ rfl 2 _ rfl).1⟩,(h.has 1 _ rfl 0 _ rfl).1,(h.has 1 _ rfl 1 _ rfl).1,(h.has 1 _ rfl 2 _ rfl).1⟩;obtain ⟨⟨x0,x1,x2⟩,y0,y1,y2⟩:=HZ.out _ HX0.out
 go_enter Tryz.func10,Tryz.ntmps10
 go_wp2_with fail;clear x0 x1 x2 y0 y1 y2;generalize ((w.alloc (.cells #[.slice ak ks.length ck,.slice ap ps.length cp,.slice ae es.length ce] 30)).alloc (.cells #[.slice ak' ks.length ck',.slice ap' ps.length cp',.slice ae' es.length ce'] 30))=w0 at *;refine (HW.out _ HX0.out.below).mono ?_;rintro e w1 ⟨rfl,hb1⟩;have HX1:Hid (OwnAt w w1 _):=HX0.out.call hb1;clear HX0 hb1 HW;obtain ⟨⟨x0,x1,x2⟩,y0,y1,y2⟩:=HZ.out _ HX1.out;go_wp2;clear x0 x1 x2 y0 y1 y2
 go_loopw [5] (fun i wr=>∃ k:Nat,k≤es.length∧i=.int .i64 k∧Hid (OwnAt w wr [[.slice ak ks.length ck,.slice ap ps.length cp,.slice ae es.length ce],[.slice ak' ks.length ck',.slice ap' ps.length cp',.slice ae' es.length ce']])) (fun i _=>es.length-(intOf i).toNat)
 case atStart=>exact ⟨0,Nat.zero_le _,rfl,HX1.out⟩
 case round =>
  clear HX1;obtain ⟨k,hk,rfl,HX⟩:=hrel;obtain ⟨⟨x0,x1,x2⟩,y0,y1,y2⟩:=HZ.out _ HX.out;have hxz:w.heap.size<wr.heap.size:=ar x0;have hyz:w.heap.size+1<wr.heap.size:=ar y0
  by_cases hlt:k<es.length
  ·obtain ⟨b,off,rfl,fv,d0,d1,hf⟩:=HE.out k _ (bo hlt)
   obtain ⟨b',off',rfl,fv',e0,e1,hf'⟩:=HE'.out k _ (bo hlt);have HFL:=HL.out _ (List.mem_of_getElem? (bo hlt));generalize eat es k=en at *;obtain ⟨fa,fc,rfl,-,fm,hf3⟩:=hf;obtain ⟨fa',fc',rfl,-,fm',hf3'⟩:=hf';unfold maxLen at fm fm';have HF:Hid (∀ i f,en.fs[i]?=some f→∃ b off,fa=some ⟨b,off,none⟩∧FldAt w b (off+i*3) f):=hf3;have HF':Hid (∀ i f,en.fs[i]?=some f→∃ b off,fa'=some ⟨b,off,none⟩∧FldAt w b (off+i*3) f):=hf3';have HD:Hid (∀ wx:World,OwnAt w wx [[.slice ak ks.length ck,.slice ap ps.length cp,.slice (some ⟨b,off,none⟩) es.length ce],[.slice ak' ks.length ck',.slice ap' ps.length cp',.slice (some ⟨b',off',none⟩) es.length ce']]→wx.cell? ⟨b,off+k*2,none⟩=some (.string en.name)∧wx.cell? ⟨b,off+k*2+1,none⟩=some (.slice fa en.fs.length fc)∧wx.cell? ⟨b',off'+k*2,none⟩=some (.string en.name)∧wx.cell? ⟨b',off'+k*2+1,none⟩=some (.slice fa' en.fs.length fc')):=fun wx h=>⟨ag h.below aH d0,ag h.below aH d1,ag h.below aH e0,ag h.below aH e1⟩;clear d0 d1 e0 e1 hf3 hf3';obtain ⟨c0,c1,f0,f1⟩:=HD.out _ HX.out;have z1:=ar c0;have z2:=ar f0
   have hk0:(0:Int)≤(k:Int):=by omega
   have hk1:(k:Int)<(es.length:Int):=by omega
   have hne:=Later.some wr;go_wp2
   refine aq (by kernel_rfl) (by kernel_rfl) ?_
   repeat (go_big_quiet_step (fail))
   refine wpQuiet_nil ?_;rintro _ ⟨x,rfl⟩;have HX2:Hid (OwnAt w x.val _):=HX.out.call x.below;clear x0 x1 x2 y0 y1 y2 c0 c1 f0 f1 z1 z2 hxz hyz HX hne;go_wp2
   go_loopw [6] (fun i wr=>∃ j:Nat,j≤en.fs.length∧i=.int .i64 j∧Hid (OwnAt w wr [[.slice ak ks.length ck,.slice ap ps.length cp,.slice (some ⟨b,off,none⟩) es.length ce],[.slice ak' ks.length ck',.slice ap' ps.length cp',.slice (some ⟨b',off',none⟩) es.length ce']])) (fun i _=>en.fs.length-(intOf i).toNat)
   case atStart=>exact ⟨0,Nat.zero_le _,rfl,HX2.out⟩
   case round =>
    clear HX2;obtain ⟨j,hj,rfl,HX⟩:=hrel;obtain ⟨⟨x0,x1,x2⟩,y0,y1,y2⟩:=HZ.out _ HX.out;obtain ⟨c0,c1,f0,f1⟩:=HD.out _ HX.out;have hxz:w.heap.size<wr.heap.size:=ar x0;have hyz:w.heap.size+1<wr.heap.size:=ar y0;have z1:=ar c0;have z2:=ar f0
    by_cases hjl:j<en.fs.length
    ·obtain ⟨g,o,hga,g0,g1,g2⟩:=HF.out j _ (bE hjl)
     obtain ⟨g',o',hga',l0,l1,l2⟩:=HF'.out j _ (bE hjl);subst hga;subst hga';generalize fat en.fs j=fd at *;have s0:=ag HX.out.below aH g0;have s1:=ag HX.out.below aH g1;have s2:=ag HX.out.below aH g2;have r0:=ag HX.out.below aH l0;have r1:=ag HX.out.below aH l1;have r2:=ag HX.out.below aH l2;have z3:=ar s0;have z4:=ar r0;clear g0 g1 g2 l0 l1 l2
     have hj0:(0:Int)≤(j:Int):=by omega
     have hj1:(j:Int)<(en.fs.length:Int):=by omega
     have hne:=Later.some wr;go_wp2
     refine aq (by kernel_rfl) (by kernel_rfl) ?_
     repeat (go_big_quiet_step (fail))
     refine wpQuiet_nil ?_;rintro _ ⟨x,rfl⟩;have HB2:Hid (OwnAt w x.val _):=HX.out.call x.below;go_wp2
     exact ⟨⟨j+1,by omega,by go_num,HB2⟩,by simp [intOf];omega⟩
    ·have hje:j=en.fs.length:=by omega
     subst hje;go_wp2
     exact ⟨⟨k+1,by omega,by go_num,HX⟩,by simp [intOf];omega⟩
  ·have hke:k=es.length:=by omega
   subst hke;have HB:Hid (Below w.heap.size w wr):=HX.out.below;go_wp2;go_ret;exact ⟨rfl,HB.out⟩
end Go.Proofs.YtcmgddnckohdaaaGreatDoor
