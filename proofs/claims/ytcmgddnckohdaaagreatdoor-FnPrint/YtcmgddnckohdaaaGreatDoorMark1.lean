import Derived.Test.YtcmgddnckohdaaaGreatDoorFits2
set_option maxRecDepth 100000
set_option maxHeartbeats 3200000
set_option linter.unusedSimpArgs false
set_option linter.unusedVariables false
namespace Go.Proofs.YtcmgddnckohdaaaGreatDoor
open Go.RowKit
theorem pointsOk_any (v:Value) (l:List Tri) (w:World) (hv:TrisAt w v l) (hs:∀ t∈l,t.s.size≤maxLen) :
  Calls Tryz.prog 80 #[v] w fun e w'=>e=.returned (.bool (pointsB l))∧Below w.heap.size w w':=by
 have hnm:=fun wx hvx=>namesPoint_any v l 16 wx hvx hs (by omega)
 have HNM:Hid (∀ (wx:World),TrisAt wx v l→Calls Tryz.prog 131 #[v,.int .i64 (16:Nat),.func (.func 132) #[] #[]] wx fun e w'=>e=.returned (.bool (namesB l 16))∧Below wx.heap.size wx w'):=hnm;clear hnm;have HV:Hid (TrisAt w v l):=hv;obtain ⟨a,cap,rfl,hlc,hcm,hc⟩:=hv;unfold maxLen at hcm;have HC:Hid (∀ i t,l[i]?=some t→∃ b off,a=some ⟨b,off,none⟩∧TriAt w b (off+i*3) t):=hc;clear hc
 cases hn:namesB l 16
 ·have e:pointsB l=false:=by simp [pointsB,hn]
  have HN:Hid (namesB l 16=false):=hn;rw [e];clear e hn
  go_enter Tryz.func80,Tryz.ntmps80
  go_wp2_with fail;refine (HNM.out _ HV.out).mono ?_;rw [HN.out];rintro e w1 ⟨rfl,hb1⟩;go_wp2;go_ret;exact ⟨rfl,hb1⟩
 ·have e:pointsB l=allB l.length fun i=>insideB (at' l i)&&!takenB l i (at' l i):=by simp [pointsB,hn]
  have HN:Hid (namesB l 16=true):=hn;rw [e];clear e hn
  go_enter Tryz.func80,Tryz.ntmps80
  go_wp2_with fail;refine (HNM.out _ HV.out).mono ?_;rw [HN.out];rintro e w1 ⟨rfl,hb1⟩;go_wp2
  go_loopw [3,4,10] (fun _ _ i wr=>∃ k:Nat,k≤l.length∧i=.int .i64 k∧Below w.heap.size w wr∧Hid (∀ j,j<k→(insideB (at' l j)&&!takenB l j (at' l j))=true)) (fun _ _ i _=>l.length-(intOf i).toNat)
  case atStart=>exact ⟨0,Nat.zero_le _,rfl,hb1,fun j hj=>absurd hj (Nat.not_lt_zero _)⟩
  case round =>
   obtain ⟨k,hk,rfl,hb,HA⟩:=hrel
   by_cases hlt:k<l.length
   ·obtain ⟨b,off,rfl,hc⟩:=HC.out k _ (aX hlt)
    obtain ⟨d0,d1,d2⟩:=hc.keep hb aH;have BAD:Hid ((insideB (at' l k)&&!takenB l k (at' l k))=false→allB l.length (fun i=>insideB (at' l i)&&!takenB l i (at' l i))=false):=fun h=>ba hlt h
    have hk0:(0:Int)≤(k:Int):=by omega
    have hk1:(k:Int)<(l.length:Int):=by omega
    have hk2:(k:Int)≤(cap:Int):=by omega
    have HT:Hid (takenB (l.take k) (l.take k).length (at' l k)=takenB l k (at' l k)):=taken_take l k hk _;have HTK:Hid (∀ wx:World,Below w.heap.size w wx→TrisAt wx (.slice (some ⟨b,off,none⟩) k cap) (l.take k)):=fun wx hx=>(HV.out.keep hx).take k hk
    cases hp:insideB (at' l k)
    ·have HP:Hid (insideB (at' l k)=false):=hp
     clear hp;go_wp2
     first | go_region_with (go_at_call 133;refine (inside_any (at' l k) _).mono ?_;rw [HP.out];rintro e w3 ⟨rfl,hb3⟩) | fail
     all_goals go_wp2
     all_goals go_ret
     all_goals exact ⟨aw (BAD.out (by rw [HP.out];rfl)).symm,aa (hb.alloc hb.size _).drew hb3⟩
    ·have HP:Hid (insideB (at' l k)=true):=hp
     clear hp
     cases ht:takenB l k (at' l k)
     ·have HT2:Hid (takenB l k (at' l k)=false):=ht
      clear ht;go_wp2
      go_region_held3 (fun w'=>w'.cell? ⟨wr.heap.size,0,none⟩=some (.string (at' l k).s)∧w'.cell? ⟨wr.heap.size,1,none⟩=some (.int .i64 (at' l k).x)∧w'.cell? ⟨wr.heap.size,2,none⟩=some (.int .i64 (at' l k).y)∧Below w.heap.size w w')
       (first | (refine ⟨by simp [*,go_sem],by simp [*,go_sem],by simp [*,go_sem],?_⟩;exact (hb.alloc hb.size _).drew) | (obtain ⟨s0,s1,s2,s6⟩:=‹_∧_∧_∧Below w.heap.size w _›;exact ⟨ag hb3 aH s0,ag hb3 aH s1,ag hb3 aH s2,aa s6 hb3⟩))
       (first | (go_at_call 133;refine (inside_any (at' l k) _).mono ?_;rw [HP.out];rintro e w3 ⟨rfl,hb3⟩) | (go_at_call 134;refine (cellTaken_any _ (l.take k) (at' l k) _ (HTK.out _ (by exact (‹_∧_∧_∧Below w.heap.size w _›).2.2.2))).mono ?_;rw [HT.out,HT2.out];rintro e w3 ⟨rfl,hb3⟩))
      go_wp2;obtain ⟨_,_,_,hS⟩:=‹_∧_∧_∧Below w.heap.size w w3›
      exact ⟨⟨k+1,by omega,by go_num,hS,fun j hj=>if e:j=k then by rw [e,HP.out,HT2.out];rfl else HA.out j (by omega)⟩,by simp [intOf];omega⟩
     ·have HT2:Hid (takenB l k (at' l k)=true):=ht
      clear ht;go_wp2
      go_region_held3 (fun w'=>w'.cell? ⟨wr.heap.size,0,none⟩=some (.string (at' l k).s)∧w'.cell? ⟨wr.heap.size,1,none⟩=some (.int .i64 (at' l k).x)∧w'.cell? ⟨wr.heap.size,2,none⟩=some (.int .i64 (at' l k).y)∧Below w.heap.size w w')
       (first | (refine ⟨by simp [*,go_sem],by simp [*,go_sem],by simp [*,go_sem],?_⟩;exact (hb.alloc hb.size _).drew) | (obtain ⟨s0,s1,s2,s6⟩:=‹_∧_∧_∧Below w.heap.size w _›;exact ⟨ag hb3 aH s0,ag hb3 aH s1,ag hb3 aH s2,aa s6 hb3⟩))
       (first | (go_at_call 133;refine (inside_any (at' l k) _).mono ?_;rw [HP.out];rintro e w3 ⟨rfl,hb3⟩) | (go_at_call 134;refine (cellTaken_any _ (l.take k) (at' l k) _ (HTK.out _ (by exact (‹_∧_∧_∧Below w.heap.size w _›).2.2.2))).mono ?_;rw [HT.out,HT2.out];rintro e w3 ⟨rfl,hb3⟩))
      go_wp2;obtain ⟨_,_,_,hS⟩:=‹_∧_∧_∧Below w.heap.size w w3›;go_ret
      exact ⟨aw (BAD.out (by rw [HP.out,HT2.out];rfl)).symm,hS⟩
   ·go_wp2
    go_ret
    exact ⟨aw (aY fun j hj=>HA.out j (by omega)).symm,hb⟩
open Go.RowKit
def Names (l:List Tri):Prop:=∀ t∈l,t.s.size≤maxLen
theorem TrisAt.alloc {w:World} {v:Value} {l:List Tri} (h:TrisAt w v l) (o:Obj):TrisAt (w.alloc o) v l:=h.keep (aO)
theorem baseOk_any (vk vp:Value) (ks ps:List Tri) (w:World) (hk:TrisAt w vk ks) (hp:TrisAt w vp ps) (nk:Names ks) (np:Names ps) :
  Calls Tryz.prog 40 #[.agg #[vk,vp]] w fun e w'=>e=.returned (.bool (kindsB ks&&pointsB ps))∧Below w.heap.size w w':=by
 have HK:=hk;have HP:=hp;obtain ⟨ak,ck,rfl,-,-,-⟩:=hk;obtain ⟨ap,cp,rfl,-,-,-⟩:=hp;have HK1:Hid (TrisAt w (.slice ak ks.length ck) ks):=HK;have HP1:Hid (TrisAt w (.slice ap ps.length cp) ps):=HP;have NK:Hid (Names ks):=nk;have NP:Hid (Names ps):=np;clear HK HP nk np
 cases h1:kindsB ks
 ·have H1:Hid (kindsB ks=false):=h1
  rw [Bool.false_and];clear h1
  go_enter Tryz.func40,Tryz.ntmps40
  go_wp2_with fail;refine (kindsOk_any _ ks _ (HK1.out.alloc _) NK.out).mono ?_;rw [H1.out];rintro e w1 ⟨rfl,hb1⟩;go_wp2;go_ret;exact ⟨rfl,aa (aO) hb1⟩
 ·have H1:Hid (kindsB ks=true):=h1
  rw [Bool.true_and];clear h1
  go_enter Tryz.func40,Tryz.ntmps40
  go_wp2_with fail;refine (kindsOk_any _ ks _ (HK1.out.alloc _) NK.out).mono ?_;rw [H1.out];rintro e w1 ⟨rfl,hb1⟩
  have c1:w1.cell? ⟨w.heap.size,1,none⟩=some (.slice ap ps.length cp):=ag hb1 aH (by simp)
  have hbw:=aa (aO) hb1;go_wp2_with fail;refine (pointsOk_any _ ps _ (HP1.out.keep hbw) NP.out).mono ?_;rintro e w2 ⟨rfl,hb2⟩;go_wp2;go_ret;exact ⟨rfl,aa hbw hb2⟩
theorem below_set {B:Nat} {a w:World} (h:Below B a w) (k o:Nat) (hk:B≤k) (v:Value):Below B a (w.setCell ⟨k,o,none⟩ v):=h.setCell (p:=⟨k,o,none⟩) hk v
open Go.RowKit
structure Fld where
 what:Int
 num:Int
 v:ByteArray
structure Ent where
 name:ByteArray
 fs:List Fld
def FldAt (w:World) (b o:Nat) (f:Fld):Prop:=w.cell? ⟨b,o,none⟩=some (.int .i64 f.what)∧w.cell? ⟨b,o+1,none⟩=some (.int .i64 f.num)∧w.cell? ⟨b,o+2,none⟩=some (.string f.v)
def FldsAt (w:World) (v:Value) (l:List Fld):Prop :=
 ∃ a cap,v=.slice a l.length cap∧l.length≤cap∧cap≤maxLen∧∀ i f,l[i]?=some f→∃ b off,a=some ⟨b,off,none⟩∧FldAt w b (off+i*3) f
def EntAt (w:World) (b o:Nat) (e:Ent):Prop:=∃ fv,w.cell? ⟨b,o,none⟩=some (.string e.name)∧w.cell? ⟨b,o+1,none⟩=some fv∧FldsAt w fv e.fs
def EntsAt (w:World) (v:Value) (l:List Ent):Prop :=
 ∃ a cap,v=.slice a l.length cap∧l.length≤cap∧cap≤maxLen∧∀ i e,l[i]?=some e→∃ b off,a=some ⟨b,off,none⟩∧EntAt w b (off+i*2) e
theorem FldAt.keep {w w':World} {b o B:Nat} {f:Fld} (h:FldAt w b o f) (hb:Below B w w') (hB:w.heap.size≤B):FldAt w' b o f :=
 ⟨ag hb hB h.1,ag hb hB h.2.1,ag hb hB h.2.2⟩
theorem FldsAt.keep {w w':World} {v:Value} {l:List Fld} (h:FldsAt w v l) (hb:Below w.heap.size w w'):FldsAt w' v l:=by
 obtain ⟨a,cap,rfl,h1,h2,h3⟩:=h;refine ⟨a,cap,rfl,h1,h2,fun i t ht=>?_⟩;obtain ⟨b,off,ha,hc⟩:=h3 i t ht;exact ⟨b,off,ha,hc.keep hb aH⟩
theorem EntAt.keep {w w':World} {b o:Nat} {e:Ent} (h:EntAt w b o e) (hb:Below w.heap.size w w'):EntAt w' b o e:=by
 obtain ⟨fv,h0,h1,h2⟩:=h;exact ⟨fv,ag hb aH h0,ag hb aH h1,h2.keep hb⟩
theorem EntsAt.keep {w w':World} {v:Value} {l:List Ent} (h:EntsAt w v l) (hb:Below w.heap.size w w'):EntsAt w' v l:=by
 obtain ⟨a,cap,rfl,h1,h2,h3⟩:=h;refine ⟨a,cap,rfl,h1,h2,fun i t ht=>?_⟩;obtain ⟨b,off,ha,hc⟩:=h3 i t ht;exact ⟨b,off,ha,hc.keep hb⟩
def fat (l:List Fld) (i:Nat):Fld:=l.getD i ⟨0,0,⟨#[]⟩⟩
theorem bE {l:List Fld} {i:Nat} (h:i<l.length):l[i]?=some (fat l i):=by simp [fat,h]
def eat (l:List Ent) (i:Nat):Ent:=l.getD i ⟨⟨#[]⟩,[]⟩
theorem bo {l:List Ent} {i:Nat} (h:i<l.length):l[i]?=some (eat l i):=by simp [eat,h]
def FNames (l:List Fld):Prop:=∀ f∈l,f.v.size≤maxLen
def ENames (l:List Ent):Prop:=∀ e∈l,e.name.size≤maxLen∧FNames e.fs
def sumN {α:Type} (g:α→Nat):List α→Nat
 | []=>0
 | t::r=>g t+sumN g r
theorem sumN_append {α:Type} (g:α→Nat) (l r:List α):sumN g (l++r)=sumN g l+sumN g r:=by
 induction l with
 | nil=>simp [sumN]
 | cons a l ih=>simp [sumN,ih];omega
theorem sumN_take_le {α:Type} (g:α→Nat) (l:List α) (k:Nat):sumN g (l.take k)≤sumN g l:=by
 conv=>rhs;rw [← List.take_append_drop k l,sumN_append]
 omega
theorem sumN_mem {α:Type} (g:α→Nat) (l:List α) (x:α) (h:x∈l):g x≤sumN g l:=by
 induction l with
 | nil=>cases h
 | cons a l ih =>
  rcases List.mem_cons.1 h with rfl | h
  ·simp [sumN]
  ·have:=ih h;simp [sumN];omega
def szFlds (l:List Fld):Nat:=l.length+sumN (fun f=>f.v.size) l
def szEnt (e:Ent):Nat:=e.name.size+szFlds e.fs
def szEnts (l:List Ent):Nat:=l.length+sumN szEnt l
open Go.RowKit
open Go.RowKit
def fldRow (f:Fld):List Value:=[.int .i64 f.what,.int .i64 f.num,.string f.v]
theorem FilledL.flds {w wr:World} {B n:Nat} {l:List Fld} (h:FilledL w wr B n 3 (l.map fldRow)) (hn:l.length=n) (hm:n≤maxLen):FldsAt wr (.slice (some ⟨B,0,none⟩) n n) l :=
 ⟨some ⟨B,0,none⟩,n,by rw [hn],by omega,hm,fun i f hf=>⟨B,0,rfl,by
  have hr:(l.map fldRow)[i]?=some (fldRow f):=by rw [List.getElem?_map,hf];rfl
  refine ⟨?_,?_,?_⟩
  ·simpa using h.cell hr (j:=0) (v:=.int .i64 f.what) rfl
  ·simpa using h.cell hr (j:=1) (v:=.int .i64 f.num) rfl
  ·simpa using h.cell hr (j:=2) (v:=.string f.v) rfl⟩⟩
open Go.RowKit
structure OwnAt (w wr:World) (bs:List (List Value)):Prop where
 below:Below w.heap.size w wr
 big:w.heap.size+bs.length≤wr.heap.size
 has:∀ i b,bs[i]?=some b→∀ j v,b[j]?=some v→wr.cell? ⟨w.heap.size+i,j,none⟩=some v∧wr.frozen? ⟨w.heap.size+i,j,none⟩=false
theorem OwnAt.call {w wr w':World} {bs:List (List Value)} (h:OwnAt w wr bs) (hb:Below wr.heap.size wr w'):OwnAt w w' bs :=
 ⟨aa h.below hb,Nat.le_trans h.big hb.size,fun i b hi j v hj=>by
  have hlt:w.heap.size+i<wr.heap.size:=by
   have:=(List.getElem?_eq_some_iff.1 hi).1;have:=h.big;omega
  rw [hb.cell (p:=⟨w.heap.size+i,j,none⟩) hlt,hb.frozen (p:=⟨w.heap.size+i,j,none⟩) hlt]
  exact h.has i b hi j v hj⟩
theorem OwnAt.start (w:World):OwnAt w w []:=⟨Below.refl _ _,Nat.le_refl _,fun i b hi=>by simp at hi⟩
theorem OwnAt.push {w wr:World} {bs:List (List Value)} (h:OwnAt w wr bs) (he:wr.heap.size=w.heap.size+bs.length) (C:Array Value) (T:TypeId):OwnAt w (wr.alloc (.cells C T)) (bs++[C.toList]):=by
 refine ⟨h.below.alloc (by omega) _,by simp;omega,fun i b hi j v hj=>?_⟩
 by_cases e:i<bs.length
 ·rw [List.getElem?_append_left e] at hi
  have hh:=h.has i b hi j v hj;have hb:Below wr.heap.size wr (wr.alloc (.cells C T)):=(aO)
  rw [hb.cell (p:=⟨w.heap.size+i,j,none⟩) (show w.heap.size+i<_ by omega),hb.frozen (p:=⟨w.heap.size+i,j,none⟩) (show w.heap.size+i<_ by omega)]
  exact hh
 ·rw [List.getElem?_append_right (by omega)] at hi
  have hi0:i-bs.length=0:=by
   have:=(List.getElem?_eq_some_iff.1 hi).1
   simp at this;omega
  rw [hi0] at hi
  simp at hi;subst hi
  have e1:w.heap.size+i=wr.heap.size:=by omega
  rw [e1,World.cell?_alloc_at (w:=wr) C T wr.heap.size j rfl,World.frozen?_alloc_at (w:=wr) C T wr.heap.size j rfl]
  have hj':j<C.size:=by
   have:=(List.getElem?_eq_some_iff.1 hj).1
   simpa using this
  refine ⟨by simpa using hj,?_⟩
  simp
theorem OwnAt.set {w wr:World} {bs:List (List Value)} (h:OwnAt w wr bs) {i j:Nat} {b:List Value} (hi:bs[i]?=some b) (hj:j<b.length) (x:Value):OwnAt w (wr.setCell ⟨w.heap.size+i,j,none⟩ x) (bs.set i (b.set j x)):=by
 have hil:i<bs.length:=(List.getElem?_eq_some_iff.1 hi).1
 refine ⟨h.below.setCell (p:=⟨w.heap.size+i,j,none⟩) (by simp) _,by simp;have:=h.big;omega,fun i' b' hi' j' v hj'=>?_⟩
 by_cases e:i'=i
 ·subst e
  rw [List.getElem?_set_self hil] at hi'
  cases hi'
  by_cases ej:j'=j
  ·subst ej
   rw [List.getElem?_set_self hj] at hj'
   cases hj'
   have hh:=h.has i' b hi j' (b[j']) (by simp [hj])
   exact ⟨by simp [go_sem,hh.1],by simp [go_sem,hh.2]⟩
  ·rw [List.getElem?_set_ne (Ne.symm ej)] at hj'
   have hh:=h.has i' b hi j' v hj'
   refine ⟨?_,by simpa [go_sem] using hh.2⟩
   exact (World.cell?_setCell_other wr ⟨w.heap.size+i',j,none⟩ ⟨w.heap.size+i',j',none⟩ x (by simp <;> omega)).trans hh.1
 ·rw [List.getElem?_set_ne (Ne.symm e)] at hi'
  have hh:=h.has i' b' hi' j' v hj'
  refine ⟨?_,by simpa [go_sem] using hh.2⟩
  rw [World.cell?_of_block (w:=wr) (Below.heap_setCell wr _ x _ (by simp;omega))]
  exact hh.1
structure HeldL (wr:World) (B n c:Nat) (rows:List (List Value)):Prop where
 big:B<wr.heap.size
 room:wr.there B 0 (n*c)
 wide:∀ r∈rows,r.length=c
 has:∀ i r,rows[i]?=some r→wr.rangeAt B (i*c) r
theorem FilledL.held {w wr:World} {B n c:Nat} {rows:List (List Value)} (h:FilledL w wr B n c rows):HeldL wr B n c rows:=⟨h.big,h.room,h.wide,h.has⟩
theorem HeldL.keep {wr w1:World} {B n c:Nat} {rows:List (List Value)} (h:HeldL wr B n c rows) (hb:Below wr.heap.size wr w1):HeldL w1 B n c rows :=
 ⟨Nat.lt_of_lt_of_le h.big hb.size,bZ h.room hb h.big,h.wide,fun i r hr=>range_keep (h.has i r hr) hb h.big⟩
theorem HeldL.other {wr:World} {B n c:Nat} {rows:List (List Value)} (h:HeldL wr B n c rows) {k o:Nat} (hk:k≠B) (x:Value):HeldL (wr.setCell ⟨k,o,none⟩ x) B n c rows:=by
 have hc:∀ o',(wr.setCell ⟨k,o,none⟩ x).cell? ⟨B,o',none⟩=wr.cell? ⟨B,o',none⟩:=fun o'=>World.cell?_of_block (w:=wr) (Below.heap_setCell wr ⟨k,o,none⟩ x B (Ne.symm hk))
 refine ⟨by simpa using h.big,fun j hj=>?_,h.wide,fun i r hr j v hv=>?_⟩
 ·have:=h.room j hj
  rw [hc,World.frozen?_setCell];exact this
 ·rw [hc];exact h.has i r hr j v hv
theorem HeldL.cell {wr:World} {B n c:Nat} {rows:List (List Value)} (h:HeldL wr B n c rows) {i j:Nat} {r:List Value} {v:Value} (hr:rows[i]?=some r) (hv:r[j]?=some v):wr.cell? ⟨B,i*c+j,none⟩=some v:=h.has i r hr j v hv
theorem HeldL.free {wr:World} {B n c:Nat} {rows:List (List Value)} (h:HeldL wr B n c rows) {k j:Nat} (hk:k<n) (hj:j<c):(∃ v,wr.cell? ⟨B,k*c+j,none⟩=some v)∧wr.frozen? ⟨B,k*c+j,none⟩=false:=by
 have:=h.room (k*c+j) (rows_room hk hj)
 simpa [Option.isSome_iff_exists] using this
theorem Filled.held {w wr:World} {B n:Nat} {l:List Tri} (h:Filled w wr B n l l.length):HeldL wr B n 3 (l.map triRow) :=
 ⟨h.big,h.room,fun r hr=>by obtain ⟨t,_,rfl⟩:=List.mem_map.1 hr;rfl,fun i r hr=>by
  rw [List.getElem?_map] at hr
  cases ht:l[i]? with
  | none=>rw [ht] at hr;cases hr
  | some t =>
   rw [ht] at hr;cases hr
   exact h.has i t (List.getElem?_eq_some_iff.1 ht).1 ht⟩
def TrisOwn (lo:Nat) (w:World) (v:Value) (l:List Tri):Prop:=∃ b,lo≤b∧v=.slice (some ⟨b,0,none⟩) l.length l.length∧HeldL w b l.length 3 (l.map triRow)
theorem HeldL.tris {w:World} {b n:Nat} {l:List Tri} (h:HeldL w b n 3 (l.map triRow)) (hn:n=l.length) (cap:Nat) (hc:n≤cap) (hm:cap≤maxLen):TrisAt w (.slice (some ⟨b,0,none⟩) n cap) l :=
 ⟨_,cap,by rw [hn],by omega,hm,fun i t ht=>⟨b,0,rfl,by
  have hr:(l.map triRow)[i]?=some (triRow t):=by rw [List.getElem?_map,ht];rfl
  refine ⟨?_,?_,?_⟩
  ·simpa using h.cell hr (j:=0) (v:=.string t.s) rfl
  ·simpa using h.cell hr (j:=1) (v:=.int .i64 t.x) rfl
  ·simpa using h.cell hr (j:=2) (v:=.int .i64 t.y) rfl⟩⟩
theorem TrisOwn.at {lo:Nat} {w:World} {v:Value} {l:List Tri} (h:TrisOwn lo w v l) (hm:l.length≤1048576):TrisAt w v l:=by
 obtain ⟨b,_,rfl,hh⟩:=h
 exact hh.tris rfl _ aH (by unfold maxLen;omega)
theorem TrisOwn.keep {lo:Nat} {w w':World} {v:Value} {l:List Tri} (h:TrisOwn lo w v l) (hb:Below w.heap.size w w'):TrisOwn lo w' v l:=by
 obtain ⟨b,hl,hv,hh⟩:=h;exact ⟨b,hl,hv,hh.keep hb⟩
theorem TrisOwn.mono {lo lo':Nat} {w:World} {v:Value} {l:List Tri} (h:TrisOwn lo w v l) (hl:lo'≤lo):TrisOwn lo' w v l:=by
 obtain ⟨b,hb,hv,hh⟩:=h
 exact ⟨b,by omega,hv,hh⟩
theorem TrisOwn.other {lo:Nat} {w:World} {v:Value} {l:List Tri} (h:TrisOwn lo w v l) {k o:Nat} (hk:k<lo) (x:Value):TrisOwn lo (w.setCell ⟨k,o,none⟩ x) v l:=by
 obtain ⟨b,hl,hv,hh⟩:=h
 exact ⟨b,hl,hv,hh.other (by omega) x⟩
open Go.RowKit
attribute [local go_sem] Later.cell Later.frozen
structure Boxed (w wr:World) (vk vp:Value):Prop where
  below:Below w.heap.size w wr
  big:w.heap.size<wr.heap.size
  c0:wr.cell? ⟨w.heap.size,0,none⟩=some vk
  c1:wr.cell? ⟨w.heap.size,1,none⟩=some vp
theorem Boxed.start (w:World) (vk vp:Value) (T:TypeId):Boxed w (w.alloc (.cells #[vk,vp] T)) vk vp :=
  ⟨(aO),by simp,by simp [go_sem],by simp [go_sem]⟩
theorem Boxed.call {w wr w':World} {vk vp:Value} (h:Boxed w wr vk vp) (hb:Below wr.heap.size wr w'):Boxed w w' vk vp :=
  ⟨aa h.below hb,Nat.lt_of_lt_of_le h.big hb.size,ag hb aH h.c0,ag hb aH h.c1⟩
theorem Boxed.drew {w wr:World} {vk vp:Value} (h:Boxed w wr vk vp):Boxed w wr.drew vk vp :=
  ⟨h.below.drew,h.big,by simpa using h.c0,by simpa using h.c1⟩
theorem Boxed.drewN {w wr:World} {vk vp:Value} (h:Boxed w wr vk vp) (n:Nat):Boxed w (wr.drewN n) vk vp :=
  h.call (below_drewN (Below.refl _ _) n)
def kRound (l:List Tri) (k:Nat):Bool:=kindOkB (at' l k)&&ascB l k
def pRound (l:List Tri) (k:Nat):Bool:=(pointOkB (at' l k)&&ascB l k)&&allB k fun i=>!sameB (at' l i) (at' l k)
theorem specBase_any (vk vp : Value) (ks ps : List Tri) (w : World) (hk : TrisAt w vk ks) (hp : TrisAt w vp ps) (nk : Names ks) (np : Names ps) :
    Calls Tryz.prog 47 #[.agg #[vk,vp]] w fun e w'=>e=.returned (.bool (kindsB ks&&pointsB ps))∧Below w.heap.size w w':=by
  have HK:=hk;have HP:=hp;obtain ⟨ak,ck,rfl,lk,mk,ek⟩:=hk;obtain ⟨ap,cp,rfl,lp,mp,ep⟩:=hp;unfold maxLen at mk mp;have HK1:Hid (TrisAt w (.slice ak ks.length ck) ks):=HK;have HP1:Hid (TrisAt w (.slice ap ps.length cp) ps):=HP;have NK:Hid (Names ks):=nk;have NP:Hid (Names ps):=np;have EK:Hid (∀ i t,ks[i]?=some t→∃ b off,ak=some ⟨b,off,none⟩∧TriAt w b (off+i*3) t):=ek;have EP:Hid (∀ i t,ps[i]?=some t→∃ b off,ap=some ⟨b,off,none⟩∧TriAt w b (off+i*3) t):=ep;clear HK HP nk np ek ep
  by_cases h1:(6:Int)<(ks.length:Int)
  · have e : (kindsB ks && pointsB ps) = false := by
      have:¬ ks.length≤6:=by omega
      rw [kindsB_eq];simp [this]
    rw [e];clear e
    go_enter Tryz.func47,Tryz.ntmps47
    go_wp2;go_ret;exact ⟨rfl,(aO)⟩
  by_cases h2:(16:Int)<(ps.length:Int)
  · have e : (kindsB ks && pointsB ps) = false := by
      have:¬ ps.length≤16:=by omega
      rw [pointsB_eq];simp [this]
    rw [e];clear e
    go_enter Tryz.func47,Tryz.ntmps47
    go_wp2;go_ret;exact ⟨rfl,(aO)⟩
  have hbk : kindsB ks = allB ks.length (kRound ks) := by rw [kindsB_eq]; have : ks.length ≤ 6 := by omega
                                                          simp only [this,decide_true,Bool.true_and];rfl
  have HBK:Hid (kindsB ks=allB ks.length (kRound ks)):=hbk
  have hbp : pointsB ps = allB ps.length (pRound ps) := by rw [pointsB_eq]; have : ps.length ≤ 16 := by omega
                                                           simp only [this,decide_true,Bool.true_and];rfl
  have HBP:Hid (pointsB ps=allB ps.length (pRound ps)):=hbp;clear hbk hbp
  go_enter Tryz.func47,Tryz.ntmps47
  go_wp2
  go_loopw [3] (fun i wr=>∃ k:Nat,k≤ks.length∧i=.int .i64 k∧Boxed w wr (.slice ak ks.length ck) (.slice ap ps.length cp)∧Hid (∀ j,j<k→kRound ks j=true)) (fun i _=>ks.length-(intOf i).toNat)
  case atStart=>exact ⟨0,Nat.zero_le _,rfl,Boxed.start _ _ _ _,fun j hj=>absurd hj (Nat.not_lt_zero _)⟩
  case round =>
    obtain ⟨k,hk,rfl,hx,HA⟩:=hrel;have x0:=hx.c0;have x1:=hx.c1;have xz:=hx.big;have HX:Hid (Boxed w wr (.slice ak ks.length ck) (.slice ap ps.length cp)):=hx;clear hx
    by_cases hlt:k<ks.length
    · obtain ⟨b,off,rfl,hc⟩:=EK.out k _ (aX hlt)
      obtain ⟨d0,d1,d2⟩:=hc.keep HX.out.below aH;have hsk:(at' ks k).s.size≤maxLen:=NK.out _ (List.mem_of_getElem? (aX hlt))
      have BAD:Hid (kRound ks k=false→(kindsB ks&&pointsB ps)=false):=fun h=>by rw [HBK.out,ba hlt h];rfl
      have KR:Hid (kRound ks k=(kindOkB (at' ks k)&&ascB ks k)):=rfl
      have hk0:(0:Int)≤(k:Int):=by omega
      have hk1:(k:Int)<(ks.length:Int):=by omega
      have hbl:b<wr.heap.size:=ar d0
      have go1:∀ (v:Bool),Hid (kindOkB (at' ks k)=v)→∀ x:Later wr,Calls Tryz.prog 87 #[.agg #[.string (at' ks k).s,.int .i64 (at' ks k).x,.int .i64 (at' ks k).y]] x.val fun e w''=>e=.returned (.bool v)∧∃ y:Later wr,w''=y.val :=
        fun v hv x=>Calls.later (hv.out ▸ l1KindOk_any (at' ks k) x.val hsk)
      have GO:Hid (∀ (v:Bool),Hid (kindOkB (at' ks k)=v)→∀ x:Later wr,Calls Tryz.prog 87 #[.agg #[.string (at' ks k).s,.int .i64 (at' ks k).x,.int .i64 (at' ks k).y]] x.val fun e w''=>e=.returned (.bool v)∧∃ y:Later wr,w''=y.val):=go1;clear go1;have hne:=Later.some wr
      cases ho:kindOkB (at' ks k)
      · have HO:Hid (kindOkB (at' ks k)=false):=ho
        clear ho;go_wp2
        refine aq (by kernel_rfl) (by kernel_rfl) ?_
        repeat (go_big_quiet_step (exact GO.out _ HO _))
        refine wpQuiet_nil ?_;rintro _ ⟨x,rfl⟩;go_wp2;go_ret
        exact ⟨aw (BAD.out (by rw [KR.out,HO.out];rfl)).symm,aa HX.out.below x.below⟩
      · have HO:Hid (kindOkB (at' ks k)=true):=ho
        clear ho
        by_cases hkz:(0:Int)<(k:Int)
        · have hg:0<k:=by omega
          obtain ⟨b',off',hbo,hcm'⟩:=EK.out (k-1) _ (aX (by omega))
          cases hbo
          obtain ⟨m0,-,-⟩:=hcm'.keep HX.out.below aH
          have AS:Hid (ascB ks k=!geB (at' ks (k-1)).s (at' ks k).s):=by
            show ascB ks k=_
            obtain ⟨m,rfl⟩:∃ m,k=m+1:=⟨k-1,by omega⟩
            exact asc_succ ks m
          clear hcm' hc
          have hi0:(0:Int)≤(k:Int)-1:=by omega
          have hi1:(k:Int)-1<(ks.length:Int):=by omega
          go_wp2
          refine aq (by kernel_rfl) (by kernel_rfl) ?_
          repeat (go_big_quiet_step (exact GO.out _ HO _))
          refine wpQuiet_nil ?_;rintro _ ⟨x,rfl⟩;go_wp2
          · rename_i h
            go_ret
            exact ⟨aw (BAD.out (by rw [KR.out,HO.out,AS.out];unfold geB;rw [h];rfl)).symm,aa HX.out.below x.below⟩
          · rename_i h
            exact ⟨⟨k+1,by omega,by go_num,HX.out.call x.below,fun j hj=>if e:j=k then by rw [e,KR.out,HO.out,AS.out];unfold geB;rw [h];rfl else HA.out j (by omega)⟩,by simp [intOf];omega⟩
        · have hg:decide (0<k)=false:=by simp;omega
          go_wp2
          refine aq (by kernel_rfl) (by kernel_rfl) ?_
          repeat (go_big_quiet_step (exact GO.out _ HO _))
          refine wpQuiet_nil ?_;rintro _ ⟨x,rfl⟩;go_wp2
          exact ⟨⟨k+1,by omega,by go_num,HX.out.call x.below,fun j hj=>by
            obtain rfl:j=k:=by omega
            rw [KR.out,HO.out];obtain rfl:j=0:=by omega
            rw [asc_zero];rfl⟩,by simp [intOf];omega⟩
    · have HKT:Hid (kindsB ks=true):=HBK.out.trans (aY fun j hj=>HA.out j (by omega))
      go_wp2;clear HA EK NK HBK
      go_loopw [4,5] (fun i _ wr=>∃ k:Nat,k≤ps.length∧i=.int .i64 k∧Boxed w wr (.slice ak ks.length ck) (.slice ap ps.length cp)∧Hid (∀ j,j<k→pRound ps j=true)) (fun i _ _=>ps.length-(intOf i).toNat)
      case atStart=>exact ⟨0,Nat.zero_le _,rfl,HX.out,fun j hj=>absurd hj (Nat.not_lt_zero _)⟩
      case round =>
        clear HX x0 x1 xz hlt hk;obtain ⟨k,hk,rfl,hx,HA⟩:=hrel;have x0:=hx.c0;have x1:=hx.c1;have xz:=hx.big;have HX:Hid (Boxed w wr (.slice ak ks.length ck) (.slice ap ps.length cp)):=hx;clear hx
        by_cases hlt:k<ps.length
        · obtain ⟨b,off,rfl,hc⟩:=EP.out k _ (aX hlt)
          obtain ⟨d0,d1,d2⟩:=hc.keep HX.out.below aH;have hsk:(at' ps k).s.size≤maxLen:=NP.out _ (List.mem_of_getElem? (aX hlt))
          have BAD:Hid (pRound ps k=false→(kindsB ks&&pointsB ps)=false):=fun h=>by rw [HKT.out,HBP.out,ba hlt h];rfl
          have PR:Hid (pRound ps k=((pointOkB (at' ps k)&&ascB ps k)&&allB k fun i=>!sameB (at' ps i) (at' ps k))):=rfl
          have hk0:(0:Int)≤(k:Int):=by omega
          have hk1:(k:Int)<(ps.length:Int):=by omega
          have hbl:b<wr.heap.size:=ar d0
          have GO:Hid (∀ (v:Bool),Hid (pointOkB (at' ps k)=v)→∀ x:Later wr,Calls Tryz.prog 88 #[.agg #[.string (at' ps k).s,.int .i64 (at' ps k).x,.int .i64 (at' ps k).y]] x.val fun e w''=>e=.returned (.bool v)∧∃ y:Later wr,w''=y.val) :=
            fun v hv x=>Calls.later (hv.out ▸ l1PointOk_any (at' ps k) x.val hsk)
          have hne:=Later.some wr;have HCK:Hid (TriAt w b (off+k*3) (at' ps k)):=hc
          cases ho:pointOkB (at' ps k)
          · have HO:Hid (pointOkB (at' ps k)=false):=ho
            clear ho;go_wp2
            refine aq (by kernel_rfl) (by kernel_rfl) ?_
            repeat (go_big_quiet_step (exact GO.out _ HO _))
            refine wpQuiet_nil ?_;rintro _ ⟨x,rfl⟩;go_wp2;go_ret
            exact ⟨aw (BAD.out (by rw [PR.out,HO.out];rfl)).symm,aa HX.out.below x.below⟩
          · have HO:Hid (pointOkB (at' ps k)=true):=ho
            clear ho
            by_cases hkz:(0:Int)<(k:Int)
            · have hg:0<k:=by omega
              obtain ⟨b',off',hbo,hcm'⟩:=EP.out (k-1) _ (aX (by omega))
              cases hbo
              obtain ⟨m0,-,-⟩:=hcm'.keep HX.out.below aH
              have AS:Hid (ascB ps k=!geB (at' ps (k-1)).s (at' ps k).s):=by
                show ascB ps k=_
                obtain ⟨m,rfl⟩:∃ m,k=m+1:=⟨k-1,by omega⟩
                exact asc_succ ps m
              clear hcm' hc
              have hi0:(0:Int)≤(k:Int)-1:=by omega
              have hi1:(k:Int)-1<(ps.length:Int):=by omega
              go_wp2
              refine aq (by kernel_rfl) (by kernel_rfl) ?_
              repeat (go_big_quiet_step (exact GO.out _ HO _))
              refine wpQuiet_nil ?_;rintro _ ⟨x,rfl⟩;go_wp2
              · rename_i h
                go_ret
                exact ⟨aw (BAD.out (by rw [PR.out,HO.out,AS.out];unfold geB;rw [h];rfl)).symm,aa HX.out.below x.below⟩
              · rename_i h
                have HAS:Hid (ascB ps k=true):=by
                  show ascB ps k=true
                  rw [AS.out];unfold geB;rw [h];rfl
                clear m0;have hy0:Boxed w x.val (.slice ak ks.length ck) (.slice (some ⟨b,off,none⟩) ps.length cp):=HX.out.call x.below;have HY0:Hid (Boxed w x.val (.slice ak ks.length ck) (.slice (some ⟨b,off,none⟩) ps.length cp)):=hy0;clear hy0 GO HX x0 x1 xz d0 d1 d2 hbl hne
                go_loopw [5] (fun i wr=>∃ j:Nat,j≤k∧i=.int .i64 j∧Boxed w wr (.slice ak ks.length ck) (.slice (some ⟨b,off,none⟩) ps.length cp)∧Hid (∀ q,q<j→(!sameB (at' ps q) (at' ps k))=true)) (fun i _=>k-(intOf i).toNat)
                case atStart=>exact ⟨0,Nat.zero_le _,rfl,HY0.out,fun j hj=>absurd hj (Nat.not_lt_zero _)⟩
                case round =>
                  clear HY0;obtain ⟨j,hj,rfl,hy,HB⟩:=hrel;have y0:=hy.c0;have y1:=hy.c1;have yz:=hy.big;have HY:Hid (Boxed w wr (.slice ak ks.length ck) (.slice (some ⟨b,off,none⟩) ps.length cp)):=hy;clear hy
                  by_cases hjk:j<k
                  · obtain ⟨b',off',hbo,hcj⟩:=EP.out j _ (aX (by omega))
                    cases hbo
                    obtain ⟨-,e1,e2⟩:=hcj.keep HY.out.below aH;obtain ⟨-,f1,f2⟩:=HCK.out.keep HY.out.below aH
                    have hj0:(0:Int)≤(j:Int):=by omega
                    have hj1:(j:Int)<(ps.length:Int):=by omega
                    have SM:Hid (sameB (at' ps j) (at' ps k)=(decide ((at' ps j).x=(at' ps k).x)&&decide ((at' ps j).y=(at' ps k).y))):=rfl
                    have BADI:Hid ((!sameB (at' ps j) (at' ps k))=false→(kindsB ks&&pointsB ps)=false):=fun h=>BAD.out (by rw [PR.out,ba hjk h,Bool.and_false])
                    clear hcj
                    by_cases hxx:(at' ps j).x=(at' ps k).x
                    · have hxb:((at' ps j).x==(at' ps k).x)=true:=by simp [hxx]
                      have HXX:Hid ((at' ps j).x=(at' ps k).x):=hxx;clear hxx
                      by_cases hyy:(at' ps j).y=(at' ps k).y
                      · have hyb:((at' ps j).y==(at' ps k).y)=true:=by simp [hyy]
                        have HYY:Hid ((at' ps j).y=(at' ps k).y):=hyy;clear hyy;go_wp2
                        refine wp_region_quiet_lit (by kernel_rfl) (by kernel_rfl) ?_
                        repeat (go_big_quiet_step (fail))
                        refine wpQuiet_nil ?_;rintro _ ⟨nq,rfl⟩;go_wp2;go_ret
                        exact ⟨aw (BADI.out (by rw [SM.out,HXX.out,HYY.out];simp)).symm,below_drewN HY.out.below _⟩
                      · have hyb:((at' ps j).y==(at' ps k).y)=false:=by simp [hyy]
                        have HYY:Hid (¬ (at' ps j).y=(at' ps k).y):=hyy;clear hyy;go_wp2
                        refine wp_region_quiet_lit (by kernel_rfl) (by kernel_rfl) ?_
                        repeat (go_big_quiet_step (fail))
                        refine wpQuiet_nil ?_;rintro _ ⟨nq,rfl⟩;go_wp2
                        exact ⟨⟨j+1,by omega,by go_num,HY.out.drewN _,fun q hq=>if e:q=j then by rw [e,SM.out];simp [HYY.out] else HB.out q (by omega)⟩,by simp [intOf];omega⟩
                    · have hxb:((at' ps j).x==(at' ps k).x)=false:=by simp [hxx]
                      have HXX:Hid (¬ (at' ps j).x=(at' ps k).x):=hxx;clear hxx;go_wp2
                      refine wp_region_quiet_lit (by kernel_rfl) (by kernel_rfl) ?_
                      repeat (go_big_quiet_step (fail))
                      refine wpQuiet_nil ?_;rintro _ ⟨nq,rfl⟩;go_wp2
                      exact ⟨⟨j+1,by omega,by go_num,HY.out.drewN _,fun q hq=>if e:q=j then by rw [e,SM.out];simp [HXX.out] else HB.out q (by omega)⟩,by simp [intOf];omega⟩
                  · have HPT : Hid (pRound ps k = true) := by
                      show pRound ps k=true
                      rw [PR.out,HO.out,HAS.out,aY fun q hq=>HB.out q (by omega)];rfl
                    go_wp2
                    exact ⟨⟨k+1,by omega,by go_num,HY.out,fun q hq=>if e:q=k then by rw [e];exact HPT.out else HA.out q (by omega)⟩,by simp [intOf];omega⟩
            · have hg:decide (0<k)=false:=by simp;omega
              go_wp2
              refine aq (by kernel_rfl) (by kernel_rfl) ?_
              repeat (go_big_quiet_step (exact GO.out _ HO _))
              refine wpQuiet_nil ?_;rintro _ ⟨x,rfl⟩;go_wp2
              have HAS:Hid (ascB ps k=true):=by
                show ascB ps k=true
                obtain rfl:k=0:=by omega
                exact asc_zero ps
              have hy0:Boxed w x.val (.slice ak ks.length ck) (.slice (some ⟨b,off,none⟩) ps.length cp):=HX.out.call x.below;have HY0:Hid (Boxed w x.val (.slice ak ks.length ck) (.slice (some ⟨b,off,none⟩) ps.length cp)):=hy0;clear hy0 GO HX x0 x1 xz d0 d1 d2 hbl hne
              go_loopw [5] (fun i wr=>∃ j:Nat,j≤k∧i=.int .i64 j∧Boxed w wr (.slice ak ks.length ck) (.slice (some ⟨b,off,none⟩) ps.length cp)∧Hid (∀ q,q<j→(!sameB (at' ps q) (at' ps k))=true)) (fun i _=>k-(intOf i).toNat)
              case atStart=>exact ⟨0,Nat.zero_le _,rfl,HY0.out,fun j hj=>absurd hj (Nat.not_lt_zero _)⟩
              case round =>
                clear HY0;obtain ⟨j,hj,rfl,hy,HB⟩:=hrel;have y0:=hy.c0;have y1:=hy.c1;have yz:=hy.big;have HY:Hid (Boxed w wr (.slice ak ks.length ck) (.slice (some ⟨b,off,none⟩) ps.length cp)):=hy;clear hy
                by_cases hjk:j<k
                · exact absurd hjk (by omega)
                · have HPT : Hid (pRound ps k = true) := by
                    show pRound ps k=true
                    rw [PR.out,HO.out,HAS.out,aY fun q hq=>HB.out q (by omega)];rfl
                  go_wp2
                  exact ⟨⟨k+1,by omega,by go_num,HY.out,fun q hq=>if e:q=k then by rw [e];exact HPT.out else HA.out q (by omega)⟩,by simp [intOf];omega⟩
        · go_wp2
          go_ret
          exact ⟨aw (by rw [HKT.out,HBP.out,aY fun j hj=>HA.out j (by omega)];rfl),HX.out.below⟩
end Go.Proofs.YtcmgddnckohdaaaGreatDoor
namespace Go.Proofs.YtcmgddnckohdaaaGreatDoor
open Go.RowKit
attribute [local go_sem] Later.cell Later.frozen
def atI (l:List Tri) (v:ByteArray):Int:=if memB l v=true then ((l.findIdx fun t=>decide (t.s=v):Nat):Int) else -1
theorem atI_some {l:List Tri} {v:ByteArray} {k:Nat} (hk:k<l.length) (h:(at' l k).s=v) (hn:∀ j,j<k→¬ (at' l j).s=v):atI l v=k:=by
 unfold atI;rw [if_pos (memB_true hk h)]
 have e:∀ j (hj:j<l.length),at' l j=l[j]:=fun j hj=>by simp [at',hj]
 have:(l.findIdx fun t=>decide (t.s=v))=k:=by
  rw [List.findIdx_eq hk]
  refine ⟨by rw [← e k hk];simpa using h,fun j hj=>by rw [← e j (by omega)];simpa using hn j hj⟩
 rw [this]
theorem atI_none {l:List Tri} {v:ByteArray} (h:∀ j,j<l.length→¬ (at' l j).s=v):atI l v=-1:=by
 unfold atI;rw [if_neg];rw [memB_false h];simp
theorem atI_has (l:List Tri) (v:ByteArray):decide (0≤atI l v)=memB l v:=by
 unfold atI;cases memB l v <;> simp
theorem atI_no (l:List Tri) (v:ByteArray):decide (atI l v<0)=!memB l v:=by
 unfold atI;cases memB l v <;> simp
theorem l1Kind_any (vk vp:Value) (l:List Tri) (s:ByteArray) (w:World) (hv:TrisAt w vk l) :
  Calls Tryz.prog 121 #[.agg #[vk,vp],.string s] w fun e w'=>e=.returned (.int .i64 (atI l s))∧Below w.heap.size w w':=by
 obtain ⟨a,cap,rfl,hlc,hcm,hc⟩:=hv;unfold maxLen at hcm;have HC:Hid (∀ i t,l[i]?=some t→∃ b off,a=some ⟨b,off,none⟩∧TriAt w b (off+i*3) t):=hc;clear hc
 go_enter Tryz.func121,Tryz.ntmps121
 go_wp2
 go_loopw [5] (fun i wr=>∃ k:Nat,k≤l.length∧i=.int .i64 k∧Boxed w wr (.slice a l.length cap) vp∧Hid (∀ j,j<k→¬ (at' l j).s=s)) (fun i _=>l.length-(intOf i).toNat)
 case atStart=>exact ⟨0,Nat.zero_le _,rfl,Boxed.start _ _ _ _,fun j hj=>absurd hj (Nat.not_lt_zero _)⟩
 case round =>
  obtain ⟨k,hk,rfl,hx,HA⟩:=hrel;have x0:=hx.c0;have x1:=hx.c1;have HX:Hid (Boxed w wr (.slice a l.length cap) vp):=hx;clear hx
  by_cases hlt:k<l.length
  ·obtain ⟨b,off,rfl,hc⟩:=HC.out k _ (aX hlt)
   obtain ⟨d0,d1,d2⟩:=hc.keep HX.out.below aH
   have hk0:(0:Int)≤(k:Int):=by omega
   have hk1:(k:Int)<(l.length:Int):=by omega
   by_cases hx:(at' l k).s=s
   ·have h1:((at' l k).s.toList==s.toList)=true:=str_eq hx
    have HH:Hid ((at' l k).s=s):=hx;clear hx;go_wp2;go_ret;exact ⟨ret_int (atI_some hlt HH.out HA.out).symm,HX.out.below⟩
   ·have h1:((at' l k).s.toList==s.toList)=false:=cF hx
    have HH:Hid (¬ (at' l k).s=s):=hx;clear hx;go_wp2
    exact ⟨⟨k+1,by omega,by go_num,HX.out,fun j hj=>if e:j=k then by rw [e];exact HH.out else HA.out j (by omega)⟩,by simp [intOf];omega⟩
  ·go_wp2
   go_ret
   exact ⟨ret_int (atI_none fun j hj=>HA.out j (by omega)).symm,HX.out.below⟩
theorem l1Point_any (vk vp:Value) (l:List Tri) (s:ByteArray) (w:World) (hv:TrisAt w vp l) :
  Calls Tryz.prog 122 #[.agg #[vk,vp],.string s] w fun e w'=>e=.returned (.int .i64 (atI l s))∧Below w.heap.size w w':=by
 obtain ⟨a,cap,rfl,hlc,hcm,hc⟩:=hv;unfold maxLen at hcm;have HC:Hid (∀ i t,l[i]?=some t→∃ b off,a=some ⟨b,off,none⟩∧TriAt w b (off+i*3) t):=hc;clear hc
 go_enter Tryz.func122,Tryz.ntmps122
 go_wp2
 go_loopw [5] (fun i wr=>∃ k:Nat,k≤l.length∧i=.int .i64 k∧Boxed w wr vk (.slice a l.length cap)∧Hid (∀ j,j<k→¬ (at' l j).s=s)) (fun i _=>l.length-(intOf i).toNat)
 case atStart=>exact ⟨0,Nat.zero_le _,rfl,Boxed.start _ _ _ _,fun j hj=>absurd hj (Nat.not_lt_zero _)⟩
 case round =>
  obtain ⟨k,hk,rfl,hx,HA⟩:=hrel;have x0:=hx.c0;have x1:=hx.c1;have HX:Hid (Boxed w wr vk (.slice a l.length cap)):=hx;clear hx
  by_cases hlt:k<l.length
  ·obtain ⟨b,off,rfl,hc⟩:=HC.out k _ (aX hlt)
   obtain ⟨d0,d1,d2⟩:=hc.keep HX.out.below aH
   have hk0:(0:Int)≤(k:Int):=by omega
   have hk1:(k:Int)<(l.length:Int):=by omega
   by_cases hx:(at' l k).s=s
   ·have h1:((at' l k).s.toList==s.toList)=true:=str_eq hx
    have HH:Hid ((at' l k).s=s):=hx;clear hx;go_wp2;go_ret;exact ⟨ret_int (atI_some hlt HH.out HA.out).symm,HX.out.below⟩
   ·have h1:((at' l k).s.toList==s.toList)=false:=cF hx
    have HH:Hid (¬ (at' l k).s=s):=hx;clear hx;go_wp2
    exact ⟨⟨k+1,by omega,by go_num,HX.out,fun j hj=>if e:j=k then by rw [e];exact HH.out else HA.out j (by omega)⟩,by simp [intOf];omega⟩
  ·go_wp2
   go_ret
   exact ⟨ret_int (atI_none fun j hj=>HA.out j (by omega)).symm,HX.out.below⟩
def numI (x:ByteArray):Int:=bif decB x then (numV x:Int) else -1
theorem numI_yes {x:ByteArray} (h:decB x=true):numI x=numV x:=by unfold numI;rw [h];rfl
theorem numI_no {x:ByteArray} (h:decB x=false):numI x=-1:=by unfold numI;rw [h];rfl
theorem time_num (x0 x1:ByteArray):(decB x0&&(decB x1&&(decide (numV x0≤numV x1)&&decide (numV x1≤10000))))=(decide (0≤numI x0)&&inB (numI x1) (numI x0) 10000):=by
 cases h0:decB x0
 ·rw [numI_no h0];rfl
 ·rw [numI_yes h0]
  cases h1:decB x1
  ·rw [numI_no h1];simp [inB];omega
  ·rw [numI_yes h1,Bool.eq_iff_iff];simp [inB];omega
theorem l2TimeOk_any (v:Value) (ws:List ByteArray) (w:World) (hv:StrsAt w v ws) (hz:∀ x∈ws,x.size≤1048576) :
  Calls Tryz.prog 166 #[v] w fun e w'=>e=.returned (.bool (timeB ws))∧Below w.heap.size w w':=by
 obtain ⟨g,off,cap,rfl,hlc,hcm,hc⟩:=hv;unfold maxLen at hcm
 by_cases h2:ws.length=2
 ·have h2':(((ws.length:Nat):Int)==2)=true:=by simp [h2]
  have h2i:(1:Int)<((ws.length:Nat):Int):=by omega
  have h2j:1<ws.length:=by omega
  have h2k:0<ws.length:=by omega
  have c0:w.cell? ⟨g,off,none⟩=some (.string (wat ws 0)):=by simpa using hc 0 _ (cm h2k)
  have c1:w.cell? ⟨g,off+1,none⟩=some (.string (wat ws 1)):=hc 1 _ (cm h2j);have hg:g<w.heap.size:=ar c0;have Z0:Hid ((wat ws 0).size≤1048576):=hz _ (List.mem_of_getElem? (cm h2k));have Z1:Hid ((wat ws 1).size≤1048576):=hz _ (List.mem_of_getElem? (cm h2j))
  have HE:Hid (timeB ws=(decB (wat ws 0)&&(decB (wat ws 1)&&(decide (numV (wat ws 0)≤numV (wat ws 1))&&decide (numV (wat ws 1)≤10000))))):=by show timeB ws=_;unfold timeB;simp [h2]
  clear hz hc h2;generalize wat ws 0=x0 at *;generalize wat ws 1=x1 at *;have hne:=Later.some w
  have GN:Hid (∀ (x:ByteArray),x.size≤1048576→∀ y:Later w,Calls Tryz.prog 120 #[.string x] y.val fun e w''=>e=.returned (.int .i64 (numI x))∧∃ z:Later w,w''=z.val) :=
   fun x hx y=>Calls.later_same (l2Number_any x y.val (by unfold maxLen;omega))
  have GI:Hid (∀ (a b c:Int) (y:Later w),Calls Tryz.prog 84 #[.int .i64 a,.int .i64 b,.int .i64 c] y.val fun e w''=>e=.returned (.bool (inB a b c))∧∃ z:Later w,w''=z.val) :=
   fun a b c y=>Calls.later_same (bm a b c y.val)
  have HE2:Hid (timeB ws=(decide (0≤numI x0)&&inB (numI x1) (numI x0) 10000)):=by
   show timeB ws=_
   rw [HE.out];exact time_num x0 x1
  clear HE
  by_cases hq:0≤numI x0
  ·have hq':decide (0≤numI x0)=true:=decide_eq_true hq
   have HE:Hid (timeB ws=inB (numI x1) (numI x0) 10000):=by show timeB ws=_;rw [HE2.out,hq'];rfl
   have z0:=Z0.out;have z1:=Z1.out;clear HE2 Z0 Z1
   go_enter Tryz.func166,Tryz.ntmps166
   go_wp2
   refine aq (by kernel_rfl) (by kernel_rfl) ?_
   repeat (go_big_quiet_step (first | (go_at_call 120;exact GN.out _ (by assumption) _) | (go_at_call 84;exact GI.out _ _ _ _)))
   refine wpQuiet_nil ?_;rintro _ ⟨x,rfl⟩;go_wp2;go_ret;exact ⟨aw HE.out.symm,x.below⟩
  ·have hq':decide (0≤numI x0)=false:=decide_eq_false hq
   have HE:Hid (timeB ws=false):=by show timeB ws=_;rw [HE2.out,hq'];rfl
   have z0:=Z0.out;clear HE2 Z0 Z1 hq
   go_enter Tryz.func166,Tryz.ntmps166
   go_wp2
   refine aq (by kernel_rfl) (by kernel_rfl) ?_
   repeat (go_big_quiet_step (first | (go_at_call 120;exact GN.out _ (by assumption) _)))
   refine wpQuiet_nil ?_;rintro _ ⟨x,rfl⟩;go_wp2;go_ret;exact ⟨aw HE.out.symm,x.below⟩
 ·have h2':(((ws.length:Nat):Int)==2)=false:=by simp;omega
  have e:timeB ws=false:=by unfold timeB;simp [h2]
  have hne:=Later.some w;rw [e];clear e hc hz
  go_enter Tryz.func166,Tryz.ntmps166
  go_wp2
  refine aq (by kernel_rfl) (by kernel_rfl) ?_
  repeat (go_big_quiet_step (fail))
  refine wpQuiet_nil ?_;rintro _ ⟨x,rfl⟩;go_wp2;go_ret;exact ⟨rfl,x.below⟩
end Go.Proofs.YtcmgddnckohdaaaGreatDoor
namespace Go.Proofs.YtcmgddnckohdaaaGreatDoor
open Go.RowKit
attribute [local go_sem] Later.cell Later.frozen
theorem StrsAt.cellS {w:World} {g off n cap:Nat} {ws:List ByteArray} (h:StrsAt w (.slice (some ⟨g,off,none⟩) n cap) ws) (i:Nat) (hi:i<ws.length):w.cell? ⟨g,off+i,none⟩=some (.string (wat ws i)):=by
 obtain ⟨g',off',cap',e,_,_,hc⟩:=h
 cases e
 exact hc i _ (cm hi)
theorem routeB_noS {ps:List Tri} {ws:List ByteArray} (h:inB ws.length 2 8=false):routeB ps ws=false:=by unfold routeB;rw [h];rfl
theorem routeB_yesS {ps:List Tri} {ws:List ByteArray} (h:inB ws.length 2 8=true):routeB ps ws=allB ws.length (stepB ps ws):=by unfold routeB;rw [h];rfl
theorem l2RouteOk_any (vk vp v:Value) (ps:List Tri) (ws:List ByteArray) (w:World) (hp:TrisAt w vp ps) (hv:StrsAt w v ws) (hmem:∀ x,memB ps x=hasB ps x) :
  Calls Tryz.prog 167 #[.agg #[vk,vp],v] w fun e w'=>e=.returned (.bool (routeB ps ws))∧Below w.heap.size w w':=by
 have HST:Hid (StrsAt w v ws):=hv;have HP:Hid (TrisAt w vp ps):=hp;have HMEM:Hid (∀ x,memB ps x=hasB ps x):=hmem;obtain ⟨g,off,cap,rfl,hlc,hcm,-⟩:=hv;clear hp hmem;unfold maxLen at hcm
 cases hin:inB ws.length 2 8
 ·have HI:Hid (inB ws.length 2 8=false):=hin
  have e:routeB ps ws=false:=routeB_noS hin;rw [e];clear e hin
  go_enter Tryz.func167,Tryz.ntmps167
  go_wp2_with fail;refine (bm _ _ _ _).mono ?_;rw [HI.out];rintro e w1 ⟨rfl,rfl⟩;go_wp2;go_ret;exact ⟨rfl,(aO)⟩
 have HI:Hid (inB ws.length 2 8=true):=hin;have e:routeB ps ws=allB ws.length (stepB ps ws):=routeB_yesS hin
 have h8:ws.length≤8:=by simp [inB] at hin;omega
 rw [e];clear e hin
 go_enter Tryz.func167,Tryz.ntmps167
 go_wp2_with fail;refine (bm _ _ _ _).mono ?_;rw [HI.out];rintro e w1 ⟨rfl,rfl⟩;go_wp2
 go_loopw [5] (fun i wr=>∃ k:Nat,k≤ws.length∧i=.int .i64 k∧Boxed w wr vk vp∧Hid (∀ j,j<k→stepB ps ws j=true)) (fun i _=>ws.length-(intOf i).toNat)
 case atStart=>exact ⟨0,Nat.zero_le _,rfl,Boxed.start _ _ _ _,fun j hj=>absurd hj (Nat.not_lt_zero _)⟩
 case round =>
  obtain ⟨k,hk,rfl,hx,HA⟩:=hrel;have x0:=hx.c0;have x1:=hx.c1;have xz:=hx.big;have HX:Hid (Boxed w wr vk vp):=hx;clear hx
  by_cases hlt:k<ws.length
  ·have c0:wr.cell? ⟨g,off+k,none⟩=some (.string (wat ws k)):=(HST.out.keep HX.out.below).cellS k hlt
   have hgl:g<wr.heap.size:=ar c0
   have hk0:(0:Int)≤(k:Int):=by omega
   have hk1:(k:Int)<(ws.length:Int):=by omega
   have hne:=Later.some wr
   have GP:Hid (∀ (x:ByteArray) (y:Later wr),Calls Tryz.prog 122 #[.agg #[vk,vp],.string x] y.val fun e w''=>e=.returned (.int .i64 (atI ps x))∧∃ z:Later wr,w''=z.val) :=
    fun x y=>Calls.later (l1Point_any vk vp ps x y.val ((HP.out.keep HX.out.below).keep y.below))
   cases hh:hasB ps (wat ws k)
   ·have hq:decide (atI ps (wat ws k)<0)=true:=by rw [atI_no,HMEM.out,hh];rfl
    have HH:Hid (stepB ps ws k=false):=by show stepB ps ws k=false;unfold stepB;rw [hh];rfl
    clear hh;go_wp2
    refine aq (by kernel_rfl) (by kernel_rfl) ?_
    repeat (go_big_quiet_step (first | (go_at_call 122;exact GP.out _ _)))
    refine wpQuiet_nil ?_;rintro _ ⟨x,rfl⟩;go_wp2;go_ret;exact ⟨aw (ba hlt HH.out).symm,aa HX.out.below x.below⟩
   ·have hq:decide (atI ps (wat ws k)<0)=false:=by rw [atI_no,HMEM.out,hh];rfl
    have HH:Hid (hasB ps (wat ws k)=true):=hh;clear hh
    by_cases hz:0<k
    ·have hz':decide (0<k)=true:=by simp [hz]
     have c1:wr.cell? ⟨g,off+(k-1),none⟩=some (.string (wat ws (k-1))):=(HST.out.keep HX.out.below).cellS (k-1) (by omega)
     have hi0:(0:Int)≤(k:Int)-1:=by omega
     have hi1:(k:Int)-1<(ws.length:Int):=by omega
     by_cases hx:wat ws (k-1)=wat ws k
     ·have he:((wat ws (k-1)).toList==(wat ws k).toList)=true:=str_eq hx
      have HF:Hid (stepB ps ws k=false):=by show stepB ps ws k=false;unfold stepB;simp [hx,hz]
      clear hx;go_wp2
      refine aq (by kernel_rfl) (by kernel_rfl) ?_
      repeat (go_big_quiet_step (first | (go_at_call 122;exact GP.out _ _)))
      refine wpQuiet_nil ?_;rintro _ ⟨x,rfl⟩;go_wp2;go_ret;exact ⟨aw (ba hlt HF.out).symm,aa HX.out.below x.below⟩
     ·have he:((wat ws (k-1)).toList==(wat ws k).toList)=false:=cF hx
      have HF:Hid (stepB ps ws k=true):=by show stepB ps ws k=true;unfold stepB;rw [HH.out];simp [hx]
      clear hx;go_wp2
      refine aq (by kernel_rfl) (by kernel_rfl) ?_
      repeat (go_big_quiet_step (first | (go_at_call 122;exact GP.out _ _)))
      refine wpQuiet_nil ?_;rintro _ ⟨x,rfl⟩;go_wp2
      exact ⟨⟨k+1,by omega,by go_num,HX.out.call x.below,fun j hj=>if e:j=k then by rw [e];exact HF.out else HA.out j (by omega)⟩,by simp [intOf];omega⟩
    ·have hz':decide (0<k)=false:=by simp;omega
     have HF:Hid (stepB ps ws k=true):=by show stepB ps ws k=true;unfold stepB;rw [HH.out];simp [hz]
     go_wp2
     refine aq (by kernel_rfl) (by kernel_rfl) ?_
     repeat (go_big_quiet_step (first | (go_at_call 122;exact GP.out _ _)))
     refine wpQuiet_nil ?_;rintro _ ⟨x,rfl⟩;go_wp2
     exact ⟨⟨k+1,by omega,by go_num,HX.out.call x.below,fun j hj=>if e:j=k then by rw [e];exact HF.out else HA.out j (by omega)⟩,by simp [intOf];omega⟩
  ·go_wp2
   go_ret
   exact ⟨aw (aY fun j hj=>HA.out j (by omega)).symm,HX.out.below⟩
theorem open_listS:openS.toList=[111,112,101,110]:=by rw [ByteArray.toList_eq];rfl
theorem closed_listS:closedS.toList=[99,108,111,115,101,100]:=by rw [ByteArray.toList_eq];rfl
theorem level_num (s:ByteArray):inB (numI s) 1 6=levelB s:=by
 unfold levelB
 cases h:decB s
 ·rw [numI_no h];rfl
 ·rw [numI_yes h];rfl
theorem specFits_any (vk vp:Value) (ks ps:List Tri) (what:Int) (s:ByteArray) (w:World) (hk:TrisAt w vk ks) (hp:TrisAt w vp ps) (nk:Names ks) (np:Names ps) (hs:s.size≤1048576) :
  Calls Tryz.prog 138 #[.agg #[vk,vp],.int .i64 what,.string s] w fun e w'=>e=.returned (.bool (baseB ks ps&&valB2 ks ps what s))∧Below w.heap.size w w':=by
 have HK:=hk;have HP:=hp;obtain ⟨ak,ck,rfl,-,-,-⟩:=hk;obtain ⟨ap,cp,rfl,-,-,-⟩:=hp;have HK1:Hid (TrisAt w (.slice ak ks.length ck) ks):=HK;have HP1:Hid (TrisAt w (.slice ap ps.length cp) ps):=HP;have HB:Hid (∀ wx:World,Below w.heap.size w wx→Calls Tryz.prog 47 #[.agg #[.slice ak ks.length ck,.slice ap ps.length cp]] wx fun e w'=>e=.returned (.bool (baseB ks ps))∧Below wx.heap.size wx w'):=fun wx hx=>specBase_any _ _ ks ps wx (HK.keep hx) (HP.keep hx) nk np
 have HCUT:Hid (∀ wx:World,Calls Tryz.prog 54 #[.string s,.int .u8 32] wx fun e w'=>∃ v,e=.returned v∧StrsAt w' v (cutW s)∧Below wx.heap.size wx w') :=
  fun wx=>(l2Cut_any s wx hs).mono fun e w' ⟨v,ws,he,hst,hm,hb⟩=>⟨v,he,cutW_eq hm ▸ hst,hb⟩
 have HSZ:Hid (∀ x∈cutW s,x.size≤1048576):=fun x hx=>Nat.le_trans (cutW_size s x hx) hs;clear HK HP nk np
 cases hbb:baseB ks ps
 ·have HBB:Hid (baseB ks ps=false):=hbb
  rw [Bool.false_and];clear hbb
  go_enter Tryz.func138,Tryz.ntmps138
  go_wp2_with fail;refine (HB.out _ (aO)).mono ?_;rw [HBB.out];rintro e w1 ⟨rfl,hb1⟩;go_wp2;go_ret;exact ⟨rfl,aa (aO) hb1⟩
 have HBB:Hid (baseB ks ps=true):=hbb
 have HKA:Hid (∀ i,i<ks.length→ascB ks i=true):=kinds_asc (by unfold baseB at hbb;rw [Bool.and_eq_true] at hbb;exact hbb.1)
 have HPA:Hid (∀ i,i<ps.length→ascB ps i=true):=points_asc (by unfold baseB at hbb;rw [Bool.and_eq_true] at hbb;exact hbb.2)
 rw [Bool.true_and];clear hbb
 have HV:Hid (∀ k:Int,what=k→valB2 ks ps what s=valB2 ks ps k s):=fun k hk=>by rw [hk]
 generalize hcw:cutW s=ws at *
 have E2:Hid (valB2 ks ps 2 s=timeB ws):=by show _=_;rw [← hcw];rfl
 have E4:Hid (valB2 ks ps 4 s=routeB ps ws):=by show _=_;rw [← hcw];rfl
 clear hcw;have E1:Hid (valB2 ks ps 1 s=hasB ks s):=rfl;have E3:Hid (valB2 ks ps 3 s=levelB s):=rfl;have E5:Hid (valB2 ks ps 5 s=stateB s):=rfl
 have E6:Hid (¬ what=1→¬ what=2→¬ what=3→¬ what=4→¬ what=5→valB2 ks ps what s=false):=fun h1 h2 h3 h4 h5=>by simp [valB2,h1,h2,h3,h4,h5]
 go_enter Tryz.func138,Tryz.ntmps138
 go_wp2_with fail;refine (HB.out _ (aO)).mono ?_;rw [HBB.out];rintro e w1 ⟨rfl,hb1⟩;have hx1:Boxed w w1 (.slice ak ks.length ck) (.slice ap ps.length cp):=(Boxed.start w _ _ _).call hb1;have HX1:Hid (Boxed w w1 (.slice ak ks.length ck) (.slice ap ps.length cp)):=hx1;clear hx1 hb1;go_wp2_with fail;refine (HCUT.out _).mono ?_;rintro e w2 ⟨v,rfl,hst,hb2⟩;have hx2:=HX1.out.call hb2;have x0:=hx2.c0;have x1:=hx2.c1;have HX2:Hid (Boxed w w2 (.slice ak ks.length ck) (.slice ap ps.length cp)):=hx2;have HST:Hid (StrsAt w2 v ws):=hst;obtain ⟨g,off,cap,rfl,-,-,-⟩:=hst;clear hx2 hb2 HX1 HB HCUT
 by_cases h1:what=1
 ·subst h1
  go_wp2_with fail;refine (l1Kind_any _ _ ks s _ (HK1.out.keep HX2.out.below)).mono ?_;rintro e w3 ⟨rfl,hb3⟩;go_wp2;go_ret
  exact ⟨aw (by rw [E1.out];rw [atI_has];exact (has_mem HKA.out).symm),aa HX2.out.below hb3⟩
 have g1:(what==1)=false:=by simp [h1]
 by_cases h2:what=2
 ·subst h2
  go_wp2_with fail;refine (l2TimeOk_any _ ws _ HST.out HSZ.out).mono ?_;rintro e w3 ⟨rfl,hb3⟩;go_wp2;go_ret;exact ⟨aw E2.out.symm,aa HX2.out.below hb3⟩
 have g2:(what==2)=false:=by simp [h2]
 by_cases h3:what=3
 ·subst h3
  go_wp2_with fail
  refine (l2Number_any s _ (by unfold maxLen;omega)).mono ?_
  rintro e w3 ⟨rfl,rfl⟩;go_wp2_with fail;refine (bm _ _ _ _).mono ?_;rintro e w4 ⟨rfl,rfl⟩;go_wp2;go_ret
  exact ⟨aw (by rw [E3.out];exact level_num s),HX2.out.below⟩
 have g3:(what==3)=false:=by simp [h3]
 by_cases h4:what=4
 ·subst h4
  go_wp2_with fail;refine (l2RouteOk_any _ _ _ ps ws _ (HP1.out.keep HX2.out.below) HST.out fun x=>(has_mem HPA.out).symm).mono ?_;rintro e w3 ⟨rfl,hb3⟩;go_wp2;go_ret;exact ⟨aw E4.out.symm,aa HX2.out.below hb3⟩
 have g4:(what==4)=false:=by simp [h4]
 by_cases h5:what=5
 ·subst h5
  by_cases q1:s=openS
  ·have r1:(s.toList==[111,112,101,110])=true:=open_listS ▸ str_eq q1
   have HF:Hid (stateB s=true):=by show stateB s=true;simp [stateB,q1]
   clear q1;go_wp2;go_ret
   exact ⟨aw (by rw [E5.out,HF.out]),HX2.out.below⟩
  ·have r1:(s.toList==[111,112,101,110])=false:=open_listS ▸ cF q1
   by_cases q2:s=closedS
   ·have r2:(s.toList==[99,108,111,115,101,100])=true:=closed_listS ▸ str_eq q2
    have HF:Hid (stateB s=true):=by show stateB s=true;simp [stateB,q2]
    clear q1 q2;go_wp2;go_ret
    exact ⟨aw (by rw [E5.out,HF.out]),HX2.out.below⟩
   ·have r2:(s.toList==[99,108,111,115,101,100])=false:=closed_listS ▸ cF q2
    have HF:Hid (stateB s=false):=by show stateB s=false;simp [stateB,q1,q2]
    clear q1 q2;go_wp2;go_ret
    exact ⟨aw (by rw [E5.out,HF.out]),HX2.out.below⟩
 have g5:(what==5)=false:=by simp [h5]
 have HF:Hid (valB2 ks ps what s=false):=E6.out h1 h2 h3 h4 h5;clear h1 h2 h3 h4 h5;go_wp2;go_ret;exact ⟨aw HF.out.symm,HX2.out.below⟩
theorem specChangeOk_any (vk vp:Value) (ks ps:List Tri) (c:Chg) (w:World) (hk:TrisAt w vk ks) (hp:TrisAt w vp ps) (nk:Names ks) (np:Names ps) (hf:c.f.size≤1048576) (hs:c.v.size≤1048576) :
  Calls Tryz.prog 89 #[.agg #[vk,vp],.agg #[.string c.f,.int .i64 c.what,.int .i64 c.num,.string c.v]] w fun e w'=>e=.returned (.bool (baseB ks ps&&fitB ks ps c))∧Below w.heap.size w w':=by
 have HK:=hk;have HP:=hp;obtain ⟨ak,ck,rfl,-,-,-⟩:=hk;obtain ⟨ap,cp,rfl,-,-,-⟩:=hp;have HF:Hid (∀ wx:World,Below w.heap.size w wx→Calls Tryz.prog 138 #[.agg #[.slice ak ks.length ck,.slice ap ps.length cp],.int .i64 c.what,.string c.v] wx fun e w'=>e=.returned (.bool (baseB ks ps&&valB2 ks ps c.what c.v))∧Below wx.heap.size wx w'):=fun wx hx=>specFits_any _ _ ks ps c.what c.v wx (HK.keep hx) (HP.keep hx) nk np hs;clear HK HP nk np;obtain ⟨f,what,num,v⟩:=c;dsimp only at *
 have HE:Hid ((baseB ks ps&&fitB ks ps ⟨f,what,num,v⟩)=(nameB f&&(inB num 1 1000000&&(baseB ks ps&&valB2 ks ps what v)))):=by
  show (baseB ks ps&&(nameB f&&(inB num 1 1000000&&valB2 ks ps what v)))=_
  cases baseB ks ps <;> cases nameB f <;> cases inB num 1 1000000 <;> rfl
 generalize (baseB ks ps&&fitB ks ps ⟨f,what,num,v⟩)=res at *;generalize (baseB ks ps&&valB2 ks ps what v)=b3 at *
 go_enter Tryz.func89,Tryz.ntmps89
 go_wp2_with fail
 refine (bj f _ (by unfold maxLen;omega)).mono ?_
 generalize nameB f=b1 at *;rintro e w1 ⟨rfl,rfl⟩
 cases b1
 ·go_wp2
  go_ret
  exact ⟨aw (by rw [HE.out];rfl),(aO).alloc (by simp) _⟩
 ·go_wp2_with fail
  refine (bm _ _ _ _).mono ?_;generalize inB num 1 1000000=b2 at *;rintro e w2 ⟨rfl,rfl⟩
  cases b2
  ·go_wp2
   go_ret
   exact ⟨aw (by rw [HE.out];rfl),(aO).alloc (by simp) _⟩
  ·go_wp2_with fail
   refine (HF.out _ ((aO).alloc (by simp) _)).mono ?_
   rintro e w3 ⟨rfl,hb3⟩;go_wp2;go_ret
   exact ⟨aw (by rw [HE.out];rfl),aa ((aO).alloc (by simp) _) hb3⟩
end Go.Proofs.YtcmgddnckohdaaaGreatDoor
namespace Go.Proofs.YtcmgddnckohdaaaGreatDoor
open Go.RowKit
attribute [local go_sem] Later.cell Later.frozen
theorem ret_boolS {a b:Bool} (h:a=b):Ending.returned (.bool a)=.returned (.bool b):=by rw [h]
def triEq (a b:Tri):Bool:=(a.s.toList==b.s.toList)&&((a.x==b.x)&&(a.y==b.y))
def sameT (l m:List Tri):Bool:=(l.length==m.length)&&allB l.length fun i=>triEq (at' l i) (at' m i)
theorem sameT_stop {l m:List Tri} {k:Nat} (hk:k<l.length) (h:triEq (at' l k) (at' m k)=false):sameT l m=false:=by
 unfold sameT
 cases ha:allB l.length fun i=>triEq (at' l i) (at' m i)
 ·simp
 ·have:=bF ha k hk
  rw [h] at this
  cases this
theorem sameT_len {l m:List Tri} (h:¬ l.length=m.length):sameT l m=false:=by simp [sameT,h]
theorem sameT_all {l m:List Tri} (h:l.length=m.length) (ha:∀ i,i<l.length→triEq (at' l i) (at' m i)=true):sameT l m=true:=by
 unfold sameT;rw [aY ha,h]
 simp
theorem triEq_cases (a b:Tri):(triEq a b=true∧(a.s.toList==b.s.toList)=true∧(a.x==b.x)=true∧(a.y==b.y)=true)∨(triEq a b=false∧((a.s.toList==b.s.toList)=false∨((a.s.toList==b.s.toList)=true∧(a.x==b.x)=false)∨((a.s.toList==b.s.toList)=true∧(a.x==b.x)=true∧(a.y==b.y)=false))):=by
 unfold triEq
 cases (a.s.toList==b.s.toList) <;> cases (a.x==b.x) <;> cases (a.y==b.y) <;> simp
def sameBs (ks ks' ps ps':List Tri):Bool:=sameT ks ks'&&sameT ps ps'
end Go.Proofs.YtcmgddnckohdaaaGreatDoor
namespace Go.Proofs.YtcmgddnckohdaaaGreatDoor
open Go.RowKit
def oneM (n:Int):ByteArray:=⟨#[UInt8.ofNat n.toNat]⟩
def mkD (k:Nat) (out:ByteArray):ByteArray:=if _h:k=0 then out else mkD (k / 10) (oneM (48+(k:Int) % 10)++out)
termination_by k
decreasing_by omega
def mkT (k:Nat):ByteArray:=if k=0 then ⟨#[109,48]⟩ else ⟨#[109]⟩++mkD k ⟨#[]⟩
end Go.Proofs.YtcmgddnckohdaaaGreatDoor
