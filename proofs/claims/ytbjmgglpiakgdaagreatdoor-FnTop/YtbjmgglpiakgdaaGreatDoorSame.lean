import Derived.Test.YtbjmgglpiakgdaaGreatDoorFits2
set_option maxRecDepth 100000
set_option maxHeartbeats 3200000
set_option linter.unusedSimpArgs false
set_option linter.unusedVariables false
namespace Go.Proofs.YtbjmgglpiakgdaaGreatDoor
open Go.RowKit
theorem pointsOk_any (v:Value) (l:List Tri) (w:World) (hv:TrisAt w v l) (hs:∀ t∈l,t.s.size≤maxLen) :
  Calls Tryz.prog 91 #[v] w fun e w'=>e=.returned (.bool (pointsB l))∧Below w.heap.size w w':=by
 have hnm:=fun wx hvx=>namesPoint_any v l 16 wx hvx hs (by omega)
 have HNM:Hid (∀ (wx:World),TrisAt wx v l→Calls Tryz.prog 116 #[v,.int .i64 (16:Nat),.func (.func 58) #[] #[]] wx fun e w'=>e=.returned (.bool (namesB l 16))∧Below wx.heap.size wx w'):=hnm;clear hnm;have HV:Hid (TrisAt w v l):=hv;obtain ⟨a,cap,rfl,hlc,hcm,hc⟩:=hv;unfold maxLen at hcm;have HC:Hid (∀ i t,l[i]?=some t→∃ b off,a=some ⟨b,off,none⟩∧TriAt w b (off+i*3) t):=hc;clear hc
 cases hn:namesB l 16
 ·have e:pointsB l=false:=by simp [pointsB,hn]
  have HN:Hid (namesB l 16=false):=hn;rw [e];clear e hn
  go_enter Tryz.func91,Tryz.ntmps91
  go_wp2_with fail;refine (HNM.out _ HV.out).mono ?_;rw [HN.out];rintro e w1 ⟨rfl,hb1⟩;go_wp2;go_ret;exact ⟨rfl,hb1⟩
 ·have e:pointsB l=allB l.length fun i=>insideB (at' l i)&&!takenB l i (at' l i):=by simp [pointsB,hn]
  have HN:Hid (namesB l 16=true):=hn;rw [e];clear e hn
  go_enter Tryz.func91,Tryz.ntmps91
  go_wp2_with fail;refine (HNM.out _ HV.out).mono ?_;rw [HN.out];rintro e w1 ⟨rfl,hb1⟩;go_wp2
  go_loopw [3,4,10] (fun _ _ i wr=>∃ k:Nat,k≤l.length∧i=.int .i64 k∧Below w.heap.size w wr∧Hid (∀ j,j<k→(insideB (at' l j)&&!takenB l j (at' l j))=true)) (fun _ _ i _=>l.length-(intOf i).toNat)
  case atStart=>exact ⟨0,Nat.zero_le _,rfl,hb1,fun j hj=>absurd hj (Nat.not_lt_zero _)⟩
  case round =>
   obtain ⟨k,hk,rfl,hb,HA⟩:=hrel
   by_cases hlt:k<l.length
   ·obtain ⟨b,off,rfl,hc⟩:=HC.out k _ (at_get hlt)
    obtain ⟨d0,d1,d2⟩:=hc.keep hb nlr;have BAD:Hid ((insideB (at' l k)&&!takenB l k (at' l k))=false→allB l.length (fun i=>insideB (at' l i)&&!takenB l i (at' l i))=false):=fun h=>allB_false hlt h
    have hk0:(0:Int)≤(k:Int):=by omega
    have hk1:(k:Int)<(l.length:Int):=by omega
    have hk2:(k:Int)≤(cap:Int):=by omega
    have HT:Hid (takenB (l.take k) (l.take k).length (at' l k)=takenB l k (at' l k)):=taken_take l k hk _;have HTK:Hid (∀ wx:World,Below w.heap.size w wx→TrisAt wx (.slice (some ⟨b,off,none⟩) k cap) (l.take k)):=fun wx hx=>(HV.out.keep hx).take k hk
    cases hp:insideB (at' l k)
    ·have HP:Hid (insideB (at' l k)=false):=hp
     clear hp;go_wp2
     first | go_region_with (go_at_call 117;refine (inside_any (at' l k) _).mono ?_;rw [HP.out];rintro e w3 ⟨rfl,hb3⟩) | fail
     all_goals go_wp2
     all_goals go_ret
     all_goals exact ⟨ret_bool (BAD.out (by rw [HP.out];rfl)).symm,below_step (hb.alloc hb.size _).drew hb3⟩
    ·have HP:Hid (insideB (at' l k)=true):=hp
     clear hp
     cases ht:takenB l k (at' l k)
     ·have HT2:Hid (takenB l k (at' l k)=false):=ht
      clear ht;go_wp2
      go_region_held3 (fun w'=>w'.cell? ⟨wr.heap.size,0,none⟩=some (.string (at' l k).s)∧w'.cell? ⟨wr.heap.size,1,none⟩=some (.int .i64 (at' l k).x)∧w'.cell? ⟨wr.heap.size,2,none⟩=some (.int .i64 (at' l k).y)∧Below w.heap.size w w')
       (first | (refine ⟨by simp [*,go_sem],by simp [*,go_sem],by simp [*,go_sem],?_⟩;exact (hb.alloc hb.size _).drew) | (obtain ⟨s0,s1,s2,s6⟩:=‹_∧_∧_∧Below w.heap.size w _›;exact ⟨cell_keep hb3 nlr s0,cell_keep hb3 nlr s1,cell_keep hb3 nlr s2,below_step s6 hb3⟩))
       (first | (go_at_call 117;refine (inside_any (at' l k) _).mono ?_;rw [HP.out];rintro e w3 ⟨rfl,hb3⟩) | (go_at_call 118;refine (cellTaken_any _ (l.take k) (at' l k) _ (HTK.out _ (by exact (‹_∧_∧_∧Below w.heap.size w _›).2.2.2))).mono ?_;rw [HT.out,HT2.out];rintro e w3 ⟨rfl,hb3⟩))
      go_wp2;obtain ⟨_,_,_,hS⟩:=‹_∧_∧_∧Below w.heap.size w w3›
      exact ⟨⟨k+1,by omega,by go_num,hS,fun j hj=>if e:j=k then by rw [e,HP.out,HT2.out];rfl else HA.out j (by omega)⟩,by simp [intOf];omega⟩
     ·have HT2:Hid (takenB l k (at' l k)=true):=ht
      clear ht;go_wp2
      go_region_held3 (fun w'=>w'.cell? ⟨wr.heap.size,0,none⟩=some (.string (at' l k).s)∧w'.cell? ⟨wr.heap.size,1,none⟩=some (.int .i64 (at' l k).x)∧w'.cell? ⟨wr.heap.size,2,none⟩=some (.int .i64 (at' l k).y)∧Below w.heap.size w w')
       (first | (refine ⟨by simp [*,go_sem],by simp [*,go_sem],by simp [*,go_sem],?_⟩;exact (hb.alloc hb.size _).drew) | (obtain ⟨s0,s1,s2,s6⟩:=‹_∧_∧_∧Below w.heap.size w _›;exact ⟨cell_keep hb3 nlr s0,cell_keep hb3 nlr s1,cell_keep hb3 nlr s2,below_step s6 hb3⟩))
       (first | (go_at_call 117;refine (inside_any (at' l k) _).mono ?_;rw [HP.out];rintro e w3 ⟨rfl,hb3⟩) | (go_at_call 118;refine (cellTaken_any _ (l.take k) (at' l k) _ (HTK.out _ (by exact (‹_∧_∧_∧Below w.heap.size w _›).2.2.2))).mono ?_;rw [HT.out,HT2.out];rintro e w3 ⟨rfl,hb3⟩))
      go_wp2;obtain ⟨_,_,_,hS⟩:=‹_∧_∧_∧Below w.heap.size w w3›;go_ret
      exact ⟨ret_bool (BAD.out (by rw [HP.out,HT2.out];rfl)).symm,hS⟩
   ·go_wp2
    go_ret
    exact ⟨ret_bool (allB_true fun j hj=>HA.out j (by omega)).symm,hb⟩
open Go.RowKit
def Names (l:List Tri):Prop:=∀ t∈l,t.s.size≤maxLen
theorem TrisAt.alloc {w:World} {v:Value} {l:List Tri} (h:TrisAt w v l) (o:Obj):TrisAt (w.alloc o) v l:=h.keep (bal)
theorem baseOk_any (vk vp:Value) (ks ps:List Tri) (w:World) (hk:TrisAt w vk ks) (hp:TrisAt w vp ps) (nk:Names ks) (np:Names ps) :
  Calls Tryz.prog 44 #[.agg #[vk,vp]] w fun e w'=>e=.returned (.bool (kindsB ks&&pointsB ps))∧Below w.heap.size w w':=by
 have HK:=hk;have HP:=hp;obtain ⟨ak,ck,rfl,-,-,-⟩:=hk;obtain ⟨ap,cp,rfl,-,-,-⟩:=hp;have HK1:Hid (TrisAt w (.slice ak ks.length ck) ks):=HK;have HP1:Hid (TrisAt w (.slice ap ps.length cp) ps):=HP;have NK:Hid (Names ks):=nk;have NP:Hid (Names ps):=np;clear HK HP nk np
 cases h1:kindsB ks
 ·have H1:Hid (kindsB ks=false):=h1
  rw [Bool.false_and];clear h1
  go_enter Tryz.func44,Tryz.ntmps44
  go_wp2_with fail;refine (kindsOk_any _ ks _ (HK1.out.alloc _) NK.out).mono ?_;rw [H1.out];rintro e w1 ⟨rfl,hb1⟩;go_wp2;go_ret;exact ⟨rfl,below_step (bal) hb1⟩
 ·have H1:Hid (kindsB ks=true):=h1
  rw [Bool.true_and];clear h1
  go_enter Tryz.func44,Tryz.ntmps44
  go_wp2_with fail;refine (kindsOk_any _ ks _ (HK1.out.alloc _) NK.out).mono ?_;rw [H1.out];rintro e w1 ⟨rfl,hb1⟩
  have c1:w1.cell? ⟨w.heap.size,1,none⟩=some (.slice ap ps.length cp):=cell_keep hb1 nlr (by simp)
  have hbw:=below_step (bal) hb1;go_wp2_with fail;refine (pointsOk_any _ ps _ (HP1.out.keep hbw) NP.out).mono ?_;rintro e w2 ⟨rfl,hb2⟩;go_wp2;go_ret;exact ⟨rfl,below_step hbw hb2⟩
theorem below_set {B:Nat} {a w:World} (h:Below B a w) (k o:Nat) (hk:B≤k) (v:Value):Below B a (w.setCell ⟨k,o,none⟩ v):=h.setCell (p:=⟨k,o,none⟩) hk v
open Go.RowKit
structure Fld where
 what:Int
 num:Int
 v:ByteArray
structure Ent where
 name:ByteArray
 fs:List Fld
def fldV (f:Fld):Value:=.agg #[.int .i64 f.what,.int .i64 f.num,.string f.v]
def FldAt (w:World) (b o:Nat) (f:Fld):Prop:=w.cell? ⟨b,o,none⟩=some (.int .i64 f.what)∧w.cell? ⟨b,o+1,none⟩=some (.int .i64 f.num)∧w.cell? ⟨b,o+2,none⟩=some (.string f.v)
def FldsAt (w:World) (v:Value) (l:List Fld):Prop :=
 ∃ a cap,v=.slice a l.length cap∧l.length≤cap∧cap≤maxLen∧∀ i f,l[i]?=some f→∃ b off,a=some ⟨b,off,none⟩∧FldAt w b (off+i*3) f
def EntAt (w:World) (b o:Nat) (e:Ent):Prop:=∃ fv,w.cell? ⟨b,o,none⟩=some (.string e.name)∧w.cell? ⟨b,o+1,none⟩=some fv∧FldsAt w fv e.fs
def EntsAt (w:World) (v:Value) (l:List Ent):Prop :=
 ∃ a cap,v=.slice a l.length cap∧l.length≤cap∧cap≤maxLen∧∀ i e,l[i]?=some e→∃ b off,a=some ⟨b,off,none⟩∧EntAt w b (off+i*2) e
theorem FldAt.keep {w w':World} {b o B:Nat} {f:Fld} (h:FldAt w b o f) (hb:Below B w w') (hB:w.heap.size≤B):FldAt w' b o f :=
 ⟨cell_keep hb hB h.1,cell_keep hb hB h.2.1,cell_keep hb hB h.2.2⟩
theorem FldsAt.keep {w w':World} {v:Value} {l:List Fld} (h:FldsAt w v l) (hb:Below w.heap.size w w'):FldsAt w' v l:=by
 obtain ⟨a,cap,rfl,h1,h2,h3⟩:=h;refine ⟨a,cap,rfl,h1,h2,fun i t ht=>?_⟩;obtain ⟨b,off,ha,hc⟩:=h3 i t ht;exact ⟨b,off,ha,hc.keep hb nlr⟩
theorem EntAt.keep {w w':World} {b o:Nat} {e:Ent} (h:EntAt w b o e) (hb:Below w.heap.size w w'):EntAt w' b o e:=by
 obtain ⟨fv,h0,h1,h2⟩:=h;exact ⟨fv,cell_keep hb nlr h0,cell_keep hb nlr h1,h2.keep hb⟩
theorem EntsAt.keep {w w':World} {v:Value} {l:List Ent} (h:EntsAt w v l) (hb:Below w.heap.size w w'):EntsAt w' v l:=by
 obtain ⟨a,cap,rfl,h1,h2,h3⟩:=h;refine ⟨a,cap,rfl,h1,h2,fun i t ht=>?_⟩;obtain ⟨b,off,ha,hc⟩:=h3 i t ht;exact ⟨b,off,ha,hc.keep hb⟩
def fat (l:List Fld) (i:Nat):Fld:=l.getD i ⟨0,0,⟨#[]⟩⟩
theorem fat_get {l:List Fld} {i:Nat} (h:i<l.length):l[i]?=some (fat l i):=by simp [fat,h]
def eat (l:List Ent) (i:Nat):Ent:=l.getD i ⟨⟨#[]⟩,[]⟩
theorem eat_get {l:List Ent} {i:Nat} (h:i<l.length):l[i]?=some (eat l i):=by simp [eat,h]
def FNames (l:List Fld):Prop:=∀ f∈l,f.v.size≤maxLen
def ENames (l:List Ent):Prop:=∀ e∈l,e.name.size≤maxLen∧FNames e.fs
def sumN {α:Type} (g:α→Nat):List α→Nat
 | []=>0
 | t::r=>g t+sumN g r
theorem sumN_append {α:Type} (g:α→Nat) (l r:List α):sumN g (l++r)=sumN g l+sumN g r:=by
 induction l with
 | nil=>simp [sumN]
 | cons a l ih=>simp [sumN,ih];omega
theorem sumN_take_le {α:Type} (g:α→Nat) (l:List α) (k:Nat):sumN g (l.take k)≤sumN g l:=by
 conv=>rhs;rw [← List.take_append_drop k l,sumN_append]
 omega
theorem sumN_mem {α:Type} (g:α→Nat) (l:List α) (x:α) (h:x∈l):g x≤sumN g l:=by
 induction l with
 | nil=>cases h
 | cons a l ih =>
  rcases List.mem_cons.1 h with rfl | h
  ·simp [sumN]
  ·have:=ih h;simp [sumN];omega
def szFlds (l:List Fld):Nat:=l.length+sumN (fun f=>f.v.size) l
def szEnt (e:Ent):Nat:=e.name.size+szFlds e.fs
def szEnts (l:List Ent):Nat:=l.length+sumN szEnt l
open Go.RowKit
open Go.RowKit
def fldRow (f:Fld):List Value:=[.int .i64 f.what,.int .i64 f.num,.string f.v]
theorem FilledL.flds {w wr:World} {B n:Nat} {l:List Fld} (h:FilledL w wr B n 3 (l.map fldRow)) (hn:l.length=n) (hm:n≤maxLen):FldsAt wr (.slice (some ⟨B,0,none⟩) n n) l :=
 ⟨some ⟨B,0,none⟩,n,by rw [hn],by omega,hm,fun i f hf=>⟨B,0,rfl,by
  have hr:(l.map fldRow)[i]?=some (fldRow f):=by rw [List.getElem?_map,hf];rfl
  refine ⟨?_,?_,?_⟩
  ·simpa using h.cell hr (j:=0) (v:=.int .i64 f.what) rfl
  ·simpa using h.cell hr (j:=1) (v:=.int .i64 f.num) rfl
  ·simpa using h.cell hr (j:=2) (v:=.string f.v) rfl⟩⟩
open Go.RowKit
structure OwnAt (w wr:World) (bs:List (List Value)):Prop where
 below:Below w.heap.size w wr
 big:w.heap.size+bs.length≤wr.heap.size
 has:∀ i b,bs[i]?=some b→∀ j v,b[j]?=some v→wr.cell? ⟨w.heap.size+i,j,none⟩=some v∧wr.frozen? ⟨w.heap.size+i,j,none⟩=false
theorem OwnAt.call {w wr w':World} {bs:List (List Value)} (h:OwnAt w wr bs) (hb:Below wr.heap.size wr w'):OwnAt w w' bs :=
 ⟨below_step h.below hb,Nat.le_trans h.big hb.size,fun i b hi j v hj=>by
  have hlt:w.heap.size+i<wr.heap.size:=by
   have:=(List.getElem?_eq_some_iff.1 hi).1;have:=h.big;omega
  rw [hb.cell (p:=⟨w.heap.size+i,j,none⟩) hlt,hb.frozen (p:=⟨w.heap.size+i,j,none⟩) hlt]
  exact h.has i b hi j v hj⟩
theorem OwnAt.start (w:World):OwnAt w w []:=⟨Below.refl _ _,Nat.le_refl _,fun i b hi=>by simp at hi⟩
theorem OwnAt.push {w wr:World} {bs:List (List Value)} (h:OwnAt w wr bs) (he:wr.heap.size=w.heap.size+bs.length) (C:Array Value) (T:TypeId):OwnAt w (wr.alloc (.cells C T)) (bs++[C.toList]):=by
 refine ⟨h.below.alloc (by omega) _,by simp;omega,fun i b hi j v hj=>?_⟩
 by_cases e:i<bs.length
 ·rw [List.getElem?_append_left e] at hi
  have hh:=h.has i b hi j v hj;have hb:Below wr.heap.size wr (wr.alloc (.cells C T)):=(bal)
  rw [hb.cell (p:=⟨w.heap.size+i,j,none⟩) (show w.heap.size+i<_ by omega),hb.frozen (p:=⟨w.heap.size+i,j,none⟩) (show w.heap.size+i<_ by omega)]
  exact hh
 ·rw [List.getElem?_append_right (by omega)] at hi
  have hi0:i-bs.length=0:=by
   have:=(List.getElem?_eq_some_iff.1 hi).1
   simp at this;omega
  rw [hi0] at hi
  simp at hi;subst hi
  have e1:w.heap.size+i=wr.heap.size:=by omega
  rw [e1,World.cell?_alloc_at (w:=wr) C T wr.heap.size j rfl,World.frozen?_alloc_at (w:=wr) C T wr.heap.size j rfl]
  have hj':j<C.size:=by
   have:=(List.getElem?_eq_some_iff.1 hj).1
   simpa using this
  refine ⟨by simpa using hj,?_⟩
  simp
theorem OwnAt.set {w wr:World} {bs:List (List Value)} (h:OwnAt w wr bs) {i j:Nat} {b:List Value} (hi:bs[i]?=some b) (hj:j<b.length) (x:Value):OwnAt w (wr.setCell ⟨w.heap.size+i,j,none⟩ x) (bs.set i (b.set j x)):=by
 have hil:i<bs.length:=(List.getElem?_eq_some_iff.1 hi).1
 refine ⟨h.below.setCell (p:=⟨w.heap.size+i,j,none⟩) (by simp) _,by simp;have:=h.big;omega,fun i' b' hi' j' v hj'=>?_⟩
 by_cases e:i'=i
 ·subst e
  rw [List.getElem?_set_self hil] at hi'
  cases hi'
  by_cases ej:j'=j
  ·subst ej
   rw [List.getElem?_set_self hj] at hj'
   cases hj'
   have hh:=h.has i' b hi j' (b[j']) (by simp [hj])
   exact ⟨by simp [go_sem,hh.1],by simp [go_sem,hh.2]⟩
  ·rw [List.getElem?_set_ne (Ne.symm ej)] at hj'
   have hh:=h.has i' b hi j' v hj'
   refine ⟨?_,by simpa [go_sem] using hh.2⟩
   exact (World.cell?_setCell_other wr ⟨w.heap.size+i',j,none⟩ ⟨w.heap.size+i',j',none⟩ x (by simp <;> omega)).trans hh.1
 ·rw [List.getElem?_set_ne (Ne.symm e)] at hi'
  have hh:=h.has i' b' hi' j' v hj'
  refine ⟨?_,by simpa [go_sem] using hh.2⟩
  rw [World.cell?_of_block (w:=wr) (Below.heap_setCell wr _ x _ (by simp;omega))]
  exact hh.1
structure HeldL (wr:World) (B n c:Nat) (rows:List (List Value)):Prop where
 big:B<wr.heap.size
 room:wr.there B 0 (n*c)
 wide:∀ r∈rows,r.length=c
 has:∀ i r,rows[i]?=some r→wr.rangeAt B (i*c) r
theorem FilledL.held {w wr:World} {B n c:Nat} {rows:List (List Value)} (h:FilledL w wr B n c rows):HeldL wr B n c rows:=⟨h.big,h.room,h.wide,h.has⟩
theorem HeldL.keep {wr w1:World} {B n c:Nat} {rows:List (List Value)} (h:HeldL wr B n c rows) (hb:Below wr.heap.size wr w1):HeldL w1 B n c rows :=
 ⟨Nat.lt_of_lt_of_le h.big hb.size,there_keep h.room hb h.big,h.wide,fun i r hr=>range_keep (h.has i r hr) hb h.big⟩
theorem HeldL.other {wr:World} {B n c:Nat} {rows:List (List Value)} (h:HeldL wr B n c rows) {k o:Nat} (hk:k≠B) (x:Value):HeldL (wr.setCell ⟨k,o,none⟩ x) B n c rows:=by
 have hc:∀ o',(wr.setCell ⟨k,o,none⟩ x).cell? ⟨B,o',none⟩=wr.cell? ⟨B,o',none⟩:=fun o'=>World.cell?_of_block (w:=wr) (Below.heap_setCell wr ⟨k,o,none⟩ x B (Ne.symm hk))
 refine ⟨by simpa using h.big,fun j hj=>?_,h.wide,fun i r hr j v hv=>?_⟩
 ·have:=h.room j hj
  rw [hc,World.frozen?_setCell];exact this
 ·rw [hc];exact h.has i r hr j v hv
theorem HeldL.cell {wr:World} {B n c:Nat} {rows:List (List Value)} (h:HeldL wr B n c rows) {i j:Nat} {r:List Value} {v:Value} (hr:rows[i]?=some r) (hv:r[j]?=some v):wr.cell? ⟨B,i*c+j,none⟩=some v:=h.has i r hr j v hv
theorem Filled.held {w wr:World} {B n:Nat} {l:List Tri} (h:Filled w wr B n l l.length):HeldL wr B n 3 (l.map triRow) :=
 ⟨h.big,h.room,fun r hr=>by obtain ⟨t,_,rfl⟩:=List.mem_map.1 hr;rfl,fun i r hr=>by
  rw [List.getElem?_map] at hr
  cases ht:l[i]? with
  | none=>rw [ht] at hr;cases hr
  | some t =>
   rw [ht] at hr;cases hr
   exact h.has i t (List.getElem?_eq_some_iff.1 ht).1 ht⟩
def TrisOwn (lo:Nat) (w:World) (v:Value) (l:List Tri):Prop:=∃ b,lo≤b∧v=.slice (some ⟨b,0,none⟩) l.length l.length∧HeldL w b l.length 3 (l.map triRow)
theorem HeldL.tris {w:World} {b n:Nat} {l:List Tri} (h:HeldL w b n 3 (l.map triRow)) (hn:n=l.length) (cap:Nat) (hc:n≤cap) (hm:cap≤maxLen):TrisAt w (.slice (some ⟨b,0,none⟩) n cap) l :=
 ⟨_,cap,by rw [hn],by omega,hm,fun i t ht=>⟨b,0,rfl,by
  have hr:(l.map triRow)[i]?=some (triRow t):=by rw [List.getElem?_map,ht];rfl
  refine ⟨?_,?_,?_⟩
  ·simpa using h.cell hr (j:=0) (v:=.string t.s) rfl
  ·simpa using h.cell hr (j:=1) (v:=.int .i64 t.x) rfl
  ·simpa using h.cell hr (j:=2) (v:=.int .i64 t.y) rfl⟩⟩
theorem TrisOwn.at {lo:Nat} {w:World} {v:Value} {l:List Tri} (h:TrisOwn lo w v l) (hm:l.length≤1048576):TrisAt w v l:=by
 obtain ⟨b,_,rfl,hh⟩:=h
 exact hh.tris rfl _ nlr (by unfold maxLen;omega)
theorem TrisOwn.keep {lo:Nat} {w w':World} {v:Value} {l:List Tri} (h:TrisOwn lo w v l) (hb:Below w.heap.size w w'):TrisOwn lo w' v l:=by
 obtain ⟨b,hl,hv,hh⟩:=h;exact ⟨b,hl,hv,hh.keep hb⟩
theorem TrisOwn.mono {lo lo':Nat} {w:World} {v:Value} {l:List Tri} (h:TrisOwn lo w v l) (hl:lo'≤lo):TrisOwn lo' w v l:=by
 obtain ⟨b,hb,hv,hh⟩:=h
 exact ⟨b,by omega,hv,hh⟩
theorem TrisOwn.other {lo:Nat} {w:World} {v:Value} {l:List Tri} (h:TrisOwn lo w v l) {k o:Nat} (hk:k<lo) (x:Value):TrisOwn lo (w.setCell ⟨k,o,none⟩ x) v l:=by
 obtain ⟨b,hl,hv,hh⟩:=h
 exact ⟨b,hl,hv,hh.other (by omega) x⟩
open Go.RowKit
attribute [local go_sem] Later.cell Later.frozen
structure Boxed (w wr:World) (vk vp:Value):Prop where
  below:Below w.heap.size w wr
  big:w.heap.size<wr.heap.size
  c0:wr.cell? ⟨w.heap.size,0,none⟩=some vk
  c1:wr.cell? ⟨w.heap.size,1,none⟩=some vp
theorem Boxed.start (w:World) (vk vp:Value) (T:TypeId):Boxed w (w.alloc (.cells #[vk,vp] T)) vk vp :=
  ⟨(bal),by simp,by simp [go_sem],by simp [go_sem]⟩
theorem Boxed.call {w wr w':World} {vk vp:Value} (h:Boxed w wr vk vp) (hb:Below wr.heap.size wr w'):Boxed w w' vk vp :=
  ⟨below_step h.below hb,Nat.lt_of_lt_of_le h.big hb.size,cell_keep hb nlr h.c0,cell_keep hb nlr h.c1⟩
theorem Boxed.drew {w wr:World} {vk vp:Value} (h:Boxed w wr vk vp):Boxed w wr.drew vk vp :=
  ⟨h.below.drew,h.big,by simpa using h.c0,by simpa using h.c1⟩
theorem Boxed.drewN {w wr:World} {vk vp:Value} (h:Boxed w wr vk vp) (n:Nat):Boxed w (wr.drewN n) vk vp :=
  h.call (below_drewN (Below.refl _ _) n)
def kRound (l:List Tri) (k:Nat):Bool:=kindOkB (at' l k)&&ascB l k
def pRound (l:List Tri) (k:Nat):Bool:=(pointOkB (at' l k)&&ascB l k)&&allB k fun i=>!sameB (at' l i) (at' l k)
theorem specBase_any (vk vp : Value) (ks ps : List Tri) (w : World) (hk : TrisAt w vk ks) (hp : TrisAt w vp ps) (nk : Names ks) (np : Names ps) :
    Calls Tryz.prog 42 #[.agg #[vk,vp]] w fun e w'=>e=.returned (.bool (kindsB ks&&pointsB ps))∧Below w.heap.size w w':=by
  have HK:=hk;have HP:=hp;obtain ⟨ak,ck,rfl,lk,mk,ek⟩:=hk;obtain ⟨ap,cp,rfl,lp,mp,ep⟩:=hp;unfold maxLen at mk mp;have HK1:Hid (TrisAt w (.slice ak ks.length ck) ks):=HK;have HP1:Hid (TrisAt w (.slice ap ps.length cp) ps):=HP;have NK:Hid (Names ks):=nk;have NP:Hid (Names ps):=np;have EK:Hid (∀ i t,ks[i]?=some t→∃ b off,ak=some ⟨b,off,none⟩∧TriAt w b (off+i*3) t):=ek;have EP:Hid (∀ i t,ps[i]?=some t→∃ b off,ap=some ⟨b,off,none⟩∧TriAt w b (off+i*3) t):=ep;clear HK HP nk np ek ep
  by_cases h1:(6:Int)<(ks.length:Int)
  · have e : (kindsB ks && pointsB ps) = false := by
      have:¬ ks.length≤6:=by omega
      rw [kindsB_eq];simp [this]
    rw [e];clear e
    go_enter Tryz.func42,Tryz.ntmps42
    go_wp2;go_ret;exact ⟨rfl,(bal)⟩
  by_cases h2:(16:Int)<(ps.length:Int)
  · have e : (kindsB ks && pointsB ps) = false := by
      have:¬ ps.length≤16:=by omega
      rw [pointsB_eq];simp [this]
    rw [e];clear e
    go_enter Tryz.func42,Tryz.ntmps42
    go_wp2;go_ret;exact ⟨rfl,(bal)⟩
  have hbk : kindsB ks = allB ks.length (kRound ks) := by rw [kindsB_eq]; have : ks.length ≤ 6 := by omega
                                                          simp only [this,decide_true,Bool.true_and];rfl
  have HBK:Hid (kindsB ks=allB ks.length (kRound ks)):=hbk
  have hbp : pointsB ps = allB ps.length (pRound ps) := by rw [pointsB_eq]; have : ps.length ≤ 16 := by omega
                                                           simp only [this,decide_true,Bool.true_and];rfl
  have HBP:Hid (pointsB ps=allB ps.length (pRound ps)):=hbp;clear hbk hbp
  go_enter Tryz.func42,Tryz.ntmps42
  go_wp2
  go_loopw [3] (fun i wr=>∃ k:Nat,k≤ks.length∧i=.int .i64 k∧Boxed w wr (.slice ak ks.length ck) (.slice ap ps.length cp)∧Hid (∀ j,j<k→kRound ks j=true)) (fun i _=>ks.length-(intOf i).toNat)
  case atStart=>exact ⟨0,Nat.zero_le _,rfl,Boxed.start _ _ _ _,fun j hj=>absurd hj (Nat.not_lt_zero _)⟩
  case round =>
    obtain ⟨k,hk,rfl,hx,HA⟩:=hrel;have x0:=hx.c0;have x1:=hx.c1;have xz:=hx.big;have HX:Hid (Boxed w wr (.slice ak ks.length ck) (.slice ap ps.length cp)):=hx;clear hx
    by_cases hlt:k<ks.length
    · obtain ⟨b,off,rfl,hc⟩:=EK.out k _ (at_get hlt)
      obtain ⟨d0,d1,d2⟩:=hc.keep HX.out.below nlr;have hsk:(at' ks k).s.size≤maxLen:=NK.out _ (List.mem_of_getElem? (at_get hlt))
      have BAD:Hid (kRound ks k=false→(kindsB ks&&pointsB ps)=false):=fun h=>by rw [HBK.out,allB_false hlt h];rfl
      have KR:Hid (kRound ks k=(kindOkB (at' ks k)&&ascB ks k)):=rfl
      have hk0:(0:Int)≤(k:Int):=by omega
      have hk1:(k:Int)<(ks.length:Int):=by omega
      have hbl:b<wr.heap.size:=lt_of_cell d0
      have go1:∀ (v:Bool),Hid (kindOkB (at' ks k)=v)→∀ x:Later wr,Calls Tryz.prog 87 #[.agg #[.string (at' ks k).s,.int .i64 (at' ks k).x,.int .i64 (at' ks k).y]] x.val fun e w''=>e=.returned (.bool v)∧∃ y:Later wr,w''=y.val :=
        fun v hv x=>Calls.later (hv.out ▸ l1KindOk_any (at' ks k) x.val hsk)
      have GO:Hid (∀ (v:Bool),Hid (kindOkB (at' ks k)=v)→∀ x:Later wr,Calls Tryz.prog 87 #[.agg #[.string (at' ks k).s,.int .i64 (at' ks k).x,.int .i64 (at' ks k).y]] x.val fun e w''=>e=.returned (.bool v)∧∃ y:Later wr,w''=y.val):=go1;clear go1;have hne:=Later.some wr
      cases ho:kindOkB (at' ks k)
      · have HO:Hid (kindOkB (at' ks k)=false):=ho
        clear ho;go_wp2
        refine wp_region_later (by kernel_rfl) (by kernel_rfl) ?_
        repeat (go_big_quiet_step (exact GO.out _ HO _))
        refine wpQuiet_nil ?_;rintro _ ⟨x,rfl⟩;go_wp2;go_ret
        exact ⟨ret_bool (BAD.out (by rw [KR.out,HO.out];rfl)).symm,below_step HX.out.below x.below⟩
      · have HO:Hid (kindOkB (at' ks k)=true):=ho
        clear ho
        by_cases hkz:(0:Int)<(k:Int)
        · have hg:0<k:=by omega
          obtain ⟨b',off',hbo,hcm'⟩:=EK.out (k-1) _ (at_get (by omega))
          cases hbo
          obtain ⟨m0,-,-⟩:=hcm'.keep HX.out.below nlr
          have AS:Hid (ascB ks k=!geB (at' ks (k-1)).s (at' ks k).s):=by
            show ascB ks k=_
            obtain ⟨m,rfl⟩:∃ m,k=m+1:=⟨k-1,by omega⟩
            exact asc_succ ks m
          clear hcm' hc
          have hi0:(0:Int)≤(k:Int)-1:=by omega
          have hi1:(k:Int)-1<(ks.length:Int):=by omega
          go_wp2
          refine wp_region_later (by kernel_rfl) (by kernel_rfl) ?_
          repeat (go_big_quiet_step (exact GO.out _ HO _))
          refine wpQuiet_nil ?_;rintro _ ⟨x,rfl⟩;go_wp2
          · rename_i h
            go_ret
            exact ⟨ret_bool (BAD.out (by rw [KR.out,HO.out,AS.out];unfold geB;rw [h];rfl)).symm,below_step HX.out.below x.below⟩
          · rename_i h
            exact ⟨⟨k+1,by omega,by go_num,HX.out.call x.below,fun j hj=>if e:j=k then by rw [e,KR.out,HO.out,AS.out];unfold geB;rw [h];rfl else HA.out j (by omega)⟩,by simp [intOf];omega⟩
        · have hg:decide (0<k)=false:=by simp;omega
          go_wp2
          refine wp_region_later (by kernel_rfl) (by kernel_rfl) ?_
          repeat (go_big_quiet_step (exact GO.out _ HO _))
          refine wpQuiet_nil ?_;rintro _ ⟨x,rfl⟩;go_wp2
          exact ⟨⟨k+1,by omega,by go_num,HX.out.call x.below,fun j hj=>by
            obtain rfl:j=k:=by omega
            rw [KR.out,HO.out];obtain rfl:j=0:=by omega
            rw [asc_zero];rfl⟩,by simp [intOf];omega⟩
    · have HKT:Hid (kindsB ks=true):=HBK.out.trans (allB_true fun j hj=>HA.out j (by omega))
      go_wp2;clear HA EK NK HBK
      go_loopw [4,5] (fun i _ wr=>∃ k:Nat,k≤ps.length∧i=.int .i64 k∧Boxed w wr (.slice ak ks.length ck) (.slice ap ps.length cp)∧Hid (∀ j,j<k→pRound ps j=true)) (fun i _ _=>ps.length-(intOf i).toNat)
      case atStart=>exact ⟨0,Nat.zero_le _,rfl,HX.out,fun j hj=>absurd hj (Nat.not_lt_zero _)⟩
      case round =>
        clear HX x0 x1 xz hlt hk;obtain ⟨k,hk,rfl,hx,HA⟩:=hrel;have x0:=hx.c0;have x1:=hx.c1;have xz:=hx.big;have HX:Hid (Boxed w wr (.slice ak ks.length ck) (.slice ap ps.length cp)):=hx;clear hx
        by_cases hlt:k<ps.length
        · obtain ⟨b,off,rfl,hc⟩:=EP.out k _ (at_get hlt)
          obtain ⟨d0,d1,d2⟩:=hc.keep HX.out.below nlr;have hsk:(at' ps k).s.size≤maxLen:=NP.out _ (List.mem_of_getElem? (at_get hlt))
          have BAD:Hid (pRound ps k=false→(kindsB ks&&pointsB ps)=false):=fun h=>by rw [HKT.out,HBP.out,allB_false hlt h];rfl
          have PR:Hid (pRound ps k=((pointOkB (at' ps k)&&ascB ps k)&&allB k fun i=>!sameB (at' ps i) (at' ps k))):=rfl
          have hk0:(0:Int)≤(k:Int):=by omega
          have hk1:(k:Int)<(ps.length:Int):=by omega
          have hbl:b<wr.heap.size:=lt_of_cell d0
          have GO:Hid (∀ (v:Bool),Hid (pointOkB (at' ps k)=v)→∀ x:Later wr,Calls Tryz.prog 88 #[.agg #[.string (at' ps k).s,.int .i64 (at' ps k).x,.int .i64 (at' ps k).y]] x.val fun e w''=>e=.returned (.bool v)∧∃ y:Later wr,w''=y.val) :=
            fun v hv x=>Calls.later (hv.out ▸ l1PointOk_any (at' ps k) x.val hsk)
          have hne:=Later.some wr;have HCK:Hid (TriAt w b (off+k*3) (at' ps k)):=hc
          cases ho:pointOkB (at' ps k)
          · have HO:Hid (pointOkB (at' ps k)=false):=ho
            clear ho;go_wp2
            refine wp_region_later (by kernel_rfl) (by kernel_rfl) ?_
            repeat (go_big_quiet_step (exact GO.out _ HO _))
            refine wpQuiet_nil ?_;rintro _ ⟨x,rfl⟩;go_wp2;go_ret
            exact ⟨ret_bool (BAD.out (by rw [PR.out,HO.out];rfl)).symm,below_step HX.out.below x.below⟩
          · have HO:Hid (pointOkB (at' ps k)=true):=ho
            clear ho
            by_cases hkz:(0:Int)<(k:Int)
            · have hg:0<k:=by omega
              obtain ⟨b',off',hbo,hcm'⟩:=EP.out (k-1) _ (at_get (by omega))
              cases hbo
              obtain ⟨m0,-,-⟩:=hcm'.keep HX.out.below nlr
              have AS:Hid (ascB ps k=!geB (at' ps (k-1)).s (at' ps k).s):=by
                show ascB ps k=_
                obtain ⟨m,rfl⟩:∃ m,k=m+1:=⟨k-1,by omega⟩
                exact asc_succ ps m
              clear hcm' hc
              have hi0:(0:Int)≤(k:Int)-1:=by omega
              have hi1:(k:Int)-1<(ps.length:Int):=by omega
              go_wp2
              refine wp_region_later (by kernel_rfl) (by kernel_rfl) ?_
              repeat (go_big_quiet_step (exact GO.out _ HO _))
              refine wpQuiet_nil ?_;rintro _ ⟨x,rfl⟩;go_wp2
              · rename_i h
                go_ret
                exact ⟨ret_bool (BAD.out (by rw [PR.out,HO.out,AS.out];unfold geB;rw [h];rfl)).symm,below_step HX.out.below x.below⟩
              · rename_i h
                have HAS:Hid (ascB ps k=true):=by
                  show ascB ps k=true
                  rw [AS.out];unfold geB;rw [h];rfl
                clear m0;have hy0:Boxed w x.val (.slice ak ks.length ck) (.slice (some ⟨b,off,none⟩) ps.length cp):=HX.out.call x.below;have HY0:Hid (Boxed w x.val (.slice ak ks.length ck) (.slice (some ⟨b,off,none⟩) ps.length cp)):=hy0;clear hy0 GO HX x0 x1 xz d0 d1 d2 hbl hne
                go_loopw [5] (fun i wr=>∃ j:Nat,j≤k∧i=.int .i64 j∧Boxed w wr (.slice ak ks.length ck) (.slice (some ⟨b,off,none⟩) ps.length cp)∧Hid (∀ q,q<j→(!sameB (at' ps q) (at' ps k))=true)) (fun i _=>k-(intOf i).toNat)
                case atStart=>exact ⟨0,Nat.zero_le _,rfl,HY0.out,fun j hj=>absurd hj (Nat.not_lt_zero _)⟩
                case round =>
                  clear HY0;obtain ⟨j,hj,rfl,hy,HB⟩:=hrel;have y0:=hy.c0;have y1:=hy.c1;have yz:=hy.big;have HY:Hid (Boxed w wr (.slice ak ks.length ck) (.slice (some ⟨b,off,none⟩) ps.length cp)):=hy;clear hy
                  by_cases hjk:j<k
                  · obtain ⟨b',off',hbo,hcj⟩:=EP.out j _ (at_get (by omega))
                    cases hbo
                    obtain ⟨-,e1,e2⟩:=hcj.keep HY.out.below nlr;obtain ⟨-,f1,f2⟩:=HCK.out.keep HY.out.below nlr
                    have hj0:(0:Int)≤(j:Int):=by omega
                    have hj1:(j:Int)<(ps.length:Int):=by omega
                    have SM:Hid (sameB (at' ps j) (at' ps k)=(decide ((at' ps j).x=(at' ps k).x)&&decide ((at' ps j).y=(at' ps k).y))):=rfl
                    have BADI:Hid ((!sameB (at' ps j) (at' ps k))=false→(kindsB ks&&pointsB ps)=false):=fun h=>BAD.out (by rw [PR.out,allB_false hjk h,Bool.and_false])
                    clear hcj
                    by_cases hxx:(at' ps j).x=(at' ps k).x
                    · have hxb:((at' ps j).x==(at' ps k).x)=true:=by simp [hxx]
                      have HXX:Hid ((at' ps j).x=(at' ps k).x):=hxx;clear hxx
                      by_cases hyy:(at' ps j).y=(at' ps k).y
                      · have hyb:((at' ps j).y==(at' ps k).y)=true:=by simp [hyy]
                        have HYY:Hid ((at' ps j).y=(at' ps k).y):=hyy;clear hyy;go_wp2
                        refine wp_region_quiet_lit (by kernel_rfl) (by kernel_rfl) ?_
                        repeat (go_big_quiet_step (fail))
                        refine wpQuiet_nil ?_;rintro _ ⟨nq,rfl⟩;go_wp2;go_ret
                        exact ⟨ret_bool (BADI.out (by rw [SM.out,HXX.out,HYY.out];simp)).symm,below_drewN HY.out.below _⟩
                      · have hyb:((at' ps j).y==(at' ps k).y)=false:=by simp [hyy]
                        have HYY:Hid (¬ (at' ps j).y=(at' ps k).y):=hyy;clear hyy;go_wp2
                        refine wp_region_quiet_lit (by kernel_rfl) (by kernel_rfl) ?_
                        repeat (go_big_quiet_step (fail))
                        refine wpQuiet_nil ?_;rintro _ ⟨nq,rfl⟩;go_wp2
                        exact ⟨⟨j+1,by omega,by go_num,HY.out.drewN _,fun q hq=>if e:q=j then by rw [e,SM.out];simp [HYY.out] else HB.out q (by omega)⟩,by simp [intOf];omega⟩
                    · have hxb:((at' ps j).x==(at' ps k).x)=false:=by simp [hxx]
                      have HXX:Hid (¬ (at' ps j).x=(at' ps k).x):=hxx;clear hxx;go_wp2
                      refine wp_region_quiet_lit (by kernel_rfl) (by kernel_rfl) ?_
                      repeat (go_big_quiet_step (fail))
                      refine wpQuiet_nil ?_;rintro _ ⟨nq,rfl⟩;go_wp2
                      exact ⟨⟨j+1,by omega,by go_num,HY.out.drewN _,fun q hq=>if e:q=j then by rw [e,SM.out];simp [HXX.out] else HB.out q (by omega)⟩,by simp [intOf];omega⟩
                  · have HPT : Hid (pRound ps k = true) := by
                      show pRound ps k=true
                      rw [PR.out,HO.out,HAS.out,allB_true fun q hq=>HB.out q (by omega)];rfl
                    go_wp2
                    exact ⟨⟨k+1,by omega,by go_num,HY.out,fun q hq=>if e:q=k then by rw [e];exact HPT.out else HA.out q (by omega)⟩,by simp [intOf];omega⟩
            · have hg:decide (0<k)=false:=by simp;omega
              go_wp2
              refine wp_region_later (by kernel_rfl) (by kernel_rfl) ?_
              repeat (go_big_quiet_step (exact GO.out _ HO _))
              refine wpQuiet_nil ?_;rintro _ ⟨x,rfl⟩;go_wp2
              have HAS:Hid (ascB ps k=true):=by
                show ascB ps k=true
                obtain rfl:k=0:=by omega
                exact asc_zero ps
              have hy0:Boxed w x.val (.slice ak ks.length ck) (.slice (some ⟨b,off,none⟩) ps.length cp):=HX.out.call x.below;have HY0:Hid (Boxed w x.val (.slice ak ks.length ck) (.slice (some ⟨b,off,none⟩) ps.length cp)):=hy0;clear hy0 GO HX x0 x1 xz d0 d1 d2 hbl hne
              go_loopw [5] (fun i wr=>∃ j:Nat,j≤k∧i=.int .i64 j∧Boxed w wr (.slice ak ks.length ck) (.slice (some ⟨b,off,none⟩) ps.length cp)∧Hid (∀ q,q<j→(!sameB (at' ps q) (at' ps k))=true)) (fun i _=>k-(intOf i).toNat)
              case atStart=>exact ⟨0,Nat.zero_le _,rfl,HY0.out,fun j hj=>absurd hj (Nat.not_lt_zero _)⟩
              case round =>
                clear HY0;obtain ⟨j,hj,rfl,hy,HB⟩:=hrel;have y0:=hy.c0;have y1:=hy.c1;have yz:=hy.big;have HY:Hid (Boxed w wr (.slice ak ks.length ck) (.slice (some ⟨b,off,none⟩) ps.length cp)):=hy;clear hy
                by_cases hjk:j<k
                · exact absurd hjk (by omega)
                · have HPT : Hid (pRound ps k = true) := by
                    show pRound ps k=true
                    rw [PR.out,HO.out,HAS.out,allB_true fun q hq=>HB.out q (by omega)];rfl
                  go_wp2
                  exact ⟨⟨k+1,by omega,by go_num,HY.out,fun q hq=>if e:q=k then by rw [e];exact HPT.out else HA.out q (by omega)⟩,by simp [intOf];omega⟩
        · go_wp2
          go_ret
          exact ⟨ret_bool (by rw [HKT.out,HBP.out,allB_true fun j hj=>HA.out j (by omega)];rfl),HX.out.below⟩
end Go.Proofs.YtbjmgglpiakgdaaGreatDoor
namespace Go.Proofs.YtbjmgglpiakgdaaGreatDoor
open Go.RowKit
attribute [local go_sem] Later.cell Later.frozen
theorem ret_boolS {a b:Bool} (h:a=b):Ending.returned (.bool a)=.returned (.bool b):=by rw [h]
def triEq (a b:Tri):Bool:=(a.s.toList==b.s.toList)&&((a.x==b.x)&&(a.y==b.y))
def sameT (l m:List Tri):Bool:=(l.length==m.length)&&allB l.length fun i=>triEq (at' l i) (at' m i)
theorem sameT_stop {l m:List Tri} {k:Nat} (hk:k<l.length) (h:triEq (at' l k) (at' m k)=false):sameT l m=false:=by
 unfold sameT
 cases ha:allB l.length fun i=>triEq (at' l i) (at' m i)
 ·simp
 ·have:=allB_get ha k hk
  rw [h] at this
  cases this
theorem sameT_len {l m:List Tri} (h:¬ l.length=m.length):sameT l m=false:=by simp [sameT,h]
theorem sameT_all {l m:List Tri} (h:l.length=m.length) (ha:∀ i,i<l.length→triEq (at' l i) (at' m i)=true):sameT l m=true:=by
 unfold sameT;rw [allB_true ha,h]
 simp
theorem triEq_cases (a b:Tri):(triEq a b=true∧(a.s.toList==b.s.toList)=true∧(a.x==b.x)=true∧(a.y==b.y)=true)∨(triEq a b=false∧((a.s.toList==b.s.toList)=false∨((a.s.toList==b.s.toList)=true∧(a.x==b.x)=false)∨((a.s.toList==b.s.toList)=true∧(a.x==b.x)=true∧(a.y==b.y)=false))):=by
 unfold triEq
 cases (a.s.toList==b.s.toList) <;> cases (a.x==b.x) <;> cases (a.y==b.y) <;> simp
def sameBs (ks ks' ps ps':List Tri):Bool:=sameT ks ks'&&sameT ps ps'
end Go.Proofs.YtbjmgglpiakgdaaGreatDoor
