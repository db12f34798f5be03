import Derived.Test.YtcmgddnckohdaaaGreatDoorRead1
import Derived.Test.YtcmgddnckohdaaaGreatDoorMark3
import Derived.Test.YtcmgddnckohdaaaGreatDoorBuild0
import Derived.Deep.AppendLies
set_option maxRecDepth 100000
set_option maxHeartbeats 12800000
set_option linter.unusedSimpArgs false
set_option linter.unusedVariables false
namespace Go.Proofs.YtcmgddnckohdaaaGreatDoor
open Go.RowKit
attribute [local go_sem] Later.cell Later.frozen
def fq:ByteArray:=⟨#[112,111,105,110,116]⟩
def Ib:ByteArray:=⟨#[10]⟩
def dC (word:ByteArray) (t:dx):ByteArray:=cat (cat (cat (cat (cat (cat word jD) t.s) jD) (dW t.x.toNat)) jD) (dW t.y.toNat)
structure CG (word:ByteArray) (t:dx):Prop where
 a0:Small word
 a1:Small jD
 a2:Small (cat word jD)
 a3:Small t.s
 a4:Small (cat (cat word jD) t.s)
 a5:Small (cat (cat (cat word jD) t.s) jD)
 a6:Small (dW t.x.toNat)
 a7:Small (cat (cat (cat (cat word jD) t.s) jD) (dW t.x.toNat))
 a8:Small (cat (cat (cat (cat (cat word jD) t.s) jD) (dW t.x.toNat)) jD)
 a9:Small (dW t.y.toNat)
theorem nu {word:ByteArray} {t:dx} (hw:word.size≤5) (hx:t.x.toNat<10000000) (hy:t.y.toNat<10000000):(dC word t).size≤t.s.size+22:=by
 have h2:jD.size=1:=rfl;have h3:=aR t.x.toNat hx;have h4:=aR t.y.toNat hy;unfold dC
 simp only [mP]
 omega
theorem CG.of {word:ByteArray} {t:dx} (hw:word.size≤5) (hs:t.s.size≤1048576) (hx:t.x.toNat<10000000) (hy:t.y.toNat<10000000):CG word t:=by
 have h2:jD.size=1:=rfl;have h3:=aR t.x.toNat hx;have h4:=aR t.y.toNat hy
 constructor <;> unfold Small <;> (try simp only [mP]) <;> omega
theorem qp (word:ByteArray) (t:dx) (w:World) (hw:word.size≤5) (hs:t.s.size≤1048576) (hx0:0≤t.x) (hy0:0≤t.y) (hx:t.x<10000000) (hy:t.y<10000000) (ht:Lib.TabIs Tryz.prog w "internal/strconv.uint64pow10" .u64 Lib.pow10Tab) :
  Calls Tryz.prog 36 #[.string word,.string t.s,.int .i64 t.x,.int .i64 t.y] w fun e w'=>e=.returned (.string (dC word t))∧Below w.heap.size w w':=by
 have SM:=CG.of (word:=word) (t:=t) hw hs (by omega) (by omega)
 have HT:Hid (Lib.TabIs Tryz.prog w "internal/strconv.uint64pow10" .u64 Lib.pow10Tab):=ht;clear ht;have hadd:=pV Tryz.prog;obtain ⟨s0,s1,s2,s3,s4,s5,s6,s7,s8,s9⟩:=SM;have HF:Hid (dC word t=cat (cat (cat (cat (cat (cat word jD) t.s) jD) (dW t.x.toNat)) jD) (dW t.y.toNat)):=rfl
 simp only [jD] at s1 s2 s4 s5 s7 s8
 go_enter Tryz.func36,Tryz.ntmps36
 go_wp2_with fail
 refine (yw t.x hx0 (by omega) _ HT.out).mono ?_
 rintro e w1 ⟨rfl,hb1⟩;have HB1:Hid (Below w.heap.size w w1):=hb1;clear hb1;go_wp2_with fail
 refine (yw t.y hy0 (by omega) _ (mi HT.out HB1.out)).mono ?_
 rintro e w2 ⟨rfl,hb2⟩;have HB2:Hid (Below w.heap.size w w2):=aa HB1.out hb2;clear hb2;go_wp2;go_ret;exact ⟨rfl,HB2.out⟩
def nL (w:World) (v:Value) (l:List ByteArray):Prop :=
 ∃ a cap,v=.slice a l.length cap∧l.length≤cap∧cap≤maxLen∧∀ i s,l[i]?=some s→∃ g off,a=some ⟨g,off,none⟩∧w.cell? ⟨g,off+i,none⟩=some (.string s)
theorem nL.keep {w w':World} {v:Value} {l:List ByteArray} (h:nL w v l) (hb:Below w.heap.size w w'):nL w' v l:=by
 obtain ⟨a,cap,rfl,h1,h2,h3⟩:=h;refine ⟨a,cap,rfl,h1,h2,fun i s hs=>?_⟩;obtain ⟨g,off,ha,hc⟩:=h3 i s hs;exact ⟨g,off,ha,ag hb aG hc⟩
theorem Bd {w:World} {base:Nat} {e:TypeId} {v:Value} {ws:List ByteArray} (h:w.ownsRow base e 1 v ws.length (ws.map Value.string)):nL w v ws:=by
 by_cases hne:ws=[]
 ·subst hne
  rcases h.2 with ⟨rfl,h0⟩ | ⟨g,cap,cur,rfl,_,hb,hn,hc,_,ht⟩
  ·exact ⟨none,0,rfl,Nat.le_refl _,Nat.zero_le _,fun i s hs=>by simp at hs⟩
  ·exact ⟨_,cap,rfl,hn,hc,fun i s hs=>by simp at hs⟩
 ·obtain ⟨g,off,cap,rfl,h1,h2,h3⟩:=bO h hne
  exact ⟨_,cap,rfl,h1,h2,fun i s hs=>⟨g,off,rfl,h3 i s hs⟩⟩
def joinL:List ByteArray→List UInt8
 | []=>[]
 | s::r=>(bytes s++[10])++joinL r
theorem bM (a b:List ByteArray):joinL (a++b)=joinL a++joinL b:=by
 induction a with
 | nil=>rfl
 | cons x a ih=>simp only [List.cons_append,joinL,ih,List.append_assoc]
theorem yu {l:List ByteArray} {k:Nat} (h:k<l.length):joinL (l.take (k+1))=joinL (l.take k)++(bytes (dE l k)++[10]):=by
 rw [List.take_succ_eq_append_getElem h,bM]
 have:dE l k=l[k]:=by simp [dE,h]
 rw [this]
 simp [joinL]
theorem Lx (l:List ByteArray) (k:Nat):(joinL (l.take k)).length≤(joinL l).length:=by
 conv=>rhs;rw [← List.take_append_drop k l,bM,List.length_append]
 omega
theorem FW (v:Value) (l:List ByteArray) (w:World) (hv:nL w v l) (hl:(joinL l).length≤70368744177664) :
  Calls Tryz.prog 39 #[v] w fun e w'=>e=.returned (.string ⟨(joinL l).toArray⟩)∧Below w.heap.size w w':=by
 have HV:Hid (nL w v l):=hv;obtain ⟨a,cap,rfl,hlc,hcm,-⟩:=hv;unfold maxLen at hcm;have HI0:Hid (Lib.IsBuilder 113 5 w.heap.size w.heap.size [] (w.alloc (.cells #[.pointer none,.slice none 0 0] 113))):=Lib.fresh_isBuilder _ _ w
 go_enter Tryz.func39,Tryz.ntmps39
 go_wp2
 go_loopw [8] (fun i wr=>∃ k:Nat,k≤l.length∧i=.int .i64 k∧Below w.heap.size w wr∧Hid (Lib.IsBuilder 113 5 w.heap.size w.heap.size (Lib.byteCells (joinL (l.take k))) wr)) (fun i _=>l.length-(intOf i).toNat)
 case atStart=>exact ⟨0,Nat.zero_le _,rfl,(aM),HI0.out⟩
 case round =>
  obtain ⟨k,hk,rfl,hb,HI⟩:=hrel
  by_cases hlt:k<l.length
  ·obtain ⟨_,_,hsl,_,_,hc⟩:=HV.out.keep hb
   cases hsl
   obtain ⟨g,off,rfl,d0⟩:=hc k _ (bA hlt)
   have hk0:(0:Int)≤(k:Int):=by omega
   have hk1:(k:Int)<(l.length:Int):=by omega
   have hj1:(joinL (l.take (k+1))).length≤(joinL l).length:=Lx l _;rw [yu hlt,List.length_append,List.length_append,List.length_singleton] at hj1;rw [aK] at hj1;have HN:Hid (joinL (l.take (k+1))=joinL (l.take k)++(bytes (dE l k)++[10])):=yu hlt;generalize dE l k=s at *;generalize joinL (l.take k)=J at *;clear hc;go_wp2_with fail
   refine (nP w.heap.size w.heap.size (Lib.byteCells J) s _ HI.out (by rw [Lib.byteCells_length];omega) hb.size).mono ?_
   rintro e w1 ⟨rfl,h1,b1⟩;have hb1:Below w.heap.size w w1:=hb.trans b1;go_wp2_with fail
   refine (nP w.heap.size w.heap.size _ Ib _ (Or.inr h1) (by rw [List.length_append,Lib.byteCells_length,Lib.strCells_length];have:Ib.size=1:=rfl;omega) hb1.size).mono ?_
   rintro e w2 ⟨rfl,h2,b2⟩
   have HI2:Hid (Lib.IsBuilder 113 5 w.heap.size w.heap.size (Lib.byteCells (joinL (l.take (k+1)))) w2):=by
    rw [HN.out,Lib.byteCells_append,Lib.byteCells_append];rw [Lib.strCells_eq,Lib.strCells_eq,List.append_assoc] at h2;exact Or.inr h2
   go_wp2
   exact ⟨⟨k+1,by omega,by go_num,hb1.trans b2,HI2.out⟩,by simp [intOf];omega⟩
  ·have HI2:Hid (Lib.IsBuilder 113 5 w.heap.size w.heap.size (Lib.byteCells (joinL l)) wr):=by
    have:=HI.out
    rw [List.take_of_length_le (by omega)] at this
    exact this
   go_wp2_with fail;refine (Tryz.Builder_String_any w.heap.size w.heap.size (joinL l) _ HI2.out hb.size).mono ?_;rintro e w1 ⟨rfl,b1⟩;go_wp2;go_ret;exact ⟨rfl,hb.trans b1⟩
end Go.Proofs.YtcmgddnckohdaaaGreatDoor
namespace Go.Proofs.YtcmgddnckohdaaaGreatDoor
open Go.RowKit
attribute [local go_sem] Later.cell Later.frozen
def jR (ks:List dx):List ByteArray:=ks.map (dC dY)
def jQ (ps:List dx):List ByteArray:=ps.map (dC fq)
def kC (cs:List dP):List ByteArray:=cs.map dR
def fG (ks ps:List dx) (cs:List dP):List ByteArray:=jR ks++jQ ps++kC cs
theorem pz {α β:Type} (f:α→β) (l:List α) (k:Nat) (x:α) (h:l[k]?=some x):(l.take (k+1)).map f=(l.take k).map f++[f x]:=by
 obtain ⟨hk,rfl⟩:=List.getElem?_eq_some_iff.1 h;rw [List.take_succ_eq_append_getElem hk,List.map_append];rfl
structure jd (t:dx):Prop where
 s:t.s.size≤1048576
 x0:0≤t.x
 x1:t.x<10000000
 y0:0≤t.y
 y1:t.y<10000000
theorem Io {s:ByteArray} (h:dD s=true):s.size≤8:=by
 unfold dD eB at h
 simp at h
 omega
theorem Ed {l:List dx} {m:Nat} (h:eO l m=true):∀ i,i<l.length→dD (at' l i).s=true:=fun i hi=>by
 unfold eO at h;rw [Bool.and_eq_true] at h;have:=bH h.2 i hi;rw [Bool.and_eq_true] at this;exact this.1
theorem yl {ks:List dx} (h:dM ks=true):∀ i,i<ks.length→jd (at' ks i):=fun i hi=>by
 unfold dM at h;rw [Bool.and_eq_true] at h;have h1:=Io (Ed h.1 i hi);have h2:=bH h.2 i hi;unfold gI at h2
 simp at h2
 exact ⟨by omega,by omega,by omega,by omega,by omega⟩
theorem vg {ps:List dx} (h:dH ps=true):∀ i,i<ps.length→jd (at' ps i):=fun i hi=>by
 unfold dH at h;rw [Bool.and_eq_true] at h;have h1:=Io (Ed h.1 i hi);have h2:=bH h.2 i hi;rw [Bool.and_eq_true] at h2;have h3:=h2.1;unfold eQ eB at h3
 simp at h3
 exact ⟨by omega,by omega,by omega,by omega,by omega⟩
theorem EB {l:List ByteArray} {M:Nat} (h:∀ s∈l,s.size+1≤M):(joinL l).length≤l.length*M:=by
 induction l with
 | nil=>simp [joinL]
 | cons a l ih =>
  have h1:=h a (by simp)
  have h2:=ih fun s hs=>h s (by simp [hs])
  simp only [joinL,List.length_append,List.length_singleton,List.length_cons,List.length_nil,aK]
  rw [Nat.add_mul,Nat.one_mul]
  omega
theorem rG {c:dP} (hf:c.f.size≤1048576) (hv:c.v.size≤1048576):(dR c).size+1≤3000000:=by
 unfold dR
 cases h:gm c
 ·show 0+1≤3000000
  omega
 ·have hn:eB c.num 1 1000000=true:=by
   unfold gm at h
   simp only [Bool.and_eq_true] at h
   exact h.2.2.1
  have h1:qL.size=4:=rfl;have h2:jD.size=1:=rfl;have h3:=CZ c.what
  have h4:=aR c.num.toNat (by simp [eB] at hn;omega)
  simp only [cond_true,gB,mP]
  omega
theorem yR {ks ps:List dx} {es:List dU} (h:ic ks ps es):∀ c∈dh es,c.f.size≤1048576∧c.v.size≤1048576:=fun c hc=>by
 unfold dh at hc;rw [List.mem_flatMap] at hc;obtain ⟨e,he,hc⟩:=hc;rw [List.mem_map] at hc;obtain ⟨f,hf,rfl⟩:=hc;exact ⟨h.n e he,h.v e he f hf⟩
theorem Ef {word:ByteArray} {t:dx} (hw:word.size≤5) (h:jd t):(dC word t).size+1≤3000000:=by
 have h0:=h.x0;have h1:=h.x1;have h2:=h.y0;have h3:=h.y1;have h4:=h.s
 have:=nu (word:=word) (t:=t) hw (by omega) (by omega)
 omega
theorem Le {l:List dx} {t:dx} (h:t∈l):∃ i,i<l.length∧at' l i=t:=by
 obtain ⟨i,hi,rfl⟩:=List.getElem_of_mem h
 exact ⟨i,hi,by simp [at',hi]⟩
theorem Jq {ks ps:List dx} {es:List dU} (hk:∀ i,i<ks.length→jd (at' ks i)) (hp:∀ i,i<ps.length→jd (at' ps i)) (hs:ic ks ps es):∀ s∈fG ks ps (dh es),s.size+1≤3000000:=fun s h=>by
 unfold fG at h;rw [List.mem_append,List.mem_append] at h
 rcases h with (h | h) | h
 ·obtain ⟨t,ht,rfl⟩:=List.mem_map.1 h
  obtain ⟨i,hi,rfl⟩:=Le ht
  exact Ef (by decide) (hk i hi)
 ·obtain ⟨t,ht,rfl⟩:=List.mem_map.1 h
  obtain ⟨i,hi,rfl⟩:=Le ht
  exact Ef (by decide) (hp i hi)
 ·obtain ⟨c,hc,rfl⟩:=List.mem_map.1 h
  have:=yR hs c hc;exact rG this.1 this.2
theorem su {ks ps:List dx} {es:List dU} (hk:∀ i,i<ks.length→jd (at' ks i)) (hp:∀ i,i<ps.length→jd (at' ps i)) (hs:ic ks ps es) (hl:(dh es).length≤1048576):(joinL (fG ks ps (dh es))).length≤70368744177664:=by
 refine Nat.le_trans (EB (Jq hk hp hs)) ?_;have h1:=hs.k;have h2:=hs.p
 have:(fG ks ps (dh es)).length≤3145728:=by
  unfold fG jR jQ kC
  simp only [List.length_append,List.length_map]
  omega
 have:=Nat.mul_le_mul_right 3000000 this
 omega
def fU (ks ps:List dx) (es:List dU):ByteArray:=bif dJ ks ps es then ⟨(joinL (fG ks ps (dh es))).toArray⟩ else ⟨#[]⟩
def fQ (w:World) (base:Nat) (v:Value) (l:List ByteArray):Prop:=w.ownsRow base 9 1 v l.length (l.map Value.string)
end Go.Proofs.YtcmgddnckohdaaaGreatDoor
namespace Go.Proofs.YtcmgddnckohdaaaGreatDoor
open Go.RowKit
attribute [local go_sem] Later.cell Later.frozen
def rO:ByteArray:=⟨#[107,105,110,100,32]⟩
def om:ByteArray:=⟨#[112,111,105,110,116,32]⟩
def stepT (word out:ByteArray) (t:dx):ByteArray:=cat (cat (cat (cat (cat (cat (cat out word) t.s) jD) (dW t.x.toNat)) jD) (dW t.y.toNat)) Ib
def KO (out:ByteArray) (c:dP):ByteArray:=cat (cat out (dR c)) Ib
def zl (l:List ByteArray):ByteArray:=⟨(joinL l).toArray⟩
theorem rq (a b:ByteArray):bytes (cat a b)=bytes a++bytes b:=by simp [bytes,cat]
theorem pO (l:List ByteArray):bytes (zl l)=joinL l:=by simp [bytes,zl]
theorem xL (l:List ByteArray):(zl l).size=(joinL l).length:=by rw [← aK,pO]
theorem KM (l:List ByteArray) (t:dx):stepT rO (zl l) t=zl (l++[dC dY t]):=by
 refine bq ?_;have e:bytes rO=bytes dY++bytes jD:=rfl;have e2:bytes Ib=[10]:=rfl
 simp only [stepT,dC,rq,pO,bM,joinL,e,e2,List.append_assoc,List.append_nil]
theorem KL (l:List ByteArray) (t:dx):stepT om (zl l) t=zl (l++[dC fq t]):=by
 refine bq ?_;have e:bytes om=bytes fq++bytes jD:=rfl;have e2:bytes Ib=[10]:=rfl
 simp only [stepT,dC,rq,pO,bM,joinL,e,e2,List.append_assoc,List.append_nil]
theorem KN (l:List ByteArray) (c:dP):KO (zl l) c=zl (l++[dR c]):=by
 refine bq ?_;have e2:bytes Ib=[10]:=rfl
 simp only [KO,rq,pO,bM,joinL,e2,List.append_assoc,List.append_nil]
structure wF (word out:ByteArray) (t:dx):Prop where
 a0:Small out
 a1:Small word
 a2:Small (cat out word)
 a3:Small t.s
 a4:Small (cat (cat out word) t.s)
 a5:Small jD
 a6:Small (cat (cat (cat out word) t.s) jD)
 a7:Small (dW t.x.toNat)
 a8:Small (cat (cat (cat (cat out word) t.s) jD) (dW t.x.toNat))
 a9:Small (cat (cat (cat (cat (cat out word) t.s) jD) (dW t.x.toNat)) jD)
 aA:Small (dW t.y.toNat)
 aB:Small (cat (cat (cat (cat (cat (cat out word) t.s) jD) (dW t.x.toNat)) jD) (dW t.y.toNat))
 aC:Small Ib
theorem wF.of {word out:ByteArray} {t:dx} (hw:word.size≤6) (ho:out.size≤70368744177664) (h:jd t):wF word out t:=by
 have h0:=h.x0;have h1:=h.x1;have h2:=h.y0;have h3:=h.y1;have h4:=h.s;have e2:jD.size=1:=rfl;have e5:Ib.size=1:=rfl
 have e3:=aR t.x.toNat (by omega)
 have e4:=aR t.y.toNat (by omega)
 constructor <;> unfold Small <;> (try simp only [mP]) <;> omega
theorem GY (es:List dU) (k:Nat):dh es=dh (es.take k)++dh (es.drop k):=by
 unfold dh;rw [← List.flatMap_append,List.take_append_drop]
theorem Jf {full P R:List ByteArray} (h:(joinL full).length≤70368744177664) (e:full=P++R):(zl P).size≤70368744177664:=by
 rw [xL];rw [e,bM,List.length_append] at h
 omega
theorem small_c {out f:ByteArray} (ho:out.size≤70368744177664) (hf:f.size+1≤3000000):Small out∧Small f∧Small (cat out f)∧Small Ib:=by
 have e5:Ib.size=1:=rfl
 refine ⟨?_,?_,?_,?_⟩ <;> unfold Small <;> (try simp only [mP]) <;> omega
theorem Ba {P:Prop} (h:P):Hid P:=h
theorem zx (vk vp ve:Value) (ks ps:List dx) (es:List dU) (w:World) (hB:dI w vk vp ve ks ps es) (nB:jU ks ps es) (sB:ic ks ps es) (hsz:jC (fun e=>e.fs.length) es≤1048576) :
  Calls Tryz.prog 14 #[.agg #[vk,vp,ve]] w fun e w'=>e=.returned (.string (fU ks ps es))∧Below w.heap.size w w':=by
 have HB:Hid (dI w vk vp ve ks ps es):=hB;have NB:Hid (jU ks ps es):=nB;have SB:Hid (ic ks ps es):=sB
 have FC:Hid ((dh es).length≤1048576):=by
  show (dh es).length≤1048576
  rw [lC];exact hsz
 have lk:=sB.k;have lp:=sB.p;have le:=sB.e;obtain ⟨⟨ak,ck,rfl,hk1,hk2,hk3⟩,⟨ap,cp,rfl,hp1,hp2,hp3⟩,⟨ae,ce,rfl,he1,he2,he3⟩⟩:=hB;unfold maxLen at hk2 hp2 he2;have HKA:Hid (∀ i t,ks[i]?=some t→∃ b off,ak=some ⟨b,off,none⟩∧gX w b (off+i*3) t):=hk3;have HPA:Hid (∀ i t,ps[i]?=some t→∃ b off,ap=some ⟨b,off,none⟩∧gX w b (off+i*3) t):=hp3;have HEA:Hid (∀ i e,es[i]?=some e→∃ b off,ae=some ⟨b,off,none⟩∧lH w b (off+i*2) e):=he3;clear hk3 hp3 he3 nB sB;have HX0:Hid (OwnAt w (w.alloc (.cells #[.slice ak ks.length ck,.slice ap ps.length cp,.slice ae es.length ce] 30)) [[.slice ak ks.length ck,.slice ap ps.length cp,.slice ae es.length ce]]):=(OwnAt.start w).push rfl _ _
 go_enter Tryz.func14,Tryz.ntmps14
 go_wp2_with fail;refine (lg _ _ _ ks ps es _ (HB.out.keep HX0.out.below) NB.out SB.out).mono ?_;rintro e w1 ⟨rfl,hb1⟩;have jG:Hid (OwnAt w w1 _):=HX0.out.call hb1
 have Hr:Hid (w1.heap[w.heap.size]?=some (.cells #[.slice ak ks.length ck,.slice ap ps.length cp,.slice ae es.length ce] 30 (0,0))):=(hb1.block _ (by simp)).trans (by show (w.heap.push _)[w.heap.size]?=_;simp)
 clear HX0 hb1
 cases hbb:dJ ks ps es
 ·have HE:Hid (fU ks ps es=⟨#[]⟩):=by show fU ks ps es=_;unfold fU;rw [hbb];rfl
  clear hbb;go_wp2;go_ret;exact ⟨rP HE.out.symm,jG.out.below⟩
 have HE:Hid (fU ks ps es=zl (fG ks ps (dh es))):=by show fU ks ps es=_;unfold fU;rw [hbb];rfl
 have HLK:Hid (∀ i,i<ks.length→jd (at' ks i)):=by
  unfold dJ eF at hbb
  simp only [Bool.and_eq_true] at hbb
  exact yl hbb.1.1
 have HLP:Hid (∀ i,i<ps.length→jd (at' ps i)):=by
  unfold dJ eF at hbb
  simp only [Bool.and_eq_true] at hbb
  exact vg hbb.1.2
 have ML:Hid ((joinL (fG ks ps (dh es))).length≤70368744177664):=su HLK.out HLP.out SB.out FC.out;clear hbb;obtain ⟨bx,hbx⟩:∃ bx:Obj,bx=.cells #[.slice ak ks.length ck,.slice ap ps.length cp,.slice ae es.length ce] 30 (0,0):=⟨_,rfl⟩;have FD:Hid (bx=.cells #[.slice ak ks.length ck,.slice ap ps.length cp,.slice ae es.length ce] 30 (0,0)):=hbx;rw [← hbx] at Hr;clear hbx;have hadd:=pV Tryz.prog
 -- GENERATED
 have HI0:Hid (Below w.heap.size w w1∧w1.heap[w.heap.size]?=some bx):=⟨jG.out.below,Hr.out⟩;have HZ0:Hid ((⟨#[]⟩:ByteArray)=zl []):=rfl;clear jG Hr;go_wp2
 go_loopw [3,4,5] (fun o i _ wr=>∃ (k:Nat) (z:ByteArray),k≤ks.length∧i=.int .i64 k∧o=.string z∧Hid (z=zl ((ks.take k).map (dC dY)))∧Hid (Below w.heap.size w wr∧wr.heap[w.heap.size]?=some bx)) (fun _ i _ _=>ks.length-(intOf i).toNat)
 case atStart=>exact ⟨0,_,Nat.zero_le _,rfl,rfl,Ba (by simpa using HZ0.out),HI0⟩
 case round =>
  clear HI0 HZ0;obtain ⟨k,z,hk,rfl,rfl,HZ,HI⟩:=hrel
  have y0:wr.cell? ⟨w.heap.size,0,none⟩=some (.slice ak ks.length ck):=by have h:=HI.out.2;rw [FD.out] at h;simp [World.cell?,h]
  have y1:wr.cell? ⟨w.heap.size,1,none⟩=some (.slice ap ps.length cp):=by have h:=HI.out.2;rw [FD.out] at h;simp [World.cell?,h]
  have y2:wr.cell? ⟨w.heap.size,2,none⟩=some (.slice ae es.length ce):=by have h:=HI.out.2;rw [FD.out] at h;simp [World.cell?,h]
  have IA:w.heap.size<wr.heap.size:=(Array.getElem?_eq_some_iff.1 HI.out.2).1
  by_cases hlt:k<ks.length
  ·obtain ⟨b,off,hab,hc⟩:=HKA.out k _ (bo hlt)
   obtain ⟨d0,d1,d2⟩:=hc.keep HI.out.1 aG;have ze:Hid (jd (at' ks k)):=HLK.out k hlt
   have hzs:z.size≤70368744177664:=by
    rw [HZ.out,xL];have h:=ML.out
    have e:fG ks ps (dh es)=((ks.take k).map (dC dY))++((ks.drop k).map (dC dY)++(ps.map (dC fq)++(dh es).map dR)):=by
     have h2:ks.map (dC dY)=(ks.take k).map (dC dY)++(ks.drop k).map (dC dY):=by rw [← List.map_append,List.take_append_drop]
     simp only [fG,jR,jQ,kC,List.append_assoc]
     rw [h2]
     simp only [List.append_assoc]
    rw [e,bM,List.length_append] at h
    omega
   have HZN:Hid (stepT rO z (at' ks k)=zl ((ks.take (k+1)).map (dC dY))):=by
    show _=_
    rw [HZ.out,KM,pz _ ks k _ (bo hlt)]
    skip
   clear HZ;generalize at' ks k=t at *;obtain rfl:=hab;clear hc
   obtain ⟨s0,s1,s2,s3,s4,s5,s6,s7,s8,s9,sA,sB,sC⟩:=wF.of (word:=rO) (out:=z) (t:=t) (by decide) hzs ze.out
   simp only [jD,rO,Ib] at s0 s1 s2 s3 s4 s5 s6 s7 s8 s9 sA sB sC
   have hk0:(0:Int)≤(k:Int):=by omega
   have hk1:(k:Int)<(ks.length:Int):=by omega
   have sI:(wr.alloc (.cells #[.string t.s,.int .i64 t.x,.int .i64 t.y] 69)).heap[wr.heap.size]?=some (.cells #[.string t.s,.int .i64 t.x,.int .i64 t.y] 69):=by show (wr.heap.push _)[wr.heap.size]?=_;simp
   have qE:Hid (Below w.heap.size w (wr.alloc (.cells #[.string t.s,.int .i64 t.x,.int .i64 t.y] 69))∧(wr.alloc (.cells #[.string t.s,.int .i64 t.x,.int .i64 t.y] 69)).heap[w.heap.size]?=some bx∧(wr.alloc (.cells #[.string t.s,.int .i64 t.x,.int .i64 t.y] 69)).cell? ⟨wr.heap.size,0,none⟩=some (.string t.s)∧(wr.alloc (.cells #[.string t.s,.int .i64 t.x,.int .i64 t.y] 69)).cell? ⟨wr.heap.size,1,none⟩=some (.int .i64 t.x)∧(wr.alloc (.cells #[.string t.s,.int .i64 t.x,.int .i64 t.y] 69)).cell? ⟨wr.heap.size,2,none⟩=some (.int .i64 t.y)):=⟨HI.out.1.alloc HI.out.1.size _,(Below.heap_alloc _ _ _ IA).trans HI.out.2,by simp only [World.cell?,sI];rfl,by simp only [World.cell?,sI];rfl,by simp only [World.cell?,sI];rfl⟩
   clear sI;go_wp2;generalize wr.alloc (.cells #[.string t.s,.int .i64 t.x,.int .i64 t.y] 69)=wy at *;generalize wr.heap.size=X at *;obtain ⟨c0,c1,c2⟩:=qE.out.2.2;have zc:=av c0;have hx0:=ze.out.x0;have hx1:=ze.out.x1;have hy0:=ze.out.y0;have hy1:=ze.out.y1
   have GO:Hid (∀ (x:Later wy) (n:Int),0≤n→n<10000000→Calls Tryz.prog 45 #[.int .i64 n] x.val fun e w''=>e=.returned (.string (dW n.toNat))∧∃ y:Later wy,w''=y.val):=fun x n h0 h1=>Calls.later (by
    have h:=bv n.toNat (by omega) x.val
    rw [Int.toNat_of_nonneg h0] at h
    exact h)
   have hne:=Later.some wy
   refine au (by kernel_rfl) (by kernel_rfl) ?_
   repeat (go_big_quiet_step (exact GO.out _ _ (by assumption) (by assumption)))
   refine wpQuiet_nil ?_;rintro _ ⟨x,rfl⟩;have HI2:Hid (Below w.heap.size w x.val∧x.val.heap[w.heap.size]?=some bx):=⟨aa qE.out.1 x.below,(x.below.block _ (Array.getElem?_eq_some_iff.1 qE.out.2.1).1).trans qE.out.2.1⟩;clear qE c0 c1 c2 zc GO d0 d1 d2 y0 y1 y2;go_wp2
   exact ⟨⟨k+1,_,by omega,by go_num,rfl,HZN,HI2⟩,by simp [intOf];omega⟩
  ·have HZ1:Hid (z=zl (ks.map (dC dY))):=by
    have:=HZ.out
    rw [List.take_of_length_le (by omega)] at this
    exact this
   have HI1:Hid (Below w.heap.size w wr∧wr.heap[w.heap.size]?=some bx):=HI.out;clear HI HZ;go_wp2;clear y0 y1 y2
   go_loopw [3,6,7] (fun o i _ wr=>∃ (k:Nat) (z:ByteArray),k≤ps.length∧i=.int .i64 k∧o=.string z∧Hid (z=zl (ks.map (dC dY)++(ps.take k).map (dC fq)))∧Hid (Below w.heap.size w wr∧wr.heap[w.heap.size]?=some bx)) (fun _ i _ _=>ps.length-(intOf i).toNat)
   case atStart=>exact ⟨0,_,Nat.zero_le _,rfl,rfl,Ba (by simpa using HZ1.out),HI1⟩
   case round =>
    clear HI1 HZ1;obtain ⟨k,z,hk,rfl,rfl,HZ,HI⟩:=hrel
    have y0:wr.cell? ⟨w.heap.size,0,none⟩=some (.slice ak ks.length ck):=by have h:=HI.out.2;rw [FD.out] at h;simp [World.cell?,h]
    have y1:wr.cell? ⟨w.heap.size,1,none⟩=some (.slice ap ps.length cp):=by have h:=HI.out.2;rw [FD.out] at h;simp [World.cell?,h]
    have y2:wr.cell? ⟨w.heap.size,2,none⟩=some (.slice ae es.length ce):=by have h:=HI.out.2;rw [FD.out] at h;simp [World.cell?,h]
    have IA:w.heap.size<wr.heap.size:=(Array.getElem?_eq_some_iff.1 HI.out.2).1
    by_cases hlt:k<ps.length
    ·obtain ⟨b,off,hab,hc⟩:=HPA.out k _ (bo hlt)
     obtain ⟨d0,d1,d2⟩:=hc.keep HI.out.1 aG;have ze:Hid (jd (at' ps k)):=HLP.out k hlt
     have hzs:z.size≤70368744177664:=by
      rw [HZ.out,xL];have h:=ML.out
      have e:fG ks ps (dh es)=(ks.map (dC dY)++(ps.take k).map (dC fq))++((ps.drop k).map (dC fq)++((dh es).map dR)):=by
       have h2:ps.map (dC fq)=(ps.take k).map (dC fq)++(ps.drop k).map (dC fq):=by rw [← List.map_append,List.take_append_drop]
       simp only [fG,jR,jQ,kC,List.append_assoc]
       rw [h2]
       simp only [List.append_assoc]
      rw [e,bM,List.length_append] at h
      omega
     have HZN:Hid (stepT om z (at' ps k)=zl (ks.map (dC dY)++(ps.take (k+1)).map (dC fq))):=by
      show _=_
      rw [HZ.out,KL,pz _ ps k _ (bo hlt)]
      simp
     clear HZ;generalize at' ps k=t at *;obtain rfl:=hab;clear hc
     obtain ⟨s0,s1,s2,s3,s4,s5,s6,s7,s8,s9,sA,sB,sC⟩:=wF.of (word:=om) (out:=z) (t:=t) (by decide) hzs ze.out
     simp only [jD,om,Ib] at s0 s1 s2 s3 s4 s5 s6 s7 s8 s9 sA sB sC
     have hk0:(0:Int)≤(k:Int):=by omega
     have hk1:(k:Int)<(ps.length:Int):=by omega
     have sI:(wr.alloc (.cells #[.string t.s,.int .i64 t.x,.int .i64 t.y] 72)).heap[wr.heap.size]?=some (.cells #[.string t.s,.int .i64 t.x,.int .i64 t.y] 72):=by show (wr.heap.push _)[wr.heap.size]?=_;simp
     have qE:Hid (Below w.heap.size w (wr.alloc (.cells #[.string t.s,.int .i64 t.x,.int .i64 t.y] 72))∧(wr.alloc (.cells #[.string t.s,.int .i64 t.x,.int .i64 t.y] 72)).heap[w.heap.size]?=some bx∧(wr.alloc (.cells #[.string t.s,.int .i64 t.x,.int .i64 t.y] 72)).cell? ⟨wr.heap.size,0,none⟩=some (.string t.s)∧(wr.alloc (.cells #[.string t.s,.int .i64 t.x,.int .i64 t.y] 72)).cell? ⟨wr.heap.size,1,none⟩=some (.int .i64 t.x)∧(wr.alloc (.cells #[.string t.s,.int .i64 t.x,.int .i64 t.y] 72)).cell? ⟨wr.heap.size,2,none⟩=some (.int .i64 t.y)):=⟨HI.out.1.alloc HI.out.1.size _,(Below.heap_alloc _ _ _ IA).trans HI.out.2,by simp only [World.cell?,sI];rfl,by simp only [World.cell?,sI];rfl,by simp only [World.cell?,sI];rfl⟩
     clear sI;go_wp2;generalize wr.alloc (.cells #[.string t.s,.int .i64 t.x,.int .i64 t.y] 72)=wy at *;generalize wr.heap.size=X at *;obtain ⟨c0,c1,c2⟩:=qE.out.2.2;have zc:=av c0;have hx0:=ze.out.x0;have hx1:=ze.out.x1;have hy0:=ze.out.y0;have hy1:=ze.out.y1
     have GO:Hid (∀ (x:Later wy) (n:Int),0≤n→n<10000000→Calls Tryz.prog 45 #[.int .i64 n] x.val fun e w''=>e=.returned (.string (dW n.toNat))∧∃ y:Later wy,w''=y.val):=fun x n h0 h1=>Calls.later (by
      have h:=bv n.toNat (by omega) x.val
      rw [Int.toNat_of_nonneg h0] at h
      exact h)
     have hne:=Later.some wy
     refine au (by kernel_rfl) (by kernel_rfl) ?_
     repeat (go_big_quiet_step (exact GO.out _ _ (by assumption) (by assumption)))
     refine wpQuiet_nil ?_;rintro _ ⟨x,rfl⟩;have HI2:Hid (Below w.heap.size w x.val∧x.val.heap[w.heap.size]?=some bx):=⟨aa qE.out.1 x.below,(x.below.block _ (Array.getElem?_eq_some_iff.1 qE.out.2.1).1).trans qE.out.2.1⟩;clear qE c0 c1 c2 zc GO d0 d1 d2 y0 y1 y2;go_wp2
     exact ⟨⟨k+1,_,by omega,by go_num,rfl,HZN,HI2⟩,by simp [intOf];omega⟩
    ·have HZ1:Hid (z=zl (ks.map (dC dY)++ps.map (dC fq))):=by
      have:=HZ.out
      rw [List.take_of_length_le (by omega)] at this
      exact this
     have HI1:Hid (Below w.heap.size w wr∧wr.heap[w.heap.size]?=some bx):=HI.out;clear HI HZ;go_wp2;clear y0 y1 y2
     go_loopw [3,8,9,10] (fun o i _ _ wr=>∃ (k:Nat) (z:ByteArray),k≤es.length∧i=.int .i64 k∧o=.string z∧Hid (z=zl (ks.map (dC dY)++ps.map (dC fq)++(dh (es.take k)).map dR))∧Hid (Below w.heap.size w wr∧wr.heap[w.heap.size]?=some bx)) (fun _ i _ _ _=>es.length-(intOf i).toNat)
     case atStart=>exact ⟨0,_,Nat.zero_le _,rfl,rfl,Ba (by simpa [dh] using HZ1.out),HI1⟩
     case round =>
      clear HI1 HZ1;obtain ⟨k,z,hk,rfl,rfl,HZ,HI⟩:=hrel
      have y0:wr.cell? ⟨w.heap.size,0,none⟩=some (.slice ak ks.length ck):=by have h:=HI.out.2;rw [FD.out] at h;simp [World.cell?,h]
      have y1:wr.cell? ⟨w.heap.size,1,none⟩=some (.slice ap ps.length cp):=by have h:=HI.out.2;rw [FD.out] at h;simp [World.cell?,h]
      have y2:wr.cell? ⟨w.heap.size,2,none⟩=some (.slice ae es.length ce):=by have h:=HI.out.2;rw [FD.out] at h;simp [World.cell?,h]
      have IA:w.heap.size<wr.heap.size:=(Array.getElem?_eq_some_iff.1 HI.out.2).1
      by_cases hlt:k<es.length
      ·obtain ⟨b,off,hab,fv,e0',e1',hfl⟩:=HEA.out k _ (bp hlt)
       obtain ⟨fa,fc,rfl,hfc,hfm,hfe⟩:=hfl;unfold maxLen at hfm;have HEN:Hid (w.cell? ⟨b,off+k*2,none⟩=some (.string (eZ es k).name)∧w.cell? ⟨b,off+k*2+1,none⟩=some (.slice fa (eZ es k).fs.length fc)):=⟨e0',e1'⟩;have HFE:Hid (∀ i f,(eZ es k).fs[i]?=some f→∃ b off,fa=some ⟨b,off,none⟩∧lG w b (off+i*3) f):=hfe;have HSF:Hid ((eZ es k).name.size≤1048576∧∀ f∈(eZ es k).fs,f.v.size≤1048576):=⟨SB.out.n _ (List.mem_of_getElem? (bp hlt)),SB.out.v _ (List.mem_of_getElem? (bp hlt))⟩
       have HZE:Hid (ks.map (dC dY)++ps.map (dC fq)++(dh (es.take (k+1))).map dR=(ks.map (dC dY)++ps.map (dC fq)++(dh (es.take k)).map dR)++((eZ es k).fs.map (dO (eZ es k).name)).map dR):=by
        show _=_
        rw [oU es k _ (bp hlt)];simp
       have HFU:Hid (∃ R,fG ks ps (dh es)=(ks.map (dC dY)++ps.map (dC fq)++(dh (es.take k)).map dR)++((eZ es k).fs.map (dO (eZ es k).name)).map dR++R):=⟨(dh (es.drop (k+1))).map dR,by
        simp only [fG,jR,jQ,kC]
        rw [GY es (k+1),oU es k _ (bp hlt)]
        simp only [List.map_append,List.append_assoc]⟩
       clear hfe e0' e1';generalize eZ es k=en at *;obtain ⟨nm,fs⟩:=en;dsimp only at *;generalize hPR:ks.map (dC dY)++ps.map (dC fq)++(dh (es.take k)).map dR=PR at *;obtain rfl:=hab;clear hPR;obtain ⟨d0,d1⟩:wr.cell? ⟨b,off+k*2,none⟩=some (.string nm)∧wr.cell? ⟨b,off+k*2+1,none⟩=some (.slice fa fs.length fc):=⟨ag HI.out.1 aG HEN.out.1,ag HI.out.1 aG HEN.out.2⟩
       have hk0:(0:Int)≤(k:Int):=by omega
       have hk1:(k:Int)<(es.length:Int):=by omega
       have HI3:Hid (Below w.heap.size w wr∧wr.heap[w.heap.size]?=some bx):=HI.out;clear HI;go_wp2;clear y0 y1 y2 d0 d1
       go_loopw [3,9,10] (fun o i _ wx=>∃ (j:Nat) (z:ByteArray),j≤fs.length∧i=.int .i64 j∧o=.string z∧Hid (z=zl (PR++((fs.take j).map (dO nm)).map dR))∧Hid (Below w.heap.size w wx∧wx.heap[w.heap.size]?=some bx)) (fun _ i _ _=>fs.length-(intOf i).toNat)
       case atStart=>exact ⟨0,_,Nat.zero_le _,rfl,rfl,Ba (by simpa using HZ.out),HI3⟩
       case round =>
        clear HI3 HZ IA;obtain ⟨j,z,hj,rfl,rfl,HZ,HI⟩:=hrel
        obtain ⟨y0,y1,y2⟩:wr.cell? ⟨w.heap.size,0,none⟩=some (.slice ak ks.length ck)∧wr.cell? ⟨w.heap.size,1,none⟩=some (.slice ap ps.length cp)∧wr.cell? ⟨w.heap.size,2,none⟩=some (.slice (some ⟨b,off,none⟩) es.length ce):=by have h:=HI.out.2;rw [FD.out] at h;exact ⟨by simp [World.cell?,h],by simp [World.cell?,h],by simp [World.cell?,h]⟩
        obtain ⟨d0,d1⟩:wr.cell? ⟨b,off+k*2,none⟩=some (.string nm)∧wr.cell? ⟨b,off+k*2+1,none⟩=some (.slice fa fs.length fc):=⟨ag HI.out.1 aG HEN.out.1,ag HI.out.1 aG HEN.out.2⟩;have IA:w.heap.size<wr.heap.size:=(Array.getElem?_eq_some_iff.1 HI.out.2).1
        by_cases hjl:j<fs.length
        ·obtain ⟨fb,fo,hfb,hf⟩:=HFE.out j _ (b7 hjl)
         obtain ⟨g0,g1,g2⟩:lG wr fb (fo+j*3) (fH fs j):=⟨ag HI.out.1 aG hf.1,ag HI.out.1 aG hf.2.1,ag HI.out.1 aG hf.2.2⟩;have hvs:(fH fs j).v.size≤1048576:=HSF.out.2 _ (List.mem_of_getElem? (b7 hjl));have hns:nm.size≤1048576:=HSF.out.1
         have hzs:z.size≤70368744177664:=by
          obtain ⟨R,hR⟩:=HFU.out
          have h2:fs.map (dO nm)=(fs.take j).map (dO nm)++(fs.drop j).map (dO nm):=by rw [← List.map_append,List.take_append_drop]
          rw [HZ.out]
          exact Jf (R:=((fs.drop j).map (dO nm)).map dR++R) ML.out (by rw [hR,h2];simp only [List.map_append,List.append_assoc])
         have HZN:Hid (KO z (dO nm (fH fs j))=zl (PR++((fs.take (j+1)).map (dO nm)).map dR)):=by
          show _=_
          rw [HZ.out,KN,pz _ fs j _ (b7 hjl)]
          simp
         clear HZ hf;generalize fH fs j=t at *;obtain rfl:=hfb;have hfs:=rG (c:=dO nm t) hns hvs;obtain ⟨s0,s1,s2,s3⟩:=small_c hzs hfs
         simp only [Ib] at s3
         have hj0:(0:Int)≤(j:Int):=by omega
         have hj1:(j:Int)<(fs.length:Int):=by omega
         have sI:(wr.alloc (.cells #[.int .i64 t.what,.int .i64 t.num,.string t.v] 67)).heap[wr.heap.size]?=some (.cells #[.int .i64 t.what,.int .i64 t.num,.string t.v] 67):=by show (wr.heap.push _)[wr.heap.size]?=_;simp
         have qE:Hid ((Below w.heap.size w (wr.alloc (.cells #[.int .i64 t.what,.int .i64 t.num,.string t.v] 67))∧(wr.alloc (.cells #[.int .i64 t.what,.int .i64 t.num,.string t.v] 67)).heap[w.heap.size]?=some bx)∧((wr.alloc (.cells #[.int .i64 t.what,.int .i64 t.num,.string t.v] 67)).cell? ⟨wr.heap.size,0,none⟩=some (.int .i64 t.what)∧(wr.alloc (.cells #[.int .i64 t.what,.int .i64 t.num,.string t.v] 67)).cell? ⟨wr.heap.size,1,none⟩=some (.int .i64 t.num)∧(wr.alloc (.cells #[.int .i64 t.what,.int .i64 t.num,.string t.v] 67)).cell? ⟨wr.heap.size,2,none⟩=some (.string t.v))∧Below wr.heap.size wr (wr.alloc (.cells #[.int .i64 t.what,.int .i64 t.num,.string t.v] 67))):=⟨⟨HI.out.1.alloc HI.out.1.size _,(Below.heap_alloc _ _ _ IA).trans HI.out.2⟩,⟨by simp only [World.cell?,sI];rfl,by simp only [World.cell?,sI];rfl,by simp only [World.cell?,sI];rfl⟩,(aM)⟩
         clear sI;go_wp2;obtain ⟨a2,b0⟩:(wr.alloc (.cells #[.int .i64 t.what,.int .i64 t.num,.string t.v] 67)).cell? ⟨w.heap.size,2,none⟩=some (.slice (some ⟨b,off,none⟩) es.length ce)∧(wr.alloc (.cells #[.int .i64 t.what,.int .i64 t.num,.string t.v] 67)).cell? ⟨b,off+k*2,none⟩=some (.string nm):=⟨ag qE.out.2.2 aG y2,ag qE.out.2.2 aG d0⟩;obtain ⟨a0,a1,b1⟩:(wr.alloc (.cells #[.int .i64 t.what,.int .i64 t.num,.string t.v] 67)).cell? ⟨w.heap.size,0,none⟩=some (.slice ak ks.length ck)∧(wr.alloc (.cells #[.int .i64 t.what,.int .i64 t.num,.string t.v] 67)).cell? ⟨w.heap.size,1,none⟩=some (.slice ap ps.length cp)∧(wr.alloc (.cells #[.int .i64 t.what,.int .i64 t.num,.string t.v] 67)).cell? ⟨b,off+k*2+1,none⟩=some (.slice (some ⟨fb,fo,none⟩) fs.length fc):=⟨ag qE.out.2.2 aG y0,ag qE.out.2.2 aG y1,ag qE.out.2.2 aG d1⟩;have HNY:Hid ((Below w.heap.size w (wr.alloc (.cells #[.int .i64 t.what,.int .i64 t.num,.string t.v] 67))∧(wr.alloc (.cells #[.int .i64 t.what,.int .i64 t.num,.string t.v] 67)).heap[w.heap.size]?=some bx)):=qE.out.1;obtain ⟨c0,c1,c2⟩:=qE.out.2.1;clear qE y0 y1 y2 d0 d1 g0 g1 g2 HI;generalize wr.alloc (.cells #[.int .i64 t.what,.int .i64 t.num,.string t.v] 67)=wy at *;generalize wr.heap.size=X at *;have zc:=av c0;have zb:=av b0;have za:=av a0;have GO:Hid (∀ x:Later wy,Calls Tryz.prog 46 #[.agg #[.string nm,.int .i64 t.what,.int .i64 t.num,.string t.v]] x.val fun e w''=>e=.returned (.string (dR (dO nm t)))∧∃ y:Later wy,w''=y.val):=fun x=>Calls.later (rH (dO nm t) x.val hns hvs);have hne:=Later.some wy
         refine au (by kernel_rfl) (by kernel_rfl) ?_
         repeat (go_big_quiet_step (exact GO.out _))
         refine wpQuiet_nil ?_;rintro _ ⟨x,rfl⟩;have HI2:Hid (Below w.heap.size w x.val∧x.val.heap[w.heap.size]?=some bx):=⟨aa HNY.out.1 x.below,(x.below.block _ (Array.getElem?_eq_some_iff.1 HNY.out.2).1).trans HNY.out.2⟩;clear HNY c0 c1 c2 a0 a1 a2 b0 b1 zc zb za GO;go_wp2
         exact ⟨⟨j+1,_,by omega,by go_num,rfl,HZN,HI2⟩,by simp [intOf];omega⟩
        ·have HZ1:Hid (z=zl (ks.map (dC dY)++ps.map (dC fq)++(dh (es.take (k+1))).map dR)):=by
          have:=HZ.out
          rw [List.take_of_length_le (by omega)] at this
          show _=_
          rw [HZE.out];exact this
         clear HZ;go_wp2
         exact ⟨⟨k+1,_,by omega,by go_num,rfl,HZ1,HI⟩,by simp [intOf];omega⟩
      ·have HZ1:Hid (z=fU ks ps es):=by
        have:=HZ.out
        rw [List.take_of_length_le (by omega)] at this
        show _=_
        rw [HE.out];exact this
       go_wp2;go_ret;exact ⟨rP HZ1.out,HI.out.1⟩
end Go.Proofs.YtcmgddnckohdaaaGreatDoor
namespace Go.Proofs.YtcmgddnckohdaaaGreatDoor
open Go.RowKit
attribute [local go_sem] Later.cell Later.frozen
theorem qR {w:World} {B:Nat} {v:Value} {l:List ByteArray} {s:ByteArray} (h:w.ownsRow B 9 1 v (l.length+1) (l.map Value.string++[.string s])):fQ w B v (l++[s]):=by
 unfold fQ;rw [List.length_append,List.map_append];exact h
theorem Ms {w w':World} {B B' n:Nat} {v u:Value} {l:List dP} {xs:List Value} (h:fJ w B v l) (k:w.ownsRow B' 9 1 u n xs) (hg:w.grownBy w' u.ownBlock):fJ w' B v l:=by
 refine ⟨h.1,?_⟩
 rcases h.2 with h2 | ⟨g,cap,cur,hv,hb,hc,rest⟩
 ·exact .inl h2
 ·exact .inr ⟨g,cap,cur,hv,hb,(hg.block g (Array.getElem?_eq_some_iff.1 hc).1 (bd k hc (by decide))).trans hc,rest⟩
theorem cget {l:List dP} {k:Nat} (h:k<l.length):∃ c,l[k]?=some c∧c∈l:=⟨l[k],List.getElem?_eq_getElem h,List.getElem_mem h⟩
theorem FU {P:Prop} (h:P):Hid P:=h
theorem zD (vk vp ve:Value) (ks ps:List dx) (es:List dU) (w:World) (hB:dI w vk vp ve ks ps es) (nB:jU ks ps es) (sB:ic ks ps es) (hsz:jC (fun e=>e.fs.length) es≤1048576) (hs:ib w) (ht:Lib.TabIs Tryz.prog w "internal/strconv.uint64pow10" .u64 Lib.pow10Tab) :
  Calls Tryz.prog 11 #[.agg #[vk,vp,ve]] w fun e w'=>e=.returned (.string (fU ks ps es))∧Below w.heap.size w w':=by
 obtain ⟨i0,hi,hz0,hz1,hz2⟩:=info_parts pG;have HB:Hid (dI w vk vp ve ks ps es):=hB;have NB:Hid (jU ks ps es):=nB;have SB:Hid (ic ks ps es):=sB;have HS:Hid (ib w):=hs;have HT:Hid (Lib.TabIs Tryz.prog w "internal/strconv.uint64pow10" .u64 Lib.pow10Tab):=ht
 have FC:Hid ((dh es).length≤1048576):=by
  show (dh es).length≤1048576
  rw [lC];exact hsz
 have lk:=sB.k;have lp:=sB.p;have HCO:Hid (∀ wx:World,Below w.heap.size w wx→Calls Tryz.prog 37 #[.agg #[vk,vp,ve]] wx fun e w'=>∃ v,e=.returned v∧fJ w' wx.heap.size v (dh es)∧Below wx.heap.size wx w'):=fun wx hx=>qD vk vp ve es wx (hB.keep hx).e hsz sB.e;obtain ⟨⟨ak,ck,rfl,hk1,hk2,hk3⟩,⟨ap,cp,rfl,hp1,hp2,hp3⟩,⟨ae,ce,rfl,-,-,-⟩⟩:=hB;unfold maxLen at hk2 hp2;have HKA:Hid (∀ i t,ks[i]?=some t→∃ b off,ak=some ⟨b,off,none⟩∧gX w b (off+i*3) t):=hk3;have HPA:Hid (∀ i t,ps[i]?=some t→∃ b off,ap=some ⟨b,off,none⟩∧gX w b (off+i*3) t):=hp3;clear hk3 hp3 nB sB hs ht;have HX0:Hid (OwnAt w (w.alloc (.cells #[.slice ak ks.length ck,.slice ap ps.length cp,.slice ae es.length ce] 30)) [[.slice ak ks.length ck,.slice ap ps.length cp,.slice ae es.length ce]]):=(OwnAt.start w).push rfl _ _
 go_enter Tryz.func11,Tryz.ntmps11
 go_wp2_with fail;refine (ru _ _ _ ks ps es _ (HB.out.keep HX0.out.below) NB.out SB.out).mono ?_;rintro e w1 ⟨rfl,hb1⟩;have jG:Hid (OwnAt w w1 _):=HX0.out.call hb1
 have Hr:Hid (w1.heap[w.heap.size]?=some (.cells #[.slice ak ks.length ck,.slice ap ps.length cp,.slice ae es.length ce] 30 (0,0))):=(hb1.block _ (by simp)).trans (by show (w.heap.push _)[w.heap.size]?=_;simp)
 clear HX0 hb1
 cases hbb:dJ ks ps es
 ·have HE:Hid (fU ks ps es=⟨#[]⟩):=by show fU ks ps es=_;unfold fU;rw [hbb];rfl
  clear hbb;go_wp2;go_ret;exact ⟨rP HE.out.symm,jG.out.below⟩
 have HE:Hid (fU ks ps es=⟨(joinL (fG ks ps (dh es))).toArray⟩):=by show fU ks ps es=_;unfold fU;rw [hbb];rfl
 have HLK:Hid (∀ i,i<ks.length→jd (at' ks i)):=by
  unfold dJ eF at hbb
  simp only [Bool.and_eq_true] at hbb
  exact yl hbb.1.1
 have HLP:Hid (∀ i,i<ps.length→jd (at' ps i)):=by
  unfold dJ eF at hbb
  simp only [Bool.and_eq_true] at hbb
  exact vg hbb.1.2
 have ML:Hid ((joinL (fG ks ps (dh es))).length≤70368744177664):=su HLK.out HLP.out SB.out FC.out;clear hbb;have y0:w1.cell? ⟨w.heap.size,0,none⟩=some (.slice ak ks.length ck):=(jG.out.has 0 _ rfl 0 _ rfl).1;have y1:w1.cell? ⟨w.heap.size,1,none⟩=some (.slice ap ps.length cp):=(jG.out.has 0 _ rfl 1 _ rfl).1;have y2:w1.cell? ⟨w.heap.size,2,none⟩=some (.slice ae es.length ce):=(jG.out.has 0 _ rfl 2 _ rfl).1;obtain ⟨bx,hbx⟩:∃ bx:Obj,bx=.cells #[.slice ak ks.length ck,.slice ap ps.length cp,.slice ae es.length ce] 30 (0,0):=⟨_,rfl⟩;have FD:Hid (bx=.cells #[.slice ak ks.length ck,.slice ap ps.length cp,.slice ae es.length ce] 30 (0,0)):=hbx;rw [← hbx] at Hr;clear hbx
 -- GENERATED
 have HI0:Hid (Below w.heap.size w w1∧w1.heap[w.heap.size]?=some bx∧fQ w1 (w.heap.size+1) (.slice none 0 0) ([])):=⟨jG.out.below,Hr.out,⟨rfl,.inl ⟨rfl,rfl⟩⟩⟩;clear jG Hr;go_wp2
 go_loopw [3,5,17] (fun o _ i wr=>∃ k:Nat,k≤ks.length∧i=.int .i64 k∧Hid (Below w.heap.size w wr∧wr.heap[w.heap.size]?=some bx∧fQ wr (w.heap.size+1) o ((ks.take k).map (dC dY)))) (fun _ _ i _=>ks.length-(intOf i).toNat)
 case atStart=>exact ⟨0,Nat.zero_le _,rfl,FU (by simpa using HI0.out)⟩
 case round =>
  clear HI0;obtain ⟨k,hk,rfl,HI⟩:=hrel
  by_cases hlt:k<ks.length
  ·obtain ⟨b,off,rfl,hc⟩:=HKA.out k _ (bo hlt)
   obtain ⟨d0,d1,d2⟩:=hc.keep HI.out.1 aG;have ze:Hid (jd (at' ks k)):=HLK.out k hlt
   have HK:Hid ((ks.take (k+1)).map (dC dY)=(ks.take k).map (dC dY)++[dC dY (at' ks k)]∧((ks.take k).map (dC dY)).length≤2097152):=by
    refine ⟨?_,?_⟩
    ·rw [pz _ ks k _ (bo hlt)]
    ·have h1:=SB.out.k;have h2:=SB.out.p
     simp;omega
   generalize at' ks k=t at *;generalize hln:(ks.take k).map (dC dY)=ln at *;clear hc hln
   have hk0:(0:Int)≤(k:Int):=by omega
   have hk1:(k:Int)<(ks.length:Int):=by omega
   have hal:Hid (Below wr.heap.size wr (wr.alloc (.cells #[.string t.s,.int .i64 t.x,.int .i64 t.y] 69))):=(aM);have HW1:Hid (Below w.heap.size w (wr.alloc (.cells #[.string t.s,.int .i64 t.x,.int .i64 t.y] 69))):=aa HI.out.1 hal.out;go_wp2_with fail
   refine (qp dY t _ (by decide) ze.out.s ze.out.x0 ze.out.y0 ze.out.x1 ze.out.y1 (mi HT.out HW1.out)).mono ?_
   rintro e w2 ⟨rfl,hb2⟩;have HB2:Hid (Below wr.heap.size wr w2):=aa hal.out hb2;have HI2:Hid (Below w.heap.size w w2∧w2.heap[w.heap.size]?=some bx∧fQ w2 (w.heap.size+1) u3 (ln)):=⟨aa HI.out.1 HB2.out,(HB2.out.block _ (Array.getElem?_eq_some_iff.1 HI.out.2.1).1).trans HI.out.2.1,ah HI.out.2.2 HB2.out⟩;clear hb2 hal HW1 HI HB2;have IA:w.heap.size<w2.heap.size:=(Array.getElem?_eq_some_iff.1 HI2.out.2.1).1;have hlen:ln.length≤2097152:=HK.out.2;generalize dC dY t=line at *;have hown:=HI2.out.2.2;unfold fQ at hown
   go_wp2_with (at_builtin;refine wpList_append_own _ rfl _ _ 46 rfl (w.heap.size+1) 9 i0 (.string ByteArray.empty) 1 16 Tryz.underlying46 hi hz0 hz1 hz2 rfl (by decide) _ _ _ rfl (hown.alloc _) ⟨w2.heap.size,0,none⟩ 1 1 [.string line] rfl rfl (cell_one_new _ _ _) (fun x hx=>by simp at hx;subst hx;rfl) (by unfold maxLen;omega) (by omega) (by simp;omega) ?_;intro v' w3 hown' hgrow3 hnil3)
   have HI3:Hid (Below w.heap.size w w3∧w3.heap[w.heap.size]?=some bx∧fQ w3 (w.heap.size+1) v' (ln++[line])):=⟨(HI2.out.1.alloc HI2.out.1.size _).grown hgrow3 (by simp;omega) (fun k hk=>by have:=aw HI2.out.2.2 k hk;omega),(hgrow3.block _ (by simp;omega) (fun e=>by have:=aw HI2.out.2.2 _ e.symm;omega)).trans ((Below.heap_alloc _ _ _ IA).trans HI2.out.2.1),qR hown'⟩
   rw [← HK.out.1] at HI3
   exact ⟨⟨k+1,by omega,by go_num,HI3⟩,by simp [intOf];omega⟩
  ·have HI1:Hid (Below w.heap.size w wr∧wr.heap[w.heap.size]?=some bx∧fQ wr (w.heap.size+1) u3 (ks.map (dC dY))):=by
    have:=HI.out
    rw [List.take_of_length_le (by omega)] at this
    exact this
   clear HI y0 y1 y2;generalize wr=w2 at *;generalize u3=o2 at *
   have y0:w2.cell? ⟨w.heap.size,0,none⟩=some (.slice ak ks.length ck):=by have h:=HI1.out.2.1;rw [FD.out] at h;simp [World.cell?,h]
   have y1:w2.cell? ⟨w.heap.size,1,none⟩=some (.slice ap ps.length cp):=by have h:=HI1.out.2.1;rw [FD.out] at h;simp [World.cell?,h]
   have y2:w2.cell? ⟨w.heap.size,2,none⟩=some (.slice ae es.length ce):=by have h:=HI1.out.2.1;rw [FD.out] at h;simp [World.cell?,h]
   go_wp2;clear y0 y1 y2
   go_loopw [3,7,36] (fun o _ i wr=>∃ k:Nat,k≤ps.length∧i=.int .i64 k∧Hid (Below w.heap.size w wr∧wr.heap[w.heap.size]?=some bx∧fQ wr (w.heap.size+1) o (ks.map (dC dY)++(ps.take k).map (dC fq)))) (fun _ _ i _=>ps.length-(intOf i).toNat)
   case atStart=>exact ⟨0,Nat.zero_le _,rfl,FU (by simpa using HI1.out)⟩
   case round =>
    clear HI1;obtain ⟨k,hk,rfl,HI⟩:=hrel
    by_cases hlt:k<ps.length
    ·obtain ⟨b,off,rfl,hc⟩:=HPA.out k _ (bo hlt)
     obtain ⟨d0,d1,d2⟩:=hc.keep HI.out.1 aG;have ze:Hid (jd (at' ps k)):=HLP.out k hlt
     have HK:Hid (ks.map (dC dY)++(ps.take (k+1)).map (dC fq)=ks.map (dC dY)++(ps.take k).map (dC fq)++[dC fq (at' ps k)]∧(ks.map (dC dY)++(ps.take k).map (dC fq)).length≤2097152):=by
      refine ⟨?_,?_⟩
      ·rw [pz _ ps k _ (bo hlt)];simp
      ·have h1:=SB.out.k;have h2:=SB.out.p
       simp;omega
     generalize at' ps k=t at *;generalize hln:ks.map (dC dY)++(ps.take k).map (dC fq)=ln at *;clear hc hln
     have hk0:(0:Int)≤(k:Int):=by omega
     have hk1:(k:Int)<(ps.length:Int):=by omega
     have hal:Hid (Below wr.heap.size wr (wr.alloc (.cells #[.string t.s,.int .i64 t.x,.int .i64 t.y] 72))):=(aM);have HW1:Hid (Below w.heap.size w (wr.alloc (.cells #[.string t.s,.int .i64 t.x,.int .i64 t.y] 72))):=aa HI.out.1 hal.out;go_wp2_with fail
     refine (qp fq t _ (by decide) ze.out.s ze.out.x0 ze.out.y0 ze.out.x1 ze.out.y1 (mi HT.out HW1.out)).mono ?_
     rintro e w2 ⟨rfl,hb2⟩;have HB2:Hid (Below wr.heap.size wr w2):=aa hal.out hb2;have HI2:Hid (Below w.heap.size w w2∧w2.heap[w.heap.size]?=some bx∧fQ w2 (w.heap.size+1) u3 (ln)):=⟨aa HI.out.1 HB2.out,(HB2.out.block _ (Array.getElem?_eq_some_iff.1 HI.out.2.1).1).trans HI.out.2.1,ah HI.out.2.2 HB2.out⟩;clear hb2 hal HW1 HI HB2;have IA:w.heap.size<w2.heap.size:=(Array.getElem?_eq_some_iff.1 HI2.out.2.1).1;have hlen:ln.length≤2097152:=HK.out.2;generalize dC fq t=line at *;have hown:=HI2.out.2.2;unfold fQ at hown
     go_wp2_with (at_builtin;refine wpList_append_own _ rfl _ _ 46 rfl (w.heap.size+1) 9 i0 (.string ByteArray.empty) 1 16 Tryz.underlying46 hi hz0 hz1 hz2 rfl (by decide) _ _ _ rfl (hown.alloc _) ⟨w2.heap.size,0,none⟩ 1 1 [.string line] rfl rfl (cell_one_new _ _ _) (fun x hx=>by simp at hx;subst hx;rfl) (by unfold maxLen;omega) (by omega) (by simp;omega) ?_;intro v' w3 hown' hgrow3 hnil3)
     have HI3:Hid (Below w.heap.size w w3∧w3.heap[w.heap.size]?=some bx∧fQ w3 (w.heap.size+1) v' (ln++[line])):=⟨(HI2.out.1.alloc HI2.out.1.size _).grown hgrow3 (by simp;omega) (fun k hk=>by have:=aw HI2.out.2.2 k hk;omega),(hgrow3.block _ (by simp;omega) (fun e=>by have:=aw HI2.out.2.2 _ e.symm;omega)).trans ((Below.heap_alloc _ _ _ IA).trans HI2.out.2.1),qR hown'⟩
     rw [← HK.out.1] at HI3
     exact ⟨⟨k+1,by omega,by go_num,HI3⟩,by simp [intOf];omega⟩
    ·have HI1:Hid (Below w.heap.size w wr∧wr.heap[w.heap.size]?=some bx∧fQ wr (w.heap.size+1) u3 (ks.map (dC dY)++ps.map (dC fq))):=by
      have:=HI.out
      rw [List.take_of_length_le (by omega)] at this
      exact this
     clear HI;generalize wr=w3 at *;generalize u3=o3 at *
     have y0:w3.cell? ⟨w.heap.size,0,none⟩=some (.slice ak ks.length ck):=by have h:=HI1.out.2.1;rw [FD.out] at h;simp [World.cell?,h]
     have y1:w3.cell? ⟨w.heap.size,1,none⟩=some (.slice ap ps.length cp):=by have h:=HI1.out.2.1;rw [FD.out] at h;simp [World.cell?,h]
     have y2:w3.cell? ⟨w.heap.size,2,none⟩=some (.slice ae es.length ce):=by have h:=HI1.out.2.1;rw [FD.out] at h;simp [World.cell?,h]
     go_wp2_with fail;refine (HCO.out _ HI1.out.1).mono ?_;rintro e w4 ⟨vc,rfl,hC4,hb4⟩;have HI2:Hid (Below w.heap.size w w4∧w4.heap[w.heap.size]?=some bx∧fQ w4 (w.heap.size+1) o3 (ks.map (dC dY)++ps.map (dC fq))):=⟨aa HI1.out.1 hb4,(hb4.block _ (Array.getElem?_eq_some_iff.1 HI1.out.2.1).1).trans HI1.out.2.1,ah HI1.out.2.2 hb4⟩;obtain ⟨ac,cc,rfl,-,-,-⟩:=hC4.at;have Kq:Hid (∀ c∈dh es,c.f.size≤1048576∧c.v.size≤1048576):=yR SB.out;have hcl:(dh es).length≤1048576:=FC.out;clear HI1 HCO FC y0 y1 y2 hb4;generalize dh es=cs at *;have HI1:Hid ((Below w.heap.size w w4∧w4.heap[w.heap.size]?=some bx∧fQ w4 (w.heap.size+1) o3 (ks.map (dC dY)++ps.map (dC fq)))∧fJ w4 w3.heap.size (.slice ac cs.length cc) cs):=⟨HI2.out,hC4⟩;clear HI2 hC4;go_wp2
     go_loopw [3,9,54] (fun o _ i wr=>∃ k:Nat,k≤cs.length∧i=.int .i64 k∧Hid ((Below w.heap.size w wr∧wr.heap[w.heap.size]?=some bx∧fQ wr (w.heap.size+1) o (ks.map (dC dY)++ps.map (dC fq)++(cs.take k).map dR))∧fJ wr w3.heap.size (.slice ac cs.length cc) cs)) (fun _ _ i _=>cs.length-(intOf i).toNat)
     case atStart=>exact ⟨0,Nat.zero_le _,rfl,FU (by simpa using HI1.out)⟩
     case round =>
      clear HI1
      rename_i kk1 kk2
      obtain ⟨k,hk,rfl,HI⟩:=hrel
      by_cases hlt:k<cs.length
      ·obtain ⟨c,hcg,hcm⟩:=cget hlt
       obtain ⟨_,_,hsl,_,hcap,hc3⟩:=HI.out.2.at
       cases hsl
       obtain ⟨b,off,hab,d0,d1,d2,d3⟩:=hc3 k c hcg;unfold maxLen at hcap;have hsm:=Kq.out c hcm
       have HK:Hid (ks.map (dC dY)++ps.map (dC fq)++(cs.take (k+1)).map dR=ks.map (dC dY)++ps.map (dC fq)++(cs.take k).map dR++[dR c]∧(ks.map (dC dY)++ps.map (dC fq)++(cs.take k).map dR).length≤4194304):=by
        refine ⟨?_,?_⟩
        ·rw [pz _ cs k _ hcg];simp
        ·have h1:=SB.out.k;have h2:=SB.out.p
         simp;omega
       generalize hln:ks.map (dC dY)++ps.map (dC fq)++(cs.take k).map dR=ln at *;clear hc3 hln hcg hcm
       have hk0:(0:Int)≤(k:Int):=by omega
       have hk1:(k:Int)<(cs.length:Int):=by omega
       obtain rfl:=hab;have hal:Hid (Below wr.heap.size wr (wr.alloc (.cells #[.string c.f,.int .i64 c.what,.int .i64 c.num,.string c.v] 76))):=(aM);have HW1:Hid (Below w.heap.size w (wr.alloc (.cells #[.string c.f,.int .i64 c.what,.int .i64 c.num,.string c.v] 76))):=aa HI.out.1.1 hal.out;go_wp2_with fail;refine (BJ c _ (HS.out.keep HW1.out) (mi HT.out HW1.out) hsm.1 hsm.2).mono ?_;rintro e w2 ⟨rfl,hb2⟩;have HB2:Hid (Below wr.heap.size wr w2):=aa hal.out hb2;have HI2:Hid ((Below w.heap.size w w2∧w2.heap[w.heap.size]?=some bx∧fQ w2 (w.heap.size+1) u3 (ln))∧fJ w2 w3.heap.size (.slice (some ⟨b,off,none⟩) cs.length cc) cs):=⟨⟨aa HI.out.1.1 HB2.out,(HB2.out.block _ (Array.getElem?_eq_some_iff.1 HI.out.1.2.1).1).trans HI.out.1.2.1,ah HI.out.1.2.2 HB2.out⟩,ah HI.out.2 HB2.out⟩;clear hb2 hal HW1 HI HB2;have IA:w.heap.size<w2.heap.size:=(Array.getElem?_eq_some_iff.1 HI2.out.1.2.1).1;have hlen:ln.length≤4194304:=HK.out.2;have HKE:Hid (ks.map (dC dY)++ps.map (dC fq)++(cs.take (k+1)).map dR=ln++[dR c]):=HK.out.1;clear HK
       change Hid (_=ln++[bif gm c then gB c else ⟨#[]⟩]) at HKE
       generalize (bif gm c then gB c else ⟨#[]⟩)=line at *;have hown:=HI2.out.1.2.2;unfold fQ at hown
       go_wp2_with (at_builtin;refine wpList_append_own _ rfl _ _ 46 rfl (w.heap.size+1) 9 i0 (.string ByteArray.empty) 1 16 Tryz.underlying46 hi hz0 hz1 hz2 rfl (by decide) _ _ _ rfl (hown.alloc _) ⟨w2.heap.size,0,none⟩ 1 1 [.string line] rfl rfl (cell_one_new _ _ _) (fun x hx=>by simp at hx;subst hx;rfl) (by unfold maxLen;omega) (by omega) (by simp;omega) ?_;intro v' w5 hown' hgrow3 hnil3)
       have HI3:Hid ((Below w.heap.size w w5∧w5.heap[w.heap.size]?=some bx∧fQ w5 (w.heap.size+1) v' (ln++[line]))∧fJ w5 w3.heap.size (.slice (some ⟨b,off,none⟩) cs.length cc) cs):=⟨⟨(HI2.out.1.1.alloc HI2.out.1.1.size _).grown hgrow3 (by simp;omega) (fun k hk=>by have:=aw HI2.out.1.2.2 k hk;omega),(hgrow3.block _ (by simp;omega) (fun e=>by have:=aw HI2.out.1.2.2 _ e.symm;omega)).trans ((Below.heap_alloc _ _ _ IA).trans HI2.out.1.2.1),qR hown'⟩,Ms (ah HI2.out.2 (aM)) (hown.alloc _) hgrow3⟩
       rw [← HKE.out] at HI3
       exact ⟨⟨k+1,by omega,by go_num,HI3⟩,by simp [intOf];omega⟩
      ·have HI1:Hid (Below w.heap.size w wr∧wr.heap[w.heap.size]?=some bx∧fQ wr (w.heap.size+1) u3 (ks.map (dC dY)++ps.map (dC fq)++cs.map dR)):=by
        have:=HI.out.1
        rw [List.take_of_length_le (by omega)] at this
        exact this
       clear HI;have HT1:Hid (nL wr u3 (fG ks ps cs)):=Bd (base:=w.heap.size+1) (e:=9) HI1.out.2.2;go_wp2_with fail;refine (FW _ _ _ HT1.out ML.out).mono ?_;rintro e w6 ⟨rfl,hb6⟩;have HB6:Hid (Below w.heap.size w w6):=aa HI1.out.1 hb6;clear hb6;rw [← HE.out];go_wp2;go_ret;exact ⟨rfl,HB6.out⟩
end Go.Proofs.YtcmgddnckohdaaaGreatDoor
