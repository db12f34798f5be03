import Derived.Test.YtcmgddnckohdaaaGreatDoorNm1
import Derived.Test.YtcmgddnckohdaaaGreatDoorBd1
set_option maxRecDepth 100000
set_option maxHeartbeats 3200000
set_option linter.unusedSimpArgs false
set_option linter.unusedVariables false
namespace Go.Proofs.YtcmgddnckohdaaaGreatDoor.Dr
open Go.RowKit
attribute [local go_sem] Later.cell Later.frozen
theorem xJ {w:World} {base:Nat} {e:TypeId} {size g n cap o:Nat} {xs:List Value} {x:Value} (h:w.ownsRow base e size (.slice (some ⟨g,0,none⟩) n cap) n xs) (ho:o<n*size):(w.setCell ⟨g,o,none⟩ x).ownsRow base e size (.slice (some ⟨g,0,none⟩) n cap) n (xs.set o x):=by
 obtain ⟨h1,h2⟩:=h
 refine ⟨by rw [List.length_set];exact h1,?_⟩
 rcases h2 with ⟨h0,hn⟩ | ⟨g',cap',cur,hv,hg,hc,hn,hm,hs,ht⟩
 ·cases h0
 ·cases hv
  refine .inr ⟨g,cap,cur.setIfInBounds o x,rfl,hg,cP hc,hn,hm,by simpa using hs,?_⟩
  rw [Array.toList_setIfInBounds,← ht,List.take_set]
theorem mF {w:World} {base:Nat} {e:TypeId} {size:Nat} {v:Value} {n:Nat} {xs:List Value} (h:w.ownsRow base e size v n xs) (h1:1≤n):∃ g cap,v=.slice (some ⟨g,0,none⟩) n cap∧n≤cap∧cap≤maxLen:=by
 rcases h.2 with ⟨_,h0⟩ | ⟨g,cap,cur,hv,_,_,hn,hm,_⟩
 ·omega
 ·exact ⟨g,cap,hv,hn,hm⟩
end Go.Proofs.YtcmgddnckohdaaaGreatDoor.Dr
namespace Go.Proofs.YtcmgddnckohdaaaGreatDoor
open Go.RowKit
def jc (s:ByteArray):Int:=bif eu s then (fF s s.size:Int) else -1
def fC (ws:List ByteArray):dx:=⟨dE ws 1,jc (dE ws 2),jc (dE ws 3)⟩
def fD (l:List dx) (i:Nat) (t:dx):List dx:=l.take i++t::l.drop i
def gV (ks:List dx) (ws:List ByteArray):Int :=
 bif decide (ws.length=4)&&(dD (fC ws).s&&gI (fC ws)) then
  (bif hasB ks (fC ws).s then 4 else bif decide (6≤ks.length) then 6 else 0)
 else 3
def gK (ps:List dx) (t:dx):Bool:=ps.any fun p=>decide (p.x=t.x)&&decide (p.y=t.y)
def fO (ps:List dx) (ws:List ByteArray):Int :=
 bif decide (ws.length=4)&&(dD (fC ws).s&&eQ (fC ws)) then
  (bif hasB ps (fC ws).s then 4 else bif gK ps (fC ws) then 5 else bif decide (16≤ps.length) then 6 else 0)
 else 3
def kI (b:Bk) (r:dP×Bool):Int :=
 bif r.2 then (if takeC b.1 b.2.1 b.2.2 r.1=2 then 7 else if takeC b.1 b.2.1 b.2.2 r.1=3 then 6 else 0) else 3
def fZ:ByteArray:=⟨#[107,105,110,100]⟩
def eG:ByteArray:=⟨#[112,111,105,110,116]⟩
def jY:ByteArray:=⟨#[115,101,116]⟩
def eU (rd:ByteArray→dP×Bool) (b:Bk) (l:ByteArray):Int :=
 if dE (dn l) 0=fZ then gV b.1 (dn l) else if dE (dn l) 0=eG then fO b.2.1 (dn l) else if dE (dn l) 0=jY then kI b (rd l) else 2
def dX (rd:ByteArray→dP×Bool) (b:Bk) (l:ByteArray):Bk :=
 if dE (dn l) 0=fZ then (fD b.1 (iH b.1 (fC (dn l)).s) (fC (dn l)),b.2.1,b.2.2)
 else if dE (dn l) 0=eG then (b.1,fD b.2.1 (iH b.2.1 (fC (dn l)).s) (fC (dn l)),b.2.2)
 else (dN b.1 b.2.1 b.2.2 b.1,dN b.1 b.2.1 b.2.2 b.2.1,eT b.1 b.2.1 b.2.2 (rd l).1)
def ed (rd:ByteArray→dP×Bool):Bk→Nat→List ByteArray→Bk×Nat×Int
 | b,_,[]=>(b,0,0)
 | b,i,l::r=>if eU rd b l=0 then ed rd (dX rd b l) (i+1) r else (([],[],[]),i+1,eU rd b l)
theorem bT {rd:ByteArray→dP×Bool} {b:Bk} {i:Nat} {l:ByteArray} {r:List ByteArray} (h:eU rd b l=0):ed rd b i (l::r)=ed rd (dX rd b l) (i+1) r:=by
 rw [ed,if_pos h]
theorem mZ {rd:ByteArray→dP×Bool} {b:Bk} {i:Nat} {l:ByteArray} {r:List ByteArray} (h:eU rd b l≠0):ed rd b i (l::r)=(([],[],[]),i+1,eU rd b l):=by
 rw [ed,if_neg h]
open Go.RowKit
theorem bK {l:List dx} {i:Nat} (h:i<l.length):at' l i=l[i]:=by simp [at',h]
theorem Ag (l:List dx) (m:Nat):eO l m=true ↔ l.length≤m∧(∀ t∈l,dD t.s=true)∧l.Pairwise fun a b=>iU a.s b.s=true:=by
 constructor
 ·intro h
  have ha:=uC h;unfold eO at h
  simp only [Bool.and_eq_true,decide_eq_true_eq,fw,List.all_eq_true,List.mem_range] at h
  refine ⟨h.1,fun t ht=>?_,?_⟩
  ·obtain ⟨i,hi,rfl⟩:=List.getElem_of_mem ht
   have:=(h.2 i hi).1
   rwa [bK hi] at this
  ·rw [List.pairwise_iff_getElem]
   intro i j hi hj hij;have:=MB ha i j hij hj
   rwa [bK hi,bK hj] at this
 ·rintro ⟨h1,h2,h3⟩
  unfold eO
  simp only [Bool.and_eq_true,decide_eq_true_eq,fw,List.all_eq_true,List.mem_range]
  refine ⟨h1,fun i hi=>⟨by rw [bK hi];exact h2 _ (List.getElem_mem hi),?_⟩⟩
  unfold gY
  by_cases h0:0<i
  ·have:=List.pairwise_iff_getElem.1 h3 (i-1) i (by omega) hi (by omega)
   rw [bK hi,bK (by omega),l7,this]
   simp
  ·simp [h0]
theorem cz (l:List dx):dM l=true ↔ l.length≤6∧(∀ t∈l,dD t.s=true∧gI t=true)∧l.Pairwise fun a b=>iU a.s b.s=true:=by
 unfold dM;rw [Bool.and_eq_true,Ag]
 simp only [fw,List.all_eq_true,List.mem_range]
 constructor
 ·rintro ⟨⟨h1,h2,h3⟩,h4⟩
  refine ⟨h1,fun t ht=>⟨h2 t ht,?_⟩,h3⟩;obtain ⟨i,hi,rfl⟩:=List.getElem_of_mem ht;have:=h4 i hi
  rwa [bK hi] at this
 ·rintro ⟨h1,h2,h3⟩
  exact ⟨⟨h1,fun t ht=>(h2 t ht).1,h3⟩,fun i hi=>by rw [bK hi];exact (h2 _ (List.getElem_mem hi)).2⟩
theorem xg (a b:dx):jb a b=jb b a:=by unfold jb;rw [Bool.eq_iff_iff];simp;constructor <;> (rintro ⟨h,k⟩;exact ⟨h.symm,k.symm⟩)
theorem ca (l:List dx):dH l=true ↔ l.length≤16∧(∀ t∈l,dD t.s=true∧eQ t=true)∧(l.Pairwise fun a b=>iU a.s b.s=true)∧l.Pairwise fun a b=>jb a b=false:=by
 unfold dH;rw [Bool.and_eq_true,Ag]
 simp only [fu,fw,List.all_eq_true,List.mem_range,Bool.and_eq_true,Bool.not_not]
 constructor
 ·rintro ⟨⟨h1,h2,h3⟩,h4⟩
  refine ⟨h1,fun t ht=>⟨h2 t ht,?_⟩,h3,?_⟩
  ·obtain ⟨i,hi,rfl⟩:=List.getElem_of_mem ht
   have:=(h4 i hi).1
   rwa [bK hi] at this
  ·rw [List.pairwise_iff_getElem]
   intro i j hi hj hij;have:=(h4 j hj).2 i hij;rw [bK hi,bK hj] at this
   simpa using this
 ·rintro ⟨h1,h2,h3,h5⟩
  refine ⟨⟨h1,fun t ht=>(h2 t ht).1,h3⟩,fun i hi=>⟨by rw [bK hi];exact (h2 _ (List.getElem_mem hi)).2,fun j hj=>?_⟩⟩
  have:=List.pairwise_iff_getElem.1 h5 j i (by omega) hi hj
  rw [bK hi,bK (by omega),this]
  rfl
theorem pq {l:List dx} {i:Nat} {t y:dx}:y∈fD l i t ↔ y=t∨y∈l:=by
 have:y∈l ↔ y∈l.take i∨y∈l.drop i:=by rw [← List.mem_append,List.take_append_drop]
 unfold fD;rw [this]
 simp only [List.mem_append,List.mem_cons]
 constructor
 ·rintro (h | h | h) <;> simp [h]
 ·rintro (h | h | h) <;> simp [h]
theorem EC (l:List dx) (i:Nat) (t:dx):(fD l i t).Perm (t::l):=by
 unfold fD;refine List.perm_middle.trans ?_;rw [List.take_append_drop]
theorem lS (l:List dx) (i:Nat) (t:dx):(fD l i t).length=l.length+1:=(EC l i t).length_eq
theorem BG (l:List dx) (v:ByteArray):iH l v≤l.length:=List.findIdx_le_length
theorem LA (x t:dx) (r:List dx) (v:ByteArray):fD (x::r) (iH (x::r) v) t=if kz x.s v=true then t::x::r else x::fD r (iH r v) t:=by
 unfold fD iH;rw [List.findIdx_cons]
 cases kz x.s v <;> simp
theorem Jn {l:List dx} {v:ByteArray}:sj l v=true ↔ ∃ t∈l,t.s=v:=by
 constructor
 ·intro h
  unfold sj at h
  simp only [fw,Bool.not_eq_true',List.all_eq_false,List.mem_range] at h
  obtain ⟨i,hi,h⟩:=h;rw [bK hi] at h
  exact ⟨_,List.getElem_mem hi,by simpa using h⟩
 ·rintro ⟨t,ht,rfl⟩
  obtain ⟨i,hi,rfl⟩:=List.getElem_of_mem ht
  exact uE hi (by rw [bK hi])
theorem qK {l:List dx} (h:l.Pairwise fun a b=>iU a.s b.s=true):∀ i,i<l.length→gY l i=true:=fun i hi=>by
 unfold gY
 by_cases h0:0<i
 ·have:=List.pairwise_iff_getElem.1 h (i-1) i (by omega) hi (by omega)
  rw [bK hi,bK (by omega),l7,this]
  simp
 ·simp [h0]
theorem sN {l:List dx} (h:l.Pairwise fun a b=>iU a.s b.s=true) (v:ByteArray):hasB l v=true ↔ ∃ t∈l,t.s=v:=by
 rw [sM (qK h),Jn]
theorem nC:∀ {l:List dx} {t:dx},(l.Pairwise fun a b=>iU a.s b.s=true)→(∀ x∈l,x.s≠t.s)→(fD l (iH l t.s) t).Pairwise fun a b=>iU a.s b.s=true
 | [],t,_,_=>by simp [fD,iH]
 | x::r,t,h,hn=>by
  rw [LA];have hx:=List.pairwise_cons.1 h
  split
  ·rename_i hg
   have h1:iU t.s x.s=true:=by
    rw [l7] at hg
    cases h2:iU t.s x.s
    ·exact absurd (mR (by simpa using hg) h2) (hn x (by simp))
    ·rfl
   refine List.pairwise_cons.2 ⟨fun y hy=>?_,h⟩
   rcases List.mem_cons.1 hy with rfl | hy
   ·exact h1
   ·exact cK h1 (hx.1 y hy)
  ·rename_i hg
   refine List.pairwise_cons.2 ⟨fun y hy=>?_,nC hx.2 (fun y hy=>hn y (by simp [hy]))⟩
   rcases pq.1 hy with rfl | hy
   ·rw [l7] at hg
    simpa using hg
   ·exact hx.1 y hy
theorem J4 (l:List dx) (t:dx):fu l l.length t=gK l t:=by
 rw [Bool.eq_iff_iff];unfold fu gK
 simp only [fw,Bool.not_eq_true',List.all_eq_false,List.mem_range,List.any_eq_true]
 constructor
 ·rintro ⟨i,hi,h⟩
  rw [bK hi] at h;refine ⟨_,List.getElem_mem hi,?_⟩
  simpa [jb] using h
 ·rintro ⟨p,hp,h⟩
  obtain ⟨i,hi,rfl⟩:=List.getElem_of_mem hp;refine ⟨i,hi,?_⟩;rw [bK hi]
  simpa [jb] using h
theorem yn {ks:List dx} {ws:List ByteArray} (h:gV ks ws=0):ws.length=4∧dD (fC ws).s=true∧gI (fC ws)=true∧hasB ks (fC ws).s=false∧ks.length<6:=by
 unfold gV at h
 cases h1:(decide (ws.length=4)&&(dD (fC ws).s&&gI (fC ws)))
 ·rw [h1] at h;simp at h
 ·rw [h1] at h
  simp only [Bool.and_eq_true,decide_eq_true_eq] at h1
  cases h2:hasB ks (fC ws).s
  ·rw [h2] at h
   cases h3:decide (6≤ks.length)
   ·exact ⟨h1.1,h1.2.1,h1.2.2,rfl,by simpa using h3⟩
   ·rw [h3] at h;simp at h
  ·rw [h2] at h;simp at h
theorem vv {ps:List dx} {ws:List ByteArray} (h:fO ps ws=0):ws.length=4∧dD (fC ws).s=true∧eQ (fC ws)=true∧hasB ps (fC ws).s=false∧gK ps (fC ws)=false∧ps.length<16:=by
 unfold fO at h
 cases h1:(decide (ws.length=4)&&(dD (fC ws).s&&eQ (fC ws)))
 ·rw [h1] at h;simp at h
 ·rw [h1] at h
  simp only [Bool.and_eq_true,decide_eq_true_eq] at h1
  cases h2:hasB ps (fC ws).s
  ·rw [h2] at h
   cases h4:gK ps (fC ws)
   ·rw [h4] at h
    cases h3:decide (16≤ps.length)
    ·exact ⟨h1.1,h1.2.1,h1.2.2,rfl,rfl,by simpa using h3⟩
    ·rw [h3] at h;simp at h
   ·rw [h4] at h;simp at h
  ·rw [h2] at h;simp at h
theorem Aq {ks:List dx} {t:dx} (hk:dM ks=true) (hl:ks.length<6) (hn:dD t.s=true) (hp:gI t=true) (hh:hasB ks t.s=false):dM (fD ks (iH ks t.s) t)=true:=by
 obtain ⟨h1,h2,h3⟩:=(cz ks).1 hk
 have hno:∀ x∈ks,x.s≠t.s:=fun x hx e=>by
  rw [(sN h3 _).2 ⟨x,hx,e⟩] at hh
  cases hh
 refine (cz _).2 ⟨by rw [lS];omega,fun y hy=>?_,nC h3 hno⟩
 rcases pq.1 hy with rfl | hy
 ·exact ⟨hn,hp⟩
 ·exact h2 y hy
theorem xy {ps:List dx} {t:dx} (hk:dH ps=true) (hl:ps.length<16) (hn:dD t.s=true) (hp:eQ t=true) (hh:hasB ps t.s=false) (ht:gK ps t=false):dH (fD ps (iH ps t.s) t)=true:=by
 obtain ⟨h1,h2,h3,h4⟩:=(ca ps).1 hk
 have hno:∀ x∈ps,x.s≠t.s:=fun x hx e=>by
  rw [(sN h3 _).2 ⟨x,hx,e⟩] at hh
  cases hh
 refine (ca _).2 ⟨by rw [lS];omega,fun y hy=>?_,nC h3 hno,?_⟩
 ·rcases pq.1 hy with rfl | hy
  ·exact ⟨hn,hp⟩
  ·exact h2 y hy
 ·refine ((EC ps _ t).pairwise_iff (fun {a b} h=>by rw [xg];exact h)).2 (List.pairwise_cons.2 ⟨fun y hy=>?_,h4⟩)
  have:=List.any_eq_false.1 ht y hy;rw [xg]
  simpa [jb] using this
theorem xQ (ws:List ByteArray) (n:ByteArray→Int) (hn:∀ x,n x=bif eu x then (fF x x.size:Int) else 0) (M:Nat) (hM:∀ i,i<ws.length→(dE ws i).size≤M):∃ (t:dx) (ok:Bool),(bif decide (ws.length=4) then Value.tuple #[.string (dE ws 1),.int .i64 (n (dE ws 2)),.int .i64 (n (dE ws 3)),.bool (eu (dE ws 2)&&eu (dE ws 3))] else .tuple #[.string ⟨#[]⟩,.int .i64 0,.int .i64 0,.bool false])=.tuple #[.string t.s,.int .i64 t.x,.int .i64 t.y,.bool ok]∧t.s.size≤M ∧
  (ok&&dM [t])=(decide (ws.length=4)&&(dD (fC ws).s&&gI (fC ws)))∧(ok&&dH [t])=(decide (ws.length=4)&&(dD (fC ws).s&&eQ (fC ws)))∧(ok=true→t=fC ws):=by
 by_cases h4:ws.length=4
 ·refine ⟨⟨dE ws 1,n (dE ws 2),n (dE ws 3)⟩,(eu (dE ws 2)&&eu (dE ws 3)),by rw [decide_eq_true h4];rfl,hM 1 (by omega),?_,?_,?_⟩
  all_goals
   have e2:=hn (dE ws 2);have e3:=hn (dE ws 3)
  ·rw [decide_eq_true h4,Bool.true_and]
   have hk1:dM [(⟨dE ws 1,n (dE ws 2),n (dE ws 3)⟩:dx)]=(dD (dE ws 1)&&gI ⟨dE ws 1,n (dE ws 2),n (dE ws 3)⟩):=by
    rw [Bool.eq_iff_iff,cz]
    simp
   rw [hk1];unfold fC jc gI
   cases h2:eu (dE ws 2) <;> cases h3:eu (dE ws 3) <;> rw [h2] at e2 <;> rw [h3] at e3 <;> simp only [e2,e3,cond_true,cond_false,Bool.true_and,Bool.false_and,Bool.and_false]
   ·rw [eq_comm,Bool.and_eq_false_iff];right;simp
   ·rw [eq_comm,Bool.and_eq_false_iff];right;simp
   ·rw [eq_comm,Bool.and_eq_false_iff];right;simp;omega
  ·rw [decide_eq_true h4,Bool.true_and]
   have hk1:dH [(⟨dE ws 1,n (dE ws 2),n (dE ws 3)⟩:dx)]=(dD (dE ws 1)&&eQ ⟨dE ws 1,n (dE ws 2),n (dE ws 3)⟩):=by
    rw [Bool.eq_iff_iff,ca]
    simp
   rw [hk1];unfold fC jc eQ eB
   cases h2:eu (dE ws 2) <;> cases h3:eu (dE ws 3) <;> rw [h2] at e2 <;> rw [h3] at e3 <;> simp only [e2,e3,cond_true,cond_false,Bool.true_and,Bool.false_and,Bool.and_false]
   ·rw [eq_comm,Bool.and_eq_false_iff];right;simp
   ·rw [eq_comm,Bool.and_eq_false_iff];right;simp
   ·rw [eq_comm,Bool.and_eq_false_iff];right;simp
  ·intro h
   rw [Bool.and_eq_true] at h;unfold fC jc;rw [h.1,h.2,cond_true,cond_true];rw [h.1,cond_true] at e2;rw [h.2,cond_true] at e3;rw [e2,e3]
 ·refine ⟨⟨⟨#[]⟩,0,0⟩,false,by rw [decide_eq_false h4];rfl,Nat.zero_le _,?_,?_,?_⟩
  ·rw [decide_eq_false h4];rfl
  ·rw [decide_eq_false h4];rfl
  ·intro h;cases h
open Go.RowKit
structure Gd (b:Bk):Prop where
 sm:vX b
 k:dM b.1=true
 p:dH b.2.1=true
theorem Gd.none:Gd ([],[],[]) :=
 ⟨⟨⟨(fun t h=>by cases h),(fun t h=>by cases h),(fun e h=>by cases h)⟩,⟨by simp,by simp,by simp,(fun e h=>by cases h),(fun e h=>by cases h),(fun e h=>by cases h)⟩,by simp [jC]⟩,(cz []).2 ⟨by simp,(fun t h=>by cases h),List.Pairwise.nil⟩,(ca []).2 ⟨by simp,(fun t h=>by cases h),List.Pairwise.nil,List.Pairwise.nil⟩⟩
theorem Gd.klen {b:Bk} (h:Gd b):b.1.length≤6:=((cz _).1 h.k).1
theorem Gd.plen {b:Bk} (h:Gd b):b.2.1.length≤16:=((ca _).1 h.p).1
theorem Gd.insK {ks ps:List dx} {es:List dU} {t:dx} (h:Gd (ks,ps,es)) (hl:ks.length<6) (hn:dD t.s=true) (hp:gI t=true) (hh:hasB ks t.s=false) (hs:t.s.size≤1048576):Gd (fD ks (iH ks t.s) t,ps,es):=by
 obtain ⟨⟨⟨n1,n2,n3⟩,⟨s1,s2,s3,s4,s5,s6⟩,u⟩,k,p⟩:=h;refine ⟨⟨⟨fun x hx=>?_,n2,n3⟩,⟨?_,s2,s3,s4,s5,s6⟩,u⟩,Aq k hl hn hp hh,p⟩
 ·rcases pq.1 hx with rfl | hx
  ·unfold maxLen;omega
  ·exact n1 x hx
 ·show (fD ks (iH ks t.s) t).length≤1048576
  rw [lS];omega
theorem Gd.insP {ks ps:List dx} {es:List dU} {t:dx} (h:Gd (ks,ps,es)) (hl:ps.length<16) (hn:dD t.s=true) (hp:eQ t=true) (hh:hasB ps t.s=false) (ht:gK ps t=false) (hs:t.s.size≤1048576):Gd (ks,fD ps (iH ps t.s) t,es):=by
 obtain ⟨⟨⟨n1,n2,n3⟩,⟨s1,s2,s3,s4,s5,s6⟩,u⟩,k,p⟩:=h;refine ⟨⟨⟨n1,fun x hx=>?_,n3⟩,⟨s1,?_,s3,s4,s5,s6⟩,u⟩,k,xy p hl hn hp hh ht⟩
 ·rcases pq.1 hx with rfl | hx
  ·unfold maxLen;omega
  ·exact n2 x hx
 ·show (fD ps (iH ps t.s) t).length≤1048576
  rw [lS];omega
theorem Gd.take {ks ps:List dx} {es:List dU} {c:dP} (h:Gd (ks,ps,es)) (hf:c.f.size≤1048576) (hv:c.v.size≤1048576):Gd (dN ks ps es ks,dN ks ps es ps,eT ks ps es c):=by
 refine ⟨h.sm.step hf hv,?_,?_⟩
 ·show dM (dN ks ps es ks)=true
  unfold dN
  cases dJ ks ps es
  ·exact Gd.none.k
  ·exact h.k
 ·show dH (dN ks ps es ps)=true
  unfold dN
  cases dJ ks ps es
  ·exact Gd.none.p
  ·exact h.p
theorem Gd.line {rd:ByteArray→dP×Bool} {b:Bk} {l:ByteArray} (h:Gd b) (hl:l.size≤1048576) (hr:(rd l).1.f.size≤l.size∧(rd l).1.v.size≤l.size) (h0:eU rd b l=0):Gd (dX rd b l):=by
 obtain ⟨ks,ps,es⟩:=b;unfold eU at h0;unfold dX;have hz:∀ i,i<(dn l).length→(dE (dn l) i).size≤1048576:=fun i hi=>Nat.le_trans (kY hi) hl
 by_cases h1:dE (dn l) 0=fZ
 ·rw [if_pos h1] at h0 ⊢
  obtain ⟨e1,e2,e3,e4,e5⟩:=yn h0
  exact h.insK e5 e2 e3 e4 (hz 1 (by omega))
 ·rw [if_neg h1] at h0 ⊢
  by_cases h2:dE (dn l) 0=eG
  ·rw [if_pos h2] at h0 ⊢
   obtain ⟨e1,e2,e3,e4,e5,e6⟩:=vv h0
   exact h.insP e6 e2 e3 e4 e5 (hz 1 (by omega))
  ·rw [if_neg h2] at h0 ⊢
   exact h.take (by omega) (by omega)
theorem df.kinds {lo n:Nat} {w w':World} {x y z u:Value} {ks ps l:List dx} {es:List dU} (h:df lo w x y z ks ps es) (hlo:lo≤w.heap.size) (hb:Below w.heap.size w w') (hu:w'.ownsRow w.heap.size 69 3 u n (aS l)) (hn:n=l.length):df lo w' u y z l ps es:=by
 obtain ⟨-,h2,h3⟩:=h.keep hb;subst hn;exact ⟨aJ hu hlo,h2,h3⟩
theorem df.points {lo n:Nat} {w w':World} {x y z u:Value} {ks ps l:List dx} {es:List dU} (h:df lo w x y z ks ps es) (hlo:lo≤w.heap.size) (hb:Below w.heap.size w w') (hu:w'.ownsRow w.heap.size 72 3 u n (aS l)) (hn:n=l.length):df lo w' x u z ks l es:=by
 obtain ⟨h1,-,h3⟩:=h.keep hb;subst hn;exact ⟨h1,aJ hu hlo,h3⟩
end Go.Proofs.YtcmgddnckohdaaaGreatDoor
namespace Go.Proofs.YtcmgddnckohdaaaGreatDoor.Tx
open Go.RowKit Sd
theorem Mm (s:ByteArray):(⟨(Lib.cut s.data.toList CL.data.toList).1.toArray⟩:ByteArray)=dE (dn s) 0:=by
 have hi:Lib.index s.data.toList CL.data.toList=Lib.indexByte (bytes s) 32:=Lib.index_one _ _;unfold Lib.cut;rw [hi]
 rcases lq (bytes s) with h | ⟨a,r,hs,h⟩
 ·rw [yB _ h,if_neg (by decide)]
  unfold dn;rw [lu _ _ h]
  simp [dE]
  rfl
 ·rw [hs,yA _ _ h,if_pos (by omega)]
  unfold dn;rw [hs,bt _ _ _ h];have e:s.data.toList=a++32::r:=hs
  simp [dE,e]
def fK:Value:=.func (.func 155) #[] #[]
def fP:Value:=.func (.func 156) #[] #[]
def fS:Value:=.func (.func 157) #[] #[]
open Classical in
noncomputable def JW (v:Value):Option (DataW Nat×List MemPlace) :=
 if v=fK then some (.lit (.int .i64 1),[]) else if v=fP then some (.lit (.int .i64 2),[]) else if v=fS then some (.lit (.int .i64 3),[]) else some (.lit (.int .i64 0),[])
theorem Cs {v:Value} {n:Int} {ps:List MemPlace} (h:JW v=some (.lit (.int .i64 n),ps)):(n=1∧v=fK)∨(n=2∧v=fP)∨(n=3∧v=fS)∨n=0:=by
 unfold JW at h
 split at h
 ·rename_i e;simp at h;exact .inl ⟨h.1.symm,e⟩
 ·split at h
  ·rename_i e;simp at h;exact .inr (.inl ⟨h.1.symm,e⟩)
  ·split at h
   ·rename_i e;simp at h;exact .inr (.inr (.inl ⟨h.1.symm,e⟩))
   ·simp at h;exact .inr (.inr (.inr h.1.symm))
end Go.Proofs.YtcmgddnckohdaaaGreatDoor.Tx
namespace Go.Proofs.YtcmgddnckohdaaaGreatDoor
open Go.RowKit
theorem nilKind (n c:Nat) (w:World):(binOp .eql 24 (.slice none n c) (.slice none 0 0)).run Tryz.prog w=.ok (.bool true) w:=by kernel_rfl
theorem KT (ad:Addr) (n c:Nat) (w:World):(binOp .eql 24 (.slice (some ad) n c) (.slice none 0 0)).run Tryz.prog w=.ok (.bool false) w:=by kernel_rfl
theorem qC (v:Value) (l:List dx) (w:World) (h:dA w v l) (hl:l.length≤1048576) :
  Calls Tryz.prog 182 #[v] w fun e w'=>∃ u,e=.returned u∧w'.ownsRow w.heap.size 69 3 u l.length (aS l)∧Below w.heap.size w w':=by
 obtain ⟨i0,hi,hz0,hz1,hz2⟩:=info_parts kS;have HT:=aq h;obtain ⟨a,c,rfl,h1,h2,h3⟩:=h;have HS:=aq (mh HT.out);clear h3
 cases a with
 | none =>
  have hl0:l.length=0:=by
   rcases HS.out with h0 | ⟨ad,h0,_⟩
   ·exact h0
   ·cases h0
  have hl1:l=[]:=List.length_eq_zero_iff.1 hl0;subst hl1;have q1:=nilKind
  go_enter Tryz.func182,Tryz.ntmps182
  go_wp2_with fail;go_ret;exact ⟨_,rfl,⟨rfl,.inl ⟨rfl,rfl⟩⟩,Below.refl _ _⟩
 | some ad =>
  have R0:Hid ((w.alloc (.cells #[] 69)).ownsRow w.heap.size 69 3 (.slice (some ⟨w.heap.size,0,none⟩) 0 0) 0 []):=be (am w _) aG 3;have B0:Hid (Below w.heap.size w (w.alloc (.cells #[] 69))):=(aM);have hsrc:=cN HS.out B0.out;have q1:=KT
  go_enter Tryz.func182,Tryz.ntmps182
  go_wp2_with (at_builtin;refine aZ _ rfl _ _ 24 rfl w.heap.size 69 i0 _ 3 32 Tryz.underlying24 hi hz0 hz1 hz2 rfl (by decide) _ 0 [] rfl R0.out (some ad) l.length c (aS l) rfl hsrc (aE _) bB (by unfold maxLen;omega) (by omega) (by simp) ?_;intro vq wx hown hgrow hat)
  rw [Nat.zero_add,List.nil_append] at hown;have HN:Hid (Below w.heap.size w wx):=B0.out.grown hgrow B0.out.size (fun q e=>aw R0.out q e);have HO:=aq hown;clear hown hgrow hat hsrc;go_ret;exact ⟨_,rfl,HO.out,HN.out⟩
theorem Ld (n c:Nat) (w:World):(binOp .eql 25 (.slice none n c) (.slice none 0 0)).run Tryz.prog w=.ok (.bool true) w:=by kernel_rfl
theorem I7 (ad:Addr) (n c:Nat) (w:World):(binOp .eql 25 (.slice (some ad) n c) (.slice none 0 0)).run Tryz.prog w=.ok (.bool false) w:=by kernel_rfl
theorem oQ (v:Value) (l:List dx) (w:World) (h:dA w v l) (hl:l.length≤1048576) :
  Calls Tryz.prog 185 #[v] w fun e w'=>∃ u,e=.returned u∧w'.ownsRow w.heap.size 72 3 u l.length (aS l)∧Below w.heap.size w w':=by
 obtain ⟨i0,hi,hz0,hz1,hz2⟩:=info_parts jS;have HT:=aq h;obtain ⟨a,c,rfl,h1,h2,h3⟩:=h;have HS:=aq (mh HT.out);clear h3
 cases a with
 | none =>
  have hl0:l.length=0:=by
   rcases HS.out with h0 | ⟨ad,h0,_⟩
   ·exact h0
   ·cases h0
  have hl1:l=[]:=List.length_eq_zero_iff.1 hl0;subst hl1;have q1:=Ld
  go_enter Tryz.func185,Tryz.ntmps185
  go_wp2_with fail;go_ret;exact ⟨_,rfl,⟨rfl,.inl ⟨rfl,rfl⟩⟩,Below.refl _ _⟩
 | some ad =>
  have R0:Hid ((w.alloc (.cells #[] 72)).ownsRow w.heap.size 72 3 (.slice (some ⟨w.heap.size,0,none⟩) 0 0) 0 []):=be (am w _) aG 3;have B0:Hid (Below w.heap.size w (w.alloc (.cells #[] 72))):=(aM);have hsrc:=cN HS.out B0.out;have q1:=I7
  go_enter Tryz.func185,Tryz.ntmps185
  go_wp2_with (at_builtin;refine aZ _ rfl _ _ 25 rfl w.heap.size 72 i0 _ 3 32 Tryz.underlying25 hi hz0 hz1 hz2 rfl (by decide) _ 0 [] rfl R0.out (some ad) l.length c (aS l) rfl hsrc (aE _) bB (by unfold maxLen;omega) (by omega) (by simp) ?_;intro vq wx hown hgrow hat)
  rw [Nat.zero_add,List.nil_append] at hown;have HN:Hid (Below w.heap.size w wx):=B0.out.grown hgrow B0.out.size (fun q e=>aw R0.out q e);have HO:=aq hown;clear hown hgrow hat hsrc;go_ret;exact ⟨_,rfl,HO.out,HN.out⟩
end Go.Proofs.YtcmgddnckohdaaaGreatDoor
namespace Go.Proofs.YtcmgddnckohdaaaGreatDoor.Dr
open Go.RowKit
structure SB (w wr:World) (R BB px:Nat) (xk xp xe:Value) (ks ps:List dx) (l:List eD):Prop where
 rd:Rd wr R px
 gr:w.grownBy wr (some R)
 res:wr.heap[w.heap.size]?=some (.cells #[.slice none 0 0,.slice none 0 0,.slice none 0 0] 30 (0,0))
 box:wr.heap[BB]?=some (.cells #[xk,xp,xe] 30 (0,0))
 k:wr.ownsRow (w.heap.size+1) 69 3 xk ks.length (Go.Proofs.YtcmgddnckohdaaaGreatDoor.aS ks)
 p:wr.ownsRow (w.heap.size+1) 72 3 xp ps.length (Go.Proofs.YtcmgddnckohdaaaGreatDoor.aS ps)
 e:wr.ownsRow (w.heap.size+1) 65 2 xe l.length (dw l)
 f:∀ q∈l,wr.ownsRow (w.heap.size+1) 67 3 q.2 q.1.fs.length (di q.1.fs)
theorem SB.pick {w wr wx:World} {R BB px qx:Nat} {xk xp xe:Value} {ks ps:List dx} {l:List eD} (h:SB w wr R BB px xk xp xe ks ps l) (hR:R<w.heap.size) (hB:w.heap.size<BB) (hr:Rd wx R qx) (hg:wr.grownBy wx (some R)):SB w wx R BB qx xk xp xe ks ps l :=
 ⟨hr,az h.gr hg,aV hg (by omega) h.res,aV hg (by omega) h.box,cy h.k hg (by omega),cy h.p hg (by omega),cy h.e hg (by omega),fun q hq=>cy (h.f q hq) hg (by omega)⟩
theorem SB.call {w wr wx:World} {R BB px:Nat} {xk xp xe:Value} {ks ps:List dx} {l:List eD} (h:SB w wr R BB px xk xp xe ks ps l) (hb:Below wr.heap.size wr wx):SB w wx R BB px xk xp xe ks ps l :=
 ⟨h.rd.far hb,az h.gr (aH hb _),(hb.block _ (aP h.res)).trans h.res,(hb.block _ (aP h.box)).trans h.box,cj h.k hb,cj h.p hb,cj h.e hb,fun q hq=>cj (h.f q hq) hb⟩
theorem SB.at {w wr:World} {R BB px:Nat} {xk xp xe:Value} {ks ps:List dx} {l:List eD} (h:SB w wr R BB px xk xp xe ks ps l):dI wr xk xp xe ks ps (l.map (·.1)):=by
 refine ⟨cC h.k,cC h.p,?_⟩;obtain ⟨a,cap,h1,h2,h3,h4⟩:=mG gu jZ h.e
 refine ⟨a,cap,by rw [List.length_map];exact h1,by rw [List.length_map];exact h2,h3,fun i t ht=>?_⟩
 rw [List.getElem?_map] at ht
 cases hp:l[i]? with
 | none=>rw [hp] at ht;cases ht
 | some p =>
  rw [hp] at ht
  cases ht
  obtain ⟨g,ha,hc⟩:=h4 i p hp
  exact ⟨g,0,ha,p.2,by simpa using hc 0 _ rfl,by simpa using hc 1 _ rfl,yG (h.f p (List.mem_of_getElem? hp))⟩
theorem SB.cell {w wr:World} {R BB px g o:Nat} {xk xp xe x:Value} {ks ps:List dx} {l:List eD} (h:SB w wr R BB px xk xp xe ks ps l) (hR:R<w.heap.size) (hg:w.heap.size+1≤g) (hB:BB≠g) :
  Rd (wr.setCell ⟨g,o,none⟩ x) R px∧w.grownBy (wr.setCell ⟨g,o,none⟩ x) (some R)∧(wr.setCell ⟨g,o,none⟩ x).heap[w.heap.size]?=some (.cells #[.slice none 0 0,.slice none 0 0,.slice none 0 0] 30 (0,0))∧(wr.setCell ⟨g,o,none⟩ x).heap[BB]?=some (.cells #[xk,xp,xe] 30 (0,0)):=by
 have hoo:∀ b,b≠g→(wr.setCell ⟨g,o,none⟩ x).heap[b]?=wr.heap[b]?:=fun b hb=>Below.heap_setCell wr ⟨g,o,none⟩ x b hb
 exact ⟨h.rd.late (fun j hj=>hoo j (by omega)),bV h.gr o x (by omega),(hoo _ (by omega)).trans h.res,(hoo _ hB).trans h.box⟩
theorem ql:∀ (l:List eD) (k:Nat) (p:eD) (s:ByteArray) (fs:List fI),l[k]?=some p→dw (l.set k (⟨s,fs⟩,p.2))=(dw l).set (k*2) (.string s)
 | [],k,p,s,fs,hk=>by simp at hk
 | a::l,0,p,s,fs,hk=>by
  have:a=p:=by simpa using hk
  subst this
  simp [dw,gu]
 | a::l,k+1,p,s,fs,hk=>by
  have ih:=ql l k p s fs (by simpa using hk)
  have c:∀ (x:eD) (m:List eD),dw (x::m)=gu x++dw m:=fun x m=>by simp [dw]
  rw [List.set_cons_succ,c,c,ih,show (k+1)*2=2+k*2 by omega,List.set_append_right _ _ (by simp [gu])]
  simp [gu]
theorem SB.name {w wr:World} {R BB px g cap kn n:Nat} {xk xp:Value} {ks ps:List dx} {l:List eD} {q:eD} {s:ByteArray} (h:SB w wr R BB px xk xp (.slice (some ⟨g,0,none⟩) n cap) ks ps l) (hn:l.length=n) (hR:R<w.heap.size) (hq:l[kn]?=some q):SB w (wr.setCell ⟨g,kn*2,none⟩ (.string s)) R BB px xk xp (.slice (some ⟨g,0,none⟩) n cap) ks ps (l.set kn (⟨s,q.1.fs⟩,q.2)):=by
 subst hn;have hkl:=(List.getElem?_eq_some_iff.1 hq).1;have hg:w.heap.size+1≤g:=cE h.e g rfl
 have hgB:BB≠g:=fun e=>bu h.e h.box (by decide) (by rw [e];rfl)
 obtain ⟨c1,c2,c3,c4⟩:=h.cell (o:=kn*2) (x:=.string s) hR hg hgB
 refine ⟨c1,c2,c3,c4,br h.k (bF wr g _ _) (jO h.k h.e (by decide)),br h.p (bF wr g _ _) (jO h.p h.e (by decide)),?_,fun r hr=>?_⟩
 ·rw [List.length_set,ql l kn q s q.1.fs hq]
  exact xJ h.e (by omega)
 ·have hr2:wr.ownsRow (w.heap.size+1) 67 3 r.2 r.1.fs.length (di r.1.fs):=by
   rcases List.mem_or_eq_of_mem_set hr with h1 | h1
   ·exact h.f r h1
   ·rw [h1];exact h.f q (List.mem_of_getElem? hq)
  exact br hr2 (bF wr g _ _) (jO hr2 h.e (by decide))
theorem lU:∀ (l:List fI) (i j:Nat) (t t':fI) (x:Value),l[i]?=some t→j<3→dL t'=(dL t).set j x→di (l.set i t')=(di l).set (i*3+j) x
 | [],i,j,t,t',x,h,hj,hs=>by simp at h
 | a::l,0,j,t,t',x,h,hj,hs=>by
  simp at h;subst h
  have e:di (a::l)=dL a++di l:=by simp [di]
  have e':di ((a::l).set 0 t')=dL t'++di l:=by simp [di]
  rw [e,e',hs,Nat.zero_mul,Nat.zero_add,List.set_append_left _ _ (by simp [dL];omega)]
 | a::l,i+1,j,t,t',x,h,hj,hs=>by
  have e:di (a::l)=dL a++di l:=by simp [di]
  have e':di ((a::l).set (i+1) t')=dL a++di (l.set i t'):=by simp [di]
  have hl:(dL a).length=3:=rfl
  rw [e,e',lU l i j t t' x (by simpa using h) hj hs,List.set_append_right _ _ (by omega),hl]
  congr 2
  omega
theorem SB.more {w W2 W3:World} {R BB px:Nat} {xk xp xe xe':Value} {ks ps:List dx} {l:List eD} {q:eD} (h:SB w W2 R BB px xk xp xe ks ps l) (hR:R<w.heap.size) (hB:w.heap.size<BB) (hg:W2.grownBy W3 xe.ownBlock) (hown:W3.ownsRow (w.heap.size+1) 65 2 xe' (l.length+1) (dw l++gu q)) (hf:W2.ownsRow (w.heap.size+1) 67 3 q.2 q.1.fs.length (di q.1.fs)):SB w (W3.setCell ⟨BB,2,none⟩ xe') R BB px xk xp xe' ks ps (l++[q]):=by
 have hge:∀ q,xe.ownBlock=some q→w.heap.size+1≤q:=fun q hq=>cE h.e q hq
 have hBk:some BB≠xe.ownBlock:=bu h.e h.box (by decide)
 have hb3:W3.heap[BB]?=some (.cells #[xk,xp,xe] 30 (0,0)):=(hg.block BB (aP h.box) hBk).trans h.box;have ho:∀ b,b≠BB→(W3.setCell ⟨BB,2,none⟩ xe').heap[b]?=W3.heap[b]?:=fun b hb=>Below.heap_setCell W3 ⟨BB,2,none⟩ xe' b hb
 have hlow:∀ b,b≤w.heap.size→b<W2.heap.size→(W3.setCell ⟨BB,2,none⟩ xe').heap[b]?=W2.heap[b]?:=fun b hb hl=>(ho b (by omega)).trans (hg.block b hl (fun e=>by have:=hge b e.symm;omega))
 have hz:=h.gr.size
 have go:∀ {t:TypeId} {c n:Nat} {v:Value} {xs:List Value},W2.ownsRow (w.heap.size+1) t c v n xs→t≠65→t≠30→(W3.setCell ⟨BB,2,none⟩ xe').ownsRow (w.heap.size+1) t c v n xs:=fun h1 h2 h3=>by
  have h4:=br h1 hg (jO h1 h.e h2)
  exact br h4 (bF W3 BB 2 xe') (fun k hk e=>bu h4 hb3 h3 (by rw [hk,e]))
 refine ⟨h.rd.late (fun j hj=>hlow j (by omega) (by omega)),bV (kU h.gr hg (fun q hq=>by have:=hge q hq;omega)) 2 _ (by omega),(hlow _ aG (aP h.res)).trans h.res,cP hb3,go h.k (by decide) (by decide),go h.p (by decide) (by decide),?_,fun r hr=>?_⟩
 ·rw [List.length_append,ci]
  exact br hown (bF W3 BB 2 xe') (fun k hk e=>bu hown hb3 (by decide) (by rw [hk,e]))
 ·rcases List.mem_append.1 hr with h1 | h1
  ·exact go (h.f r h1) (by decide) (by decide)
  ·rw [List.mem_singleton.1 h1];exact go hf (by decide) (by decide)
open Go.RowKit
attribute [local go_sem] Later.cell Later.frozen
def kR (lo:Nat) (w:World) (x y z:Value) (ks ps:List dx) (es:List dU):Prop:=∀ w':World,(∀ b,lo≤b→b<w.heap.size→w'.heap[b]?=w.heap[b]?)→dI w' x y z ks ps es
theorem kR.mono {lo lo':Nat} {w:World} {x y z:Value} {ks ps:List dx} {es:List dU} (h:kR lo w x y z ks ps es) (hl:lo'≤lo):kR lo' w x y z ks ps es:=fun w' hw=>h w' (fun b h1 h2=>hw b (by omega) h2)
theorem kR.at {lo:Nat} {w:World} {x y z:Value} {ks ps:List dx} {es:List dU} (h:kR lo w x y z ks ps es):dI w x y z ks ps es:=h w (fun _ _ _=>rfl)
theorem kR.to {lo:Nat} {w w':World} {x y z:Value} {ks ps:List dx} {es:List dU} (h:kR lo w x y z ks ps es) (hz:w.heap.size≤w'.heap.size) (hs:∀ b,lo≤b→b<w.heap.size→w'.heap[b]?=w.heap[b]?):kR lo w' x y z ks ps es:=fun w2 h2=>h w2 (fun b h3 h4=>(h2 b h3 (by omega)).trans (hs b h3 h4))
theorem SB.fin {w wr:World} {R BB px:Nat} {xk xp xe:Value} {ks ps:List dx} {l:List eD} (h:SB w wr R BB px xk xp xe ks ps l) (hR:R<w.heap.size) (C:Array Value):kR (w.heap.size+1) (wr.setRow w.heap.size C) xk xp xe ks ps (l.map (·.1))∧Rd (wr.setRow w.heap.size C) R px∧w.grownBy (wr.setRow w.heap.size C) (some R):=by
 have ho:∀ b,b≠w.heap.size→(wr.setRow w.heap.size C).heap[b]?=wr.heap[b]?:=fun b hb=>setRow_other _ _ _ _ hb
 have hg:wr.grownBy (wr.setRow w.heap.size C) (some w.heap.size):=⟨rfl,rfl,rfl,by simp,fun j _ hj=>ho j (fun e=>hj (by rw [e]))⟩
 have go:∀ {t:TypeId} {c n:Nat} {v:Value} {xs:List Value},wr.ownsRow (w.heap.size+1) t c v n xs→(wr.setRow w.heap.size C).ownsRow (w.heap.size+1) t c v n xs:=fun h1=>br h1 hg (fun k hk e=>by have:=cE h1 k hk;injection e;omega)
 refine ⟨fun w' hw'=>?_,h.rd.late (fun j hj=>ho j (by omega)),bX h.gr _ aG⟩
 have go2:∀ {t:TypeId} {c n:Nat} {v:Value} {xs:List Value},wr.ownsRow (w.heap.size+1) t c v n xs→w'.ownsRow (w.heap.size+1) t c v n xs:=fun h1=>qo (go h1) (fun k hk hl=>hw' k (cE h1 k hk) hl);refine ⟨cC (go2 h.k),cC (go2 h.p),?_⟩;obtain ⟨a,cap,h1,h2,h3,h4⟩:=mG gu jZ (go2 h.e)
 refine ⟨a,cap,by rw [List.length_map];exact h1,by rw [List.length_map];exact h2,h3,fun i t ht=>?_⟩
 rw [List.getElem?_map] at ht
 cases hp:l[i]? with
 | none=>rw [hp] at ht;cases ht
 | some p =>
  rw [hp] at ht
  cases ht
  obtain ⟨g,ha,hc⟩:=h4 i p hp
  exact ⟨g,0,ha,p.2,by simpa using hc 0 _ rfl,by simpa using hc 1 _ rfl,yG (go2 (h.f p (List.mem_of_getElem? hp)))⟩
theorem SB.base {w W W':World} {R BB px qx lo:Nat} {xk xp xe kv pv:Value} {ks ps ks' ps':List dx} {l:List eD} (h:SB w W R BB px xk xp xe ks ps l) (hR:R<w.heap.size) (hB:w.heap.size<BB) (hr:Rd W' R qx) (hg:W.grownBy W' (some R)) (hlo:w.heap.size+1≤lo) (hk:W'.ownsRow lo 69 3 kv ks'.length (Go.Proofs.YtcmgddnckohdaaaGreatDoor.aS ks')) (hp:W'.ownsRow lo 72 3 pv ps'.length (Go.Proofs.YtcmgddnckohdaaaGreatDoor.aS ps')):SB w (W'.setCells BB 0 [kv,pv]) R BB qx kv pv xe ks' ps' l:=by
 have h1:=h.pick hR hB hr hg;have e:W'.setCells BB 0 [kv,pv]=(W'.setCell ⟨BB,0,none⟩ kv).setCell ⟨BB,1,none⟩ pv:=rfl;rw [e];have ho:∀ b,b≠BB→((W'.setCell ⟨BB,0,none⟩ kv).setCell ⟨BB,1,none⟩ pv).heap[b]?=W'.heap[b]?:=fun b hb=>(Below.heap_setCell _ ⟨BB,1,none⟩ pv b hb).trans (Below.heap_setCell W' ⟨BB,0,none⟩ kv b hb);have hgg:W'.grownBy ((W'.setCell ⟨BB,0,none⟩ kv).setCell ⟨BB,1,none⟩ pv) (some BB):=az (bF W' BB 0 kv) (bF _ BB 1 pv);have hz:=h1.gr.size
 have go:∀ {t:TypeId} {c n:Nat} {v:Value} {xs:List Value} {lo:Nat},W'.ownsRow lo t c v n xs→t≠30→((W'.setCell ⟨BB,0,none⟩ kv).setCell ⟨BB,1,none⟩ pv).ownsRow lo t c v n xs:=fun h2 h3=>br h2 hgg (fun k hk e=>bu h2 h1.box h3 (by rw [hk,e]))
 exact ⟨h1.rd.late (fun j hj=>ho j (by omega)),bV (bV h1.gr 0 _ (by omega)) 1 _ (by omega),(ho _ (by omega)).trans h1.res,cP (cP h1.box),aJ (go hk (by decide)) hlo,aJ (go hp (by decide)) hlo,go h1.e (by decide),fun q hq=>go (h1.f q hq) (by decide)⟩
theorem SB.cells {w wr:World} {R BB px g cap n kn:Nat} {xk xp:Value} {ks ps:List dx} {l:List eD} {q:eD} (h:SB w wr R BB px xk xp (.slice (some ⟨g,0,none⟩) n cap) ks ps l) (hq:l[kn]?=some q):wr.cell? ⟨g,kn*2,none⟩=some (.string q.1.name)∧wr.cell? ⟨g,kn*2+1,none⟩=some q.2:=by
 obtain ⟨a,cap',h1,h2,h3,h4⟩:=mG gu jZ h.e;obtain ⟨g',ha,hc⟩:=h4 kn q hq
 cases h1
 cases ha
 exact ⟨by simpa using hc 0 _ rfl,by simpa using hc 1 _ rfl⟩
theorem DV {w:World} {base:Nat} {e:TypeId} {size g n cap:Nat} {xs:List Value} (h:w.ownsRow base e size (.slice (some ⟨g,0,none⟩) n cap) n xs):∀ j,w.frozen? ⟨g,j,none⟩=false:=fun j=>by
 obtain ⟨-,h2⟩:=h
 rcases h2 with ⟨h0,-⟩ | ⟨g',cap',cur,hv,-,hc,-⟩
 ·cases h0
 ·cases hv;simp [World.frozen?,hc]
end Go.Proofs.YtcmgddnckohdaaaGreatDoor.Dr
namespace Go.Proofs.YtcmgddnckohdaaaGreatDoor.Dr
open Go.RowKit
attribute [local go_sem] Later.cell Later.frozen
theorem uS {w:World} {X:Nat} {T:TypeId} {u1 u2 u3:Value} {a1 a2 a3:Option Addr} {n1 n2 n3 c1 c2 c3:Nat} (hX:w.heap[X]?=some (.cells #[.slice a1 n1 c1,.slice a2 n2 c2,.slice a3 n3 c3] T (0,0))) (C:Array Value) {b o:Nat} {s:ByteArray} (hc:w.cell? ⟨b,o,none⟩=some (.string s)):(w.setRow X C).heap[b]?=w.heap[b]?:=by
 refine setRow_other _ _ _ _ (fun e=>?_);subst e
 simp only [World.cell?,hX] at hc
 rcases o with - | - | - | o <;> simp at hc
theorem bw {w w':World} {b o:Nat} {u:Value} (hb:w'.heap[b]?=w.heap[b]?) (hc:w.cell? ⟨b,o,none⟩=some u):w'.cell? ⟨b,o,none⟩=some u:=by
 rw [World.cell?_of_block (w:=w) hb];exact hc
theorem lF {w w':World} {v:Value} {l:List dx} (h:dA w v l) (hs:∀ b o s,w.cell? ⟨b,o,none⟩=some (.string s)→w'.heap[b]?=w.heap[b]?):dA w' v l:=by
 obtain ⟨a,cap,rfl,h1,h2,h3⟩:=h;refine ⟨a,cap,rfl,h1,h2,fun i t ht=>?_⟩;obtain ⟨b,off,e,d0,d1,d2⟩:=h3 i t ht;have hb:=hs _ _ _ d0;exact ⟨b,off,e,bw hb d0,bw hb d1,bw hb d2⟩
theorem rA {w w':World} {v:Value} {l:List fI} (h:iW w v l) (hs:∀ b o s,w.cell? ⟨b,o,none⟩=some (.string s)→w'.heap[b]?=w.heap[b]?):iW w' v l:=by
 obtain ⟨a,cap,rfl,h1,h2,h3⟩:=h;refine ⟨a,cap,rfl,h1,h2,fun i t ht=>?_⟩;obtain ⟨b,off,e,d0,d1,d2⟩:=h3 i t ht;have hb:=hs _ _ _ d2;exact ⟨b,off,e,bw hb d0,bw hb d1,bw hb d2⟩
theorem rC {w w':World} {v:Value} {l:List dU} (h:je w v l) (hs:∀ b o s,w.cell? ⟨b,o,none⟩=some (.string s)→w'.heap[b]?=w.heap[b]?):je w' v l:=by
 obtain ⟨a,cap,rfl,h1,h2,h3⟩:=h;refine ⟨a,cap,rfl,h1,h2,fun i t ht=>?_⟩;obtain ⟨b,off,e,fv,d0,d1,hf⟩:=h3 i t ht;have hb:=hs _ _ _ d0;exact ⟨b,off,e,fv,bw hb d0,bw hb d1,rA hf hs⟩
theorem nO {w w':World} {vk vp ve:Value} {ks ps:List dx} {es:List dU} (h:dI w vk vp ve ks ps es) (hs:∀ b o s,w.cell? ⟨b,o,none⟩=some (.string s)→w'.heap[b]?=w.heap[b]?):dI w' vk vp ve ks ps es :=
 ⟨lF h.k hs,lF h.p hs,rC h.e hs⟩
theorem cv {w:World} {X:Nat} {T:TypeId} {a1 a2 a3:Option Addr} {n1 n2 n3 c1 c2 c3:Nat} {vk vp ve:Value} {ks ps:List dx} {es:List dU} (h:dI w vk vp ve ks ps es) (hX:w.heap[X]?=some (.cells #[.slice a1 n1 c1,.slice a2 n2 c2,.slice a3 n3 c3] T (0,0))) (C:Array Value):dI (w.setRow X C) vk vp ve ks ps es :=
 nO h (fun b o s hc=>uS (u1:=.slice none 0 0) (u2:=.slice none 0 0) (u3:=.slice none 0 0) hX C hc)
theorem dI.slices {w:World} {vk vp ve:Value} {ks ps:List dx} {es:List dU} (h:dI w vk vp ve ks ps es):∃ a1 c1 a2 c2 a3 c3,vk=.slice a1 ks.length c1∧vp=.slice a2 ps.length c2∧ve=.slice a3 es.length c3:=by
 obtain ⟨⟨a1,c1,h1,-⟩,⟨a2,c2,h2,-⟩,⟨a3,c3,h3,-⟩⟩:=h;exact ⟨a1,c1,a2,c2,a3,c3,h1,h2,h3⟩
end Go.Proofs.YtcmgddnckohdaaaGreatDoor.Dr
namespace Go.Proofs.YtcmgddnckohdaaaGreatDoor.Tx
open Go.RowKit
theorem uS {w:World} {X:Nat} {T:TypeId} {u1 u2 u3:Value} {a1 a2 a3:Option Addr} {n1 n2 n3 c1 c2 c3:Nat} (hX:w.heap[X]?=some (.cells #[.slice a1 n1 c1,.slice a2 n2 c2,.slice a3 n3 c3] T (0,0))) (C:Array Value) {b o:Nat} {s:ByteArray} (hc:w.cell? ⟨b,o,none⟩=some (.string s)):(w.setRow X C).heap[b]?=w.heap[b]?:=by
 refine setRow_other _ _ _ _ (fun e=>?_);subst e
 simp only [World.cell?,hX] at hc
 rcases o with - | - | - | o <;> simp at hc
theorem bw {w w':World} {b o:Nat} {u:Value} (hb:w'.heap[b]?=w.heap[b]?) (hc:w.cell? ⟨b,o,none⟩=some u):w'.cell? ⟨b,o,none⟩=some u:=by
 rw [World.cell?_of_block (w:=w) hb];exact hc
theorem lF {w w':World} {v:Value} {l:List dx} (h:dA w v l) (hs:∀ b o s,w.cell? ⟨b,o,none⟩=some (.string s)→w'.heap[b]?=w.heap[b]?):dA w' v l:=by
 obtain ⟨a,cap,rfl,h1,h2,h3⟩:=h;refine ⟨a,cap,rfl,h1,h2,fun i t ht=>?_⟩;obtain ⟨b,off,e,d0,d1,d2⟩:=h3 i t ht;have hb:=hs _ _ _ d0;exact ⟨b,off,e,bw hb d0,bw hb d1,bw hb d2⟩
theorem rA {w w':World} {v:Value} {l:List fI} (h:iW w v l) (hs:∀ b o s,w.cell? ⟨b,o,none⟩=some (.string s)→w'.heap[b]?=w.heap[b]?):iW w' v l:=by
 obtain ⟨a,cap,rfl,h1,h2,h3⟩:=h;refine ⟨a,cap,rfl,h1,h2,fun i t ht=>?_⟩;obtain ⟨b,off,e,d0,d1,d2⟩:=h3 i t ht;have hb:=hs _ _ _ d2;exact ⟨b,off,e,bw hb d0,bw hb d1,bw hb d2⟩
theorem rC {w w':World} {v:Value} {l:List dU} (h:je w v l) (hs:∀ b o s,w.cell? ⟨b,o,none⟩=some (.string s)→w'.heap[b]?=w.heap[b]?):je w' v l:=by
 obtain ⟨a,cap,rfl,h1,h2,h3⟩:=h;refine ⟨a,cap,rfl,h1,h2,fun i t ht=>?_⟩;obtain ⟨b,off,e,fv,d0,d1,hf⟩:=h3 i t ht;have hb:=hs _ _ _ d0;exact ⟨b,off,e,fv,bw hb d0,bw hb d1,rA hf hs⟩
theorem nO {w w':World} {vk vp ve:Value} {ks ps:List dx} {es:List dU} (h:dI w vk vp ve ks ps es) (hs:∀ b o s,w.cell? ⟨b,o,none⟩=some (.string s)→w'.heap[b]?=w.heap[b]?):dI w' vk vp ve ks ps es :=
 ⟨lF h.k hs,lF h.p hs,rC h.e hs⟩
theorem cv {w:World} {X:Nat} {T:TypeId} {a1 a2 a3:Option Addr} {n1 n2 n3 c1 c2 c3:Nat} {vk vp ve:Value} {ks ps:List dx} {es:List dU} (h:dI w vk vp ve ks ps es) (hX:w.heap[X]?=some (.cells #[.slice a1 n1 c1,.slice a2 n2 c2,.slice a3 n3 c3] T (0,0))) (C:Array Value):dI (w.setRow X C) vk vp ve ks ps es :=
 nO h (fun b o s hc=>uS (u1:=.slice none 0 0) (u2:=.slice none 0 0) (u3:=.slice none 0 0) hX C hc)
theorem FE {w:World} {X:Nat} {T:TypeId} {a b:Int} {vk vp ve:Value} {ks ps:List dx} {es:List dU} (h:dI w vk vp ve ks ps es) (hX:w.heap[X]?=some (.cells #[.int .i64 a,.int .i64 b] T (0,0))) (C:Array Value):dI (w.setRow X C) vk vp ve ks ps es :=
 nO h (fun b o s hc=>setRow_other _ _ _ _ (fun e=>by
  subst e
  simp only [World.cell?,hX] at hc
  rcases o with - | - | o <;> simp at hc))
theorem ym:fZ.toList=[107,105,110,100]:=by rw [ByteArray.toList_eq];rfl
theorem vo:eG.toList=[112,111,105,110,116]:=by rw [ByteArray.toList_eq];rfl
theorem zV:jY.toList=[115,101,116]:=by rw [ByteArray.toList_eq];rfl
end Go.Proofs.YtcmgddnckohdaaaGreatDoor.Tx
