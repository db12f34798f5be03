import Derived.Test.YtcmgddnckohdaaaGreatDoorRt2
set_option maxRecDepth 100000
set_option maxHeartbeats 6400000
set_option linter.unusedSimpArgs false
set_option linter.unusedVariables false
namespace Go.Proofs.YtcmgddnckohdaaaGreatDoor
open Go.RowKit
theorem mG {α:Type} {w:World} {B:Nat} {e:TypeId} {c:Nat} {v:Value} {l:List α} (f:α→List Value) (hf:∀ x,(f x).length=c) (h:w.ownsRow B e c v l.length (l.flatMap f)) :
  ∃ a cap,v=.slice a l.length cap∧l.length≤cap∧cap≤maxLen∧∀ i t,l[i]?=some t→∃ g,a=some ⟨g,0,none⟩∧∀ r u,(f t)[r]?=some u→w.cell? ⟨g,i*c+r,none⟩=some u:=by
 obtain ⟨h1,h2⟩:=h
 rcases h2 with ⟨rfl,h0⟩ | ⟨g,cap,cur,rfl,hB,hb,hn,hc,hs,ht⟩
 ·refine ⟨none,0,by rw [h0],by omega,Nat.zero_le _,fun i t hi=>?_⟩
  have:=(List.getElem?_eq_some_iff.1 hi).1
  omega
 ·refine ⟨_,cap,rfl,hn,hc,fun i t hi=>⟨g,rfl,fun r u hu=>?_⟩⟩
  have hil:=(List.getElem?_eq_some_iff.1 hi).1
  have hr:r<c:=by have:=(List.getElem?_eq_some_iff.1 hu).1;rw [hf] at this;exact this
  have hx:cur.toList[i*c+r]?=some u:=by
   have hlt:i*c+r<l.length*c:=o7 hil hr
   have e1:(cur.toList.take (l.length*c))[i*c+r]?=cur.toList[i*c+r]?:=by rw [List.getElem?_take,if_pos hlt]
   rw [← e1,ht,oo f c hf l i r hr,hi];exact hu
  simp only [World.cell?,hb,Option.isSome_none,Bool.false_eq_true,if_false]
  simpa using hx
theorem cC {w:World} {B:Nat} {e:TypeId} {v:Value} {l:List dx} (h:w.ownsRow B e 3 v l.length (aS l)):dA w v l:=by
 obtain ⟨a,cap,h1,h2,h3,h4⟩:=mG fA qJ h;refine ⟨a,cap,h1,h2,h3,fun i t ht=>?_⟩;obtain ⟨g,ha,hc⟩:=h4 i t ht
 exact ⟨g,0,ha,by simpa using hc 0 _ rfl,by simpa using hc 1 _ rfl,by simpa using hc 2 _ rfl⟩
theorem yG {w:World} {B:Nat} {e:TypeId} {v:Value} {l:List fI} (h:w.ownsRow B e 3 v l.length (di l)):iW w v l:=by
 obtain ⟨a,cap,h1,h2,h3,h4⟩:=mG dL nG h;refine ⟨a,cap,h1,h2,h3,fun i t ht=>?_⟩;obtain ⟨g,ha,hc⟩:=h4 i t ht
 exact ⟨g,0,ha,by simpa using hc 0 _ rfl,by simpa using hc 1 _ rfl,by simpa using hc 2 _ rfl⟩
theorem jZ (p:eD):(gu p).length=2:=rfl
theorem EY {w:World} {B:Nat} {o:Value} {es:List dU} (h:tV w B o es):je w o es:=by
 obtain ⟨l,rfl,h⟩:=h;obtain ⟨a,cap,h1,h2,h3,h4⟩:=mG gu jZ h.row
 refine ⟨a,cap,by rw [List.length_map];exact h1,by rw [List.length_map];exact h2,h3,fun i t ht=>?_⟩
 rw [List.getElem?_map] at ht
 cases hp:l[i]? with
 | none=>rw [hp] at ht;cases ht
 | some p =>
  rw [hp] at ht
  cases ht
  obtain ⟨g,ha,hc⟩:=h4 i p hp
  exact ⟨g,0,ha,p.2,by simpa using hc 0 _ rfl,by simpa using hc 1 _ rfl,yG (h.iL p (List.mem_of_getElem? hp))⟩
theorem df.at {lo:Nat} {w:World} {x y z:Value} {ks ps:List dx} {es:List dU} (h:df lo w x y z ks ps es):dI w x y z ks ps es:=⟨cC h.k,cC h.p,EY h.e⟩
theorem yH (g:dU) (l:List dU) (i:Nat):eZ (g::l) (i+1)=eZ l i:=by simp [eZ]
theorem DD:∀ (es:List dU) (n:ByteArray) (f:fI) (k:Nat),(es.Pairwise fun a b=>iU a.name b.name=true)→k<es.length→(eZ es k).name=n→dS es n f=es.set k ⟨(eZ es k).name,gP (eZ es k).fs f⟩
 | [],n,f,k,_,hk,_=>by simp at hk
 | e::es,n,f,0,_,_,hn=>by
  have e0:eZ (e::es) 0=e:=rfl;rw [e0] at hn ⊢;rw [dS,if_pos hn]
  rfl
 | e::es,n,f,k+1,h,hk,hn=>by
  have h':=List.pairwise_cons.1 h;rw [yH] at hn ⊢
  have hk':k<es.length:=by simpa using hk
  have hlt:iU e.name n=true:=by
   rw [← hn];exact h'.1 _ (List.mem_of_getElem? (bp hk'))
  have hne:¬ e.name=n:=fun h=>by rw [h] at hlt;exact absurd hlt (by rw [cG];simp)
  rw [dS,if_neg hne,if_pos hlt,DD es n f k h'.2 hk' hn]
  rfl
theorem Bz:∀ (es:List dU) (n:ByteArray) (f:fI) (j:Nat),j≤es.length→(∀ e∈es,¬ e.name=n)→(∀ i,i<j→iU (eZ es i).name n=true)→(j<es.length→iU (eZ es j).name n=false)→dS es n f=es.take j++⟨n,[f]⟩::es.drop j
 | [],n,f,j,hj,_,_,_=>by
  have:j=0:=by simpa using hj
  subst this;rfl
 | e::es,n,f,0,hj,hne,hl,he=>by
  have h0:=he (by simp)
  have e0:eZ (e::es) 0=e:=rfl;rw [e0] at h0
  rw [dS,if_neg (hne e (by simp)),if_neg (by rw [h0];simp)]
  rfl
 | e::es,n,f,j+1,hj,hne,hl,he=>by
  have h0:=hl 0 (by omega)
  have e0:eZ (e::es) 0=e:=rfl;rw [e0] at h0
  rw [dS,if_neg (hne e (by simp)),if_pos h0,Bz es n f j (by simpa using hj) (fun x hx=>hne x (by simp [hx])) (fun i hi=>by have:=hl (i+1) (by omega);rwa [yH] at this) (fun hlt=>by have:=he (by simpa using hlt);rwa [yH] at this)]
  rfl
theorem rW:∀ (l:List eD) (k:Nat) (p:eD) (e:dU) (v:Value),l[k]?=some p→e.name=p.1.name→dw (l.set k (e,v))=(dw l).set (k*2+1) v
 | [],k,p,e,v,hk,_=>by simp at hk
 | a::l,0,p,e,v,hk,hn=>by
  have:a=p:=by simpa using hk
  subst this
  simp [dw,gu,hn]
 | a::l,k+1,p,e,v,hk,hn=>by
  have ih:=rW l k p e v (by simpa using hk) hn
  have c:∀ (x:eD) (m:List eD),dw (x::m)=gu x++dw m:=fun x m=>by simp [dw]
  rw [List.set_cons_succ,c,c,ih,show (k+1)*2+1=2+(k*2+1) by omega,List.set_append_right _ _ (by simp [gu])]
  simp [gu]
theorem dG.turn {w w1:World} {B g n cap k:Nat} {l:List eD} {e:dU} {fv v:Value} {fs:List fI} (h:dG w B (.slice (some ⟨g,0,none⟩) n cap) l) (hk:l[k]?=some (e,fv)) (hown:w1.ownsRow B 67 3 v fs.length (di fs)) (hg:w.grownBy w1 fv.ownBlock) (hat:∀ j,v.ownBlock=some j→fv.ownBlock=some j∨w.heap.size≤j) :
  dG (w1.setCell ⟨g,k*2+1,none⟩ v) B (.slice (some ⟨g,0,none⟩) n cap) (l.set k (⟨e.name,fs⟩,v)):=by
 have hkl:=(List.getElem?_eq_some_iff.1 hk).1;have hfl:=h.iL (e,fv) (List.mem_of_getElem? hk)
 have LM:w1.ownsRow B 65 2 (.slice (some ⟨g,0,none⟩) n cap) l.length (dw l):=ar h.row hg (aN hfl h.row (by decide))
 have gs:=aQ w1 g (k*2+1) v;have hpw:=List.pairwise_iff_getElem.1 h.apart
 have LU:∀ (i:Nat) (q:eD),i≠k→l[i]?=some q→∀ b,q.2.ownBlock=some b→fv.ownBlock≠some b:=fun i q hik hq b hb hb'=>by
  obtain ⟨hi,rfl⟩:=List.getElem?_eq_some_iff.1 hq;obtain ⟨hk',hke⟩:=List.getElem?_eq_some_iff.1 hk
  rcases Nat.lt_or_gt_of_ne hik with hlt | hgt
  ·exact hpw i k hi hk' hlt b hb (by rw [hke];exact hb')
  ·exact hpw k i hk' hi hgt b (by rw [hke];exact hb') hb
 have hold:∀ (i:Nat) (q:eD),i≠k→l[i]?=some q→w1.ownsRow B 67 3 q.2 q.1.fs.length (di q.1.fs):=fun i q hik hq=>ar (h.iL q (List.mem_of_getElem? hq)) hg (fun b hb e=>LU i q hik hq b hb e.symm);refine ⟨?_,fun p hp=>?_,?_⟩
 ·rw [rW l k (e,fv) ⟨e.name,fs⟩ v hk rfl,List.length_set]
  exact rY LM _ _
 ·obtain ⟨i,hi,rfl⟩:=List.getElem_of_mem hp
  rw [List.length_set] at hi
  by_cases e0:i=k
  ·subst e0
   rw [List.getElem_set_self]
   exact ar hown gs (aN LM hown (by decide))
  ·have hq:l[i]?=some l[i]:=List.getElem?_eq_getElem hi
   rw [List.getElem_set_ne (Ne.symm e0)];have h1:=hold i _ e0 hq
   exact ar h1 gs (aN LM h1 (by decide))
 ·rw [List.pairwise_iff_getElem]
  intro i j hi0 hj0 hij b hb hb'
  have hi:i<l.length:=by simpa using hi0
  have hj:j<l.length:=by simpa using hj0
  by_cases ei:i=k
  ·have ej:j≠k:=by omega
   subst ei;rw [List.getElem_set_self] at hb;rw [List.getElem_set_ne (Ne.symm ej)] at hb';have hq:l[j]?=some l[j]:=List.getElem?_eq_getElem hj
   rcases hat b hb with h1 | h1
   ·exact LU j _ ej hq b hb' h1
   ·have:=bD (h.iL _ (List.mem_of_getElem? hq)) b hb';omega
  ·rw [List.getElem_set_ne (Ne.symm ei)] at hb
   have hq:l[i]?=some l[i]:=List.getElem?_eq_getElem hi
   by_cases ej:j=k
   ·subst ej
    rw [List.getElem_set_self] at hb'
    rcases hat b hb' with h1 | h1
    ·exact LU i _ ei hq b hb h1
    ·have:=bD (h.iL _ (List.mem_of_getElem? hq)) b hb;omega
   ·rw [List.getElem_set_ne (Ne.symm ej)] at hb'
    exact hpw i j hi hj hij b hb hb'
theorem dG.ins {w w1:World} {B j:Nat} {o o' fv:Value} {l:List eD} {e:dU} (h:dG w B o l) (hb:Below w.heap.size w w1) (hf:w1.ownsRow B 67 3 fv e.fs.length (di e.fs)) (hnew:∀ q,fv.ownBlock=some q→w.heap.size≤q) (hown:w1.ownsRow B 65 2 o' (l.take j++(e,fv)::l.drop j).length (dw (l.take j++(e,fv)::l.drop j))) :
  dG w1 B o' (l.take j++(e,fv)::l.drop j):=by
 have hmem:∀ p,p∈l.take j∨p∈l.drop j→p∈l:=fun p hp=>by
  rcases hp with hp | hp
  ·exact List.mem_of_mem_take hp
  ·exact List.mem_of_mem_drop hp
 have hfar:∀ p∈l,∀ q,p.2.ownBlock=some q→fv.ownBlock≠some q:=fun p hp q h1 h2=>by
  have:=bD (h.iL p hp) q h1;have:=hnew q h2
  omega
 have hsp:(l.take j++l.drop j).Pairwise fun p q=>∀ k,p.2.ownBlock=some k→q.2.ownBlock≠some k:=by rw [List.take_append_drop];exact h.apart
 have hsp':=List.pairwise_append.1 hsp;refine ⟨hown,fun p hp=>?_,?_⟩
 ·rw [List.mem_append,List.mem_cons] at hp
  rcases hp with hp | rfl | hp
  ·exact ah (h.iL p (hmem p (.inl hp))) hb
  ·exact hf
  ·exact ah (h.iL p (hmem p (.inr hp))) hb
 ·rw [List.pairwise_append,List.pairwise_cons]
  refine ⟨hsp'.1,⟨fun q hq k hk hk'=>hfar q (hmem q (.inr hq)) k hk' hk,hsp'.2.1⟩,fun p hp q hq=>?_⟩
  rcases List.mem_cons.1 hq with rfl | hq
  ·exact fun k hk=>hfar p (hmem p (.inl hp)) k hk
  ·exact hsp'.2.2 p hp q hq
theorem cw (a b:List eD):dw (a++b)=dw a++dw b:=by simp [dw]
theorem qm (a:eD) (b:List eD):dw (a::b)=gu a++dw b:=by simp [dw]
theorem IM {l:List eD} {k:Nat} (hk:k<l.length):∃ fv,l[k]?=some (eZ (l.map (·.1)) k,fv):=by
 refine ⟨l[k].2,?_⟩;rw [List.getElem?_eq_getElem hk]
 simp [eZ,hk]
open Go.RowKit
structure wG (w wr:World) (A:Array Value) (X:Nat) (C:Array Value):Prop where
 below:Below w.heap.size w wr
 a:wr.heap[w.heap.size]?=some (.cells A 30 (0,0))
 b:wr.heap[w.heap.size+1]?=some (.cells #[.slice none 0 0,.slice none 0 0,.slice none 0 0] 30 (0,0))
 c:wr.heap[X]?=some (.cells C 30 (0,0))
 l:w.heap.size+2≤X
theorem wG.z {w wr:World} {A C:Array Value} {X:Nat} (h:wG w wr A X C):X<wr.heap.size:=(Array.getElem?_eq_some_iff.1 h.c).1
theorem wG.call {w wr wy:World} {A C:Array Value} {X:Nat} (h:wG w wr A X C) (hb:Below wr.heap.size wr wy):wG w wy A X C:=by
 have hz:=h.z;have hl:=h.l
 exact ⟨aa h.below hb,(hb.block _ (by omega)).trans h.a,(hb.block _ (by omega)).trans h.b,(hb.block _ (by omega)).trans h.c,hl⟩
theorem wG.grown {w wr wy:World} {A C:Array Value} {X:Nat} {r:Option Nat} (h:wG w wr A X C) (hg:wr.grownBy wy r) (hr:∀ k,r=some k→w.heap.size+2≤k) (hX:some X≠r):wG w wy A X C:=by
 have hz:=h.z;have hl:=h.l
 refine ⟨h.below.grown hg h.below.size (fun k e=>by have:=hr k e;omega),(hg.block _ (by omega) ?_).trans h.a,(hg.block _ (by omega) ?_).trans h.b,(hg.block _ hz hX).trans h.c,hl⟩
 ·intro e;have:=hr _ e.symm;omega
 ·intro e;have:=hr _ e.symm;omega
theorem wG.fE {w wr:World} {A C:Array Value} {X:Nat} (h:wG w wr A X C) (j:Nat):wr.cell? ⟨w.heap.size,j,none⟩=A[j]?:=by simp [World.cell?,h.a]
theorem wG.cellC {w wr:World} {A C:Array Value} {X:Nat} (h:wG w wr A X C) (j:Nat):wr.cell? ⟨X,j,none⟩=C[j]?:=by simp [World.cell?,h.c]
theorem wG.free {w wr:World} {A C:Array Value} {X:Nat} (h:wG w wr A X C) (j:Nat):wr.frozen? ⟨X,j,none⟩=false:=by simp [World.frozen?,h.c]
theorem wG.set {w wr:World} {A:Array Value} {X:Nat} {x y z:Value} (h:wG w wr A X #[x,y,z]) (v:Value):wG w (wr.setCell ⟨X,2,none⟩ v) A X #[x,y,v]:=by
 have hl:=h.l
 refine ⟨h.below.setCell (p:=⟨X,2,none⟩) (by show w.heap.size≤X;omega) v,?_,?_,?_,hl⟩
 ·rw [Below.heap_setCell wr ⟨X,2,none⟩ v w.heap.size (by show w.heap.size≠X;omega)];exact h.a
 ·rw [Below.heap_setCell wr ⟨X,2,none⟩ v (w.heap.size+1) (by show w.heap.size+1≠X;omega)];exact h.b
 ·rw [setCell_eq_setRow _ _ _ _ _ _ _ h.c];exact setRow_heap _ _ _ _ _ _ h.c
theorem Mh {w wr:World} {A C:Array Value} {X:Nat} (h:wG w wr A X C):wG w wr.drew A X C:=⟨h.below.drew,h.a,h.b,h.c,h.l⟩
theorem Mi {lo:Nat} {w:World} {x y z:Value} {ks ps:List dx} {es:List dU} (h:df lo w x y z ks ps es):df lo w.drew x y z ks ps es:=h.keep (Below.refl _ _).drew
theorem df.pushE {W2 W4:World} {lo:Nat} {x y z z' fv:Value} {ks ps:List dx} {l:List eD} {e:dU} {ob:Obj} (hx:W2.ownsRow lo 69 3 x ks.length (aS ks)) (hy:W2.ownsRow lo 72 3 y ps.length (aS ps)) (h:dG W2 lo z l) (hf:W2.ownsRow lo 67 3 fv e.fs.length (di e.fs)) (hnew:∀ k,fv.ownBlock=some k→∀ p∈l,p.2.ownBlock≠some k) (hown:W4.ownsRow lo 65 2 z' (l.length+1) (dw l++[.string e.name,fv])) (hg:(W2.alloc ob).grownBy W4 z.ownBlock):df lo W4 x y z' ks ps (l.map (·.1)++[e]):=by
 have hb1:Below W2.heap.size W2 (W2.alloc ob):=(Below.refl _ _).alloc aG ob
 refine ⟨ar (ah hx hb1) hg (aN h.row hx (by decide)),ar (ah hy hb1) hg (aN h.row hy (by decide)),l++[(e,fv)],by simp,h.pushF hf hnew hown hg⟩
theorem cq (vk vp ve:Value) (ks ps:List dx) (es:List dU) (w:World) (hB:dI w vk vp ve ks ps es) (lk:ks.length≤1048576) (lp:ps.length≤1048576) (le:es.length≤1048576) (lf:∀ e∈es,e.fs.length≤1048576) :
  Calls Tryz.prog 34 #[.agg #[vk,vp,ve]] w fun e w'=>∃ x y z,e=.returned (.agg #[x,y,z])∧df (w.heap.size+2) w' x y z ks ps es∧Below w.heap.size w w':=by
 obtain ⟨iE,hiE,hzE0,hzE1,hzE2⟩:=info_parts Cc;obtain ⟨iF,hiF,hzF0,hzF1,hzF2⟩:=info_parts Cb;have HB:Hid (dI w vk vp ve ks ps es):=hB;obtain ⟨⟨ak,ck,rfl,-,-,-⟩,⟨ap,cp,rfl,-,-,-⟩,⟨ae,ce,rfl,-,-,he3⟩⟩:=hB;have HEA:Hid (∀ i e,es[i]?=some e→∃ b off,ae=some ⟨b,off,none⟩∧lH w b (off+i*2) e):=he3;have HLF:Hid (∀ e∈es,e.fs.length≤1048576):=lf;clear he3 lf
 have hb0:Below w.heap.size w ((w.alloc (.cells #[.slice ak ks.length ck,.slice ap ps.length cp,.slice ae es.length ce] 30)).alloc (.cells #[.slice none 0 0,.slice none 0 0,.slice none 0 0] 30)):=(aM).alloc (by simp) _
 have HB0:Hid (Below w.heap.size w ((w.alloc (.cells #[.slice ak ks.length ck,.slice ap ps.length cp,.slice ae es.length ce] 30)).alloc (.cells #[.slice none 0 0,.slice none 0 0,.slice none 0 0] 30))):=hb0;clear hb0
 go_enter Tryz.func34,Tryz.ntmps34
 go_wp2_with fail;refine (wW _ _ ks ps _ (HB.out.k.keep HB0.out) (HB.out.p.keep HB0.out) lk lp).mono ?_;rintro e w1 ⟨x,y,rfl,hx,hy,hb1⟩;obtain ⟨xa,xc,rfl⟩:=cZ hx;obtain ⟨ya,yc,rfl⟩:=cZ hy
 have s0:((w.alloc (.cells #[.slice ak ks.length ck,.slice ap ps.length cp,.slice ae es.length ce] 30)).alloc (.cells #[.slice none 0 0,.slice none 0 0,.slice none 0 0] 30)).heap.size=w.heap.size+1+1:=by simp
 rw [s0] at hx hy
 have HC:Hid (wG w (w1.alloc (.cells #[.slice xa ks.length xc,.slice ya ps.length yc,.slice none 0 0] 30)) #[.slice ak ks.length ck,.slice ap ps.length cp,.slice ae es.length ce] w1.heap.size #[.slice xa ks.length xc,.slice ya ps.length yc,.slice none 0 0]):=by
  have h1:=am w (.cells #[.slice ak ks.length ck,.slice ap ps.length cp,.slice ae es.length ce] 30);have h2:=am (w.alloc (.cells #[.slice ak ks.length ck,.slice ap ps.length cp,.slice ae es.length ce] 30)) (.cells #[.slice none 0 0,.slice none 0 0,.slice none 0 0] 30);rw [World.size_alloc] at h2;have hz1:=hb1.size;rw [s0] at hz1;have hal:Below w1.heap.size w1 (w1.alloc (.cells #[.slice xa ks.length xc,.slice ya ps.length yc,.slice none 0 0] 30)):=(aM)
  refine ⟨aa (aa HB0.out hb1) hal,?_,?_,am w1 _,by omega⟩
  ·exact (hal.block _ (by omega)).trans ((hb1.block _ (by omega)).trans ((Below.heap_alloc _ _ _ (by rw [World.size_alloc];omega)).trans h1))
  ·exact (hal.block _ (by omega)).trans ((hb1.block _ (by omega)).trans h2)
 have HN:Hid (df (w.heap.size+2) (w1.alloc (.cells #[.slice xa ks.length xc,.slice ya ps.length yc,.slice none 0 0] 30)) (.slice xa ks.length xc) (.slice ya ps.length yc) (.slice none 0 0) ks ps []):=by
  have hal:Below w1.heap.size w1 (w1.alloc (.cells #[.slice xa ks.length xc,.slice ya ps.length yc,.slice none 0 0] 30)):=(aM)
  exact ⟨aJ (ah hx hal) (by omega),aJ (ah hy hal) (by omega),[],rfl,dG.nil _ _⟩
 clear hx hy hb1 HB0 s0;go_wp2;generalize w1.alloc (.cells #[.slice xa ks.length xc,.slice ya ps.length yc,.slice none 0 0] 30)=wa at *;generalize w1.heap.size=X at *
 go_loopw [4] (fun i wr=>∃ (k:Nat) (z:Value),k≤es.length∧i=.int .i64 k∧(∃ a c,z=.slice a k c)∧Hid (wG w wr #[.slice ak ks.length ck,.slice ap ps.length cp,.slice ae es.length ce] X #[.slice xa ks.length xc,.slice ya ps.length yc,z]∧df (w.heap.size+2) wr (.slice xa ks.length xc) (.slice ya ps.length yc) z ks ps (es.take k))) (fun i _=>es.length-(intOf i).toNat)
 case atStart=>exact ⟨0,_,Nat.zero_le _,rfl,⟨_,_,rfl⟩,HC.out,HN.out⟩
 case round =>
  clear HC HN;obtain ⟨k,z,hk,rfl,⟨za,zc,rfl⟩,HI⟩:=hrel;have q2:wr.cell? ⟨w.heap.size,2,none⟩=some (.slice ae es.length ce):=HI.out.1.fE 2;have q0:wr.cell? ⟨w.heap.size,0,none⟩=some (.slice ak ks.length ck):=HI.out.1.fE 0;have q1:wr.cell? ⟨w.heap.size,1,none⟩=some (.slice ap ps.length cp):=HI.out.1.fE 1
  by_cases hlt:k<es.length
  ·have ht:es[k]?=some es[k]:=List.getElem?_eq_getElem hlt
   obtain ⟨b,off,rfl,fv,d0,d1,hfl⟩:=HEA.out k _ ht;have hfn:=HLF.out _ (List.mem_of_getElem? ht);have HT:Hid (es.take (k+1)=es.take k++[es[k]]):=List.take_succ_eq_append_getElem hlt;have HFS:Hid (iW w fv es[k].fs):=hfl;obtain ⟨fa,fc,rfl,-,-,-⟩:=hfl;have HSF:Hid (∀ wx:World,Below w.heap.size w wx→(es[k].fs.length=0 ∨ ∃ ad,fa=some ad∧∀ j u,(di es[k].fs)[j]?=some u→wx.cell? (ad.add j)=some u)):=fun wx hx=>cN (Ma HFS.out) hx;generalize es[k]=t at *;have HD:Hid (w.cell? ⟨b,off+k*2,none⟩=some (.string t.name)∧w.cell? ⟨b,off+k*2+1,none⟩=some (.slice fa t.fs.length fc)):=⟨d0,d1⟩;clear d0 d1 ht HFS
   have hk0:(0:Int)≤(k:Int):=by omega
   have hk1:(k:Int)<(es.length:Int):=by omega
   go_wp2;refine wp_region_noPanic ?_;have Kq:Hid (∀ wx:World,wG w wx #[.slice ak ks.length ck,.slice ap ps.length cp,.slice (some ⟨b,off,none⟩) es.length ce] X #[.slice xa ks.length xc,.slice ya ps.length yc,.slice za k zc]→(wx.cell? ⟨X,2,none⟩=some (.slice za k zc)∧wx.cell? ⟨w.heap.size,2,none⟩=some (.slice (some ⟨b,off,none⟩) es.length ce)∧wx.cell? ⟨b,off+k*2,none⟩=some (.string t.name)∧wx.cell? ⟨b,off+k*2+1,none⟩=some (.slice fa t.fs.length fc))):=fun wx hx=>⟨hx.cellC 2,hx.fE 2,ag hx.below aG HD.out.1,ag hx.below aG HD.out.2⟩
   refine bj (S:=fun w'=>w'.cell? ⟨X,2,none⟩=some (.slice za k zc)∧w'.cell? ⟨w.heap.size,2,none⟩=some (.slice (some ⟨b,off,none⟩) es.length ce)∧w'.cell? ⟨b,off+k*2,none⟩=some (.string t.name)∧w'.cell? ⟨b,off+k*2+1,none⟩=some (.slice fa t.fs.length fc)) 20 (by kernel_rfl) ?_ (fun hHeld=>?_)
   ·exact Kq.out _ (Mh HI.out.1)
   have HC:Hid (wG w wr.drew #[.slice ak ks.length ck,.slice ap ps.length cp,.slice (some ⟨b,off,none⟩) es.length ce] X #[.slice xa ks.length xc,.slice ya ps.length yc,.slice za k zc]):=Mh HI.out.1;have HN:Hid (df (w.heap.size+2) wr.drew (.slice xa ks.length xc) (.slice ya ps.length yc) (.slice za k zc) ks ps (es.take k)):=Mi HI.out.2;generalize wr.drew=W0 at *;clear q0 q1 q2 HI;refine bG 0 ?_ rfl ?_ (bG 1 ?_ rfl ?_ (bG 2 ?_ rfl ?_ (bG 3 ?_ rfl ?_ (bG 4 ?_ rfl ?_ (bG 5 ?_ rfl ?_ (bG 6 ?_ rfl ?_ (bG 7 ?_ rfl ?_ (bG 9 ?_ rfl ?_ (bG 10 ?_ rfl ?_ (bG 11 ?_ rfl ?_ (bG 12 ?_ rfl ?_ (bG 13 ?_ rfl ?_ (bG 14 ?_ rfl ?_ ?_)))))))))))))
   iterate 14 (rotate_left;focus (intro w hSw;(try dsimp only at hSw);simp only [Act.put,aU];go_simp;try with_reducible rfl))
   simp only [Act.put,aU]
   clear hHeld;have bY:Hid (Below W0.heap.size W0 W0):=Below.refl _ _
   have hzz:w.heap.size+2≤W0.heap.size:=by have:=HC.out.z;have:=HC.out.l;omega
   refine bL 8 rfl (fun K hK=>?_);go_simp;have HB2:Hid (Below W0.heap.size W0 (W0.alloc (.cells #[] 67))):=(aM)
   have RF:Hid ((W0.alloc (.cells #[] 67)).ownsRow (w.heap.size+2) 67 3 (.slice (some ⟨W0.heap.size,0,none⟩) 0 0) 0 []):=be (am W0 _) (by omega) 3
   refine hK.out _ _ (.inr (Kq.out _ (HC.out.call HB2.out))) ?_;clear hK K bY;have bY:=HB2;clear HB2;generalize W0.alloc (.cells #[] 67)=W1 at *;refine bL 15 rfl (fun K hK=>?_);have hsz1:=bY.out.size
   refine aj _ rfl _ _ 63 rfl (w.heap.size+2) 67 iF _ 3 32 Tryz.underlying63 hiF hzF0 hzF1 hzF2 rfl (by decide) _ 0 [] rfl RF.out fa t.fs.length fc (di t.fs) rfl (HSF.out _ (aa HC.out.below bY.out)) (bQ _) kK (by unfold maxLen;omega) (by omega) (by omega) ?_
   intro vf W2 hown hgrow hat;rw [Nat.zero_add,List.nil_append] at hown
   have HB2:Hid (Below W0.heap.size W0 W2):=bY.out.grown hgrow hsz1 (fun j e=>by cases e;exact Nat.le_refl _)
   have HFB:Hid (∀ j,vf.ownBlock=some j→W0.heap.size≤j):=fun j hj=>by
    rcases hat with h | h
    ·rw [hj] at h;have h2:j=W0.heap.size:=Option.some.inj h;omega
    ·rw [hj] at h;injection h with h;omega
   refine hK.out _ _ (.inr (Kq.out _ (HC.out.call HB2.out))) ?_;clear hK K hgrow hat bY RF hsz1;have bY:=HB2;have RF:=aq hown;obtain ⟨va,vc,rfl⟩:=cZ hown;clear hown HB2;have hHeld:=Kq.out _ (HC.out.call bY.out);refine bG 16 ?_ rfl ?_ ?_;rotate_left
   ·intro w hSw;(try dsimp only at hSw);go_simp;try with_reducible rfl
   simp only [Act.put,aU]
   clear hHeld;refine bL 17 rfl (fun K hK=>?_);go_simp;have HB2:Hid (Below W0.heap.size W0 (W2.alloc (.cells #[.string t.name,.slice va t.fs.length vc] 65))):=bY.out.alloc bY.out.size _;refine hK.out _ _ (.inr (Kq.out _ (HC.out.call HB2.out))) ?_;clear hK K;have HBU:=bY;clear bY;have bY:=HB2;clear HB2;refine bL 18 rfl (fun K hK=>?_);obtain ⟨hx,hy,l,hl,hE⟩:=HN.out
   have hll:l.length=k:=by have:=congrArg List.length hl;rw [List.length_map,List.length_take] at this;omega
   have hE2:=hE.keep HBU.out;have hsz2:=HBU.out.size
   refine aj _ rfl _ _ 28 rfl (w.heap.size+2) 65 iE _ 2 40 Tryz.underlying28 hiE hzE0 hzE1 hzE2 rfl (by decide) _ l.length (dw l) rfl (ah hE2.row (aM)) _ 1 1 [.string t.name,.slice va t.fs.length vc] rfl (.inr ⟨_,rfl,cell_two_new _ _ _ _⟩) rfl (fun u hu=>by simp at hu;rcases hu with rfl | rfl <;> rfl) (by unfold maxLen;omega) (by omega) (by simp;omega) ?_
   intro vz W4 hown hgrow hat
   have nT:=aq (df.pushE (e:=t) (ah hx HBU.out) (ah hy HBU.out) hE2 RF.out (fun j hj p hp hpj=>by have h1:=HFB.out j hj;have:=bD (hE.iL p hp) j hpj;omega) hown hgrow)
   have iY:Hid (wG w W4 #[.slice ak ks.length ck,.slice ap ps.length cp,.slice (some ⟨b,off,none⟩) es.length ce] X #[.slice xa ks.length xc,.slice ya ps.length yc,.slice za k zc]):=(HC.out.call bY.out).grown hgrow (aw hE.row) (bd hE.row HC.out.c (by decide))
   rw [hl,← HT.out] at nT;refine hK.out _ _ (.inr (Kq.out _ iY.out)) ?_;obtain ⟨vb,vd,rfl⟩:=cZ hown;rw [hll] at *;clear hK K hgrow hat HC HN hown hx hy hE hE2 HBU bY hsz2;have HC:=iY;have HN:=nT;clear iY nT;have hHeld:=Kq.out _ HC.out;refine bG 19 ?_ rfl ?_ ?_;rotate_left
   ·intro w hSw;(try dsimp only at hSw);go_simp;try with_reducible rfl
   simp only [Act.put,aU]
   clear hHeld;refine bL 20 rfl (fun K hK=>?_);have lz:=HC.out.cellC 2;have lf:=HC.out.free 2
   simp only [List.getElem?_toArray,List.getElem?_cons_succ,List.getElem?_cons_zero] at lz
   have iY:=aq (HC.out.set (.slice vb (k+1) vd));have nT:=aq (HN.out.box HC.out.c (aQ W4 X 2 (.slice vb (k+1) vd)));go_simp;refine hK.out _ _ (.inl rfl) ?_;clear hK K lz lf HC HN;have HC:=iY;have HN:=nT;clear iY nT
   refine aY (by kernel_rfl) ?_ _
   refine NoPanic.normal ?_;go_wp2
   exact ⟨⟨k+1,_,by omega,by go_num,⟨_,_,rfl⟩,HC.out,HN.out⟩,by simp [intOf];omega⟩
  ·have HE:Hid (df (w.heap.size+2) wr (.slice xa ks.length xc) (.slice ya ps.length yc) (.slice za k zc) ks ps es):=by
    have h:=HI.out.2
    rw [List.take_of_length_le (by omega)] at h
    exact h
   have hrow:=HI.out.1.b;obtain ⟨e0,e1,e2⟩:wr.cell? ⟨X,0,none⟩=some (.slice xa ks.length xc)∧wr.cell? ⟨X,1,none⟩=some (.slice ya ps.length yc)∧wr.cell? ⟨X,2,none⟩=some (.slice za k zc):=⟨HI.out.1.cellC 0,HI.out.1.cellC 1,HI.out.1.cellC 2⟩;have HZ:Hid (Below w.heap.size w wr):=HI.out.1.below
   go_wp2_with (refine wpList_store_row rfl 30 _ _ rfl (w.heap.size+1) #[.slice xa ks.length xc,.slice ya ps.length yc,.slice za k zc] rfl rfl 30 _ hrow (by kernel_rfl) rfl (by simp [Value.oneCell']) ?_)
   exact bodyPost_ret (v:=.agg #[.slice xa ks.length xc,.slice ya ps.length yc,.slice za k zc]) (by simp [results,Tryz.results34,go_sem,cell_setRow_same _ _ _ _ _ _ _ hrow]) rfl ⟨_,_,_,rfl,HE.out.far (aD wr (w.heap.size+1) _) (by omega),below_setRow HZ.out (by omega) _⟩
open Go.RowKit
attribute [local go_sem] Later.cell Later.frozen
def Roo (w:World) (v:Value) (n c:Nat):Prop:=(v=.slice none 0 0∧n=0) ∨ ∃ b cap,v=.slice (some ⟨b,0,none⟩) n cap∧b<w.heap.size∧w.there b 0 (n*c)
def vY (w:World) (v:Value) (n c:Nat) (f:Nat→Value):Prop:=(v=.slice none 0 0∧n=0) ∨ ∃ b cap,v=.slice (some ⟨b,0,none⟩) n cap∧b<w.heap.size∧∀ q,q<n*c→w.cell? ⟨b,q,none⟩=some (f q)
theorem Roo.of {w:World} {base:Nat} {e:TypeId} {size:Nat} {v:Value} {n:Nat} {xs:List Value} (h:w.ownsRow base e size v n xs):Roo w v n size:=by
 rcases h.2 with h2 | ⟨g,cap,cur,rfl,hb,hc,h1,h2,h3,h4⟩
 ·exact .inl h2
 ·refine .inr ⟨g,cap,rfl,(Array.getElem?_eq_some_iff.1 hc).1,fun q hq=>?_⟩
  have hq':q<cur.size:=by rw [h3];exact Nat.lt_of_lt_of_le hq (Nat.mul_le_mul_right _ h1)
  simp [World.cell?,World.frozen?,hc,hq']
theorem Roo.far {w w':World} {v:Value} {n c:Nat} {r:Option Nat} (h:Roo w v n c) (hg:w.grownBy w' r) (hr:∀ k,v.ownBlock=some k→some k≠r):Roo w' v n c:=by
 rcases h with h | ⟨b,cap,rfl,hb,ht⟩
 ·exact .inl h
 ·exact .inr ⟨b,cap,rfl,Nat.lt_of_lt_of_le hb hg.size,mV ht (hg.block b hb (hr b rfl))⟩
theorem vY.far {w w':World} {v:Value} {n c:Nat} {f:Nat→Value} {r:Option Nat} (h:vY w v n c f) (hg:w.grownBy w' r) (hr:∀ k,v.ownBlock=some k→some k≠r):vY w' v n c f:=by
 rcases h with h | ⟨b,cap,rfl,hb,ht⟩
 ·exact .inl h
 ·exact .inr ⟨b,cap,rfl,Nat.lt_of_lt_of_le hb hg.size,fun q hq=>(World.cell?_of_block (w:=w) (hg.block b hb (hr b rfl))).trans (ht q hq)⟩
theorem vY.keep {w w':World} {v:Value} {n c:Nat} {f:Nat→Value} (h:vY w v n c f) (hb:Below w.heap.size w w'):vY w' v n c f:=h.far (bz hb none) (fun k _ e=>by cases e)
theorem Roo.keep {w w':World} {v:Value} {n c:Nat} (h:Roo w v n c) (hb:Below w.heap.size w w'):Roo w' v n c:=h.far (bz hb none) (fun k _ e=>by cases e)
def kAt (l:List eD) (k i:Nat):Nat:=k+i+jC (fun p=>p.1.fs.length) (l.take i)*3
structure Ap (g:Nat) (l:List eD):Prop where
 g:∀ (i:Nat) (p:eD),l[i]?=some p→p.2.ownBlock≠some g
 two:∀ (i j:Nat) (p q:eD),i≠j→l[i]?=some p→l[j]?=some q→∀ b,p.2.ownBlock=some b→q.2.ownBlock≠some b
theorem Ap.of {w:World} {B g n cap:Nat} {l:List eD} (h:dG w B (.slice (some ⟨g,0,none⟩) n cap) l):Ap g l:=by
 refine ⟨fun i p hp e=>?_,fun i j p q hij hp hq b hb hb'=>?_⟩
 ·exact aN h.row (h.iL p (List.mem_of_getElem? hp)) (by decide) _ e rfl
 ·obtain ⟨hi,rfl⟩:=List.getElem?_eq_some_iff.1 hp
  obtain ⟨hj,rfl⟩:=List.getElem?_eq_some_iff.1 hq;have hpw:=List.pairwise_iff_getElem.1 h.apart
  rcases Nat.lt_or_gt_of_ne hij with hlt | hgt
  ·exact hpw i j hi hj hlt b hb hb'
  ·exact hpw j i hj hi hgt b hb' hb
structure EMk (w:World) (g:Nat) (l:List eD) (k mn mf:Nat):Prop where
 z:g<w.heap.size
 t:w.there g 0 (l.length*2)
 s:∀ (i:Nat) (p:eD),l[i]?=some p→w.cell? ⟨g,i*2+1,none⟩=some p.2
 r:∀ (i:Nat) (p:eD),l[i]?=some p→mf≤i→Roo w p.2 p.1.fs.length 3
 n:∀ i,i<mn→w.cell? ⟨g,i*2,none⟩=some (.string (mkT (kAt l k i)))
 f:∀ (i:Nat) (p:eD),i<mf→l[i]?=some p→vY w p.2 p.1.fs.length 3 (mkV 3 DN (kAt l k i+1))
theorem EMk.call {w w':World} {g:Nat} {l:List eD} {k mn mf:Nat} (h:EMk w g l k mn mf) (hb:Below w.heap.size w w'):EMk w' g l k mn mf :=
 ⟨Nat.lt_of_lt_of_le h.z hb.size,b8 h.t hb h.z,fun i p hp=>ag hb aG (h.s i p hp),fun i p hp hm=>(h.r i p hp hm).keep hb,fun i hi=>ag hb aG (h.n i hi),fun i p hi hp=>(h.f i p hi hp).keep hb⟩
theorem EMk.name {w:World} {g:Nat} {l:List eD} {k m:Nat} (h:EMk w g l k m m) (hA:Ap g l) (hm:m<l.length):EMk (w.setCell ⟨g,m*2,none⟩ (.string (mkT (kAt l k m)))) g l k (m+1) m:=by
 have gs:=AA w g (m*2) (.string (mkT (kAt l k m)));have hne:∀ (i:Nat) (p:eD),l[i]?=some p→∀ b,p.2.ownBlock=some b→some b≠some g:=fun i p hp b hb e=>hA.g i p hp (hb.trans e)
 refine ⟨by simpa using h.z,World.there_setCells h.t g (m*2) [_],fun i p hp=>?_,fun i p hp hi=>(h.r i p hp hi).far gs (hne i p hp),fun i hi=>?_,fun i p hi hp=>(h.f i p hi hp).far gs (hne i p hp)⟩
 ·exact (World.cell?_setCell_other w ⟨g,m*2,none⟩ ⟨g,i*2+1,none⟩ _ (by simp <;> omega)).trans (h.s i p hp)
 ·by_cases e:i=m
  ·subst e
   have:=h.t (i*2) (by omega)
   obtain ⟨u,hu⟩:∃ u,w.cell? ⟨g,i*2,none⟩=some u:=by
    simp [Option.isSome_iff_exists] at this
    exact this.1
   rw [World.cell?_setCell_same w ⟨g,i*2,none⟩ _ hu]
  ·rw [World.cell?_setCell_other w ⟨g,m*2,none⟩ ⟨g,i*2,none⟩ _ (by simp <;> omega)]
   exact h.n i (by omega)
theorem EMk.iL {w w':World} {g:Nat} {l:List eD} {k m:Nat} {p:eD} (h:EMk w g l k (m+1) m) (hA:Ap g l) (hp:l[m]?=some p) (hR:vY w' p.2 p.1.fs.length 3 (mkV 3 DN (kAt l k m+1))) (hg:w.grownBy w' p.2.ownBlock):EMk w' g l k (m+1) (m+1):=by
 have hb:=hg.block g h.z (fun e=>hA.g m p hp e.symm);have hne:∀ (i:Nat) (q:eD),i≠m→l[i]?=some q→∀ b,q.2.ownBlock=some b→some b≠p.2.ownBlock:=fun i q hi hq b hb e=>hA.two i m q p hi hq hp b hb e.symm
 refine ⟨Nat.lt_of_lt_of_le h.z hg.size,mV h.t hb,fun i q hq=>(World.cell?_of_block (w:=w) hb).trans (h.s i q hq),fun i q hq hi=>(h.r i q hq (by omega)).far hg (hne i q (by omega) hq),fun i hi=>(World.cell?_of_block (w:=w) hb).trans (h.n i hi),fun i q hi hq=>?_⟩
 by_cases e:i=m
 ·subst e
  rw [hp] at hq
  cases hq
  exact hR
 ·exact (h.f i q (by omega) hq).far hg (hne i q e hq)
structure Fr (w w':World) (S:Nat→Prop):Prop where
 os:w'.os=w.os
 tape:w'.tape=w.tape
 output:w'.output=w.output
 size:w.heap.size≤w'.heap.size
 block:∀ j,j<w.heap.size→¬ S j→w'.heap[j]?=w.heap[j]?
theorem Fr.refl (w:World) (S:Nat→Prop):Fr w w S:=⟨rfl,rfl,rfl,Nat.le_refl _,fun _ _ _=>rfl⟩
theorem Fr.trans {w w1 w2:World} {S:Nat→Prop} (h:Fr w w1 S) (k:Fr w1 w2 S):Fr w w2 S :=
 ⟨k.1.trans h.1,k.2.trans h.2,k.3.trans h.3,Nat.le_trans h.4 k.4,fun j hj hs=>(k.5 j (Nat.lt_of_lt_of_le hj h.4) hs).trans (h.5 j hj hs)⟩
theorem Fr.grown {w w':World} {r:Option Nat} {S:Nat→Prop} (h:w.grownBy w' r) (hS:∀ j,r=some j→S j):Fr w w' S:=⟨h.1,h.2,h.3,h.4,fun j hj hs=>h.5 j hj (fun e=>hs (hS j e.symm))⟩
theorem Fr.call {w w':World} {S:Nat→Prop} (h:Below w.heap.size w w'):Fr w w' S:=⟨h.1,h.2,h.3,h.4,fun j hj _=>h.5 j hj⟩
theorem Fr.below {w w':World} {S:Nat→Prop} {B:Nat} (h:Fr w w' S) (hB:B≤w.heap.size) (hS:∀ j,S j→B≤j):Below B w w':=⟨h.1,h.2,h.3,h.4,fun j hj=>h.5 j (by omega) (fun hs=>by have:=hS j hs;omega)⟩
theorem Fr.mono {w w':World} {S T:Nat→Prop} (h:Fr w w' S) (hS:∀ j,S j→T j):Fr w w' T:=⟨h.1,h.2,h.3,h.4,fun j hj hs=>h.5 j hj (fun k=>hs (hS j k))⟩
end Go.Proofs.YtcmgddnckohdaaaGreatDoor
namespace Go.Proofs.YtcmgddnckohdaaaGreatDoor
open Go.RowKit
theorem Roo.slice {w:World} {v:Value} {n c:Nat} (h:Roo w v n c):∃ a cap,v=.slice a n cap:=by
 rcases h with ⟨h1,h2⟩ | ⟨b,c,h1,_⟩
 ·exact ⟨none,0,by rw [h1,h2]⟩
 ·exact ⟨_,_,h1⟩
theorem vY.slice {w:World} {v:Value} {n c:Nat} {f:Nat→Value} (h:vY w v n c f):∃ a cap,v=.slice a n cap:=by
 rcases h with ⟨h1,h2⟩ | ⟨b,c,h1,_⟩
 ·exact ⟨none,0,by rw [h1,h2]⟩
 ·exact ⟨_,_,h1⟩
theorem Roo.lt {w:World} {v:Value} {n c:Nat} (h:Roo w v n c):∀ k,v.ownBlock=some k→k<w.heap.size:=by
 rcases h with ⟨rfl,_⟩ | ⟨b,c,rfl,hb,_⟩
 ·intro k hk;cases hk
 ·intro k hk;cases hk;exact hb
theorem Fr.cell {w w':World} {S:Nat→Prop} {b o:Nat} {v:Value} (h:Fr w w' S) (hb:b<w.heap.size) (hs:¬ S b) (hc:w.cell? ⟨b,o,none⟩=some v):w'.cell? ⟨b,o,none⟩=some v :=
 (World.cell?_of_block (w:=w) (h.block b hb hs)).trans hc
def IW (w:World) (z:Value) (l:List eD) (k:Nat):Prop:=(z=.slice none 0 0∧l=[]) ∨ ∃ g cap,z=.slice (some ⟨g,0,none⟩) l.length cap∧EMk w g l k l.length l.length
theorem IW.keep {w w':World} {z:Value} {l:List eD} {k:Nat} (h:IW w z l k) (hb:Below w.heap.size w w'):IW w' z l k:=by
 rcases h with h | ⟨g,cap,h1,h2⟩
 ·exact .inl h
 ·exact .inr ⟨g,cap,h1,h2.call hb⟩
structure M3 (w:World) (x y z:Value) (M:Nat):Prop where
 has:∃ nk np l,nk≤1048576∧np≤1048576∧l.length≤1048576∧jC (fun p:eD=>p.1.fs.length) l≤1048576∧vY w x nk 3 (mkV 3 patKind 1)∧vY w y np 3 (mkV 3 K6 (1+nk*3))∧IW w z l (1+nk*3+np*3)∧M=kAt l (1+nk*3+np*3) l.length
theorem M3.keep {w w':World} {x y z:Value} {M:Nat} (h:M3 w x y z M) (hb:Below w.heap.size w w'):M3 w' x y z M:=by
 obtain ⟨nk,np,l,h1,h2,h3,h4,h5,h6,h7,h8⟩:=h.has;exact ⟨nk,np,l,h1,h2,h3,h4,h5.keep hb,h6.keep hb,h7.keep hb,h8⟩
open Go.RowKit
abbrev Bx:=Nat×Array Value×TypeId
structure tY (w wr:World) (bs:List Bx):Prop where
 below:Below w.heap.size w wr
 has:∀ p∈bs,wr.heap[p.1]?=some (.cells p.2.1 p.2.2 (0,0))
theorem tY.lt {w wr:World} {bs:List Bx} (h:tY w wr bs) {p:Bx} (hp:p∈bs):p.1<wr.heap.size:=(Array.getElem?_eq_some_iff.1 (h.has p hp)).1
theorem tY.call {w wr wy:World} {bs:List Bx} (h:tY w wr bs) (hb:Below wr.heap.size wr wy):tY w wy bs:=⟨aa h.below hb,fun p hp=>(hb.block _ (h.lt hp)).trans (h.has p hp)⟩
theorem tY.drew {w wr:World} {bs:List Bx} (h:tY w wr bs):tY w wr.drew bs:=⟨h.below.drew,h.has⟩
theorem tY.push {w wr:World} {bs:List Bx} (h:tY w wr bs) {X:Nat} {C:Array Value} {T:TypeId} (hX:wr.heap[X]?=some (.cells C T (0,0))):tY w wr ((X,C,T)::bs) :=
 ⟨h.below,fun p hp=>by
  rcases List.mem_cons.1 hp with rfl | hp
  ·exact hX
  ·exact h.has p hp⟩
theorem tY.cell {w wr:World} {bs:List Bx} (h:tY w wr bs) (i:Nat) {X:Nat} {C:Array Value} {T:TypeId} (hi:bs[i]?=some (X,C,T)) (j:Nat):wr.cell? ⟨X,j,none⟩=C[j]?:=by
 have:=h.has _ (List.mem_of_getElem? hi);dsimp only at this
 simp [World.cell?,this]
theorem tY.start2 (w:World) (A C:Array Value) (T U:TypeId):tY w ((w.alloc (.cells A T)).alloc (.cells C U)) [(w.heap.size,A,T),(w.heap.size+1,C,U)]:=by
 have s1:(w.alloc (.cells A T)).heap.size=w.heap.size+1:=by simp
 have h1:=am w (.cells A T);have h2:=am (w.alloc (.cells A T)) (.cells C U);rw [s1] at h2
 refine ⟨(aM).alloc (by simp) _,fun p hp=>?_⟩
 simp only [List.mem_cons,List.not_mem_nil,or_false] at hp
 rcases hp with rfl | rfl
 ·exact (Below.heap_alloc _ _ _ (by omega)).trans h1
 ·exact h2
theorem df.lt {lo:Nat} {w:World} {x y z:Value} {ks ps:List dx} {es:List dU} (h:df lo w x y z ks ps es) {w':World} (hs:∀ k,lo≤k→k<w.heap.size→w'.heap[k]?=w.heap[k]?):df lo w' x y z ks ps es:=by
 obtain ⟨h1,h2,l,h3,h4⟩:=h;have go:∀ {e:TypeId} {c:Nat} {v:Value} {n:Nat} {xs:List Value},w.ownsRow lo e c v n xs→w'.ownsRow lo e c v n xs:=fun h=>qo h (fun k hk hl=>hs k (aw h k hk) hl);exact ⟨go h1,go h2,l,h3,go h4.row,fun p hp=>go (h4.iL p hp),h4.apart⟩
theorem nX {α:Type} (g:α→Nat) (M:Nat):∀ l:List α,(∀ a∈l,g a≤M)→jC g l≤l.length*M
 | [],_=>by simp [jC]
 | a::l,h=>by
  have h1:=h a (by simp)
  have h2:=nX g M l (fun b hb=>h b (by simp [hb]))
  simp only [jC,List.length_cons,Nat.succ_mul]
  omega
end Go.Proofs.YtcmgddnckohdaaaGreatDoor
