import Derived.Test.YtcmgddnckohdaaaGreatDoorEnts1
import Derived.Test.YtcmgddnckohdaaaGreatDoorApp
import Derived.Test.YtcmgddnckohdaaaGreatDoorRt
set_option maxRecDepth 100000
set_option maxHeartbeats 6400000
set_option linter.unusedSimpArgs false
set_option linter.unusedVariables false
namespace Go.Proofs.YtcmgddnckohdaaaGreatDoor
open Go.RowKit
theorem dG.far {w w':World} {B r:Nat} {o:Value} {l:List eD} (h:dG w B o l) (hg:w.grownBy w' (some r)) (hr:r<B):dG w' B o l :=
 ⟨ar h.row hg (fun k hk e=>by have:=aw h.row k hk;injection e;omega),fun p hp=>ar (h.iL p hp) hg (fun k hk e=>by have:=aw (h.iL p hp) k hk;injection e;omega),h.apart⟩
theorem aJ {w:World} {base base':Nat} {e:TypeId} {size:Nat} {v:Value} {n:Nat} {xs:List Value} (h:w.ownsRow base e size v n xs) (hb:base'≤base):w.ownsRow base' e size v n xs:=by
 refine ⟨h.1,?_⟩
 rcases h.2 with h2 | ⟨g,cap,cur,hv,hg,rest⟩
 ·exact .inl h2
 ·exact .inr ⟨g,cap,cur,hv,by omega,rest⟩
theorem dG.mono {w:World} {B B':Nat} {o:Value} {l:List eD} (h:dG w B o l) (hb:B'≤B):dG w B' o l:=⟨aJ h.row hb,fun p hp=>aJ (h.iL p hp) hb,h.apart⟩
structure df (lo:Nat) (w:World) (x y z:Value) (ks ps:List dx) (es:List dU):Prop where
 k:w.ownsRow lo 69 3 x ks.length (aS ks)
 p:w.ownsRow lo 72 3 y ps.length (aS ps)
 e:tV w lo z es
theorem df.keep {lo:Nat} {w w':World} {x y z:Value} {ks ps:List dx} {es:List dU} (h:df lo w x y z ks ps es) (hb:Below w.heap.size w w'):df lo w' x y z ks ps es:=by
 obtain ⟨h1,h2,l,h3,h4⟩:=h;exact ⟨ah h1 hb,ah h2 hb,l,h3,h4.keep hb⟩
theorem df.far {lo r:Nat} {w w':World} {x y z:Value} {ks ps:List dx} {es:List dU} (h:df lo w x y z ks ps es) (hg:w.grownBy w' (some r)) (hr:r<lo):df lo w' x y z ks ps es:=by
 obtain ⟨h1,h2,l,h3,h4⟩:=h
 exact ⟨ar h1 hg (fun k hk e=>by have:=aw h1 k hk;injection e;omega),ar h2 hg (fun k hk e=>by have:=aw h2 k hk;injection e;omega),l,h3,h4.far hg hr⟩
theorem df.mono {lo lo':Nat} {w:World} {x y z:Value} {ks ps:List dx} {es:List dU} (h:df lo w x y z ks ps es) (hl:lo'≤lo):df lo' w x y z ks ps es:=by
 obtain ⟨h1,h2,l,h3,h4⟩:=h;exact ⟨aJ h1 hl,aJ h2 hl,l,h3,h4.mono hl⟩
theorem cZ {w:World} {base:Nat} {e:TypeId} {size:Nat} {v:Value} {n:Nat} {xs:List Value} (h:w.ownsRow base e size v n xs):∃ a c,v=.slice a n c:=by
 rcases h.2 with ⟨rfl,h0⟩ | ⟨g,cap,cur,rfl,_⟩
 ·exact ⟨none,0,by rw [h0]⟩
 ·exact ⟨_,cap,rfl⟩
theorem Ie {P:dP→Prop}:∀ (L S:List dP),(∀ c∈S,P c)→(∀ c∈L,P c)→∀ c∈L.foldl gp S,P c
 | [],S,hS,_=>hS
 | a::L,S,hS,hL=>Ie L (gp S a) (fun c hc=>by
   rcases DJ hc with rfl | hc
   ·exact hL _ (by simp)
   ·exact hS c hc) (fun c hc=>hL c (by simp [hc]))
theorem DK:∀ (S:List dP) (c:dP),(gp S c).length≤S.length+1
 | [],c=>Nat.le_refl _
 | a::l,c=>by
  have:=DK l c;unfold gp
  repeat' split
  all_goals simp only [List.length_cons]
  all_goals omega
theorem Ic:∀ (L S:List dP),(L.foldl gp S).length≤S.length+L.length
 | [],S=>Nat.le_refl _
 | a::L,S=>by
  have h1:=Ic L (gp S a);have h2:=DK S a
  simp only [List.foldl_cons,List.length_cons]
  omega
theorem G9 (vk vp vl:Value) (ks ps:List dx) (Ls:List (List dP)) (w:World) (hk:dA w vk ks) (hp:dA w vp ps) (lk:ks.length≤1048575) (lp:ps.length≤1048575) (sk:∀ t∈ks,t.s.size≤1048576) (sp:∀ t∈ps,t.s.size≤1048576)
  (hL:tL w vl Ls) (hlen:Ls.flatten.length≤4194304) (hLl:Ls.length≤1048576) (hLe:∀ L∈Ls,L.length≤2097152) (hfit:∀ L∈Ls,∀ c∈L,iN c∧1≤c.num) (hsm:∀ L∈Ls,∀ c∈L,c.f.size≤1048576∧c.v.size≤1048576) :
  Calls Tryz.prog 216 #[.agg #[vk,vp],vl] w fun e w'=>∃ x y z,e=.returned (.agg #[x,y,z])∧df (w.heap.size+3) w' x y z ks ps ((Ls.flatten.foldl gp []).foldl gN [])∧Below w.heap.size w w':=by
 have hvk:∃ a n c,vk=.slice a n c:=by obtain ⟨a,c,h,_⟩:=hk;exact ⟨_,_,_,h⟩
 have hvp:∃ a n c,vp=.slice a n c:=by obtain ⟨a,c,h,_⟩:=hp;exact ⟨_,_,_,h⟩
 have hall:∀ c∈Ls.flatten,(iN c∧1≤c.num)∧(c.f.size≤1048576∧c.v.size≤1048576):=fun c hc=>by
  obtain ⟨L,h1,h2⟩:=List.mem_flatten.1 hc;exact ⟨hfit L h1 c h2,hsm L h1 c h2⟩
 have hS:=Ie (P:=fun c=>(iN c∧1≤c.num)∧(c.f.size≤1048576∧c.v.size≤1048576)) Ls.flatten [] (fun c h=>by cases h) hall
 have hSl:(Ls.flatten.foldl gp []).length≤4194304:=by
  have:=Ic Ls.flatten [];rw [List.length_nil,Nat.zero_add] at this
  omega
 refine (Ha vk vp vl Ls w hvk hvp hL hlen hLl hLe hfit (fun x y z w2=>df (w.heap.size+3) w2 x y z ks ps ((Ls.flatten.foldl gp []).foldl gN [])∧Below w.heap.size w w2∧w.heap.size+2<w2.heap.size) ?_).mono ?_
 ·intro wx n hn hF
  have hz:=hF.z;refine (Cv vk vp ks ps wx (hk.keep hF.below) (hp.keep hF.below) lk lp sk sp).mono ?_;rintro e w1 ⟨a1,n1,c1,a2,n2,c2,rfl,⟨o1,o2⟩,hb1⟩;have hF1:=hF.call hb1;refine ⟨a1,n1,c1,a2,n2,c2,rfl,?_⟩
  refine (zL (w.heap.size+2) n _ w1 hF1.m (l6 _ List.Pairwise.nil) (fun c hc=>(hS c hc).1.1) (fun c hc=>(hS c hc).2) (by omega) hSl (by have:=hF1.z;omega)).mono ?_
  rintro e w2 ⟨o,rfl,⟨l,hl1,hl2⟩,hb2⟩;obtain ⟨a3,c3,rfl⟩:=cZ hl2.row;have hz1:=hF1.z
  refine ⟨a3,_,c3,rfl,(hb2.block _ (by omega)).trans hF1.r,⟨aJ (ah o1 hb2) (by omega),aJ (ah o2 hb2) (by omega),l,hl1,hl2.mono (by omega)⟩,aa hF1.below hb2,by have:=hb2.size;omega⟩
 ·rintro e w' ⟨x,y,z,w2,rfl,⟨hB,hb,hz⟩,rfl⟩
  exact ⟨x,y,z,rfl,hB.far (aD w2 (w.heap.size+1) _) (by omega),below_setRow hb (by omega) _⟩
open Go.RowKit
def takeC (ks ps:List dx) (es:List dU) (c:dP):Int:=bif dJ ks ps es then (bif gy ks ps c then (bif decide (12<(dS es c.f (dZ c)).length) then 3 else 0) else 2) else 1
def eT (ks ps:List dx) (es:List dU) (c:dP):List dU:=bif dJ ks ps es then (bif gy ks ps c then (bif decide (12<(dS es c.f (dZ c)).length) then es else dS es c.f (dZ c)) else es) else []
def dN (ks ps:List dx) (es:List dU) (l:List dx):List dx:=bif dJ ks ps es then l else []
theorem Kt {n:Int} (h0:0≤n) (h1:n≤1000000):(Lit.int .i64 n).wf=true:=by
 simp [Lit.wf,IntKind.min,IntKind.max,IntKind.signed,IntKind.bits]
 omega
theorem ER {ks ps:List dx} {c:dP} (h:gy ks ps c=true):1≤c.what∧c.what≤5:=by
 simp only [gy,Bool.and_eq_true] at h
 have h2:=h.2.2;unfold gU at h2
 repeat' split at h2
 all_goals (first | omega | cases h2)
theorem fit_key {ks ps:List dx} {c:dP} (h:gy ks ps c=true):iN c∧1≤c.num:=by
 have hw:=ER h
 simp only [gy,Bool.and_eq_true] at h
 have h1:=h.1;have h2:=h.2.1
 simp [eB] at h2
 unfold dD eB at h1
 simp at h1
 exact ⟨⟨by unfold maxLen;omega,Kt (by omega) (by omega)⟩,h2.1⟩
theorem yT {ks ps:List dx} {es:List dU} (h:dJ ks ps es=true):∀ c∈dh es,gy ks ps c=true:=fun c hc=>by
 obtain ⟨e,he,hc⟩:=List.mem_flatMap.1 hc;obtain ⟨f,hf,rfl⟩:=List.mem_map.1 hc;exact q8 (cJ h he) hf
theorem pQ {ks ps:List dx} {es:List dU} (h:dJ ks ps es=true):∀ e∈es,e.fs≠[]:=fun e he hn=>by
 have:=cJ h he
 simp [fieldsB,hn] at this
theorem yj {ks ps:List dx} {es:List dU} (h:dJ ks ps es=true):(∀ t∈ks,t.s.size≤1048576)∧∀ t∈ps,t.s.size≤1048576:=by
 have nm:∀ (l:List dx) (m:Nat),eO l m=true→∀ t∈l,t.s.size≤1048576:=fun l m hl t ht=>by
  obtain ⟨i,hi,rfl⟩:=List.getElem_of_mem ht;unfold eO at hl;rw [Bool.and_eq_true] at hl;have h1:=bH hl.2 i hi;rw [Bool.and_eq_true] at h1;have h2:=h1.1
  have e0:at' l i=l[i]:=by simp [at',hi]
  rw [e0] at h2;unfold dD eB at h2
  simp at h2
  omega
 unfold dJ eF at h
 simp only [Bool.and_eq_true] at h
 have hk:=h.1.1;have hp:=h.1.2;unfold dM at hk;unfold dH at hp;rw [Bool.and_eq_true] at hk hp;exact ⟨nm ks 6 hk.1,nm ps 16 hp.1⟩
theorem Ao {ks ps:List dx} {es:List dU} (h:dJ ks ps es=true):ks.length≤1048575∧ps.length≤1048575:=by
 unfold dJ eF at h
 simp only [Bool.and_eq_true] at h
 have hk:=h.1.1;have hp:=h.1.2;unfold dM at hk;unfold dH at hp;rw [Bool.and_eq_true] at hk hp;have h1:=hk.1;have h2:=hp.1;unfold eO at h1 h2;rw [Bool.and_eq_true,decide_eq_true_eq] at h1 h2
 exact ⟨by omega,by omega⟩
theorem JR {ks ps:List dx} {es:List dU} (h:dJ ks ps es=true):(([dh es]:List (List dP)).flatten.foldl gp []).foldl gN []=es:=by
 have e1:([dh es]:List (List dP)).flatten=dh es:=by simp
 rw [e1,u7 (oW h)];exact oM (pQ h) (G7 h)
theorem Mt (c:dP):dO c.f (dZ c)=c:=rfl
theorem L8 {ks ps:List dx} {es:List dU} (c:dP) (h:dJ ks ps es=true):(([dh es,[c]]:List (List dP)).flatten.foldl gp []).foldl gN []=dS es c.f (dZ c):=by
 have e1:([dh es,[c]]:List (List dP)).flatten=dh es++[c]:=by simp
 rw [e1,List.foldl_append,u7 (oW h)];have:=uZ c.f (dZ c) (bJ h) (pQ h);rw [Mt] at this;exact this
theorem Ff {ks ps:List dx} {es:List dU} (h:ic ks ps es):∀ c∈dh es,c.f.size≤1048576∧c.v.size≤1048576:=fun c hc=>by
 unfold dh at hc;rw [List.mem_flatMap] at hc;obtain ⟨e,he,hc⟩:=hc;rw [List.mem_map] at hc;obtain ⟨f,hf,rfl⟩:=hc;exact ⟨h.n e he,h.v e he f hf⟩
theorem Jp {w:World} {B:Nat} {v:Value} {L:List dP} {t:TypeId} (hb:w.heap[B]?=some (.cells #[v] t (0,0))) (hv:iC w v L):tL w (.slice (some ⟨B,0,none⟩) 1 1) [L]:=by
 refine ⟨_,1,rfl,Nat.le_refl _,by unfold maxLen;omega,fun i M hM=>?_⟩
 match i,hM with
 | 0,hM=>simp at hM;subst hM;exact ⟨B,0,v,rfl,by simp [World.cell?,hb],hv⟩
 | n+1,hM=>simp at hM
theorem Jo {w:World} {B:Nat} {v u:Value} {L K:List dP} {t:TypeId} (hb:w.heap[B]?=some (.cells #[v,u] t (0,0))) (hv:iC w v L) (hu:iC w u K):tL w (.slice (some ⟨B,0,none⟩) 2 2) [L,K]:=by
 refine ⟨_,2,rfl,Nat.le_refl _,by unfold maxLen;omega,fun i M hM=>?_⟩
 match i,hM with
 | 0,hM=>simp at hM;subst hM;exact ⟨B,0,v,rfl,by simp [World.cell?,hb],hv⟩
 | 1,hM=>simp at hM;subst hM;exact ⟨B,0,u,rfl,by simp [World.cell?,hb],hu⟩
 | n+2,hM=>simp at hM
theorem Fg {w:World} {B:Nat} {c:dP} {t:TypeId} (hb:w.heap[B]?=some (.cells #[.string c.f,.int .i64 c.what,.int .i64 c.num,.string c.v] t (0,0))):iC w (.slice (some ⟨B,0,none⟩) 1 1) [c]:=by
 refine ⟨_,1,rfl,Nat.le_refl _,by unfold maxLen;omega,fun i d hd=>?_⟩
 match i,hd with
 | 0,hd=>simp at hd;subst hd;exact ⟨B,0,rfl,by simp [World.cell?,hb],by simp [World.cell?,hb],by simp [World.cell?,hb],by simp [World.cell?,hb]⟩
 | n+1,hd=>simp at hd
structure iZ (w wr:World) (X Y Z:Obj):Prop where
 below:Below w.heap.size w wr
 b0:wr.heap[w.heap.size]?=some X
 b1:wr.heap[w.heap.size+1]?=some Y
 b2:wr.heap[w.heap.size+1+1]?=some Z
theorem iZ.z {w wr:World} {X Y Z:Obj} (h:iZ w wr X Y Z):w.heap.size+2<wr.heap.size:=(Array.getElem?_eq_some_iff.1 h.b2).1
theorem iZ.call {w wr wy:World} {X Y Z:Obj} (h:iZ w wr X Y Z) (hb:Below wr.heap.size wr wy):iZ w wy X Y Z:=by
 have hz:=h.z
 exact ⟨aa h.below hb,(hb.block _ (by omega)).trans h.b0,(hb.block _ (by omega)).trans h.b1,(hb.block _ (by omega)).trans h.b2⟩
theorem iZ.start (w:World) (X Y Z:Obj):iZ w (((w.alloc X).alloc Y).alloc Z) X Y Z:=by
 have s1:(w.alloc X).heap.size=w.heap.size+1:=by simp
 have s2:((w.alloc X).alloc Y).heap.size=w.heap.size+1+1:=by simp
 have h1:=am w X;have h2:=am (w.alloc X) Y;have h3:=am ((w.alloc X).alloc Y) Z;rw [s1] at h2;rw [s2] at h3
 refine ⟨((aM).alloc (by simp) _).alloc (by simp;omega) _,?_,?_,h3⟩
 ·exact (Below.heap_alloc _ _ _ (by omega)).trans ((Below.heap_alloc _ _ _ (by omega)).trans h1)
 ·exact (Below.heap_alloc _ _ _ (by omega)).trans h2
theorem df.none (lo:Nat) (w:World):df lo w (.slice none 0 0) (.slice none 0 0) (.slice none 0 0) [] [] []:=⟨⟨rfl,.inl ⟨rfl,rfl⟩⟩,⟨rfl,.inl ⟨rfl,rfl⟩⟩,[],rfl,dG.nil _ _⟩
theorem df.slices {lo:Nat} {w:World} {x y z:Value} {ks ps:List dx} {es:List dU} (h:df lo w x y z ks ps es):∃ a1 c1 a2 c2 a3 c3,x=.slice a1 ks.length c1∧y=.slice a2 ps.length c2∧z=.slice a3 es.length c3:=by
 obtain ⟨h1,h2,l,h3,h4⟩:=h;obtain ⟨a1,c1,rfl⟩:=cZ h1;obtain ⟨a2,c2,rfl⟩:=cZ h2;obtain ⟨a3,c3,rfl⟩:=cZ h4.row
 exact ⟨a1,c1,a2,c2,a3,c3,rfl,rfl,by rw [← h3,List.length_map]⟩
theorem BH (vk vp ve:Value) (ks ps:List dx) (es:List dU) (c:dP) (w:World) (hB:dI w vk vp ve ks ps es) (nB:jU ks ps es) (sB:ic ks ps es) (hsz:jC (fun e=>e.fs.length) es≤1048576) (hcf:c.f.size≤1048576) (hcv:c.v.size≤1048576) :
  Calls Tryz.prog 187 #[.agg #[vk,vp,ve],.agg #[.string c.f,.int .i64 c.what,.int .i64 c.num,.string c.v]] w fun e w'=>∃ x y z,e=.returned (.tuple #[.agg #[x,y,z],.int .i64 (takeC ks ps es c)])∧df w.heap.size w' x y z (dN ks ps es ks) (dN ks ps es ps) (eT ks ps es c)∧Below w.heap.size w w':=by
 have HB:Hid (dI w vk vp ve ks ps es):=hB;have NB:Hid (jU ks ps es):=nB;have SB:Hid (ic ks ps es):=sB;have HCO:Hid (∀ wx:World,Below w.heap.size w wx→Calls Tryz.prog 37 #[.agg #[vk,vp,ve]] wx fun e w'=>∃ v,e=.returned v∧fJ w' wx.heap.size v (dh es)∧Below wx.heap.size wx w'):=fun wx hx=>qD vk vp ve es wx (hB.keep hx).e hsz sB.e;have MW:Hid (∀ wx:World,Below w.heap.size w wx→Calls Tryz.prog 81 #[.agg #[vk,vp],.agg #[.string c.f,.int .i64 c.what,.int .i64 c.num,.string c.v]] wx fun e w'=>e=.returned (.bool (gy ks ps c))∧Below wx.heap.size wx w'):=fun wx hx=>oV _ _ ks ps c wx (hB.k.keep hx) (hB.p.keep hx) hcf hcv
 have FC:Hid ((dh es).length≤1048576):=by
  show (dh es).length≤1048576
  rw [lC];exact hsz
 have HBO:Hid (dJ ks ps es=true→∀ (wx:World) (vl:Value) (Ls:List (List dP)),Below w.heap.size w wx→tL wx vl Ls→Ls.length≤2→Ls.flatten.length≤1048577→(∀ L∈Ls,L.length≤1048576)→(∀ L∈Ls,∀ c'∈L,gy ks ps c'=true∧(c'.f.size≤1048576∧c'.v.size≤1048576))→Calls Tryz.prog 216 #[.agg #[vk,vp],vl] wx fun e w'=>∃ x y z,e=.returned (.agg #[x,y,z])∧df (wx.heap.size+3) w' x y z ks ps ((Ls.flatten.foldl gp []).foldl gN [])∧Below wx.heap.size wx w'):=fun hbb wx vl Ls hx hL h2 h3 h4 h5 =>
  G9 vk vp vl ks ps Ls wx (hB.k.keep hx) (hB.p.keep hx) (Ao hbb).1 (Ao hbb).2 (yj hbb).1 (yj hbb).2 hL (by omega) (by omega) (fun L hL=>by have:=h4 L hL;omega) (fun L hL c' hc'=>fit_key (h5 L hL c' hc').1) (fun L hL c' hc'=>(h5 L hL c' hc').2)
 obtain ⟨⟨ak,ck,rfl,-,-,-⟩,⟨ap,cp,rfl,-,-,-⟩,⟨ae,ce,rfl,-,-,-⟩⟩:=hB;clear nB sB
 go_enter Tryz.func187,Tryz.ntmps187
 have HX0:Hid (iZ w _ _ _ _):=iZ.start w (.cells #[.slice ak ks.length ck,.slice ap ps.length cp,.slice ae es.length ce] 30) (.cells #[.string c.f,.int .i64 c.what,.int .i64 c.num,.string c.v] 76) (.cells #[.slice none 0 0,.slice none 0 0,.slice none 0 0] 30);go_wp2_with fail;refine (ru _ _ _ ks ps es _ (HB.out.keep HX0.out.below) NB.out SB.out).mono ?_;rintro e w1 ⟨rfl,hb1⟩;have jG:Hid (iZ w w1 (.cells #[.slice ak ks.length ck,.slice ap ps.length cp,.slice ae es.length ce] 30) (.cells #[.string c.f,.int .i64 c.what,.int .i64 c.num,.string c.v] 76) (.cells #[.slice none 0 0,.slice none 0 0,.slice none 0 0] 30)):=HX0.out.call hb1;clear HX0 hb1
 obtain ⟨y0,y1,y2⟩:w1.cell? ⟨w.heap.size,0,none⟩=some (.slice ak ks.length ck)∧w1.cell? ⟨w.heap.size,1,none⟩=some (.slice ap ps.length cp)∧w1.cell? ⟨w.heap.size,2,none⟩=some (.slice ae es.length ce):=by simp [World.cell?,jG.out.b0]
 have hr1:=jG.out.b2
 cases hbb:dJ ks ps es
 ·have HE:Hid (takeC ks ps es c=1∧dN ks ps es ks=[]∧dN ks ps es ps=[]∧eT ks ps es c=[]):=by
   show _∧_∧_∧_
   unfold takeC dN eT;rw [hbb];exact ⟨rfl,rfl,rfl,rfl⟩
  clear hbb
  go_wp2_with (refine wpList_store_row rfl 30 _ _ rfl (w.heap.size+1+1) #[.slice none 0 0,.slice none 0 0,.slice none 0 0] rfl rfl 30 _ hr1 (by kernel_rfl) rfl (by simp [Value.oneCell']) ?_)
  exact bodyPost_ret (v:=.tuple #[.agg #[.slice none 0 0,.slice none 0 0,.slice none 0 0],.int .i64 1]) (by simp [results,Tryz.results187,go_sem,cell_setRow_same _ _ _ _ _ _ _ hr1]) rfl ⟨_,_,_,by rw [HE.out.1],by rw [HE.out.2.1,HE.out.2.2.1,HE.out.2.2.2];exact df.none _ _,below_setRow jG.out.below (by omega) _⟩
 have A7:Hid (dJ ks ps es=true):=hbb
 have ug:Hid (dN ks ps es ks=ks∧dN ks ps es ps=ps):=by
  show _∧_
  unfold dN;rw [hbb];exact ⟨rfl,rfl⟩
 clear hbb hr1;go_wp2_with fail;refine (HCO.out _ jG.out.below).mono ?_;rintro e w2 ⟨v,rfl,hv2,hb2⟩;have jF:Hid (iZ w w2 (.cells #[.slice ak ks.length ck,.slice ap ps.length cp,.slice ae es.length ce] 30) (.cells #[.string c.f,.int .i64 c.what,.int .i64 c.num,.string c.v] 76) (.cells #[.slice none 0 0,.slice none 0 0,.slice none 0 0] 30)):=jG.out.call hb2;obtain ⟨va,vc,rfl⟩:=cZ hv2;have o5:Hid (iC w2 (.slice va (dh es).length vc) (dh es)):=hv2.at;clear jG hb2 y0 y1 y2 hv2
 obtain ⟨y0,y1,y2⟩:w2.cell? ⟨w.heap.size,0,none⟩=some (.slice ak ks.length ck)∧w2.cell? ⟨w.heap.size,1,none⟩=some (.slice ap ps.length cp)∧w2.cell? ⟨w.heap.size,2,none⟩=some (.slice ae es.length ce):=by simp [World.cell?,jF.out.b0]
 obtain ⟨x0,x1,x2,x3⟩:w2.cell? ⟨w.heap.size+1,0,none⟩=some (.string c.f)∧w2.cell? ⟨w.heap.size+1,1,none⟩=some (.int .i64 c.what)∧w2.cell? ⟨w.heap.size+1,2,none⟩=some (.int .i64 c.num)∧w2.cell? ⟨w.heap.size+1,3,none⟩=some (.string c.v):=by simp [World.cell?,jF.out.b1]
 go_wp2_with fail;refine (MW.out _ jF.out.below).mono ?_;rintro e w3 ⟨rfl,hb3⟩;have tN:Hid (iZ w w3 (.cells #[.slice ak ks.length ck,.slice ap ps.length cp,.slice ae es.length ce] 30) (.cells #[.string c.f,.int .i64 c.what,.int .i64 c.num,.string c.v] 76) (.cells #[.slice none 0 0,.slice none 0 0,.slice none 0 0] 30)):=jF.out.call hb3;have HV3:Hid (iC w3 (.slice va (dh es).length vc) (dh es)):=o5.out.keep hb3;clear jF o5 hb3 y0 y1 y2 x0 x1 x2 x3
 obtain ⟨y0,y1,y2⟩:w3.cell? ⟨w.heap.size,0,none⟩=some (.slice ak ks.length ck)∧w3.cell? ⟨w.heap.size,1,none⟩=some (.slice ap ps.length cp)∧w3.cell? ⟨w.heap.size,2,none⟩=some (.slice ae es.length ce):=by simp [World.cell?,tN.out.b0]
 obtain ⟨x0,x1,x2,x3⟩:w3.cell? ⟨w.heap.size+1,0,none⟩=some (.string c.f)∧w3.cell? ⟨w.heap.size+1,1,none⟩=some (.int .i64 c.what)∧w3.cell? ⟨w.heap.size+1,2,none⟩=some (.int .i64 c.num)∧w3.cell? ⟨w.heap.size+1,3,none⟩=some (.string c.v):=by simp [World.cell?,tN.out.b1]
 have Kq:Hid (∀ c'∈dh es,gy ks ps c'=true∧(c'.f.size≤1048576∧c'.v.size≤1048576)):=fun c' h=>⟨yT A7.out c' h,Ff SB.out c' h⟩
 have HONE:Hid (∀ wx:World,iZ w wx (.cells #[.slice ak ks.length ck,.slice ap ps.length cp,.slice ae es.length ce] 30) (.cells #[.string c.f,.int .i64 c.what,.int .i64 c.num,.string c.v] 76) (.cells #[.slice none 0 0,.slice none 0 0,.slice none 0 0] 30)→iC wx (.slice va (dh es).length vc) (dh es)→Calls Tryz.prog 216 #[.agg #[.slice ak ks.length ck,.slice ap ps.length cp],.slice (some ⟨wx.heap.size,0,none⟩) 1 1] (wx.alloc (.cells #[.slice va (dh es).length vc] 73)) fun e w'=>∃ x y z,e=.returned (.agg #[x,y,z])∧df w.heap.size w' x y z ks ps es∧iZ w w' (.cells #[.slice ak ks.length ck,.slice ap ps.length cp,.slice ae es.length ce] 30) (.cells #[.string c.f,.int .i64 c.what,.int .i64 c.num,.string c.v] 76) (.cells #[.slice none 0 0,.slice none 0 0,.slice none 0 0] 30)∧df (w.heap.size+3) w' x y z ks ps es):=fun wx hx hv=>by
  have hz:=hx.z;have hal:Below wx.heap.size wx (wx.alloc (.cells #[.slice va (dh es).length vc] 73)):=(aM)
  refine (HBO.out A7.out _ _ [dh es] (aa hx.below hal) (Jp (am wx _) (hv.keep hal)) (by simp) (by have:=FC.out;simp;omega) (fun L h=>by simp at h;subst h;exact FC.out) (fun L h=>by simp at h;subst h;exact Kq.out)).mono ?_
  rintro e w' ⟨x,y,z,rfl,hN,hb⟩;rw [JR A7.out] at hN;have hs:=hal.size
  exact ⟨x,y,z,rfl,hN.mono (by omega),(hx.call hal).call hb,hN.mono (by omega)⟩
 cases Kl:gy ks ps c
 ·have HE:Hid (takeC ks ps es c=2∧eT ks ps es c=es):=by
   show _∧_
   unfold takeC eT;rw [A7.out,Kl];exact ⟨rfl,rfl⟩
  clear Kl;go_wp2_with fail;refine (HONE.out w3 tN.out HV3.out).mono ?_;rintro e w4 ⟨x,y,z,rfl,hN,hX4,hN3⟩;have hr4:=hX4.b2;have Fv:Hid (Below w.heap.size w w4∧w.heap.size+2<w4.heap.size):=⟨hX4.below,hX4.z⟩;have HN4:Hid (df (w.heap.size+3) w4 x y z ks ps es):=hN3;obtain ⟨a1,c1,a2,c2,a3,c3,rfl,rfl,rfl⟩:=hN.slices;clear hX4 hN hN3
  go_wp2_with (refine wpList_store_row rfl 30 _ _ rfl (w.heap.size+1+1) #[.slice a1 ks.length c1,.slice a2 ps.length c2,.slice a3 es.length c3] rfl rfl 30 _ hr4 (by kernel_rfl) rfl (by simp [Value.oneCell']) ?_)
  exact bodyPost_ret (v:=.tuple #[.agg #[.slice a1 ks.length c1,.slice a2 ps.length c2,.slice a3 es.length c3],.int .i64 2]) (by simp [results,Tryz.results187,go_sem,cell_setRow_same _ _ _ _ _ _ _ hr4]) rfl ⟨_,_,_,by rw [HE.out.1],by rw [ug.out.1,ug.out.2,HE.out.2];exact (HN4.out.far (aD w4 (w.heap.size+1+1) _) (by omega)).mono (by omega),below_setRow Fv.out.1 (by omega) _⟩
 ·have HFF:Hid (gy ks ps c=true):=Kl
  clear Kl;have nD:Below w3.heap.size w3 (w3.alloc (.cells #[.string c.f,.int .i64 c.what,.int .i64 c.num,.string c.v] 76)):=(aM);have lJ:Below w3.heap.size w3 ((w3.alloc (.cells #[.string c.f,.int .i64 c.what,.int .i64 c.num,.string c.v] 76)).alloc (.cells #[.slice va (dh es).length vc,.slice (some ⟨w3.heap.size,0,none⟩) 1 1] 73)):=nD.alloc nD.size _
  have HTWO:Hid (Calls Tryz.prog 216 #[.agg #[.slice ak ks.length ck,.slice ap ps.length cp],.slice (some ⟨w3.heap.size+1,0,none⟩) 2 2] ((w3.alloc (.cells #[.string c.f,.int .i64 c.what,.int .i64 c.num,.string c.v] 76)).alloc (.cells #[.slice va (dh es).length vc,.slice (some ⟨w3.heap.size,0,none⟩) 1 1] 73)) fun e w'=>∃ x y z,e=.returned (.agg #[x,y,z])∧df (w.heap.size+3) w' x y z ks ps (dS es c.f (dZ c))∧iZ w w' (.cells #[.slice ak ks.length ck,.slice ap ps.length cp,.slice ae es.length ce] 30) (.cells #[.string c.f,.int .i64 c.what,.int .i64 c.num,.string c.v] 76) (.cells #[.slice none 0 0,.slice none 0 0,.slice none 0 0] 30)∧iC w' (.slice va (dh es).length vc) (dh es)):=by
   have hz:=tN.out.z;have hb0:=am w3 (.cells #[.string c.f,.int .i64 c.what,.int .i64 c.num,.string c.v] 76);have hb1:=am (w3.alloc (.cells #[.string c.f,.int .i64 c.what,.int .i64 c.num,.string c.v] 76)) (.cells #[.slice va (dh es).length vc,.slice (some ⟨w3.heap.size,0,none⟩) 1 1] 73);rw [World.size_alloc] at hb1
   have hb0':=(Below.heap_alloc (w3.alloc (.cells #[.string c.f,.int .i64 c.what,.int .i64 c.num,.string c.v] 76)) (.cells #[.slice va (dh es).length vc,.slice (some ⟨w3.heap.size,0,none⟩) 1 1] 73) w3.heap.size (by simp)).trans hb0
   refine (HBO.out A7.out _ _ [dh es,[c]] (aa tN.out.below lJ) (Jo hb1 (HV3.out.keep lJ) (Fg hb0')) (by simp) (by have:=FC.out;simp;omega) (fun L h=>by simp at h;rcases h with rfl | rfl;exact FC.out;simp) (fun L h=>by simp at h;rcases h with rfl | rfl;exact Kq.out;exact fun c' h'=>by simp at h';subst h';exact ⟨HFF.out,hcf,hcv⟩)).mono ?_
   rintro e w' ⟨x,y,z,rfl,hN,hb⟩;rw [L8 c A7.out] at hN;have hs:=lJ.size
   exact ⟨x,y,z,rfl,hN.mono (by omega),(tN.out.call lJ).call hb,(HV3.out.keep lJ).keep hb⟩
  clear nD lJ;go_wp2_with fail;refine HTWO.out.mono ?_;rintro e w4 ⟨x,y,z,rfl,hN,hX4,hV4⟩;have Fv:Hid (iZ w w4 (.cells #[.slice ak ks.length ck,.slice ap ps.length cp,.slice ae es.length ce] 30) (.cells #[.string c.f,.int .i64 c.what,.int .i64 c.num,.string c.v] 76) (.cells #[.slice none 0 0,.slice none 0 0,.slice none 0 0] 30)):=hX4;have HV4:Hid (iC w4 (.slice va (dh es).length vc) (dh es)):=hV4;have HN4:Hid (df (w.heap.size+3) w4 x y z ks ps (dS es c.f (dZ c))):=hN;obtain ⟨a1,c1,a2,c2,a3,c3,rfl,rfl,rfl⟩:=hN.slices
  have HC:Hid (takeC ks ps es c=(bif decide (12<(dS es c.f (dZ c)).length) then 3 else 0)∧eT ks ps es c=(bif decide (12<(dS es c.f (dZ c)).length) then es else dS es c.f (dZ c))):=by
   show _∧_
   unfold takeC eT;rw [A7.out,HFF.out];exact ⟨rfl,rfl⟩
  clear hN hX4 hV4 HTWO tN HV3 y0 y1 y2 x0 x1 x2 x3
  obtain ⟨y0,y1,y2⟩:w4.cell? ⟨w.heap.size,0,none⟩=some (.slice ak ks.length ck)∧w4.cell? ⟨w.heap.size,1,none⟩=some (.slice ap ps.length cp)∧w4.cell? ⟨w.heap.size,2,none⟩=some (.slice ae es.length ce):=by simp [World.cell?,Fv.out.b0]
  have hz4:w.heap.size<w4.heap.size:=by have:=Fv.out.z;omega
  have hal:Below w4.heap.size w4 (w4.alloc (.cells #[.slice a1 ks.length c1,.slice a2 ps.length c2,.slice a3 (dS es c.f (dZ c)).length c3] 30)):=(aM);have J7:Hid (iZ w _ _ _ _):=Fv.out.call hal;have HV5:Hid (iC (w4.alloc (.cells #[.slice a1 ks.length c1,.slice a2 ps.length c2,.slice a3 (dS es c.f (dZ c)).length c3] 30)) (.slice va (dh es).length vc) (dh es)):=HV4.out.keep hal;have HN5:Hid (df (w.heap.size+3) (w4.alloc (.cells #[.slice a1 ks.length c1,.slice a2 ps.length c2,.slice a3 (dS es c.f (dZ c)).length c3] 30)) (.slice a1 ks.length c1) (.slice a2 ps.length c2) (.slice a3 (dS es c.f (dZ c)).length c3) ks ps (dS es c.f (dZ c))):=HN4.out.keep hal;have qA:=J7.out.b2;clear hal Fv HV4 HN4
  by_cases h12:12<(dS es c.f (dZ c)).length
  ·have h12':(12:Int)<((dS es c.f (dZ c)).length:Int):=by omega
   have HE:Hid (takeC ks ps es c=3∧eT ks ps es c=es):=by
    show _∧_
    rw [HC.out.1,HC.out.2];simp [h12]
   clear h12 HC;have hone:=HONE.out _ J7.out HV5.out;rw [World.size_alloc] at hone;have HON5:=Ky hone;clear hone;go_wp2_with fail;refine HON5.out.mono ?_;rintro e w6 ⟨x,y,z,rfl,hN,hX6,hN3⟩;have hr6:=hX6.b2;have HX6:Hid (Below w.heap.size w w6∧w.heap.size+2<w6.heap.size):=⟨hX6.below,hX6.z⟩;have HN6:Hid (df (w.heap.size+3) w6 x y z ks ps es):=hN3;obtain ⟨a4,c4,a5,c5,a6,c6,rfl,rfl,rfl⟩:=hN.slices;clear hX6 hN hN3 qA
   go_wp2_with (refine wpList_store_row rfl 30 _ _ rfl (w.heap.size+1+1) #[.slice a4 ks.length c4,.slice a5 ps.length c5,.slice a6 es.length c6] rfl rfl 30 _ hr6 (by kernel_rfl) rfl (by simp [Value.oneCell']) ?_)
   exact bodyPost_ret (v:=.tuple #[.agg #[.slice a4 ks.length c4,.slice a5 ps.length c5,.slice a6 es.length c6],.int .i64 3]) (by simp [results,Tryz.results187,go_sem,cell_setRow_same _ _ _ _ _ _ _ hr6]) rfl ⟨_,_,_,by rw [HE.out.1],by rw [ug.out.1,ug.out.2,HE.out.2];exact (HN6.out.far (aD w6 (w.heap.size+1+1) _) (by omega)).mono (by omega),below_setRow HX6.out.1 (by omega) _⟩
  ·have h12':¬ (12:Int)<((dS es c.f (dZ c)).length:Int):=by omega
   have HE:Hid (takeC ks ps es c=0∧eT ks ps es c=dS es c.f (dZ c)):=by
    show _∧_
    rw [HC.out.1,HC.out.2];simp [h12]
   clear h12 HC;generalize dS es c.f (dZ c)=es' at *
   go_wp2_with (refine wpList_store_row rfl 30 _ _ rfl (w.heap.size+1+1) #[.slice a1 ks.length c1,.slice a2 ps.length c2,.slice a3 es'.length c3] rfl rfl 30 _ qA (by kernel_rfl) rfl (by simp [Value.oneCell']) ?_)
   exact bodyPost_ret (v:=.tuple #[.agg #[.slice a1 ks.length c1,.slice a2 ps.length c2,.slice a3 es'.length c3],.int .i64 0]) (by simp [results,Tryz.results187,go_sem,cell_setRow_same _ _ _ _ _ _ _ qA]) rfl ⟨_,_,_,by rw [HE.out.1],by rw [ug.out.1,ug.out.2,HE.out.2];exact (HN5.out.far (aD _ (w.heap.size+1+1) _) (by omega)).mono (by omega),below_setRow J7.out.below (by omega) _⟩
open Go.RowKit
theorem aq {P:Prop} (h:P):Hid P:=h
theorem Eg {w:World} {a:Addr} {v:Value} (h:w.cell? a=some v):a.block<w.heap.size:=by
 by_cases hb:a.block<w.heap.size
 ·exact hb
 ·exfalso
  have hn:w.heap[a.block]?=none:=by simp;omega
  simp [World.cell?,hn] at h
theorem be {W:World} {B base:Nat} {e:TypeId} (h:W.heap[B]?=some (.cells #[] e (0,0))) (hb:base≤B) (size:Nat):W.ownsRow base e size (.slice (some ⟨B,0,none⟩) 0 0) 0 [] :=
 ⟨by simp,.inr ⟨B,0,#[],rfl,hb,h,Nat.le_refl _,Nat.zero_le _,by simp,by simp⟩⟩
theorem oo {α:Type} (f:α→List Value) (c:Nat) (hf:∀ a,(f a).length=c):∀ (l:List α) (i r:Nat),r<c→(l.flatMap f)[i*c+r]?=l[i]?.bind fun a=>(f a)[r]?
 | [],i,r,hr=>by simp
 | a::l,0,r,hr=>by
  simp only [List.flatMap_cons,Nat.zero_mul,Nat.zero_add]
  rw [List.getElem?_append_left (by rw [hf];exact hr)]
  rfl
 | a::l,i+1,r,hr=>by
  simp only [List.flatMap_cons]
  have h1:(i+1)*c+r=c+(i*c+r):=by rw [Nat.succ_mul];omega
  rw [List.getElem?_append_right (by rw [hf,h1];omega),hf,h1,Nat.add_sub_cancel_left,oo f c hf l i r hr]
  rfl
theorem Du {α:Type} (f:α→List Value) (c:Nat) (hf:∀ a,(f a).length=c) (l:List α):(l.flatMap f).length=l.length*c:=by
 induction l with
 | nil=>simp
 | cons a l ih=>rw [List.flatMap_cons,List.length_append,ih,hf,List.length_cons,Nat.succ_mul];omega
theorem bm (b o j:Nat):(⟨b,o,none⟩:Addr).add j=⟨b,o+j,none⟩:=by unfold Addr.add;split <;> simp_all
theorem KP {α:Type} {w:World} {a:Option Addr} {l:List α} (f:α→List Value) (c:Nat) (hc:0<c) (hf:∀ x,(f x).length=c) (h:∀ i t,l[i]?=some t→∃ b off,a=some ⟨b,off,none⟩∧∀ r v,(f t)[r]?=some v→w.cell? ⟨b,off+i*c+r,none⟩=some v) :
  l.length=0 ∨ ∃ ad,a=some ad∧∀ j u,(l.flatMap f)[j]?=some u→w.cell? (ad.add j)=some u:=by
 cases l with
 | nil=>exact .inl rfl
 | cons t l =>
  obtain ⟨b,off,rfl,_⟩:=h 0 t rfl;refine .inr ⟨_,rfl,fun j u hu=>?_⟩
  have hj:j=(j / c)*c+j % c:=by rw [Nat.mul_comm];exact (Nat.div_add_mod j c).symm
  have hr:j % c<c:=Nat.mod_lt _ hc;rw [hj,oo f c hf _ _ _ hr] at hu
  cases hx:(t::l)[j / c]? with
  | none=>rw [hx] at hu;cases hu
  | some y =>
   rw [hx] at hu;obtain ⟨b',off',e,hh⟩:=h _ y hx
   cases e
   rw [bm];have:=hh _ u hu
   rw [show off+j=off+j / c*c+j % c by omega]
   exact this
theorem qJ (t:dx):(fA t).length=3:=rfl
theorem nG (t:fI):(dL t).length=3:=rfl
theorem mh {w:World} {a:Option Addr} {n c:Nat} {l:List dx} (h:dA w (.slice a n c) l):l.length=0 ∨ ∃ ad,a=some ad∧∀ j u,(aS l)[j]?=some u→w.cell? (ad.add j)=some u:=by
 obtain ⟨a',cap,e,_,_,h⟩:=h
 cases e
 refine KP fA 3 (by omega) qJ (fun i t ht=>?_)
 obtain ⟨b,off,e,h0,h1,h2⟩:=h i t ht;refine ⟨b,off,e,fun r v hv=>?_⟩
 match r,hv with
 | 0,hv=>cases hv;exact h0
 | 1,hv=>cases hv;exact h1
 | 2,hv=>cases hv;exact h2
 | r+3,hv=>simp [fA] at hv
theorem Ma {w:World} {a:Option Addr} {n c:Nat} {l:List fI} (h:iW w (.slice a n c) l):l.length=0 ∨ ∃ ad,a=some ad∧∀ j u,(di l)[j]?=some u→w.cell? (ad.add j)=some u:=by
 obtain ⟨a',cap,e,_,_,h⟩:=h
 cases e
 refine KP dL 3 (by omega) nG (fun i t ht=>?_)
 obtain ⟨b,off,e,h0,h1,h2⟩:=h i t ht;refine ⟨b,off,e,fun r v hv=>?_⟩
 match r,hv with
 | 0,hv=>cases hv;exact h0
 | 1,hv=>cases hv;exact h1
 | 2,hv=>cases hv;exact h2
 | r+3,hv=>simp [dL] at hv
theorem cN {w w':World} {a:Option Addr} {n:Nat} {xs:List Value} (h:n=0 ∨ ∃ ad,a=some ad∧∀ j u,xs[j]?=some u→w.cell? (ad.add j)=some u) (hb:Below w.heap.size w w'):n=0 ∨ ∃ ad,a=some ad∧∀ j u,xs[j]?=some u→w'.cell? (ad.add j)=some u:=by
 rcases h with h | ⟨ad,h1,h2⟩
 ·exact .inl h
 ·refine .inr ⟨ad,h1,fun j u hu=>?_⟩
  have hc:=h2 j u hu;exact (hb.cell (Eg hc)).trans hc
theorem bB {l:List dx}:∀ u∈aS l,u.oneCell'=true:=fun u hu=>by
 obtain ⟨t,_,ht⟩:=List.mem_flatMap.1 hu
 simp only [fA,List.mem_cons,List.not_mem_nil,or_false] at ht
 rcases ht with rfl | rfl | rfl <;> rfl
theorem kK {l:List fI}:∀ u∈di l,u.oneCell'=true:=fun u hu=>by
 obtain ⟨t,_,ht⟩:=List.mem_flatMap.1 hu
 simp only [dL,List.mem_cons,List.not_mem_nil,or_false] at ht
 rcases ht with rfl | rfl | rfl <;> rfl
theorem aE (l:List dx):(aS l).length=l.length*3:=Du fA 3 qJ l
theorem bQ (l:List fI):(di l).length=l.length*3:=Du dL 3 nG l
theorem dG.pushF {w3 w5:World} {B:Nat} {o o' fv:Value} {l:List eD} {e:dU} {ob:Obj} (h:dG w3 B o l) (hf:w3.ownsRow B 67 3 fv e.fs.length (di e.fs)) (hnew:∀ k,fv.ownBlock=some k→∀ p∈l,p.2.ownBlock≠some k) (hown:w5.ownsRow B 65 2 o' (l.length+1) (dw l++[.string e.name,fv])) (hg:(w3.alloc ob).grownBy w5 o.ownBlock):dG w5 B o' (l++[(e,fv)]):=by
 have hb1:Below w3.heap.size w3 (w3.alloc ob):=(Below.refl _ _).alloc aG ob;refine ⟨?_,fun p hp=>?_,?_⟩
 ·rw [ci,List.length_append];exact hown
 ·rcases List.mem_append.1 hp with hp | hp
  ·exact ar (ah (h.iL p hp) hb1) hg (aN h.row (h.iL p hp) (by decide))
  ·simp at hp;subst hp
   exact ar (ah hf hb1) hg (aN h.row hf (by decide))
 ·rw [List.pairwise_append]
  exact ⟨h.apart,by simp,fun p hp q hq k hk=>by simp at hq;subst hq;exact fun hk'=>hnew k hk' p hp hk⟩
theorem df.box {lo X:Nat} {w w':World} {C:Array Value} {x y z:Value} {ks ps:List dx} {es:List dU} (h:df lo w x y z ks ps es) (hX:w.heap[X]?=some (.cells C 30 (0,0))) (hg:w.grownBy w' (some X)):df lo w' x y z ks ps es:=by
 obtain ⟨h1,h2,l,h3,h4⟩:=h
 refine ⟨ar h1 hg (fun k hk e=>bd h1 hX (by decide) (by rw [← e];exact hk.symm)),ar h2 hg (fun k hk e=>bd h2 hX (by decide) (by rw [← e];exact hk.symm)),l,h3,?_,fun p hp=>?_,h4.apart⟩
 ·exact ar h4.row hg (fun k hk e=>bd h4.row hX (by decide) (by rw [← e];exact hk.symm))
 ·exact ar (h4.iL p hp) hg (fun k hk e=>bd (h4.iL p hp) hX (by decide) (by rw [← e];exact hk.symm))
theorem qo {W W':World} {base:Nat} {e:TypeId} {size:Nat} {v:Value} {n:Nat} {xs:List Value} (h:W.ownsRow base e size v n xs) (hs:∀ k,v.ownBlock=some k→k<W.heap.size→W'.heap[k]?=W.heap[k]?):W'.ownsRow base e size v n xs:=by
 refine ⟨h.1,?_⟩
 rcases h.2 with h2 | ⟨g,cap,cur,hv,hb,hc,rest⟩
 ·exact .inl h2
 ·exact .inr ⟨g,cap,cur,hv,hb,(hs g (by rw [hv];rfl) (Array.getElem?_eq_some_iff.1 hc).1).trans hc,rest⟩
open Go.RowKit
theorem sP (g:fI) (l:List fI) (i:Nat):fH (g::l) (i+1)=fH l i:=by simp [fH]
theorem Dy:∀ (fs:List fI) (f:fI) (j:Nat),j<fs.length→(∀ i,i<j→(fH fs i).what<f.what)→(fH fs j).what=f.what→gP fs f=bif BR f (fH fs j) then fs.set j f else fs
 | [],f,j,hj,_,_=>by simp at hj
 | g::l,f,0,hj,hl,he=>by
  have e0:fH (g::l) 0=g:=rfl;rw [e0] at he ⊢
  rw [gP,if_neg (by omega),if_pos he]
  cases BR f g <;> rfl
 | g::l,f,j+1,hj,hl,he=>by
  have h0:=hl 0 (by omega)
  have e0:fH (g::l) 0=g:=rfl;rw [e0] at h0;rw [sP] at he ⊢
  rw [gP,if_pos h0,Dy l f j (by simpa using hj) (fun i hi=>by have:=hl (i+1) (by omega);rwa [sP] at this) he]
  cases BR f (fH l j) <;> rfl
theorem Bw:∀ (fs:List fI) (f:fI) (j:Nat),j≤fs.length→(∀ i,i<j→(fH fs i).what<f.what)→(j<fs.length→f.what<(fH fs j).what)→gP fs f=fs.take j++f::fs.drop j
 | [],f,j,hj,_,_=>by
  have:j=0:=by simpa using hj
  subst this;rfl
 | g::l,f,0,hj,hl,he=>by
  have h0:=he (by simp)
  have e0:fH (g::l) 0=g:=rfl;rw [e0] at h0
  rw [gP,if_neg (by omega),if_neg (by omega)]
  rfl
 | g::l,f,j+1,hj,hl,he=>by
  have h0:=hl 0 (by omega)
  have e0:fH (g::l) 0=g:=rfl;rw [e0] at h0
  rw [gP,if_pos h0,Bw l f j (by simpa using hj) (fun i hi=>by have:=hl (i+1) (by omega);rwa [sP] at this) (fun hlt=>by have:=he (by simpa using hlt);rwa [sP] at this)]
  rfl
theorem KZ (fs:List fI) (f:fI):(gP fs f).length≤fs.length+1:=by
 induction fs with
 | nil=>simp [gP]
 | cons g l ih =>
  rw [gP]
  split
  ·simp;omega
  ·split
   ·split <;> simp
   ·simp
theorem cI (a b:List fI):di (a++b)=di a++di b:=by simp [di]
theorem kL (a:fI) (b:List fI):di (a::b)=dL a++di b:=by simp [di]
theorem lU:∀ (fs:List fI) (f:fI) (j:Nat),j<fs.length→di (fs.set j f)=(((di fs).set (j*3) (.int .i64 f.what)).set (j*3+1) (.int .i64 f.num)).set (j*3+2) (.string f.v)
 | [],f,j,hj=>by simp at hj
 | g::l,f,0,hj=>by simp [di,dL]
 | g::l,f,j+1,hj=>by
  rw [List.set_cons_succ,kL,kL,lU l f j (by simpa using hj)]
  have h3:(j+1)*3=3+j*3:=by omega
  have h4:∀ (x:List Value) (p:Nat) (v:Value),(dL g++x).set (3+p) v=dL g++x.set p v:=fun x p v=>by
   rw [List.set_append_right _ _ (by simp [dL])]
   simp [dL]
  rw [h3,h4,Nat.add_assoc,h4,Nat.add_assoc,h4]
theorem rY {w:World} {B:Nat} {e:TypeId} {size g n cap m:Nat} {xs:List Value} (h:w.ownsRow B e size (.slice (some ⟨g,0,none⟩) n cap) m xs) (p:Nat) (v:Value):(w.setCell ⟨g,p,none⟩ v).ownsRow B e size (.slice (some ⟨g,0,none⟩) n cap) m (xs.set p v):=by
 obtain ⟨h1,h2⟩:=h
 rcases h2 with ⟨h2,_⟩ | ⟨g',cap',cur,hv,hB,hb,hn,hc,hs,ht⟩
 ·cases h2
 ·cases hv
  refine ⟨by simpa using h1,.inr ⟨g,cap,cur.setIfInBounds p v,rfl,hB,?_,hn,hc,by simpa using hs,?_⟩⟩
  ·rw [setCell_eq_setRow _ _ _ _ _ _ _ hb];exact setRow_heap _ _ _ _ _ _ hb
  ·rw [Array.toList_setIfInBounds,List.take_set,ht]
theorem nE {w w1 w2:World} {r:Option Nat} (h:w.grownBy w1 r) (k:w1.grownBy w2 r):w.grownBy w2 r :=
 ⟨k.1.trans h.1,k.2.trans h.2,k.3.trans h.3,Nat.le_trans h.4 k.4,fun j hj hr=>(k.5 j (Nat.lt_of_lt_of_le hj h.4) hr).trans (h.5 j hj hr)⟩
theorem bZ {w w':World} (h:Below w.heap.size w w') (r:Option Nat):w.grownBy w' r:=⟨h.1,h.2,h.3,h.4,fun k hk _=>h.5 k hk⟩
theorem La {w:World} {lo g n cap:Nat} {fs:List fI} {j:Nat} (f:fI) (h:w.ownsRow lo 67 3 (.slice (some ⟨g,0,none⟩) n cap) fs.length (di fs)) (hj:j<fs.length) :
  (w.setCells g (j*3) (dL f)).ownsRow lo 67 3 (.slice (some ⟨g,0,none⟩) n cap) (fs.set j f).length (di (fs.set j f))∧w.grownBy (w.setCells g (j*3) (dL f)) (some g):=by
 have e:w.setCells g (j*3) (dL f)=((w.setCell ⟨g,j*3,none⟩ (.int .i64 f.what)).setCell ⟨g,j*3+1,none⟩ (.int .i64 f.num)).setCell ⟨g,j*3+2,none⟩ (.string f.v):=rfl;rw [e];refine ⟨?_,nE (nE (aQ _ _ _ _) (aQ _ _ _ _)) (aQ _ _ _ _)⟩;rw [lU fs f j hj,List.length_set];exact rY (rY (rY h _ _) _ _) _ _
theorem ni {w:World} {lo:Nat} {v:Value} {fs:List fI} {j:Nat} (h:w.ownsRow lo 67 3 v fs.length (di fs)) (hj:j<fs.length) :
  ∃ g cap,v=.slice (some ⟨g,0,none⟩) fs.length cap∧lo≤g∧g<w.heap.size∧fs.length≤cap∧cap≤maxLen∧w.cell? ⟨g,j*3,none⟩=some (.int .i64 (fH fs j).what)∧w.cell? ⟨g,j*3+1,none⟩=some (.int .i64 (fH fs j).num)∧w.cell? ⟨g,j*3+2,none⟩=some (.string (fH fs j).v)∧w.there g (j*3) 3:=by
 obtain ⟨h1,h2⟩:=h
 rcases h2 with ⟨_,h2⟩ | ⟨g,cap,cur,rfl,hB,hb,hn,hc,hs,ht⟩
 ·omega
 ·have hx:∀ r,r<3→cur.toList[j*3+r]?=(dL (fH fs j))[r]?:=fun r hr=>by
   have e1:(cur.toList.take (fs.length*3))[j*3+r]?=cur.toList[j*3+r]?:=by rw [List.getElem?_take,if_pos (by omega)]
   rw [← e1,ht];unfold di;rw [oo dL 3 nG fs j r hr,b7 hj]
   rfl
  have x0:=hx 0 (by omega)
  have x1:=hx 1 (by omega)
  have x2:=hx 2 (by omega)
  simp only [Nat.add_zero] at x0
  refine ⟨g,cap,rfl,hB,(Array.getElem?_eq_some_iff.1 hb).1,hn,hc,?_,?_,?_,fun q hq=>?_⟩
  ·simp only [World.cell?,hb,Option.isSome_none,Bool.false_eq_true,if_false];simpa [dL] using x0
  ·simp only [World.cell?,hb,Option.isSome_none,Bool.false_eq_true,if_false];simpa [dL] using x1
  ·simp only [World.cell?,hb,Option.isSome_none,Bool.false_eq_true,if_false];simpa [dL] using x2
  ·have hq':j*3+q<cur.size:=by rw [hs];omega
   simp [World.cell?,World.frozen?,hb,hq']
open Go.RowKit
structure C1 (w wr:World) (A:Array Value):Prop where
 below:Below w.heap.size w wr
 a:wr.heap[w.heap.size]?=some (.cells A 27 (0,0))
 b:wr.heap[w.heap.size+1]?=some (.cells #[.slice none 0 0,.slice none 0 0] 27 (0,0))
theorem C1.z {w wr:World} {A:Array Value} (h:C1 w wr A):w.heap.size+2≤wr.heap.size:=(Array.getElem?_eq_some_iff.1 h.b).1
theorem C1.call {w wr wy:World} {A:Array Value} (h:C1 w wr A) (hb:Below wr.heap.size wr wy):C1 w wy A:=by
 have hz:=h.z
 exact ⟨aa h.below hb,(hb.block _ (by omega)).trans h.a,(hb.block _ (by omega)).trans h.b⟩
theorem C1.grown {w wr wy:World} {A:Array Value} {r:Option Nat} (h:C1 w wr A) (hg:wr.grownBy wy r) (hr:∀ k,r=some k→w.heap.size+2≤k):C1 w wy A:=by
 have hz:=h.z
 refine ⟨h.below.grown hg h.below.size (fun k e=>by have:=hr k e;omega),(hg.block _ (by omega) ?_).trans h.a,(hg.block _ (by omega) ?_).trans h.b⟩
 ·intro e;have:=hr _ e.symm;omega
 ·intro e;have:=hr _ e.symm;omega
theorem C1.start (w:World) (A:Array Value):C1 w (((w.alloc (.cells A 27)).alloc (.cells #[.slice none 0 0,.slice none 0 0] 27)).drew) A:=by
 have s1:(w.alloc (.cells A 27)).heap.size=w.heap.size+1:=by simp
 have h1:=am w (.cells A 27);have h2:=am (w.alloc (.cells A 27)) (.cells #[.slice none 0 0,.slice none 0 0] 27);rw [s1] at h2
 refine ⟨((aM).alloc (by simp) _).drew,?_,h2⟩
 exact (Below.heap_alloc _ _ _ (by omega)).trans h1
theorem C1.row {w wr:World} {A:Array Value} (h:C1 w wr A) (cs:Array Value) (j:Nat):(wr.setRow (w.heap.size+1) cs).cell? ⟨w.heap.size,j,none⟩=A[j]?:=by
 have e:(wr.setRow (w.heap.size+1) cs).heap[w.heap.size]?=wr.heap[w.heap.size]?:=setRow_other _ _ _ _ (by omega)
 rw [World.cell?_of_block (w:=wr) e]
 simp [World.cell?,h.a]
theorem C1.cell {w wr:World} {A:Array Value} (h:C1 w wr A) (j:Nat):wr.cell? ⟨w.heap.size,j,none⟩=A[j]?:=by simp [World.cell?,h.a]
theorem wW (vk vp:Value) (ks ps:List dx) (w:World) (hk:dA w vk ks) (hp:dA w vp ps) (lk:ks.length≤1048576) (lp:ps.length≤1048576) :
  Calls Tryz.prog 70 #[.agg #[vk,vp]] w fun e w'=>∃ x y,e=.returned (.agg #[x,y])∧w'.ownsRow (w.heap.size+2) 69 3 x ks.length (aS ks)∧w'.ownsRow (w.heap.size+2) 72 3 y ps.length (aS ps)∧Below w.heap.size w w':=by
 obtain ⟨i0,hi,hz0,hz1,hz2⟩:=info_parts kS;obtain ⟨i1,hj,hy0,hy1,hy2⟩:=info_parts jS;have HK:=hk;have HP:=hp;obtain ⟨ak,ck,rfl,-,-,-⟩:=hk;obtain ⟨ap,cp,rfl,-,-,-⟩:=hp;have SK:Hid (∀ wx:World,Below w.heap.size w wx→(ks.length=0 ∨ ∃ ad,ak=some ad∧∀ j u,(aS ks)[j]?=some u→wx.cell? (ad.add j)=some u)):=fun wx hx=>cN (mh HK) hx;have SP:Hid (∀ wx:World,Below w.heap.size w wx→(ps.length=0 ∨ ∃ ad,ap=some ad∧∀ j u,(aS ps)[j]?=some u→wx.cell? (ad.add j)=some u)):=fun wx hx=>cN (mh HP) hx;have HC:Hid (C1 w _ #[.slice ak ks.length ck,.slice ap ps.length cp]):=C1.start w #[.slice ak ks.length ck,.slice ap ps.length cp];clear HK HP
 go_enter Tryz.func70,Tryz.ntmps70
 go_wp2;refine wp_region_noPanic ?_
 refine wp_region_held_drew (S:=fun w'=>w'.cell? ⟨w.heap.size,0,none⟩=some (.slice ak ks.length ck)∧w'.cell? ⟨w.heap.size,1,none⟩=some (.slice ap ps.length cp)) (by kernel_rfl) ?_ (fun hHeld=>?_)
 ·exact ⟨HC.out.cell 0,HC.out.cell 1⟩
 generalize ((w.alloc (.cells #[.slice ak ks.length ck,.slice ap ps.length cp] 27)).alloc (.cells #[.slice none 0 0,.slice none 0 0] 27)).drew=W0 at *;refine aO 1 ?_ rfl ?_ (aO 2 ?_ rfl ?_ (aO 5 ?_ rfl ?_ (aO 6 ?_ rfl ?_ ?_)))
 iterate 4 (rotate_left;focus (intro w hSw;(try dsimp only at hSw);simp only [Act.put,aU];go_simp;try with_reducible rfl))
 simp only [Act.put,aU]
 clear hHeld;refine lZ 0 4 rfl rfl (fun K hK=>?_) (fun K hK=>?_)
 ·go_simp
  have hal:Below W0.heap.size W0 (W0.alloc (.cells #[] 69)):=(aM);have iY:Hid (C1 w (W0.alloc (.cells #[] 69)) #[.slice ak ks.length ck,.slice ap ps.length cp]):=HC.out.call hal;have RA:Hid ((W0.alloc (.cells #[] 69)).ownsRow (w.heap.size+2) 69 3 (.slice (some ⟨W0.heap.size,0,none⟩) 0 0) 0 []):=be (am W0 _) HC.out.z 3;refine hK.out _ _ ⟨iY.out.cell 0,iY.out.cell 1⟩ (fun _=>?_);clear hK K hal HC;have HC:=iY;clear iY;generalize W0.alloc (.cells #[] 69)=W1 at *;refine lZ 3 4 rfl rfl (fun K hK=>?_) (fun K hK=>?_)
  focus
   refine aj _ rfl _ _ 24 rfl (w.heap.size+2) 69 i0 _ 3 32 Tryz.underlying24 hi hz0 hz1 hz2 rfl (by decide) _ 0 [] rfl RA.out ak ks.length ck (aS ks) rfl (SK.out _ HC.out.below) (aE _) bB (by unfold maxLen;omega) (by omega) HC.out.z ?_
   intro va W2 hown hgrow hat;rw [Nat.zero_add,List.nil_append] at hown;have iY:Hid (C1 w W2 #[.slice ak ks.length ck,.slice ap ps.length cp]):=HC.out.grown hgrow (aw RA.out);refine hK.out _ _ ⟨iY.out.cell 0,iY.out.cell 1⟩ (fun _=>?_);clear hK K hgrow hat HC RA;have RA:=aq hown;obtain ⟨a1,c1,rfl⟩:=cZ hown;clear hown;have HC:=iY;clear iY;refine bE 4 rfl (fun K hK=>?_);go_simp;have hal:Below W2.heap.size W2 (W2.alloc (.cells #[] 72)):=(aM);have iY:Hid (C1 w (W2.alloc (.cells #[] 72)) #[.slice ak ks.length ck,.slice ap ps.length cp]):=HC.out.call hal;have RB:Hid ((W2.alloc (.cells #[] 72)).ownsRow (w.heap.size+2) 72 3 (.slice (some ⟨W2.heap.size,0,none⟩) 0 0) 0 []):=be (am W2 _) HC.out.z 3;have y7:=aq (ah RA.out hal);refine hK.out _ _ ⟨iY.out.cell 0,iY.out.cell 1⟩ (fun _=>?_);clear hK K hal HC;clear RA;have RA:=y7;clear y7;have HC:=iY;clear iY;generalize W2.alloc (.cells #[] 72)=W3 at *
  rotate_left
  focus
   go_simp;have hal:Below W1.heap.size W1 (W1.alloc (.cells #[] 72)):=(aM);have iY:Hid (C1 w (W1.alloc (.cells #[] 72)) #[.slice ak ks.length ck,.slice ap ps.length cp]):=HC.out.call hal;have RB:Hid ((W1.alloc (.cells #[] 72)).ownsRow (w.heap.size+2) 72 3 (.slice (some ⟨W1.heap.size,0,none⟩) 0 0) 0 []):=be (am W1 _) HC.out.z 3;have y7:=aq (ah RA.out hal);refine hK.out _ _ ⟨iY.out.cell 0,iY.out.cell 1⟩ (fun _=>?_);clear hK K hal HC;clear RA;have RA:=y7;clear y7;have HC:=iY;clear iY;generalize W1.alloc (.cells #[] 72)=W2 at *;refine bE 3 rfl (fun K hK=>?_)
   refine aj _ rfl _ _ 24 rfl (w.heap.size+2) 69 i0 _ 3 32 Tryz.underlying24 hi hz0 hz1 hz2 rfl (by decide) _ 0 [] rfl RA.out ak ks.length ck (aS ks) rfl (SK.out _ HC.out.below) (aE _) bB (by unfold maxLen;omega) (by omega) HC.out.z ?_
   intro va W3 hown hgrow hat;rw [Nat.zero_add,List.nil_append] at hown;have iY:Hid (C1 w W3 #[.slice ak ks.length ck,.slice ap ps.length cp]):=HC.out.grown hgrow (aw RA.out)
   have RB2:=aq (ar RB.out hgrow (aN RA.out RB.out (by decide)))
   refine hK.out _ _ ⟨iY.out.cell 0,iY.out.cell 1⟩ (fun _=>?_);clear hK K hgrow hat HC RA;have RA:=aq hown;obtain ⟨a1,c1,rfl⟩:=cZ hown;clear hown;clear RB;have RB:=RB2;clear RB2;have HC:=iY;clear iY
  rotate_left
  all_goals
   refine bE 7 rfl (fun K hK=>?_)
   refine aj _ rfl _ _ 25 rfl (w.heap.size+2) 72 i1 _ 3 32 Tryz.underlying25 hj hy0 hy1 hy2 rfl (by decide) _ 0 [] rfl RB.out ap ps.length cp (aS ps) rfl (SP.out _ HC.out.below) (aE _) bB (by unfold maxLen;omega) (by omega) HC.out.z ?_
   intro va W4 hown hgrow hat;rw [Nat.zero_add,List.nil_append] at hown;have iY:Hid (C1 w W4 #[.slice ak ks.length ck,.slice ap ps.length cp]):=HC.out.grown hgrow (aw RB.out)
   have y7:=aq (ar RA.out hgrow (aN RB.out RA.out (by decide)))
   refine hK.out _ _ ⟨iY.out.cell 0,iY.out.cell 1⟩ (fun _=>?_);clear hK K hgrow hat HC RB;have RB:=aq hown;obtain ⟨a2,c2,rfl⟩:=cZ hown;clear hown;clear RA;have RA:=y7;clear y7;have HC:=iY;clear iY;have hHeld:_∧_:=⟨HC.out.cell 0,HC.out.cell 1⟩;refine aO 8 ?_ rfl ?_ ?_;rotate_left
   ·intro w hSw;(try dsimp only at hSw);go_simp;try with_reducible rfl
   simp only [Act.put,aU]
   clear hHeld;refine bE 9 rfl (fun K hK=>?_);have hrow:=HC.out.b
   refine aF rfl 27 _ _ rfl (w.heap.size+1) #[.slice a1 ks.length c1,.slice a2 ps.length c2] rfl rfl 27 _ hrow (by kernel_rfl) rfl (by simp [Value.oneCell']) ?_
   refine hK.out _ _ ⟨HC.out.row _ 0,HC.out.row _ 1⟩ (fun _=>?_);clear hK K
   refine wpAnyH_done (by kernel_rfl) ?_ _
   refine NoPanic.normal ?_;go_wp2
   exact bodyPost_ret (v:=.agg #[.slice a1 ks.length c1,.slice a2 ps.length c2]) (by simp [results,Tryz.results70,go_sem,cell_setRow_same _ _ _ _ _ _ _ hrow]) rfl ⟨_,_,rfl,ar RA.out (aD _ _ _) (fun k hk e=>by have:=aw RA.out k hk;injection e;omega),ar RB.out (aD _ _ _) (fun k hk e=>by have:=aw RB.out k hk;injection e;omega),below_setRow HC.out.below (by omega) _⟩
 ·go_simp
  have hal:Below W0.heap.size W0 (W0.alloc (.cells #[] 72)):=(aM);have iY:Hid (C1 w (W0.alloc (.cells #[] 72)) #[.slice ak ks.length ck,.slice ap ps.length cp]):=HC.out.call hal;have RB:Hid ((W0.alloc (.cells #[] 72)).ownsRow (w.heap.size+2) 72 3 (.slice (some ⟨W0.heap.size,0,none⟩) 0 0) 0 []):=be (am W0 _) HC.out.z 3;refine hK.out _ _ ⟨iY.out.cell 0,iY.out.cell 1⟩ (fun _=>?_);clear hK K hal HC;have HC:=iY;clear iY;generalize W0.alloc (.cells #[] 72)=W1 at *;refine bE 0 rfl (fun K hK=>?_);go_simp;have hal:Below W1.heap.size W1 (W1.alloc (.cells #[] 69)):=(aM);have iY:Hid (C1 w (W1.alloc (.cells #[] 69)) #[.slice ak ks.length ck,.slice ap ps.length cp]):=HC.out.call hal;have RA:Hid ((W1.alloc (.cells #[] 69)).ownsRow (w.heap.size+2) 69 3 (.slice (some ⟨W1.heap.size,0,none⟩) 0 0) 0 []):=be (am W1 _) HC.out.z 3;have RB2:=aq (ah RB.out hal);refine hK.out _ _ ⟨iY.out.cell 0,iY.out.cell 1⟩ (fun _=>?_);clear hK K hal HC;clear RB;have RB:=RB2;clear RB2;have HC:=iY;clear iY;generalize W1.alloc (.cells #[] 69)=W2 at *;refine bE 3 rfl (fun K hK=>?_)
  refine aj _ rfl _ _ 24 rfl (w.heap.size+2) 69 i0 _ 3 32 Tryz.underlying24 hi hz0 hz1 hz2 rfl (by decide) _ 0 [] rfl RA.out ak ks.length ck (aS ks) rfl (SK.out _ HC.out.below) (aE _) bB (by unfold maxLen;omega) (by omega) HC.out.z ?_
  intro va W3 hown hgrow hat;rw [Nat.zero_add,List.nil_append] at hown;have iY:Hid (C1 w W3 #[.slice ak ks.length ck,.slice ap ps.length cp]):=HC.out.grown hgrow (aw RA.out)
  have RB2:=aq (ar RB.out hgrow (aN RA.out RB.out (by decide)))
  refine hK.out _ _ ⟨iY.out.cell 0,iY.out.cell 1⟩ (fun _=>?_);clear hK K hgrow hat HC RA;have RA:=aq hown;obtain ⟨a1,c1,rfl⟩:=cZ hown;clear hown;clear RB;have RB:=RB2;clear RB2;have HC:=iY;clear iY;refine bE 7 rfl (fun K hK=>?_)
  refine aj _ rfl _ _ 25 rfl (w.heap.size+2) 72 i1 _ 3 32 Tryz.underlying25 hj hy0 hy1 hy2 rfl (by decide) _ 0 [] rfl RB.out ap ps.length cp (aS ps) rfl (SP.out _ HC.out.below) (aE _) bB (by unfold maxLen;omega) (by omega) HC.out.z ?_
  intro va W4 hown hgrow hat;rw [Nat.zero_add,List.nil_append] at hown;have iY:Hid (C1 w W4 #[.slice ak ks.length ck,.slice ap ps.length cp]):=HC.out.grown hgrow (aw RB.out)
  have y7:=aq (ar RA.out hgrow (aN RB.out RA.out (by decide)))
  refine hK.out _ _ ⟨iY.out.cell 0,iY.out.cell 1⟩ (fun _=>?_);clear hK K hgrow hat HC RB;have RB:=aq hown;obtain ⟨a2,c2,rfl⟩:=cZ hown;clear hown;clear RA;have RA:=y7;clear y7;have HC:=iY;clear iY;have hHeld:_∧_:=⟨HC.out.cell 0,HC.out.cell 1⟩;refine aO 8 ?_ rfl ?_ ?_;rotate_left
  ·intro w hSw;(try dsimp only at hSw);go_simp;try with_reducible rfl
  simp only [Act.put,aU]
  clear hHeld;refine bE 9 rfl (fun K hK=>?_);have hrow:=HC.out.b
  refine aF rfl 27 _ _ rfl (w.heap.size+1) #[.slice a1 ks.length c1,.slice a2 ps.length c2] rfl rfl 27 _ hrow (by kernel_rfl) rfl (by simp [Value.oneCell']) ?_
  refine hK.out _ _ ⟨HC.out.row _ 0,HC.out.row _ 1⟩ (fun _=>?_);clear hK K
  refine wpAnyH_done (by kernel_rfl) ?_ _
  refine NoPanic.normal ?_;go_wp2
  exact bodyPost_ret (v:=.agg #[.slice a1 ks.length c1,.slice a2 ps.length c2]) (by simp [results,Tryz.results70,go_sem,cell_setRow_same _ _ _ _ _ _ _ hrow]) rfl ⟨_,_,rfl,ar RA.out (aD _ _ _) (fun k hk e=>by have:=aw RA.out k hk;injection e;omega),ar RB.out (aD _ _ _) (fun k hk e=>by have:=aw RB.out k hk;injection e;omega),below_setRow HC.out.below (by omega) _⟩
open Go.RowKit
theorem yM:∀ (l cur:List UInt8) (c:UInt8),(c∈cur∨c∈l)→c≠32→∃ x∈iw cur l,c∈x
 | [],cur,c,h,_=>by
  rcases h with h | h
  ·exact ⟨cur,by simp [iw],h⟩
  ·cases h
 | d::l,cur,c,h,hc=>by
  rw [iw]
  split
  ·rename_i hd
   rcases h with h | h
   ·exact ⟨cur,List.mem_cons_self ..,h⟩
   ·rcases List.mem_cons.1 h with e | h
    ·exact absurd (e.trans (by simpa using hd)) hc
    ·obtain ⟨x,hx,hcx⟩:=yM l [] c (.inr h) hc
     exact ⟨x,List.mem_cons_of_mem _ hx,hcx⟩
  ·refine yM l _ c ?_ hc
   rcases h with h | h
   ·exact .inl (List.mem_append_left _ h)
   ·rcases List.mem_cons.1 h with e | h
    ·exact .inl (List.mem_append_right _ (by simp [e]))
    ·exact .inr h
theorem IX {s:ByteArray} {c:UInt8} (h:c∈bytes s) (hc:c≠32):∃ x∈dn s,c∈bytes x:=by
 obtain ⟨x,hx,hcx⟩:=yM (bytes s) [] c (.inr h) hc;exact ⟨⟨⟨x⟩⟩,List.mem_map.2 ⟨x,hx,rfl⟩,hcx⟩
theorem Aj {s:ByteArray} (h:dD s=true):1≤s.size∧∀ c∈bytes s,c≠10:=by
 unfold dD at h;rw [Bool.and_eq_true] at h
 refine ⟨by have:=h.1;simp [eB] at this;omega,fun c hc e=>?_⟩
 have h2:=List.all_eq_true.1 h.2 c hc;rw [e] at h2
 revert h2
 decide
theorem yL {s:ByteArray} (h:eu s=true):1≤s.size∧∀ c∈bytes s,c≠10:=by
 unfold eu at h;rw [Bool.and_eq_true,Bool.and_eq_true] at h
 refine ⟨by have:=h.1;simp [eB] at this;omega,fun c hc e=>?_⟩
 have h2:=List.all_eq_true.1 h.2.2 c hc;rw [e] at h2
 revert h2
 decide
theorem sK {l:List dx} {m:Nat} {v:ByteArray} (hn:eO l m=true) (h:hasB l v=true):dD v=true:=by
 unfold hasB at h;rw [Bool.and_eq_true] at h;have h1:=of_decide_eq_true h.1;have h2:=of_decide_eq_true h.2;unfold eO at hn;rw [Bool.and_eq_true] at hn;have h3:=bH hn.2 _ h1;rw [Bool.and_eq_true] at h3;rw [← h2];exact h3.1
theorem A9 {s:ByteArray} (h0:1≤s.size) (h:∀ c∈bytes s,c≠10):lY s=true:=by
 unfold lY;rw [Bool.and_eq_true,Bool.not_eq_true',Bool.not_eq_true'];refine ⟨?_,?_⟩
 ·cases hl:s.toList with
  | nil =>
   have h1:s.toList.length=s.size:=by rw [ByteArray.toList_eq];exact aK s
   rw [hl] at h1;rw [← h1] at h0
   cases h0
  | cons a l=>rfl
 ·unfold uy
  rw [List.any_eq_false];intro c hc
  simpa using h c hc
theorem wI {s:ByteArray} (hl:2≤(dn s).length) (h:∀ x∈dn s,∀ c∈bytes x,c≠10):lY s=true:=by
 refine A9 ?_ (fun c hc e=>?_)
 ·rcases Nat.eq_zero_or_pos s.size with e | e
  ·have h1:bytes s=[]:=List.length_eq_zero_iff.1 (by rw [aK];exact e)
   unfold dn at hl;rw [h1] at hl
   simp [iw] at hl
  ·exact e
 ·obtain ⟨x,hx,hcx⟩:=IX hc (by rw [e];decide)
  exact h x hx c hcx e
theorem wm {ws:List ByteArray} {x:ByteArray} (h:x∈ws):∃ i,i<ws.length∧dE ws i=x:=by
 obtain ⟨i,hi,e⟩:=List.getElem_of_mem h
 exact ⟨i,hi,by simp [dE,hi,e]⟩
theorem ES {ks ps:List dx} {c:dP} (hb:eF ks ps=true) (h:gy ks ps c=true):gm c=true:=by
 unfold eF dM dH at hb
 simp only [Bool.and_eq_true] at hb
 obtain ⟨⟨hk,-⟩,hp,-⟩:=hb;unfold gy at h;rw [Bool.and_eq_true,Bool.and_eq_true] at h;obtain ⟨hf,hn,hv⟩:=h
 have key:eB c.what 1 5=true∧lY c.v=true:=by
  unfold gU at hv
  split at hv
  ·rename_i e
   obtain ⟨h0,h1⟩:=Aj (sK hk hv)
   exact ⟨by rw [e];rfl,A9 h0 h1⟩
  split at hv
  ·rename_i e
   unfold ja at hv
   simp only [Bool.and_eq_true,decide_eq_true_eq] at hv
   obtain ⟨hl,h0,h1,-⟩:=hv
   refine ⟨by rw [e];rfl,wI (by omega) (fun x hx=>?_)⟩
   obtain ⟨i,hi,rfl⟩:=wm hx
   rcases (show i=0∨i=1 by omega) with rfl | rfl
   ·exact (yL h0).2
   ·exact (yL h1).2
  split at hv
  ·rename_i e
   unfold kD at hv;rw [Bool.and_eq_true] at hv;obtain ⟨h0,h1⟩:=yL hv.1
   exact ⟨by rw [e];rfl,A9 h0 h1⟩
  split at hv
  ·rename_i e
   unfold gL at hv;rw [Bool.and_eq_true] at hv
   have hl:2≤(dn c.v).length:=by have:=hv.1;simp [eB] at this;omega
   refine ⟨by rw [e];rfl,wI hl (fun x hx=>?_)⟩
   obtain ⟨i,hi,rfl⟩:=wm hx;have h2:=bH hv.2 i hi;unfold gT at h2;rw [Bool.and_eq_true] at h2;exact (Aj (sK hp h2.1)).2
  split at hv
  ·rename_i e
   unfold iq at hv;rw [Bool.or_eq_true] at hv
   refine ⟨by rw [e];rfl,?_⟩
   rcases hv with h | h <;> (rw [of_decide_eq_true h];exact A9 (by decide) (by decide))
  ·cases hv
 unfold gm;rw [key.1,hf,hn,key.2]
 rfl
end Go.Proofs.YtcmgddnckohdaaaGreatDoor
