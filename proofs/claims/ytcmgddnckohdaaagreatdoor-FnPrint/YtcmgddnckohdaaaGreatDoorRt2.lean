import Derived.Test.YtcmgddnckohdaaaGreatDoorEnts1
import Derived.Test.YtcmgddnckohdaaaGreatDoorApp
import Derived.Test.YtcmgddnckohdaaaGreatDoorRt
set_option maxRecDepth 100000
set_option maxHeartbeats 6400000
set_option linter.unusedSimpArgs false
set_option linter.unusedVariables false
namespace Go.Proofs.YtcmgddnckohdaaaGreatDoor
open Go.RowKit
theorem PairsNew.far {w w':World} {B r:Nat} {o:Value} {l:List EntV} (h:PairsNew w B o l) (hg:w.grownBy w' (some r)) (hr:r<B):PairsNew w' B o l :=
 ⟨an h.row hg (fun k hk e=>by have:=ax h.row k hk;injection e;omega),fun p hp=>an (h.flds p hp) hg (fun k hk e=>by have:=ax (h.flds p hp) k hk;injection e;omega),h.apart⟩
theorem aN {w:World} {base base':Nat} {e:TypeId} {size:Nat} {v:Value} {n:Nat} {xs:List Value} (h:w.ownsRow base e size v n xs) (hb:base'≤base):w.ownsRow base' e size v n xs:=by
 refine ⟨h.1,?_⟩
 rcases h.2 with h2 | ⟨g,cap,cur,hv,hg,rest⟩
 ·exact .inl h2
 ·exact .inr ⟨g,cap,cur,hv,by omega,rest⟩
theorem PairsNew.mono {w:World} {B B':Nat} {o:Value} {l:List EntV} (h:PairsNew w B o l) (hb:B'≤B):PairsNew w B' o l:=⟨aN h.row hb,fun p hp=>aN (h.flds p hp) hb,h.apart⟩
structure BookNew (lo:Nat) (w:World) (x y z:Value) (ks ps:List Tri) (es:List Ent):Prop where
 k:w.ownsRow lo 69 3 x ks.length (triRows ks)
 p:w.ownsRow lo 72 3 y ps.length (triRows ps)
 e:EntsNew w lo z es
theorem BookNew.keep {lo:Nat} {w w':World} {x y z:Value} {ks ps:List Tri} {es:List Ent} (h:BookNew lo w x y z ks ps es) (hb:Below w.heap.size w w'):BookNew lo w' x y z ks ps es:=by
 obtain ⟨h1,h2,l,h3,h4⟩:=h;exact ⟨ah h1 hb,ah h2 hb,l,h3,h4.keep hb⟩
theorem BookNew.far {lo r:Nat} {w w':World} {x y z:Value} {ks ps:List Tri} {es:List Ent} (h:BookNew lo w x y z ks ps es) (hg:w.grownBy w' (some r)) (hr:r<lo):BookNew lo w' x y z ks ps es:=by
 obtain ⟨h1,h2,l,h3,h4⟩:=h
 exact ⟨an h1 hg (fun k hk e=>by have:=ax h1 k hk;injection e;omega),an h2 hg (fun k hk e=>by have:=ax h2 k hk;injection e;omega),l,h3,h4.far hg hr⟩
theorem BookNew.mono {lo lo':Nat} {w:World} {x y z:Value} {ks ps:List Tri} {es:List Ent} (h:BookNew lo w x y z ks ps es) (hl:lo'≤lo):BookNew lo' w x y z ks ps es:=by
 obtain ⟨h1,h2,l,h3,h4⟩:=h;exact ⟨aN h1 hl,aN h2 hl,l,h3,h4.mono hl⟩
theorem own_slice {w:World} {base:Nat} {e:TypeId} {size:Nat} {v:Value} {n:Nat} {xs:List Value} (h:w.ownsRow base e size v n xs):∃ a c,v=.slice a n c:=by
 rcases h.2 with ⟨rfl,h0⟩ | ⟨g,cap,cur,rfl,_⟩
 ·exact ⟨none,0,by rw [h0]⟩
 ·exact ⟨_,cap,rfl⟩
theorem put_fit {P:Chg→Prop}:∀ (L S:List Chg),(∀ c∈S,P c)→(∀ c∈L,P c)→∀ c∈L.foldl putC S,P c
 | [],S,hS,_=>hS
 | a::L,S,hS,hL=>put_fit L (putC S a) (fun c hc=>by
   rcases putC_mem hc with rfl | hc
   ·exact hL _ (by simp)
   ·exact hS c hc) (fun c hc=>hL c (by simp [hc]))
theorem putC_len:∀ (S:List Chg) (c:Chg),(putC S c).length≤S.length+1
 | [],c=>Nat.le_refl _
 | a::l,c=>by
  have:=putC_len l c;unfold putC
  repeat' split
  all_goals simp only [List.length_cons]
  all_goals omega
theorem put_len:∀ (L S:List Chg),(L.foldl putC S).length≤S.length+L.length
 | [],S=>Nat.le_refl _
 | a::L,S=>by
  have h1:=put_len L (putC S a);have h2:=putC_len S a
  simp only [List.foldl_cons,List.length_cons]
  omega
theorem bookOf_own (vk vp vl:Value) (ks ps:List Tri) (Ls:List (List Chg)) (w:World) (hk:TrisAt w vk ks) (hp:TrisAt w vp ps) (lk:ks.length≤1048575) (lp:ps.length≤1048575) (sk:∀ t∈ks,t.s.size≤1048576) (sp:∀ t∈ps,t.s.size≤1048576)
  (hL:ListsAt w vl Ls) (hlen:Ls.flatten.length≤4194304) (hLl:Ls.length≤1048576) (hLe:∀ L∈Ls,L.length≤2097152) (hfit:∀ L∈Ls,∀ c∈L,KeyFit c∧1≤c.num) (hsm:∀ L∈Ls,∀ c∈L,c.f.size≤1048576∧c.v.size≤1048576) :
  Calls Tryz.prog 216 #[.agg #[vk,vp],vl] w fun e w'=>∃ x y z,e=.returned (.agg #[x,y,z])∧BookNew (w.heap.size+3) w' x y z ks ps ((Ls.flatten.foldl putC []).foldl addE [])∧Below w.heap.size w w':=by
 have hvk:∃ a n c,vk=.slice a n c:=by obtain ⟨a,c,h,_⟩:=hk;exact ⟨_,_,_,h⟩
 have hvp:∃ a n c,vp=.slice a n c:=by obtain ⟨a,c,h,_⟩:=hp;exact ⟨_,_,_,h⟩
 have hall:∀ c∈Ls.flatten,(KeyFit c∧1≤c.num)∧(c.f.size≤1048576∧c.v.size≤1048576):=fun c hc=>by
  obtain ⟨L,h1,h2⟩:=List.mem_flatten.1 hc;exact ⟨hfit L h1 c h2,hsm L h1 c h2⟩
 have hS:=put_fit (P:=fun c=>(KeyFit c∧1≤c.num)∧(c.f.size≤1048576∧c.v.size≤1048576)) Ls.flatten [] (fun c h=>by cases h) hall
 have hSl:(Ls.flatten.foldl putC []).length≤4194304:=by
  have:=put_len Ls.flatten [];rw [List.length_nil,Nat.zero_add] at this
  omega
 refine (bookOf_any vk vp vl Ls w hvk hvp hL hlen hLl hLe hfit (fun x y z w2=>BookNew (w.heap.size+3) w2 x y z ks ps ((Ls.flatten.foldl putC []).foldl addE [])∧Below w.heap.size w w2∧w.heap.size+2<w2.heap.size) ?_).mono ?_
 ·intro wx n hn hF
  have hz:=hF.z;refine (copyBase_any vk vp ks ps wx (hk.keep hF.below) (hp.keep hF.below) lk lp sk sp).mono ?_;rintro e w1 ⟨a1,n1,c1,a2,n2,c2,rfl,⟨o1,o2⟩,hb1⟩;have hF1:=hF.call hb1;refine ⟨a1,n1,c1,a2,n2,c2,rfl,?_⟩
  refine (entriesOf_any (w.heap.size+2) n _ w1 hF1.m (putAll_sorted _ List.Pairwise.nil) (fun c hc=>(hS c hc).1.1) (fun c hc=>(hS c hc).2) (by omega) hSl (by have:=hF1.z;omega)).mono ?_
  rintro e w2 ⟨o,rfl,⟨l,hl1,hl2⟩,hb2⟩;obtain ⟨a3,c3,rfl⟩:=own_slice hl2.row;have hz1:=hF1.z
  refine ⟨a3,_,c3,rfl,(hb2.block _ (by omega)).trans hF1.r,⟨aN (ah o1 hb2) (by omega),aN (ah o2 hb2) (by omega),l,hl1,hl2.mono (by omega)⟩,aa hF1.below hb2,by have:=hb2.size;omega⟩
 ·rintro e w' ⟨x,y,z,w2,rfl,⟨hB,hb,hz⟩,rfl⟩
  exact ⟨x,y,z,rfl,hB.far (aD w2 (w.heap.size+1) _) (by omega),below_setRow hb (by omega) _⟩
open Go.RowKit
def takeC (ks ps:List Tri) (es:List Ent) (c:Chg):Int:=bif bookB ks ps es then (bif fitB ks ps c then (bif decide (12<(putE es c.f (fldC c)).length) then 3 else 0) else 2) else 1
def takeE (ks ps:List Tri) (es:List Ent) (c:Chg):List Ent:=bif bookB ks ps es then (bif fitB ks ps c then (bif decide (12<(putE es c.f (fldC c)).length) then es else putE es c.f (fldC c)) else es) else []
def takeT (ks ps:List Tri) (es:List Ent) (l:List Tri):List Tri:=bif bookB ks ps es then l else []
theorem wf_small {n:Int} (h0:0≤n) (h1:n≤1000000):(Lit.int .i64 n).wf=true:=by
 simp [Lit.wf,IntKind.min,IntKind.max,IntKind.signed,IntKind.bits]
 omega
theorem fit_what {ks ps:List Tri} {c:Chg} (h:fitB ks ps c=true):1≤c.what∧c.what≤5:=by
 simp only [fitB,Bool.and_eq_true] at h
 have h2:=h.2.2;unfold valB2 at h2
 repeat' split at h2
 all_goals (first | omega | cases h2)
theorem fit_key {ks ps:List Tri} {c:Chg} (h:fitB ks ps c=true):KeyFit c∧1≤c.num:=by
 have hw:=fit_what h
 simp only [fitB,Bool.and_eq_true] at h
 have h1:=h.1;have h2:=h.2.1
 simp [inB] at h2
 unfold nameB inB at h1
 simp at h1
 exact ⟨⟨by unfold maxLen;omega,wf_small (by omega) (by omega)⟩,h2.1⟩
theorem book_fit {ks ps:List Tri} {es:List Ent} (h:bookB ks ps es=true):∀ c∈chgsOf es,fitB ks ps c=true:=fun c hc=>by
 obtain ⟨e,he,hc⟩:=List.mem_flatMap.1 hc;obtain ⟨f,hf,rfl⟩:=List.mem_map.1 hc;exact fields_fit (cC h he) hf
theorem book_ne {ks ps:List Tri} {es:List Ent} (h:bookB ks ps es=true):∀ e∈es,e.fs≠[]:=fun e he hn=>by
 have:=cC h he
 simp [fieldsB,hn] at this
theorem kinds_size {ks ps:List Tri} {es:List Ent} (h:bookB ks ps es=true):(∀ t∈ks,t.s.size≤1048576)∧∀ t∈ps,t.s.size≤1048576:=by
 have nm:∀ (l:List Tri) (m:Nat),namesB l m=true→∀ t∈l,t.s.size≤1048576:=fun l m hl t ht=>by
  obtain ⟨i,hi,rfl⟩:=List.getElem_of_mem ht;unfold namesB at hl;rw [Bool.and_eq_true] at hl;have h1:=bF hl.2 i hi;rw [Bool.and_eq_true] at h1;have h2:=h1.1
  have e0:at' l i=l[i]:=by simp [at',hi]
  rw [e0] at h2;unfold nameB inB at h2
  simp at h2
  omega
 unfold bookB baseB at h
 simp only [Bool.and_eq_true] at h
 have hk:=h.1.1;have hp:=h.1.2;unfold kindsB at hk;unfold pointsB at hp;rw [Bool.and_eq_true] at hk hp;exact ⟨nm ks 6 hk.1,nm ps 16 hp.1⟩
theorem kinds_len {ks ps:List Tri} {es:List Ent} (h:bookB ks ps es=true):ks.length≤1048575∧ps.length≤1048575:=by
 unfold bookB baseB at h
 simp only [Bool.and_eq_true] at h
 have hk:=h.1.1;have hp:=h.1.2;unfold kindsB at hk;unfold pointsB at hp;rw [Bool.and_eq_true] at hk hp;have h1:=hk.1;have h2:=hp.1;unfold namesB at h1 h2;rw [Bool.and_eq_true,decide_eq_true_eq] at h1 h2
 exact ⟨by omega,by omega⟩
theorem fold_self {ks ps:List Tri} {es:List Ent} (h:bookB ks ps es=true):(([chgsOf es]:List (List Chg)).flatten.foldl putC []).foldl addE []=es:=by
 have e1:([chgsOf es]:List (List Chg)).flatten=chgsOf es:=by simp
 rw [e1,putAll_self (book_sorted h)];exact grp_self (book_ne h) (book_apart h)
theorem chg_self (c:Chg):chgOf c.f (fldC c)=c:=rfl
theorem fold_one {ks ps:List Tri} {es:List Ent} (c:Chg) (h:bookB ks ps es=true):(([chgsOf es,[c]]:List (List Chg)).flatten.foldl putC []).foldl addE []=putE es c.f (fldC c):=by
 have e1:([chgsOf es,[c]]:List (List Chg)).flatten=chgsOf es++[c]:=by simp
 rw [e1,List.foldl_append,putAll_self (book_sorted h)];have:=put_entries c.f (fldC c) (bH h) (book_ne h);rw [chg_self] at this;exact this
theorem chgs_smallT {ks ps:List Tri} {es:List Ent} (h:BSmall ks ps es):∀ c∈chgsOf es,c.f.size≤1048576∧c.v.size≤1048576:=fun c hc=>by
 unfold chgsOf at hc;rw [List.mem_flatMap] at hc;obtain ⟨e,he,hc⟩:=hc;rw [List.mem_map] at hc;obtain ⟨f,hf,rfl⟩:=hc;exact ⟨h.n e he,h.v e he f hf⟩
theorem lists_one {w:World} {B:Nat} {v:Value} {L:List Chg} {t:TypeId} (hb:w.heap[B]?=some (.cells #[v] t (0,0))) (hv:ChgsAt w v L):ListsAt w (.slice (some ⟨B,0,none⟩) 1 1) [L]:=by
 refine ⟨_,1,rfl,Nat.le_refl _,by unfold maxLen;omega,fun i M hM=>?_⟩
 match i,hM with
 | 0,hM=>simp at hM;subst hM;exact ⟨B,0,v,rfl,by simp [World.cell?,hb],hv⟩
 | n+1,hM=>simp at hM
theorem lists_two {w:World} {B:Nat} {v u:Value} {L K:List Chg} {t:TypeId} (hb:w.heap[B]?=some (.cells #[v,u] t (0,0))) (hv:ChgsAt w v L) (hu:ChgsAt w u K):ListsAt w (.slice (some ⟨B,0,none⟩) 2 2) [L,K]:=by
 refine ⟨_,2,rfl,Nat.le_refl _,by unfold maxLen;omega,fun i M hM=>?_⟩
 match i,hM with
 | 0,hM=>simp at hM;subst hM;exact ⟨B,0,v,rfl,by simp [World.cell?,hb],hv⟩
 | 1,hM=>simp at hM;subst hM;exact ⟨B,0,u,rfl,by simp [World.cell?,hb],hu⟩
 | n+2,hM=>simp at hM
theorem chgs_single {w:World} {B:Nat} {c:Chg} {t:TypeId} (hb:w.heap[B]?=some (.cells #[.string c.f,.int .i64 c.what,.int .i64 c.num,.string c.v] t (0,0))):ChgsAt w (.slice (some ⟨B,0,none⟩) 1 1) [c]:=by
 refine ⟨_,1,rfl,Nat.le_refl _,by unfold maxLen;omega,fun i d hd=>?_⟩
 match i,hd with
 | 0,hd=>simp at hd;subst hd;exact ⟨B,0,rfl,by simp [World.cell?,hb],by simp [World.cell?,hb],by simp [World.cell?,hb],by simp [World.cell?,hb]⟩
 | n+1,hd=>simp at hd
structure Blk3 (w wr:World) (X Y Z:Obj):Prop where
 below:Below w.heap.size w wr
 b0:wr.heap[w.heap.size]?=some X
 b1:wr.heap[w.heap.size+1]?=some Y
 b2:wr.heap[w.heap.size+1+1]?=some Z
theorem Blk3.z {w wr:World} {X Y Z:Obj} (h:Blk3 w wr X Y Z):w.heap.size+2<wr.heap.size:=(Array.getElem?_eq_some_iff.1 h.b2).1
theorem Blk3.call {w wr wy:World} {X Y Z:Obj} (h:Blk3 w wr X Y Z) (hb:Below wr.heap.size wr wy):Blk3 w wy X Y Z:=by
 have hz:=h.z
 exact ⟨aa h.below hb,(hb.block _ (by omega)).trans h.b0,(hb.block _ (by omega)).trans h.b1,(hb.block _ (by omega)).trans h.b2⟩
theorem Blk3.start (w:World) (X Y Z:Obj):Blk3 w (((w.alloc X).alloc Y).alloc Z) X Y Z:=by
 have s1:(w.alloc X).heap.size=w.heap.size+1:=by simp
 have s2:((w.alloc X).alloc Y).heap.size=w.heap.size+1+1:=by simp
 have h1:=aj w X;have h2:=aj (w.alloc X) Y;have h3:=aj ((w.alloc X).alloc Y) Z;rw [s1] at h2;rw [s2] at h3
 refine ⟨((aO).alloc (by simp) _).alloc (by simp;omega) _,?_,?_,h3⟩
 ·exact (Below.heap_alloc _ _ _ (by omega)).trans ((Below.heap_alloc _ _ _ (by omega)).trans h1)
 ·exact (Below.heap_alloc _ _ _ (by omega)).trans h2
theorem BookNew.none (lo:Nat) (w:World):BookNew lo w (.slice none 0 0) (.slice none 0 0) (.slice none 0 0) [] [] []:=⟨⟨rfl,.inl ⟨rfl,rfl⟩⟩,⟨rfl,.inl ⟨rfl,rfl⟩⟩,[],rfl,PairsNew.nil _ _⟩
theorem BookNew.slices {lo:Nat} {w:World} {x y z:Value} {ks ps:List Tri} {es:List Ent} (h:BookNew lo w x y z ks ps es):∃ a1 c1 a2 c2 a3 c3,x=.slice a1 ks.length c1∧y=.slice a2 ps.length c2∧z=.slice a3 es.length c3:=by
 obtain ⟨h1,h2,l,h3,h4⟩:=h;obtain ⟨a1,c1,rfl⟩:=own_slice h1;obtain ⟨a2,c2,rfl⟩:=own_slice h2;obtain ⟨a3,c3,rfl⟩:=own_slice h4.row
 exact ⟨a1,c1,a2,c2,a3,c3,rfl,rfl,by rw [← h3,List.length_map]⟩
theorem planTake_any (vk vp ve:Value) (ks ps:List Tri) (es:List Ent) (c:Chg) (w:World) (hB:BookAt w vk vp ve ks ps es) (nB:BNames ks ps es) (sB:BSmall ks ps es) (hsz:sumN (fun e=>e.fs.length) es≤1048576) (hcf:c.f.size≤1048576) (hcv:c.v.size≤1048576) :
  Calls Tryz.prog 187 #[.agg #[vk,vp,ve],.agg #[.string c.f,.int .i64 c.what,.int .i64 c.num,.string c.v]] w fun e w'=>∃ x y z,e=.returned (.tuple #[.agg #[x,y,z],.int .i64 (takeC ks ps es c)])∧BookNew w.heap.size w' x y z (takeT ks ps es ks) (takeT ks ps es ps) (takeE ks ps es c)∧Below w.heap.size w w':=by
 have HB:Hid (BookAt w vk vp ve ks ps es):=hB;have NB:Hid (BNames ks ps es):=nB;have SB:Hid (BSmall ks ps es):=sB;have HCO:Hid (∀ wx:World,Below w.heap.size w wx→Calls Tryz.prog 37 #[.agg #[vk,vp,ve]] wx fun e w'=>∃ v,e=.returned v∧ChgsNew w' wx.heap.size v (chgsOf es)∧Below wx.heap.size wx w'):=fun wx hx=>changesOf_any vk vp ve es wx (hB.keep hx).e hsz sB.e;have HFT:Hid (∀ wx:World,Below w.heap.size w wx→Calls Tryz.prog 81 #[.agg #[vk,vp],.agg #[.string c.f,.int .i64 c.what,.int .i64 c.num,.string c.v]] wx fun e w'=>e=.returned (.bool (fitB ks ps c))∧Below wx.heap.size wx w'):=fun wx hx=>changeFits_any _ _ ks ps c wx (hB.k.keep hx) (hB.p.keep hx) hcf hcv
 have HCL:Hid ((chgsOf es).length≤1048576):=by
  show (chgsOf es).length≤1048576
  rw [chgsOf_len];exact hsz
 have HBO:Hid (bookB ks ps es=true→∀ (wx:World) (vl:Value) (Ls:List (List Chg)),Below w.heap.size w wx→ListsAt wx vl Ls→Ls.length≤2→Ls.flatten.length≤1048577→(∀ L∈Ls,L.length≤1048576)→(∀ L∈Ls,∀ c'∈L,fitB ks ps c'=true∧(c'.f.size≤1048576∧c'.v.size≤1048576))→Calls Tryz.prog 216 #[.agg #[vk,vp],vl] wx fun e w'=>∃ x y z,e=.returned (.agg #[x,y,z])∧BookNew (wx.heap.size+3) w' x y z ks ps ((Ls.flatten.foldl putC []).foldl addE [])∧Below wx.heap.size wx w'):=fun hbb wx vl Ls hx hL h2 h3 h4 h5 =>
  bookOf_own vk vp vl ks ps Ls wx (hB.k.keep hx) (hB.p.keep hx) (kinds_len hbb).1 (kinds_len hbb).2 (kinds_size hbb).1 (kinds_size hbb).2 hL (by omega) (by omega) (fun L hL=>by have:=h4 L hL;omega) (fun L hL c' hc'=>fit_key (h5 L hL c' hc').1) (fun L hL c' hc'=>(h5 L hL c' hc').2)
 obtain ⟨⟨ak,ck,rfl,-,-,-⟩,⟨ap,cp,rfl,-,-,-⟩,⟨ae,ce,rfl,-,-,-⟩⟩:=hB;clear nB sB
 go_enter Tryz.func187,Tryz.ntmps187
 have HX0:Hid (Blk3 w _ _ _ _):=Blk3.start w (.cells #[.slice ak ks.length ck,.slice ap ps.length cp,.slice ae es.length ce] 30) (.cells #[.string c.f,.int .i64 c.what,.int .i64 c.num,.string c.v] 76) (.cells #[.slice none 0 0,.slice none 0 0,.slice none 0 0] 30);go_wp2_with fail;refine (bookOk_any _ _ _ ks ps es _ (HB.out.keep HX0.out.below) NB.out SB.out).mono ?_;rintro e w1 ⟨rfl,hb1⟩;have HX1:Hid (Blk3 w w1 (.cells #[.slice ak ks.length ck,.slice ap ps.length cp,.slice ae es.length ce] 30) (.cells #[.string c.f,.int .i64 c.what,.int .i64 c.num,.string c.v] 76) (.cells #[.slice none 0 0,.slice none 0 0,.slice none 0 0] 30)):=HX0.out.call hb1;clear HX0 hb1
 obtain ⟨y0,y1,y2⟩:w1.cell? ⟨w.heap.size,0,none⟩=some (.slice ak ks.length ck)∧w1.cell? ⟨w.heap.size,1,none⟩=some (.slice ap ps.length cp)∧w1.cell? ⟨w.heap.size,2,none⟩=some (.slice ae es.length ce):=by simp [World.cell?,HX1.out.b0]
 have hr1:=HX1.out.b2
 cases hbb:bookB ks ps es
 ·have HE:Hid (takeC ks ps es c=1∧takeT ks ps es ks=[]∧takeT ks ps es ps=[]∧takeE ks ps es c=[]):=by
   show _∧_∧_∧_
   unfold takeC takeT takeE;rw [hbb];exact ⟨rfl,rfl,rfl,rfl⟩
  clear hbb
  go_wp2_with (refine wpList_store_row rfl 30 _ _ rfl (w.heap.size+1+1) #[.slice none 0 0,.slice none 0 0,.slice none 0 0] rfl rfl 30 _ hr1 (by kernel_rfl) rfl (by simp [Value.oneCell']) ?_)
  exact bodyPost_ret (v:=.tuple #[.agg #[.slice none 0 0,.slice none 0 0,.slice none 0 0],.int .i64 1]) (by simp [results,Tryz.results187,go_sem,cell_setRow_same _ _ _ _ _ _ _ hr1]) rfl ⟨_,_,_,by rw [HE.out.1],by rw [HE.out.2.1,HE.out.2.2.1,HE.out.2.2.2];exact BookNew.none _ _,below_setRow HX1.out.below (by omega) _⟩
 have HBB:Hid (bookB ks ps es=true):=hbb
 have HTK:Hid (takeT ks ps es ks=ks∧takeT ks ps es ps=ps):=by
  show _∧_
  unfold takeT;rw [hbb];exact ⟨rfl,rfl⟩
 clear hbb hr1;go_wp2_with fail;refine (HCO.out _ HX1.out.below).mono ?_;rintro e w2 ⟨v,rfl,hv2,hb2⟩;have HX2:Hid (Blk3 w w2 (.cells #[.slice ak ks.length ck,.slice ap ps.length cp,.slice ae es.length ce] 30) (.cells #[.string c.f,.int .i64 c.what,.int .i64 c.num,.string c.v] 76) (.cells #[.slice none 0 0,.slice none 0 0,.slice none 0 0] 30)):=HX1.out.call hb2;obtain ⟨va,vc,rfl⟩:=own_slice hv2;have HV2:Hid (ChgsAt w2 (.slice va (chgsOf es).length vc) (chgsOf es)):=hv2.at;clear HX1 hb2 y0 y1 y2 hv2
 obtain ⟨y0,y1,y2⟩:w2.cell? ⟨w.heap.size,0,none⟩=some (.slice ak ks.length ck)∧w2.cell? ⟨w.heap.size,1,none⟩=some (.slice ap ps.length cp)∧w2.cell? ⟨w.heap.size,2,none⟩=some (.slice ae es.length ce):=by simp [World.cell?,HX2.out.b0]
 obtain ⟨x0,x1,x2,x3⟩:w2.cell? ⟨w.heap.size+1,0,none⟩=some (.string c.f)∧w2.cell? ⟨w.heap.size+1,1,none⟩=some (.int .i64 c.what)∧w2.cell? ⟨w.heap.size+1,2,none⟩=some (.int .i64 c.num)∧w2.cell? ⟨w.heap.size+1,3,none⟩=some (.string c.v):=by simp [World.cell?,HX2.out.b1]
 go_wp2_with fail;refine (HFT.out _ HX2.out.below).mono ?_;rintro e w3 ⟨rfl,hb3⟩;have HX3:Hid (Blk3 w w3 (.cells #[.slice ak ks.length ck,.slice ap ps.length cp,.slice ae es.length ce] 30) (.cells #[.string c.f,.int .i64 c.what,.int .i64 c.num,.string c.v] 76) (.cells #[.slice none 0 0,.slice none 0 0,.slice none 0 0] 30)):=HX2.out.call hb3;have HV3:Hid (ChgsAt w3 (.slice va (chgsOf es).length vc) (chgsOf es)):=HV2.out.keep hb3;clear HX2 HV2 hb3 y0 y1 y2 x0 x1 x2 x3
 obtain ⟨y0,y1,y2⟩:w3.cell? ⟨w.heap.size,0,none⟩=some (.slice ak ks.length ck)∧w3.cell? ⟨w.heap.size,1,none⟩=some (.slice ap ps.length cp)∧w3.cell? ⟨w.heap.size,2,none⟩=some (.slice ae es.length ce):=by simp [World.cell?,HX3.out.b0]
 obtain ⟨x0,x1,x2,x3⟩:w3.cell? ⟨w.heap.size+1,0,none⟩=some (.string c.f)∧w3.cell? ⟨w.heap.size+1,1,none⟩=some (.int .i64 c.what)∧w3.cell? ⟨w.heap.size+1,2,none⟩=some (.int .i64 c.num)∧w3.cell? ⟨w.heap.size+1,3,none⟩=some (.string c.v):=by simp [World.cell?,HX3.out.b1]
 have HCS:Hid (∀ c'∈chgsOf es,fitB ks ps c'=true∧(c'.f.size≤1048576∧c'.v.size≤1048576)):=fun c' h=>⟨book_fit HBB.out c' h,chgs_smallT SB.out c' h⟩
 have HONE:Hid (∀ wx:World,Blk3 w wx (.cells #[.slice ak ks.length ck,.slice ap ps.length cp,.slice ae es.length ce] 30) (.cells #[.string c.f,.int .i64 c.what,.int .i64 c.num,.string c.v] 76) (.cells #[.slice none 0 0,.slice none 0 0,.slice none 0 0] 30)→ChgsAt wx (.slice va (chgsOf es).length vc) (chgsOf es)→Calls Tryz.prog 216 #[.agg #[.slice ak ks.length ck,.slice ap ps.length cp],.slice (some ⟨wx.heap.size,0,none⟩) 1 1] (wx.alloc (.cells #[.slice va (chgsOf es).length vc] 73)) fun e w'=>∃ x y z,e=.returned (.agg #[x,y,z])∧BookNew w.heap.size w' x y z ks ps es∧Blk3 w w' (.cells #[.slice ak ks.length ck,.slice ap ps.length cp,.slice ae es.length ce] 30) (.cells #[.string c.f,.int .i64 c.what,.int .i64 c.num,.string c.v] 76) (.cells #[.slice none 0 0,.slice none 0 0,.slice none 0 0] 30)∧BookNew (w.heap.size+3) w' x y z ks ps es):=fun wx hx hv=>by
  have hz:=hx.z;have hal:Below wx.heap.size wx (wx.alloc (.cells #[.slice va (chgsOf es).length vc] 73)):=(aO)
  refine (HBO.out HBB.out _ _ [chgsOf es] (aa hx.below hal) (lists_one (aj wx _) (hv.keep hal)) (by simp) (by have:=HCL.out;simp;omega) (fun L h=>by simp at h;subst h;exact HCL.out) (fun L h=>by simp at h;subst h;exact HCS.out)).mono ?_
  rintro e w' ⟨x,y,z,rfl,hN,hb⟩;rw [fold_self HBB.out] at hN;have hs:=hal.size
  exact ⟨x,y,z,rfl,hN.mono (by omega),(hx.call hal).call hb,hN.mono (by omega)⟩
 cases hff:fitB ks ps c
 ·have HE:Hid (takeC ks ps es c=2∧takeE ks ps es c=es):=by
   show _∧_
   unfold takeC takeE;rw [HBB.out,hff];exact ⟨rfl,rfl⟩
  clear hff;go_wp2_with fail;refine (HONE.out w3 HX3.out HV3.out).mono ?_;rintro e w4 ⟨x,y,z,rfl,hN,hX4,hN3⟩;have hr4:=hX4.b2;have HX4:Hid (Below w.heap.size w w4∧w.heap.size+2<w4.heap.size):=⟨hX4.below,hX4.z⟩;have HN4:Hid (BookNew (w.heap.size+3) w4 x y z ks ps es):=hN3;obtain ⟨a1,c1,a2,c2,a3,c3,rfl,rfl,rfl⟩:=hN.slices;clear hX4 hN hN3
  go_wp2_with (refine wpList_store_row rfl 30 _ _ rfl (w.heap.size+1+1) #[.slice a1 ks.length c1,.slice a2 ps.length c2,.slice a3 es.length c3] rfl rfl 30 _ hr4 (by kernel_rfl) rfl (by simp [Value.oneCell']) ?_)
  exact bodyPost_ret (v:=.tuple #[.agg #[.slice a1 ks.length c1,.slice a2 ps.length c2,.slice a3 es.length c3],.int .i64 2]) (by simp [results,Tryz.results187,go_sem,cell_setRow_same _ _ _ _ _ _ _ hr4]) rfl ⟨_,_,_,by rw [HE.out.1],by rw [HTK.out.1,HTK.out.2,HE.out.2];exact (HN4.out.far (aD w4 (w.heap.size+1+1) _) (by omega)).mono (by omega),below_setRow HX4.out.1 (by omega) _⟩
 ·have HFF:Hid (fitB ks ps c=true):=hff
  clear hff;have hal1:Below w3.heap.size w3 (w3.alloc (.cells #[.string c.f,.int .i64 c.what,.int .i64 c.num,.string c.v] 76)):=(aO);have hal2:Below w3.heap.size w3 ((w3.alloc (.cells #[.string c.f,.int .i64 c.what,.int .i64 c.num,.string c.v] 76)).alloc (.cells #[.slice va (chgsOf es).length vc,.slice (some ⟨w3.heap.size,0,none⟩) 1 1] 73)):=hal1.alloc hal1.size _
  have HTWO:Hid (Calls Tryz.prog 216 #[.agg #[.slice ak ks.length ck,.slice ap ps.length cp],.slice (some ⟨w3.heap.size+1,0,none⟩) 2 2] ((w3.alloc (.cells #[.string c.f,.int .i64 c.what,.int .i64 c.num,.string c.v] 76)).alloc (.cells #[.slice va (chgsOf es).length vc,.slice (some ⟨w3.heap.size,0,none⟩) 1 1] 73)) fun e w'=>∃ x y z,e=.returned (.agg #[x,y,z])∧BookNew (w.heap.size+3) w' x y z ks ps (putE es c.f (fldC c))∧Blk3 w w' (.cells #[.slice ak ks.length ck,.slice ap ps.length cp,.slice ae es.length ce] 30) (.cells #[.string c.f,.int .i64 c.what,.int .i64 c.num,.string c.v] 76) (.cells #[.slice none 0 0,.slice none 0 0,.slice none 0 0] 30)∧ChgsAt w' (.slice va (chgsOf es).length vc) (chgsOf es)):=by
   have hz:=HX3.out.z;have hb0:=aj w3 (.cells #[.string c.f,.int .i64 c.what,.int .i64 c.num,.string c.v] 76);have hb1:=aj (w3.alloc (.cells #[.string c.f,.int .i64 c.what,.int .i64 c.num,.string c.v] 76)) (.cells #[.slice va (chgsOf es).length vc,.slice (some ⟨w3.heap.size,0,none⟩) 1 1] 73);rw [World.size_alloc] at hb1
   have hb0':=(Below.heap_alloc (w3.alloc (.cells #[.string c.f,.int .i64 c.what,.int .i64 c.num,.string c.v] 76)) (.cells #[.slice va (chgsOf es).length vc,.slice (some ⟨w3.heap.size,0,none⟩) 1 1] 73) w3.heap.size (by simp)).trans hb0
   refine (HBO.out HBB.out _ _ [chgsOf es,[c]] (aa HX3.out.below hal2) (lists_two hb1 (HV3.out.keep hal2) (chgs_single hb0')) (by simp) (by have:=HCL.out;simp;omega) (fun L h=>by simp at h;rcases h with rfl | rfl;exact HCL.out;simp) (fun L h=>by simp at h;rcases h with rfl | rfl;exact HCS.out;exact fun c' h'=>by simp at h';subst h';exact ⟨HFF.out,hcf,hcv⟩)).mono ?_
   rintro e w' ⟨x,y,z,rfl,hN,hb⟩;rw [fold_one c HBB.out] at hN;have hs:=hal2.size
   exact ⟨x,y,z,rfl,hN.mono (by omega),(HX3.out.call hal2).call hb,(HV3.out.keep hal2).keep hb⟩
  clear hal1 hal2;go_wp2_with fail;refine HTWO.out.mono ?_;rintro e w4 ⟨x,y,z,rfl,hN,hX4,hV4⟩;have HX4:Hid (Blk3 w w4 (.cells #[.slice ak ks.length ck,.slice ap ps.length cp,.slice ae es.length ce] 30) (.cells #[.string c.f,.int .i64 c.what,.int .i64 c.num,.string c.v] 76) (.cells #[.slice none 0 0,.slice none 0 0,.slice none 0 0] 30)):=hX4;have HV4:Hid (ChgsAt w4 (.slice va (chgsOf es).length vc) (chgsOf es)):=hV4;have HN4:Hid (BookNew (w.heap.size+3) w4 x y z ks ps (putE es c.f (fldC c))):=hN;obtain ⟨a1,c1,a2,c2,a3,c3,rfl,rfl,rfl⟩:=hN.slices
  have HC:Hid (takeC ks ps es c=(bif decide (12<(putE es c.f (fldC c)).length) then 3 else 0)∧takeE ks ps es c=(bif decide (12<(putE es c.f (fldC c)).length) then es else putE es c.f (fldC c))):=by
   show _∧_
   unfold takeC takeE;rw [HBB.out,HFF.out];exact ⟨rfl,rfl⟩
  clear hN hX4 hV4 HTWO HX3 HV3 y0 y1 y2 x0 x1 x2 x3
  obtain ⟨y0,y1,y2⟩:w4.cell? ⟨w.heap.size,0,none⟩=some (.slice ak ks.length ck)∧w4.cell? ⟨w.heap.size,1,none⟩=some (.slice ap ps.length cp)∧w4.cell? ⟨w.heap.size,2,none⟩=some (.slice ae es.length ce):=by simp [World.cell?,HX4.out.b0]
  have hz4:w.heap.size<w4.heap.size:=by have:=HX4.out.z;omega
  have hal:Below w4.heap.size w4 (w4.alloc (.cells #[.slice a1 ks.length c1,.slice a2 ps.length c2,.slice a3 (putE es c.f (fldC c)).length c3] 30)):=(aO);have HX5:Hid (Blk3 w _ _ _ _):=HX4.out.call hal;have HV5:Hid (ChgsAt (w4.alloc (.cells #[.slice a1 ks.length c1,.slice a2 ps.length c2,.slice a3 (putE es c.f (fldC c)).length c3] 30)) (.slice va (chgsOf es).length vc) (chgsOf es)):=HV4.out.keep hal;have HN5:Hid (BookNew (w.heap.size+3) (w4.alloc (.cells #[.slice a1 ks.length c1,.slice a2 ps.length c2,.slice a3 (putE es c.f (fldC c)).length c3] 30)) (.slice a1 ks.length c1) (.slice a2 ps.length c2) (.slice a3 (putE es c.f (fldC c)).length c3) ks ps (putE es c.f (fldC c))):=HN4.out.keep hal;have hr5:=HX5.out.b2;clear hal HX4 HV4 HN4
  by_cases h12:12<(putE es c.f (fldC c)).length
  ·have h12':(12:Int)<((putE es c.f (fldC c)).length:Int):=by omega
   have HE:Hid (takeC ks ps es c=3∧takeE ks ps es c=es):=by
    show _∧_
    rw [HC.out.1,HC.out.2];simp [h12]
   clear h12 HC;have hone:=HONE.out _ HX5.out HV5.out;rw [World.size_alloc] at hone;have HON5:=toHidF hone;clear hone;go_wp2_with fail;refine HON5.out.mono ?_;rintro e w6 ⟨x,y,z,rfl,hN,hX6,hN3⟩;have hr6:=hX6.b2;have HX6:Hid (Below w.heap.size w w6∧w.heap.size+2<w6.heap.size):=⟨hX6.below,hX6.z⟩;have HN6:Hid (BookNew (w.heap.size+3) w6 x y z ks ps es):=hN3;obtain ⟨a4,c4,a5,c5,a6,c6,rfl,rfl,rfl⟩:=hN.slices;clear hX6 hN hN3 hr5
   go_wp2_with (refine wpList_store_row rfl 30 _ _ rfl (w.heap.size+1+1) #[.slice a4 ks.length c4,.slice a5 ps.length c5,.slice a6 es.length c6] rfl rfl 30 _ hr6 (by kernel_rfl) rfl (by simp [Value.oneCell']) ?_)
   exact bodyPost_ret (v:=.tuple #[.agg #[.slice a4 ks.length c4,.slice a5 ps.length c5,.slice a6 es.length c6],.int .i64 3]) (by simp [results,Tryz.results187,go_sem,cell_setRow_same _ _ _ _ _ _ _ hr6]) rfl ⟨_,_,_,by rw [HE.out.1],by rw [HTK.out.1,HTK.out.2,HE.out.2];exact (HN6.out.far (aD w6 (w.heap.size+1+1) _) (by omega)).mono (by omega),below_setRow HX6.out.1 (by omega) _⟩
  ·have h12':¬ (12:Int)<((putE es c.f (fldC c)).length:Int):=by omega
   have HE:Hid (takeC ks ps es c=0∧takeE ks ps es c=putE es c.f (fldC c)):=by
    show _∧_
    rw [HC.out.1,HC.out.2];simp [h12]
   clear h12 HC;generalize putE es c.f (fldC c)=es' at *
   go_wp2_with (refine wpList_store_row rfl 30 _ _ rfl (w.heap.size+1+1) #[.slice a1 ks.length c1,.slice a2 ps.length c2,.slice a3 es'.length c3] rfl rfl 30 _ hr5 (by kernel_rfl) rfl (by simp [Value.oneCell']) ?_)
   exact bodyPost_ret (v:=.tuple #[.agg #[.slice a1 ks.length c1,.slice a2 ps.length c2,.slice a3 es'.length c3],.int .i64 0]) (by simp [results,Tryz.results187,go_sem,cell_setRow_same _ _ _ _ _ _ _ hr5]) rfl ⟨_,_,_,by rw [HE.out.1],by rw [HTK.out.1,HTK.out.2,HE.out.2];exact (HN5.out.far (aD _ (w.heap.size+1+1) _) (by omega)).mono (by omega),below_setRow HX5.out.below (by omega) _⟩
open Go.RowKit
theorem au {P:Prop} (h:P):Hid P:=h
theorem lt_of_cellA {w:World} {a:Addr} {v:Value} (h:w.cell? a=some v):a.block<w.heap.size:=by
 by_cases hb:a.block<w.heap.size
 ·exact hb
 ·exfalso
  have hn:w.heap[a.block]?=none:=by simp;omega
  simp [World.cell?,hn] at h
theorem bt {W:World} {B base:Nat} {e:TypeId} (h:W.heap[B]?=some (.cells #[] e (0,0))) (hb:base≤B) (size:Nat):W.ownsRow base e size (.slice (some ⟨B,0,none⟩) 0 0) 0 [] :=
 ⟨by simp,.inr ⟨B,0,#[],rfl,hb,h,Nat.le_refl _,Nat.zero_le _,by simp,by simp⟩⟩
theorem rows_idx {α:Type} (f:α→List Value) (c:Nat) (hf:∀ a,(f a).length=c):∀ (l:List α) (i r:Nat),r<c→(l.flatMap f)[i*c+r]?=l[i]?.bind fun a=>(f a)[r]?
 | [],i,r,hr=>by simp
 | a::l,0,r,hr=>by
  simp only [List.flatMap_cons,Nat.zero_mul,Nat.zero_add]
  rw [List.getElem?_append_left (by rw [hf];exact hr)]
  rfl
 | a::l,i+1,r,hr=>by
  simp only [List.flatMap_cons]
  have h1:(i+1)*c+r=c+(i*c+r):=by rw [Nat.succ_mul];omega
  rw [List.getElem?_append_right (by rw [hf,h1];omega),hf,h1,Nat.add_sub_cancel_left,rows_idx f c hf l i r hr]
  rfl
theorem rows_len {α:Type} (f:α→List Value) (c:Nat) (hf:∀ a,(f a).length=c) (l:List α):(l.flatMap f).length=l.length*c:=by
 induction l with
 | nil=>simp
 | cons a l ih=>rw [List.flatMap_cons,List.length_append,ih,hf,List.length_cons,Nat.succ_mul];omega
theorem bn (b o j:Nat):(⟨b,o,none⟩:Addr).add j=⟨b,o+j,none⟩:=by unfold Addr.add;split <;> simp_all
theorem src_of {α:Type} {w:World} {a:Option Addr} {l:List α} (f:α→List Value) (c:Nat) (hc:0<c) (hf:∀ x,(f x).length=c) (h:∀ i t,l[i]?=some t→∃ b off,a=some ⟨b,off,none⟩∧∀ r v,(f t)[r]?=some v→w.cell? ⟨b,off+i*c+r,none⟩=some v) :
  l.length=0 ∨ ∃ ad,a=some ad∧∀ j u,(l.flatMap f)[j]?=some u→w.cell? (ad.add j)=some u:=by
 cases l with
 | nil=>exact .inl rfl
 | cons t l =>
  obtain ⟨b,off,rfl,_⟩:=h 0 t rfl;refine .inr ⟨_,rfl,fun j u hu=>?_⟩
  have hj:j=(j / c)*c+j % c:=by rw [Nat.mul_comm];exact (Nat.div_add_mod j c).symm
  have hr:j % c<c:=Nat.mod_lt _ hc;rw [hj,rows_idx f c hf _ _ _ hr] at hu
  cases hx:(t::l)[j / c]? with
  | none=>rw [hx] at hu;cases hu
  | some y =>
   rw [hx] at hu;obtain ⟨b',off',e,hh⟩:=h _ y hx
   cases e
   rw [bn];have:=hh _ u hu
   rw [show off+j=off+j / c*c+j % c by omega]
   exact this
theorem triRow_len (t:Tri):(triRow t).length=3:=rfl
theorem fldRow_len (t:Fld):(fldRow t).length=3:=rfl
theorem tris_src {w:World} {a:Option Addr} {n c:Nat} {l:List Tri} (h:TrisAt w (.slice a n c) l):l.length=0 ∨ ∃ ad,a=some ad∧∀ j u,(triRows l)[j]?=some u→w.cell? (ad.add j)=some u:=by
 obtain ⟨a',cap,e,_,_,h⟩:=h
 cases e
 refine src_of triRow 3 (by omega) triRow_len (fun i t ht=>?_)
 obtain ⟨b,off,e,h0,h1,h2⟩:=h i t ht;refine ⟨b,off,e,fun r v hv=>?_⟩
 match r,hv with
 | 0,hv=>cases hv;exact h0
 | 1,hv=>cases hv;exact h1
 | 2,hv=>cases hv;exact h2
 | r+3,hv=>simp [triRow] at hv
theorem flds_src {w:World} {a:Option Addr} {n c:Nat} {l:List Fld} (h:FldsAt w (.slice a n c) l):l.length=0 ∨ ∃ ad,a=some ad∧∀ j u,(fldRows l)[j]?=some u→w.cell? (ad.add j)=some u:=by
 obtain ⟨a',cap,e,_,_,h⟩:=h
 cases e
 refine src_of fldRow 3 (by omega) fldRow_len (fun i t ht=>?_)
 obtain ⟨b,off,e,h0,h1,h2⟩:=h i t ht;refine ⟨b,off,e,fun r v hv=>?_⟩
 match r,hv with
 | 0,hv=>cases hv;exact h0
 | 1,hv=>cases hv;exact h1
 | 2,hv=>cases hv;exact h2
 | r+3,hv=>simp [fldRow] at hv
theorem src_keep {w w':World} {a:Option Addr} {n:Nat} {xs:List Value} (h:n=0 ∨ ∃ ad,a=some ad∧∀ j u,xs[j]?=some u→w.cell? (ad.add j)=some u) (hb:Below w.heap.size w w'):n=0 ∨ ∃ ad,a=some ad∧∀ j u,xs[j]?=some u→w'.cell? (ad.add j)=some u:=by
 rcases h with h | ⟨ad,h1,h2⟩
 ·exact .inl h
 ·refine .inr ⟨ad,h1,fun j u hu=>?_⟩
  have hc:=h2 j u hu;exact (hb.cell (lt_of_cellA hc)).trans hc
theorem cD {l:List Tri}:∀ u∈triRows l,u.oneCell'=true:=fun u hu=>by
 obtain ⟨t,_,ht⟩:=List.mem_flatMap.1 hu
 simp only [triRow,List.mem_cons,List.not_mem_nil,or_false] at ht
 rcases ht with rfl | rfl | rfl <;> rfl
theorem fld_one {l:List Fld}:∀ u∈fldRows l,u.oneCell'=true:=fun u hu=>by
 obtain ⟨t,_,ht⟩:=List.mem_flatMap.1 hu
 simp only [fldRow,List.mem_cons,List.not_mem_nil,or_false] at ht
 rcases ht with rfl | rfl | rfl <;> rfl
theorem aI (l:List Tri):(triRows l).length=l.length*3:=rows_len triRow 3 triRow_len l
theorem bI (l:List Fld):(fldRows l).length=l.length*3:=rows_len fldRow 3 fldRow_len l
theorem PairsNew.pushF {w3 w5:World} {B:Nat} {o o' fv:Value} {l:List EntV} {e:Ent} {ob:Obj} (h:PairsNew w3 B o l) (hf:w3.ownsRow B 67 3 fv e.fs.length (fldRows e.fs)) (hnew:∀ k,fv.ownBlock=some k→∀ p∈l,p.2.ownBlock≠some k) (hown:w5.ownsRow B 65 2 o' (l.length+1) (pairRows l++[.string e.name,fv])) (hg:(w3.alloc ob).grownBy w5 o.ownBlock):PairsNew w5 B o' (l++[(e,fv)]):=by
 have hb1:Below w3.heap.size w3 (w3.alloc ob):=(Below.refl _ _).alloc aH ob;refine ⟨?_,fun p hp=>?_,?_⟩
 ·rw [ca,List.length_append];exact hown
 ·rcases List.mem_append.1 hp with hp | hp
  ·exact an (ah (h.flds p hp) hb1) hg (aM h.row (h.flds p hp) (by decide))
  ·simp at hp;subst hp
   exact an (ah hf hb1) hg (aM h.row hf (by decide))
 ·rw [List.pairwise_append]
  exact ⟨h.apart,by simp,fun p hp q hq k hk=>by simp at hq;subst hq;exact fun hk'=>hnew k hk' p hp hk⟩
theorem BookNew.box {lo X:Nat} {w w':World} {C:Array Value} {x y z:Value} {ks ps:List Tri} {es:List Ent} (h:BookNew lo w x y z ks ps es) (hX:w.heap[X]?=some (.cells C 30 (0,0))) (hg:w.grownBy w' (some X)):BookNew lo w' x y z ks ps es:=by
 obtain ⟨h1,h2,l,h3,h4⟩:=h
 refine ⟨an h1 hg (fun k hk e=>bc h1 hX (by decide) (by rw [← e];exact hk.symm)),an h2 hg (fun k hk e=>bc h2 hX (by decide) (by rw [← e];exact hk.symm)),l,h3,?_,fun p hp=>?_,h4.apart⟩
 ·exact an h4.row hg (fun k hk e=>bc h4.row hX (by decide) (by rw [← e];exact hk.symm))
 ·exact an (h4.flds p hp) hg (fun k hk e=>bc (h4.flds p hp) hX (by decide) (by rw [← e];exact hk.symm))
theorem ownsRow_sameM {W W':World} {base:Nat} {e:TypeId} {size:Nat} {v:Value} {n:Nat} {xs:List Value} (h:W.ownsRow base e size v n xs) (hs:∀ k,v.ownBlock=some k→k<W.heap.size→W'.heap[k]?=W.heap[k]?):W'.ownsRow base e size v n xs:=by
 refine ⟨h.1,?_⟩
 rcases h.2 with h2 | ⟨g,cap,cur,hv,hb,hc,rest⟩
 ·exact .inl h2
 ·exact .inr ⟨g,cap,cur,hv,hb,(hs g (by rw [hv];rfl) (Array.getElem?_eq_some_iff.1 hc).1).trans hc,rest⟩
open Go.RowKit
structure C1 (w wr:World) (A:Array Value):Prop where
 below:Below w.heap.size w wr
 a:wr.heap[w.heap.size]?=some (.cells A 27 (0,0))
 b:wr.heap[w.heap.size+1]?=some (.cells #[.slice none 0 0,.slice none 0 0] 27 (0,0))
theorem C1.z {w wr:World} {A:Array Value} (h:C1 w wr A):w.heap.size+2≤wr.heap.size:=(Array.getElem?_eq_some_iff.1 h.b).1
theorem C1.call {w wr wy:World} {A:Array Value} (h:C1 w wr A) (hb:Below wr.heap.size wr wy):C1 w wy A:=by
 have hz:=h.z
 exact ⟨aa h.below hb,(hb.block _ (by omega)).trans h.a,(hb.block _ (by omega)).trans h.b⟩
theorem C1.grown {w wr wy:World} {A:Array Value} {r:Option Nat} (h:C1 w wr A) (hg:wr.grownBy wy r) (hr:∀ k,r=some k→w.heap.size+2≤k):C1 w wy A:=by
 have hz:=h.z
 refine ⟨h.below.grown hg h.below.size (fun k e=>by have:=hr k e;omega),(hg.block _ (by omega) ?_).trans h.a,(hg.block _ (by omega) ?_).trans h.b⟩
 ·intro e;have:=hr _ e.symm;omega
 ·intro e;have:=hr _ e.symm;omega
theorem C1.start (w:World) (A:Array Value):C1 w (((w.alloc (.cells A 27)).alloc (.cells #[.slice none 0 0,.slice none 0 0] 27)).drew) A:=by
 have s1:(w.alloc (.cells A 27)).heap.size=w.heap.size+1:=by simp
 have h1:=aj w (.cells A 27);have h2:=aj (w.alloc (.cells A 27)) (.cells #[.slice none 0 0,.slice none 0 0] 27);rw [s1] at h2
 refine ⟨((aO).alloc (by simp) _).drew,?_,h2⟩
 exact (Below.heap_alloc _ _ _ (by omega)).trans h1
theorem C1.row {w wr:World} {A:Array Value} (h:C1 w wr A) (cs:Array Value) (j:Nat):(wr.setRow (w.heap.size+1) cs).cell? ⟨w.heap.size,j,none⟩=A[j]?:=by
 have e:(wr.setRow (w.heap.size+1) cs).heap[w.heap.size]?=wr.heap[w.heap.size]?:=setRow_other _ _ _ _ (by omega)
 rw [World.cell?_of_block (w:=wr) e]
 simp [World.cell?,h.a]
theorem C1.cell {w wr:World} {A:Array Value} (h:C1 w wr A) (j:Nat):wr.cell? ⟨w.heap.size,j,none⟩=A[j]?:=by simp [World.cell?,h.a]
theorem specL1Copy_any (vk vp:Value) (ks ps:List Tri) (w:World) (hk:TrisAt w vk ks) (hp:TrisAt w vp ps) (lk:ks.length≤1048576) (lp:ps.length≤1048576) :
  Calls Tryz.prog 70 #[.agg #[vk,vp]] w fun e w'=>∃ x y,e=.returned (.agg #[x,y])∧w'.ownsRow (w.heap.size+2) 69 3 x ks.length (triRows ks)∧w'.ownsRow (w.heap.size+2) 72 3 y ps.length (triRows ps)∧Below w.heap.size w w':=by
 obtain ⟨i0,hi,hz0,hz1,hz2⟩:=info_parts infoKindC;obtain ⟨i1,hj,hy0,hy1,hy2⟩:=info_parts infoPointC;have HK:=hk;have HP:=hp;obtain ⟨ak,ck,rfl,-,-,-⟩:=hk;obtain ⟨ap,cp,rfl,-,-,-⟩:=hp;have SK:Hid (∀ wx:World,Below w.heap.size w wx→(ks.length=0 ∨ ∃ ad,ak=some ad∧∀ j u,(triRows ks)[j]?=some u→wx.cell? (ad.add j)=some u)):=fun wx hx=>src_keep (tris_src HK) hx;have SP:Hid (∀ wx:World,Below w.heap.size w wx→(ps.length=0 ∨ ∃ ad,ap=some ad∧∀ j u,(triRows ps)[j]?=some u→wx.cell? (ad.add j)=some u)):=fun wx hx=>src_keep (tris_src HP) hx;have HC:Hid (C1 w _ #[.slice ak ks.length ck,.slice ap ps.length cp]):=C1.start w #[.slice ak ks.length ck,.slice ap ps.length cp];clear HK HP
 go_enter Tryz.func70,Tryz.ntmps70
 go_wp2;refine wp_region_noPanic ?_
 refine wp_region_held_drew (S:=fun w'=>w'.cell? ⟨w.heap.size,0,none⟩=some (.slice ak ks.length ck)∧w'.cell? ⟨w.heap.size,1,none⟩=some (.slice ap ps.length cp)) (by kernel_rfl) ?_ (fun hHeld=>?_)
 ·exact ⟨HC.out.cell 0,HC.out.cell 1⟩
 generalize ((w.alloc (.cells #[.slice ak ks.length ck,.slice ap ps.length cp] 27)).alloc (.cells #[.slice none 0 0,.slice none 0 0] 27)).drew=W0 at *;refine aJ 1 ?_ rfl ?_ (aJ 2 ?_ rfl ?_ (aJ 5 ?_ rfl ?_ (aJ 6 ?_ rfl ?_ ?_)))
 iterate 4 (rotate_left;focus (intro w hSw;(try dsimp only at hSw);simp only [Act.put,aR];go_simp;try with_reducible rfl))
 simp only [Act.put,aR]
 clear hHeld;refine rdH2 0 4 rfl rfl (fun K hK=>?_) (fun K hK=>?_)
 ·go_simp
  have hal:Below W0.heap.size W0 (W0.alloc (.cells #[] 69)):=(aO);have HC2:Hid (C1 w (W0.alloc (.cells #[] 69)) #[.slice ak ks.length ck,.slice ap ps.length cp]):=HC.out.call hal;have RA:Hid ((W0.alloc (.cells #[] 69)).ownsRow (w.heap.size+2) 69 3 (.slice (some ⟨W0.heap.size,0,none⟩) 0 0) 0 []):=bt (aj W0 _) HC.out.z 3;refine hK.out _ _ ⟨HC2.out.cell 0,HC2.out.cell 1⟩ (fun _=>?_);clear hK K hal HC;have HC:=HC2;clear HC2;generalize W0.alloc (.cells #[] 69)=W1 at *;refine rdH2 3 4 rfl rfl (fun K hK=>?_) (fun K hK=>?_)
  focus
   refine ai _ rfl _ _ 24 rfl (w.heap.size+2) 69 i0 _ 3 32 Tryz.underlying24 hi hz0 hz1 hz2 rfl (by decide) _ 0 [] rfl RA.out ak ks.length ck (triRows ks) rfl (SK.out _ HC.out.below) (aI _) cD (by unfold maxLen;omega) (by omega) HC.out.z ?_
   intro va W2 hown hgrow hat;rw [Nat.zero_add,List.nil_append] at hown;have HC2:Hid (C1 w W2 #[.slice ak ks.length ck,.slice ap ps.length cp]):=HC.out.grown hgrow (ax RA.out);refine hK.out _ _ ⟨HC2.out.cell 0,HC2.out.cell 1⟩ (fun _=>?_);clear hK K hgrow hat HC RA;have RA:=au hown;obtain ⟨a1,c1,rfl⟩:=own_slice hown;clear hown;have HC:=HC2;clear HC2;refine bh 4 rfl (fun K hK=>?_);go_simp;have hal:Below W2.heap.size W2 (W2.alloc (.cells #[] 72)):=(aO);have HC2:Hid (C1 w (W2.alloc (.cells #[] 72)) #[.slice ak ks.length ck,.slice ap ps.length cp]):=HC.out.call hal;have RB:Hid ((W2.alloc (.cells #[] 72)).ownsRow (w.heap.size+2) 72 3 (.slice (some ⟨W2.heap.size,0,none⟩) 0 0) 0 []):=bt (aj W2 _) HC.out.z 3;have RA2:=au (ah RA.out hal);refine hK.out _ _ ⟨HC2.out.cell 0,HC2.out.cell 1⟩ (fun _=>?_);clear hK K hal HC;clear RA;have RA:=RA2;clear RA2;have HC:=HC2;clear HC2;generalize W2.alloc (.cells #[] 72)=W3 at *
  rotate_left
  focus
   go_simp;have hal:Below W1.heap.size W1 (W1.alloc (.cells #[] 72)):=(aO);have HC2:Hid (C1 w (W1.alloc (.cells #[] 72)) #[.slice ak ks.length ck,.slice ap ps.length cp]):=HC.out.call hal;have RB:Hid ((W1.alloc (.cells #[] 72)).ownsRow (w.heap.size+2) 72 3 (.slice (some ⟨W1.heap.size,0,none⟩) 0 0) 0 []):=bt (aj W1 _) HC.out.z 3;have RA2:=au (ah RA.out hal);refine hK.out _ _ ⟨HC2.out.cell 0,HC2.out.cell 1⟩ (fun _=>?_);clear hK K hal HC;clear RA;have RA:=RA2;clear RA2;have HC:=HC2;clear HC2;generalize W1.alloc (.cells #[] 72)=W2 at *;refine bh 3 rfl (fun K hK=>?_)
   refine ai _ rfl _ _ 24 rfl (w.heap.size+2) 69 i0 _ 3 32 Tryz.underlying24 hi hz0 hz1 hz2 rfl (by decide) _ 0 [] rfl RA.out ak ks.length ck (triRows ks) rfl (SK.out _ HC.out.below) (aI _) cD (by unfold maxLen;omega) (by omega) HC.out.z ?_
   intro va W3 hown hgrow hat;rw [Nat.zero_add,List.nil_append] at hown;have HC2:Hid (C1 w W3 #[.slice ak ks.length ck,.slice ap ps.length cp]):=HC.out.grown hgrow (ax RA.out)
   have RB2:=au (an RB.out hgrow (aM RA.out RB.out (by decide)))
   refine hK.out _ _ ⟨HC2.out.cell 0,HC2.out.cell 1⟩ (fun _=>?_);clear hK K hgrow hat HC RA;have RA:=au hown;obtain ⟨a1,c1,rfl⟩:=own_slice hown;clear hown;clear RB;have RB:=RB2;clear RB2;have HC:=HC2;clear HC2
  rotate_left
  all_goals
   refine bh 7 rfl (fun K hK=>?_)
   refine ai _ rfl _ _ 25 rfl (w.heap.size+2) 72 i1 _ 3 32 Tryz.underlying25 hj hy0 hy1 hy2 rfl (by decide) _ 0 [] rfl RB.out ap ps.length cp (triRows ps) rfl (SP.out _ HC.out.below) (aI _) cD (by unfold maxLen;omega) (by omega) HC.out.z ?_
   intro va W4 hown hgrow hat;rw [Nat.zero_add,List.nil_append] at hown;have HC2:Hid (C1 w W4 #[.slice ak ks.length ck,.slice ap ps.length cp]):=HC.out.grown hgrow (ax RB.out)
   have RA2:=au (an RA.out hgrow (aM RB.out RA.out (by decide)))
   refine hK.out _ _ ⟨HC2.out.cell 0,HC2.out.cell 1⟩ (fun _=>?_);clear hK K hgrow hat HC RB;have RB:=au hown;obtain ⟨a2,c2,rfl⟩:=own_slice hown;clear hown;clear RA;have RA:=RA2;clear RA2;have HC:=HC2;clear HC2;have hHeld:_∧_:=⟨HC.out.cell 0,HC.out.cell 1⟩;refine aJ 8 ?_ rfl ?_ ?_;rotate_left
   ·intro w hSw;(try dsimp only at hSw);go_simp;try with_reducible rfl
   simp only [Act.put,aR]
   clear hHeld;refine bh 9 rfl (fun K hK=>?_);have hrow:=HC.out.b
   refine aQ rfl 27 _ _ rfl (w.heap.size+1) #[.slice a1 ks.length c1,.slice a2 ps.length c2] rfl rfl 27 _ hrow (by kernel_rfl) rfl (by simp [Value.oneCell']) ?_
   refine hK.out _ _ ⟨HC.out.row _ 0,HC.out.row _ 1⟩ (fun _=>?_);clear hK K
   refine wpAnyH_done (by kernel_rfl) ?_ _
   refine NoPanic.normal ?_;go_wp2
   exact bodyPost_ret (v:=.agg #[.slice a1 ks.length c1,.slice a2 ps.length c2]) (by simp [results,Tryz.results70,go_sem,cell_setRow_same _ _ _ _ _ _ _ hrow]) rfl ⟨_,_,rfl,an RA.out (aD _ _ _) (fun k hk e=>by have:=ax RA.out k hk;injection e;omega),an RB.out (aD _ _ _) (fun k hk e=>by have:=ax RB.out k hk;injection e;omega),below_setRow HC.out.below (by omega) _⟩
 ·go_simp
  have hal:Below W0.heap.size W0 (W0.alloc (.cells #[] 72)):=(aO);have HC2:Hid (C1 w (W0.alloc (.cells #[] 72)) #[.slice ak ks.length ck,.slice ap ps.length cp]):=HC.out.call hal;have RB:Hid ((W0.alloc (.cells #[] 72)).ownsRow (w.heap.size+2) 72 3 (.slice (some ⟨W0.heap.size,0,none⟩) 0 0) 0 []):=bt (aj W0 _) HC.out.z 3;refine hK.out _ _ ⟨HC2.out.cell 0,HC2.out.cell 1⟩ (fun _=>?_);clear hK K hal HC;have HC:=HC2;clear HC2;generalize W0.alloc (.cells #[] 72)=W1 at *;refine bh 0 rfl (fun K hK=>?_);go_simp;have hal:Below W1.heap.size W1 (W1.alloc (.cells #[] 69)):=(aO);have HC2:Hid (C1 w (W1.alloc (.cells #[] 69)) #[.slice ak ks.length ck,.slice ap ps.length cp]):=HC.out.call hal;have RA:Hid ((W1.alloc (.cells #[] 69)).ownsRow (w.heap.size+2) 69 3 (.slice (some ⟨W1.heap.size,0,none⟩) 0 0) 0 []):=bt (aj W1 _) HC.out.z 3;have RB2:=au (ah RB.out hal);refine hK.out _ _ ⟨HC2.out.cell 0,HC2.out.cell 1⟩ (fun _=>?_);clear hK K hal HC;clear RB;have RB:=RB2;clear RB2;have HC:=HC2;clear HC2;generalize W1.alloc (.cells #[] 69)=W2 at *;refine bh 3 rfl (fun K hK=>?_)
  refine ai _ rfl _ _ 24 rfl (w.heap.size+2) 69 i0 _ 3 32 Tryz.underlying24 hi hz0 hz1 hz2 rfl (by decide) _ 0 [] rfl RA.out ak ks.length ck (triRows ks) rfl (SK.out _ HC.out.below) (aI _) cD (by unfold maxLen;omega) (by omega) HC.out.z ?_
  intro va W3 hown hgrow hat;rw [Nat.zero_add,List.nil_append] at hown;have HC2:Hid (C1 w W3 #[.slice ak ks.length ck,.slice ap ps.length cp]):=HC.out.grown hgrow (ax RA.out)
  have RB2:=au (an RB.out hgrow (aM RA.out RB.out (by decide)))
  refine hK.out _ _ ⟨HC2.out.cell 0,HC2.out.cell 1⟩ (fun _=>?_);clear hK K hgrow hat HC RA;have RA:=au hown;obtain ⟨a1,c1,rfl⟩:=own_slice hown;clear hown;clear RB;have RB:=RB2;clear RB2;have HC:=HC2;clear HC2;refine bh 7 rfl (fun K hK=>?_)
  refine ai _ rfl _ _ 25 rfl (w.heap.size+2) 72 i1 _ 3 32 Tryz.underlying25 hj hy0 hy1 hy2 rfl (by decide) _ 0 [] rfl RB.out ap ps.length cp (triRows ps) rfl (SP.out _ HC.out.below) (aI _) cD (by unfold maxLen;omega) (by omega) HC.out.z ?_
  intro va W4 hown hgrow hat;rw [Nat.zero_add,List.nil_append] at hown;have HC2:Hid (C1 w W4 #[.slice ak ks.length ck,.slice ap ps.length cp]):=HC.out.grown hgrow (ax RB.out)
  have RA2:=au (an RA.out hgrow (aM RB.out RA.out (by decide)))
  refine hK.out _ _ ⟨HC2.out.cell 0,HC2.out.cell 1⟩ (fun _=>?_);clear hK K hgrow hat HC RB;have RB:=au hown;obtain ⟨a2,c2,rfl⟩:=own_slice hown;clear hown;clear RA;have RA:=RA2;clear RA2;have HC:=HC2;clear HC2;have hHeld:_∧_:=⟨HC.out.cell 0,HC.out.cell 1⟩;refine aJ 8 ?_ rfl ?_ ?_;rotate_left
  ·intro w hSw;(try dsimp only at hSw);go_simp;try with_reducible rfl
  simp only [Act.put,aR]
  clear hHeld;refine bh 9 rfl (fun K hK=>?_);have hrow:=HC.out.b
  refine aQ rfl 27 _ _ rfl (w.heap.size+1) #[.slice a1 ks.length c1,.slice a2 ps.length c2] rfl rfl 27 _ hrow (by kernel_rfl) rfl (by simp [Value.oneCell']) ?_
  refine hK.out _ _ ⟨HC.out.row _ 0,HC.out.row _ 1⟩ (fun _=>?_);clear hK K
  refine wpAnyH_done (by kernel_rfl) ?_ _
  refine NoPanic.normal ?_;go_wp2
  exact bodyPost_ret (v:=.agg #[.slice a1 ks.length c1,.slice a2 ps.length c2]) (by simp [results,Tryz.results70,go_sem,cell_setRow_same _ _ _ _ _ _ _ hrow]) rfl ⟨_,_,rfl,an RA.out (aD _ _ _) (fun k hk e=>by have:=ax RA.out k hk;injection e;omega),an RB.out (aD _ _ _) (fun k hk e=>by have:=ax RB.out k hk;injection e;omega),below_setRow HC.out.below (by omega) _⟩
open Go.RowKit
theorem fat_succ (g:Fld) (l:List Fld) (i:Nat):fat (g::l) (i+1)=fat l i:=by simp [fat]
theorem putF_hit:∀ (fs:List Fld) (f:Fld) (j:Nat),j<fs.length→(∀ i,i<j→(fat fs i).what<f.what)→(fat fs j).what=f.what→putF fs f=bif latF f (fat fs j) then fs.set j f else fs
 | [],f,j,hj,_,_=>by simp at hj
 | g::l,f,0,hj,hl,he=>by
  have e0:fat (g::l) 0=g:=rfl;rw [e0] at he ⊢
  rw [putF,if_neg (by omega),if_pos he]
  cases latF f g <;> rfl
 | g::l,f,j+1,hj,hl,he=>by
  have h0:=hl 0 (by omega)
  have e0:fat (g::l) 0=g:=rfl;rw [e0] at h0;rw [fat_succ] at he ⊢
  rw [putF,if_pos h0,putF_hit l f j (by simpa using hj) (fun i hi=>by have:=hl (i+1) (by omega);rwa [fat_succ] at this) he]
  cases latF f (fat l j) <;> rfl
theorem putF_in:∀ (fs:List Fld) (f:Fld) (j:Nat),j≤fs.length→(∀ i,i<j→(fat fs i).what<f.what)→(j<fs.length→f.what<(fat fs j).what)→putF fs f=fs.take j++f::fs.drop j
 | [],f,j,hj,_,_=>by
  have:j=0:=by simpa using hj
  subst this;rfl
 | g::l,f,0,hj,hl,he=>by
  have h0:=he (by simp)
  have e0:fat (g::l) 0=g:=rfl;rw [e0] at h0
  rw [putF,if_neg (by omega),if_neg (by omega)]
  rfl
 | g::l,f,j+1,hj,hl,he=>by
  have h0:=hl 0 (by omega)
  have e0:fat (g::l) 0=g:=rfl;rw [e0] at h0
  rw [putF,if_pos h0,putF_in l f j (by simpa using hj) (fun i hi=>by have:=hl (i+1) (by omega);rwa [fat_succ] at this) (fun hlt=>by have:=he (by simpa using hlt);rwa [fat_succ] at this)]
  rfl
theorem putF_len (fs:List Fld) (f:Fld):(putF fs f).length≤fs.length+1:=by
 induction fs with
 | nil=>simp [putF]
 | cons g l ih =>
  rw [putF]
  split
  ·simp;omega
  ·split
   ·split <;> simp
   ·simp
theorem cB (a b:List Fld):fldRows (a++b)=fldRows a++fldRows b:=by simp [fldRows]
theorem fldRows_cons (a:Fld) (b:List Fld):fldRows (a::b)=fldRow a++fldRows b:=by simp [fldRows]
theorem ci:∀ (fs:List Fld) (f:Fld) (j:Nat),j<fs.length→fldRows (fs.set j f)=(((fldRows fs).set (j*3) (.int .i64 f.what)).set (j*3+1) (.int .i64 f.num)).set (j*3+2) (.string f.v)
 | [],f,j,hj=>by simp at hj
 | g::l,f,0,hj=>by simp [fldRows,fldRow]
 | g::l,f,j+1,hj=>by
  rw [List.set_cons_succ,fldRows_cons,fldRows_cons,ci l f j (by simpa using hj)]
  have h3:(j+1)*3=3+j*3:=by omega
  have h4:∀ (x:List Value) (p:Nat) (v:Value),(fldRow g++x).set (3+p) v=fldRow g++x.set p v:=fun x p v=>by
   rw [List.set_append_right _ _ (by simp [fldRow])]
   simp [fldRow]
  rw [h3,h4,Nat.add_assoc,h4,Nat.add_assoc,h4]
theorem own_set1 {w:World} {B:Nat} {e:TypeId} {size g n cap m:Nat} {xs:List Value} (h:w.ownsRow B e size (.slice (some ⟨g,0,none⟩) n cap) m xs) (p:Nat) (v:Value):(w.setCell ⟨g,p,none⟩ v).ownsRow B e size (.slice (some ⟨g,0,none⟩) n cap) m (xs.set p v):=by
 obtain ⟨h1,h2⟩:=h
 rcases h2 with ⟨h2,_⟩ | ⟨g',cap',cur,hv,hB,hb,hn,hc,hs,ht⟩
 ·cases h2
 ·cases hv
  refine ⟨by simpa using h1,.inr ⟨g,cap,cur.setIfInBounds p v,rfl,hB,?_,hn,hc,by simpa using hs,?_⟩⟩
  ·rw [setCell_eq_setRow _ _ _ _ _ _ _ hb];exact setRow_heap _ _ _ _ _ _ hb
  ·rw [Array.toList_setIfInBounds,List.take_set,ht]
theorem grownF_trans {w w1 w2:World} {r:Option Nat} (h:w.grownBy w1 r) (k:w1.grownBy w2 r):w.grownBy w2 r :=
 ⟨k.1.trans h.1,k.2.trans h.2,k.3.trans h.3,Nat.le_trans h.4 k.4,fun j hj hr=>(k.5 j (Nat.lt_of_lt_of_le hj h.4) hr).trans (h.5 j hj hr)⟩
theorem bS {w w':World} (h:Below w.heap.size w w') (r:Option Nat):w.grownBy w' r:=⟨h.1,h.2,h.3,h.4,fun k hk _=>h.5 k hk⟩
theorem own_fset {w:World} {lo g n cap:Nat} {fs:List Fld} {j:Nat} (f:Fld) (h:w.ownsRow lo 67 3 (.slice (some ⟨g,0,none⟩) n cap) fs.length (fldRows fs)) (hj:j<fs.length) :
  (w.setCells g (j*3) (fldRow f)).ownsRow lo 67 3 (.slice (some ⟨g,0,none⟩) n cap) (fs.set j f).length (fldRows (fs.set j f))∧w.grownBy (w.setCells g (j*3) (fldRow f)) (some g):=by
 have e:w.setCells g (j*3) (fldRow f)=((w.setCell ⟨g,j*3,none⟩ (.int .i64 f.what)).setCell ⟨g,j*3+1,none⟩ (.int .i64 f.num)).setCell ⟨g,j*3+2,none⟩ (.string f.v):=rfl;rw [e];refine ⟨?_,grownF_trans (grownF_trans (bg _ _ _ _) (bg _ _ _ _)) (bg _ _ _ _)⟩;rw [ci fs f j hj,List.length_set];exact own_set1 (own_set1 (own_set1 h _ _) _ _) _ _
theorem own_fcells {w:World} {lo:Nat} {v:Value} {fs:List Fld} {j:Nat} (h:w.ownsRow lo 67 3 v fs.length (fldRows fs)) (hj:j<fs.length) :
  ∃ g cap,v=.slice (some ⟨g,0,none⟩) fs.length cap∧lo≤g∧g<w.heap.size∧fs.length≤cap∧cap≤maxLen∧w.cell? ⟨g,j*3,none⟩=some (.int .i64 (fat fs j).what)∧w.cell? ⟨g,j*3+1,none⟩=some (.int .i64 (fat fs j).num)∧w.cell? ⟨g,j*3+2,none⟩=some (.string (fat fs j).v)∧w.there g (j*3) 3:=by
 obtain ⟨h1,h2⟩:=h
 rcases h2 with ⟨_,h2⟩ | ⟨g,cap,cur,rfl,hB,hb,hn,hc,hs,ht⟩
 ·omega
 ·have hx:∀ r,r<3→cur.toList[j*3+r]?=(fldRow (fat fs j))[r]?:=fun r hr=>by
   have e1:(cur.toList.take (fs.length*3))[j*3+r]?=cur.toList[j*3+r]?:=by rw [List.getElem?_take,if_pos (by omega)]
   rw [← e1,ht];unfold fldRows;rw [rows_idx fldRow 3 fldRow_len fs j r hr,bE hj]
   rfl
  have x0:=hx 0 (by omega)
  have x1:=hx 1 (by omega)
  have x2:=hx 2 (by omega)
  simp only [Nat.add_zero] at x0
  refine ⟨g,cap,rfl,hB,(Array.getElem?_eq_some_iff.1 hb).1,hn,hc,?_,?_,?_,fun q hq=>?_⟩
  ·simp only [World.cell?,hb,Option.isSome_none,Bool.false_eq_true,if_false];simpa [fldRow] using x0
  ·simp only [World.cell?,hb,Option.isSome_none,Bool.false_eq_true,if_false];simpa [fldRow] using x1
  ·simp only [World.cell?,hb,Option.isSome_none,Bool.false_eq_true,if_false];simpa [fldRow] using x2
  ·have hq':j*3+q<cur.size:=by rw [hs];omega
   simp [World.cell?,World.frozen?,hb,hq']
open Go.RowKit
theorem cut_byte:∀ (l cur:List UInt8) (c:UInt8),(c∈cur∨c∈l)→c≠32→∃ x∈cutA cur l,c∈x
 | [],cur,c,h,_=>by
  rcases h with h | h
  ·exact ⟨cur,by simp [cutA],h⟩
  ·cases h
 | d::l,cur,c,h,hc=>by
  rw [cutA]
  split
  ·rename_i hd
   rcases h with h | h
   ·exact ⟨cur,List.mem_cons_self ..,h⟩
   ·rcases List.mem_cons.1 h with e | h
    ·exact absurd (e.trans (by simpa using hd)) hc
    ·obtain ⟨x,hx,hcx⟩:=cut_byte l [] c (.inr h) hc
     exact ⟨x,List.mem_cons_of_mem _ hx,hcx⟩
  ·refine cut_byte l _ c ?_ hc
   rcases h with h | h
   ·exact .inl (List.mem_append_left _ h)
   ·rcases List.mem_cons.1 h with e | h
    ·exact .inl (List.mem_append_right _ (by simp [e]))
    ·exact .inr h
theorem word_byte {s:ByteArray} {c:UInt8} (h:c∈bytes s) (hc:c≠32):∃ x∈cutW s,c∈bytes x:=by
 obtain ⟨x,hx,hcx⟩:=cut_byte (bytes s) [] c (.inr h) hc;exact ⟨⟨⟨x⟩⟩,List.mem_map.2 ⟨x,hx,rfl⟩,hcx⟩
theorem name_no10 {s:ByteArray} (h:nameB s=true):1≤s.size∧∀ c∈bytes s,c≠10:=by
 unfold nameB at h;rw [Bool.and_eq_true] at h
 refine ⟨by have:=h.1;simp [inB] at this;omega,fun c hc e=>?_⟩
 have h2:=List.all_eq_true.1 h.2 c hc;rw [e] at h2
 revert h2
 decide
theorem dec_no10 {s:ByteArray} (h:decB s=true):1≤s.size∧∀ c∈bytes s,c≠10:=by
 unfold decB at h;rw [Bool.and_eq_true,Bool.and_eq_true] at h
 refine ⟨by have:=h.1;simp [inB] at this;omega,fun c hc e=>?_⟩
 have h2:=List.all_eq_true.1 h.2.2 c hc;rw [e] at h2
 revert h2
 decide
theorem has_name {l:List Tri} {m:Nat} {v:ByteArray} (hn:namesB l m=true) (h:hasB l v=true):nameB v=true:=by
 unfold hasB at h;rw [Bool.and_eq_true] at h;have h1:=of_decide_eq_true h.1;have h2:=of_decide_eq_true h.2;unfold namesB at hn;rw [Bool.and_eq_true] at hn;have h3:=bF hn.2 _ h1;rw [Bool.and_eq_true] at h3;rw [← h2];exact h3.1
theorem val_of {s:ByteArray} (h0:1≤s.size) (h:∀ c∈bytes s,c≠10):valB s=true:=by
 unfold valB;rw [Bool.and_eq_true,Bool.not_eq_true',Bool.not_eq_true'];refine ⟨?_,?_⟩
 ·cases hl:s.toList with
  | nil =>
   have h1:s.toList.length=s.size:=by rw [ByteArray.toList_eq];exact aK s
   rw [hl] at h1;rw [← h1] at h0
   cases h0
  | cons a l=>rfl
 ·unfold oddB
  rw [List.any_eq_false];intro c hc
  simpa using h c hc
theorem words_no10 {s:ByteArray} (hl:2≤(cutW s).length) (h:∀ x∈cutW s,∀ c∈bytes x,c≠10):valB s=true:=by
 refine val_of ?_ (fun c hc e=>?_)
 ·rcases Nat.eq_zero_or_pos s.size with e | e
  ·have h1:bytes s=[]:=List.length_eq_zero_iff.1 (by rw [aK];exact e)
   unfold cutW at hl;rw [h1] at hl
   simp [cutA] at hl
  ·exact e
 ·obtain ⟨x,hx,hcx⟩:=word_byte hc (by rw [e];decide)
  exact h x hx c hcx e
theorem wat_mem {ws:List ByteArray} {x:ByteArray} (h:x∈ws):∃ i,i<ws.length∧wat ws i=x:=by
 obtain ⟨i,hi,e⟩:=List.getElem_of_mem h
 exact ⟨i,hi,by simp [wat,hi,e]⟩
theorem fit_form {ks ps:List Tri} {c:Chg} (hb:baseB ks ps=true) (h:fitB ks ps c=true):formB c=true:=by
 unfold baseB kindsB pointsB at hb
 simp only [Bool.and_eq_true] at hb
 obtain ⟨⟨hk,-⟩,hp,-⟩:=hb;unfold fitB at h;rw [Bool.and_eq_true,Bool.and_eq_true] at h;obtain ⟨hf,hn,hv⟩:=h
 have key:inB c.what 1 5=true∧valB c.v=true:=by
  unfold valB2 at hv
  split at hv
  ·rename_i e
   obtain ⟨h0,h1⟩:=name_no10 (has_name hk hv)
   exact ⟨by rw [e];rfl,val_of h0 h1⟩
  split at hv
  ·rename_i e
   unfold timeB at hv
   simp only [Bool.and_eq_true,decide_eq_true_eq] at hv
   obtain ⟨hl,h0,h1,-⟩:=hv
   refine ⟨by rw [e];rfl,words_no10 (by omega) (fun x hx=>?_)⟩
   obtain ⟨i,hi,rfl⟩:=wat_mem hx
   rcases (show i=0∨i=1 by omega) with rfl | rfl
   ·exact (dec_no10 h0).2
   ·exact (dec_no10 h1).2
  split at hv
  ·rename_i e
   unfold levelB at hv;rw [Bool.and_eq_true] at hv;obtain ⟨h0,h1⟩:=dec_no10 hv.1
   exact ⟨by rw [e];rfl,val_of h0 h1⟩
  split at hv
  ·rename_i e
   unfold routeB at hv;rw [Bool.and_eq_true] at hv
   have hl:2≤(cutW c.v).length:=by have:=hv.1;simp [inB] at this;omega
   refine ⟨by rw [e];rfl,words_no10 hl (fun x hx=>?_)⟩
   obtain ⟨i,hi,rfl⟩:=wat_mem hx;have h2:=bF hv.2 i hi;unfold stepB at h2;rw [Bool.and_eq_true] at h2;exact (name_no10 (has_name hp h2.1)).2
  split at hv
  ·rename_i e
   unfold stateB at hv;rw [Bool.or_eq_true] at hv
   refine ⟨by rw [e];rfl,?_⟩
   rcases hv with h | h <;> (rw [of_decide_eq_true h];exact val_of (by decide) (by decide))
  ·cases hv
 unfold formB;rw [key.1,hf,hn,key.2]
 rfl
end Go.Proofs.YtcmgddnckohdaaaGreatDoor
