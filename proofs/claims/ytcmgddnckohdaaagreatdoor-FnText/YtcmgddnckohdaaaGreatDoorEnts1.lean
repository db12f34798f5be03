import Derived.Test.YtcmgddnckohdaaaGreatDoorKeys
import Derived.Shelf.SlSortCmp.WholeK
import Derived.Test.YtcmgddnckohdaaaGreatDoorCbase2
set_option maxRecDepth 100000
set_option maxHeartbeats 12800000
set_option linter.unusedSimpArgs false
set_option linter.unusedVariables false
namespace Go.Proofs.YtcmgddnckohdaaaGreatDoor
open Go.RowKit Go.Shelf Go.Lib Go.Sort
def Kk (p:jl):dP:=⟨p.1,p.2,0,⟨#[]⟩⟩
def cfP (p q:jl):Int:=Mr (Kk p) (Kk q)
def BL (p q:jl):Bool:=gz (Kk p) (Kk q)
theorem yo (a:dP):eX a a=true:=ig.2 ⟨rfl,rfl⟩
theorem qQ (p:jl):BL p p=false:=by
 cases h:BL p p with
 | false=>rfl
 | true=>have:=cr h;rw [yo] at this;cases this
theorem Ip (p q:jl):ltOf cfP p q=BL p q:=by
 unfold ltOf cfP BL;rw [cmpK_eq]
 cases gz (Kk p) (Kk q) <;> cases eX (Kk p) (Kk q) <;> simp
theorem uF {p q r:jl} (h:BL p q=true) (k:BL q r=true):BL p r=true:=j3 h k
theorem Ak {p q:jl} (h:BL p q=false) (k:BL q p=false):p=q:=by
 cases he:eX (Kk p) (Kk q) with
 | true=>obtain ⟨h1,h2⟩:=ig.1 he;exact Prod.ext h1 h2
 | false=>have:=Iw h he;unfold BL at k;rw [k] at this;cases this
theorem swoP:SWO (ltOf cfP) where
 irrefl x:=by rw [Ip];exact qQ x
 trans x y z h1 h2:=by rw [Ip] at *;exact uF h1 h2
 ntrans x y z h1 h2:=by
  rw [Ip] at *
  cases h:BL x z with
  | false=>rfl
  | true =>
   cases h3:BL y x with
   | true=>rw [uF h3 h] at h2;cases h2
   | false=>rw [Ak h1 h3] at h;rw [h] at h2;cases h2
theorem Gc {a b:List jl} (hp:a.Perm b) (ha:a.Pairwise fun p q=>BL q p=false) (hb:b.Pairwise fun p q=>BL q p=false):a=b :=
 hp.eq_of_pairwise (fun x y _ _ h1 h2=>Ak h2 h1) ha hb
theorem grow_of {w w':World} (h:Below w.heap.size w w') (hd:w.drawn≤w'.drawn):∃ q os',w'=grow (w.drewN q) os':=by
 obtain ⟨hp,tp,dr,os,out⟩:=w;obtain ⟨hp',tp',dr',os',out'⟩:=w';obtain ⟨h1,h2,h3,h4,h5⟩:=h;dsimp only at h1 h2 h3 h4 h5 hd;subst h1 h2 h3;refine ⟨dr'-dr,hp'.extract hp.size hp'.size,?_⟩
 simp only [grow,World.drewN,World.mk.injEq]
 refine ⟨?_,by first | rfl | trivial,by omega,by first | rfl | trivial,by first | rfl | trivial⟩
 apply Array.ext
 ·simp;omega
 ·intro i h6 h7
  by_cases hi:i<hp.size
  ·have:=h5 i hi
   rw [Array.getElem?_eq_getElem h6,Array.getElem?_eq_getElem hi] at this;rw [Array.getElem_append_left hi];exact Option.some.inj this
  ·rw [Array.getElem_append_right (by omega),Array.getElem_extract]
   congr 1
   omega
theorem uQ (a b:dP) (w:World):Calls Tryz.prog 264 #[.agg #[.string a.f,.int .i64 a.what],.agg #[.string b.f,.int .i64 b.what]] w fun e w'=>e=.returned (.int .i64 (Mr a b))∧∃ q os',w'=grow (w.drewN q) os':=by
 have HK:Hid (Mr a b=orI (Cw a.f b.f) (yO a.what b.what)):=rfl
 have HX0:Hid (OwnAt w ((w.alloc (.cells #[.string a.f,.int .i64 a.what] 295)).alloc (.cells #[.string b.f,.int .i64 b.what] 295)) [[.string a.f,.int .i64 a.what],[.string b.f,.int .i64 b.what]]):=((OwnAt.start w).push rfl _ _).push (by simp) _ _
 have HD0:Hid (w.drawn≤((w.alloc (.cells #[.string a.f,.int .i64 a.what] 295)).alloc (.cells #[.string b.f,.int .i64 b.what] 295)).drawn):=Nat.le_refl w.drawn
 go_enter Tryz.func264,Tryz.ntmps264
 go_wp2;generalize (w.alloc (.cells #[.string a.f,.int .i64 a.what] 295)).alloc (.cells #[.string b.f,.int .i64 b.what] 295)=w1 at *
 go_region_held3 (fun w'=>(w'.cell? ⟨w.heap.size,0,none⟩=some (.string a.f)∧w'.cell? ⟨w.heap.size,1,none⟩=some (.int .i64 a.what)∧w'.cell? ⟨w.heap.size+1,0,none⟩=some (.string b.f)∧w'.cell? ⟨w.heap.size+1,1,none⟩=some (.int .i64 b.what))∧(OwnAt w w' [[.string a.f,.int .i64 a.what],[.string b.f,.int .i64 b.what]]∧w.drawn≤w'.drawn))
  (first | (have ha:=HX0.out.call (Below.refl _ w1).drew;exact ⟨⟨(ha.has 0 _ rfl 0 _ rfl).1,(ha.has 0 _ rfl 1 _ rfl).1,(ha.has 1 _ rfl 0 _ rfl).1,(ha.has 1 _ rfl 1 _ rfl).1⟩,ha,Nat.le_succ_of_le HD0.out⟩) | (have ha:=HX0.out.call ((Below.refl _ w1).alloc aG (.cells #[.int .i64 (Cw a.f b.f),.int .i64 (yO a.what b.what)] 3)).drew;exact ⟨⟨(ha.has 0 _ rfl 0 _ rfl).1,(ha.has 0 _ rfl 1 _ rfl).1,(ha.has 1 _ rfl 0 _ rfl).1,(ha.has 1 _ rfl 1 _ rfl).1⟩,ha,Nat.le_succ_of_le HD0.out⟩) | (exact ‹_∧(OwnAt w _ _∧_)›))
  (first | (go_at_call 275;refine (wQ _ _ _).mono ?_;rintro e w3 ⟨rfl,rfl⟩) | (go_at_call 276;refine (yP _ _ _).mono ?_;rintro e w3 ⟨rfl,rfl⟩) | (go_at_call 274;refine (J2 w1.heap.size (Cw a.f b.f) (yO a.what b.what) _ (by simp [go_sem]) (by simp [go_sem])).mono ?_;rintro e w3 ⟨rfl,rfl⟩))
 all_goals go_wp2
 all_goals go_ret
 all_goals exact ⟨lM HK.out.symm,grow_of (‹_∧(OwnAt w _ _∧_)›).2.1.below (‹_∧(OwnAt w _ _∧_)›).2.2⟩
shelf_lay_g SlLaysF0.n6 Slsf 6 at Tryz 263 as Tryz.sortKeys
theorem qz (p:jl):(gW p).length=2:=rfl
theorem Mq (blk off size:Nat) (w:World):CmpLays Tryz.prog 264 #[] gW 2 cfP blk off size w:=fun m os dk _ x y=>uQ (Kk x) (Kk y) (sortWorldK gW 2 w blk off m dk os)
open Go.RowKit Go.Shelf Go.Lib Go.Sort
theorem oI:∀ (ss:List jl) (t:Nat),(fT ss)[t]?=(ss[t / 2]?).bind fun p=>(gW p)[t % 2]?
 | [],t=>by simp [fT]
 | p::l,0=>rfl
 | p::l,1=>rfl
 | p::l,t+2=>by
  have h1:(t+2) / 2=t / 2+1:=by omega
  have h2:(t+2) % 2=t % 2:=by omega
  rw [h1,h2];have:=oI l t
  simpa [fT,gW] using this
theorem oH (ss:List jl):(fT ss).length=ss.length*2:=by
 induction ss with
 | nil=>rfl
 | cons a l ih=>simp only [fT,List.flatMap_cons,List.length_append] at ih ⊢;rw [ih];simp [gW];omega
theorem flat_get (ss:List jl) (t:Nat) (h:t<ss.length*2):(fT ss)[t]?=some ((flatK gW 2 ss.toArray)[t]!):=by
 rw [oI,get_flatK gW 2 ss.toArray t (by simpa using h)]
 have h1:t / 2<ss.length:=by omega
 have h2:t % 2<(gW (ss[t / 2])).length:=by rw [qz];omega
 rw [List.getElem?_eq_getElem h1,Option.bind_some,List.getElem?_eq_getElem h2]
 congr 1
 have e:ss.toArray[t / 2]! = ss[t / 2]:=by simp [h1]
 rw [e,getElem!_pos (gW (ss[t / 2])) (t % 2) h2]
theorem JI {w:World} {g:Nat} {cur:Array Value} {e:TypeId} {ss:List jl} (hb:w.heap[g]?=some (.cells cur e (0,0))) (ht:cur.toList.take (ss.length*2)=fT ss):HoldsK gW 2 w g 0 ss.toArray:=by
 intro t hs
 have hs':t<ss.length*2:=by simpa using hs
 have h1:=flat_get ss t hs';rw [← ht,List.getElem?_take,if_pos hs'] at h1;refine ⟨?_,?_⟩
 ·simp only [Nat.zero_add,World.cell?,hb,Option.isSome_none,Bool.false_eq_true,if_false,id]
  simpa using h1
 ·exact Lib.frozen_of_heap hb _
theorem Dw (cur:Array Value) (ss:List jl) (h:ss.length*2≤cur.size):(putCells id 0 (flatK gW 2 ss.toArray) cur).toList.take (ss.length*2)=fT ss:=by
 apply List.ext_getElem?
 intro t;rw [List.getElem?_take]
 by_cases ht:t<ss.length*2
 ·rw [if_pos ht,flat_get ss t ht]
  have hc:t<cur.size:=by omega
  simp only [putCells,Array.getElem?_toList,Array.getElem?_mapIdx]
  rw [Array.getElem?_eq_getElem hc,Option.map_some,if_pos ⟨Nat.zero_le _,by simp;omega⟩]
  rfl
 ·rw [if_neg ht,List.getElem?_eq_none (by rw [oH];omega)]
theorem Mw (w:World):Calls Tryz.prog 273 #[.int .u64 0] w fun e w'=>e=.returned (.int .i64 0)∧w'=w:=by
 have h:=Any.bits_Len (SlLaysF0.n15.bits (P:=Tryz.prog) { Tryz.sortKeys with }) (0:Int) w (by omega) (by omega)
 exact h
theorem zK (w:World) (f:Value):Calls Tryz.prog 279 #[.slice none 0 0,.int .i64 0,.int .i64 0,f] w fun e w'=>e=.returned (.tuple #[])∧w'=w:=by
 go_enter Tryz.func279,Tryz.ntmps279
 go_wp2
 go_loopw [8] (fun i wr=>i=.int .i64 1∧wr=w) (fun _ _=>0)
 case atStart=>exact ⟨rfl,rfl⟩
 case round =>
  obtain ⟨rfl,rfl⟩:=hrel;go_wp2
  go_end0
  exact ⟨rfl,rfl⟩
theorem pdq_nil (w:World) (f:Value):Calls Tryz.prog 272 #[.slice none 0 0,.int .i64 0,.int .i64 0,.int .i64 0,f] w fun e w'=>e=.returned (.tuple #[])∧w'=w:=by
 go_enter Tryz.func272,Tryz.ntmps272
 go_wp2
 go_loopw [1,2] (fun a b wr=>a=.int .i64 0∧b=.int .i64 0∧wr=w) (fun _ _ _=>0)
 case atStart=>exact ⟨rfl,rfl,rfl⟩
 case round =>
  obtain ⟨rfl,rfl,rfl⟩:=hrel;go_wp2_with fail;refine (zK _ _).mono ?_;rintro e w1 ⟨rfl,rfl⟩;go_wp2
  exact bodyPost_ret (v:=.tuple #[]) (by simp [results,Tryz.results272,go_sem]) rfl ⟨rfl,rfl⟩
theorem KQ (w:World) (f:Value):Calls Tryz.prog 263 #[.slice none 0 0,f] w fun e w'=>e=.returned (.tuple #[])∧w'=w:=by
 go_enter Tryz.func263,Tryz.ntmps263
 go_wp2_with fail;refine (Mw w).mono ?_;rintro e w1 ⟨rfl,rfl⟩;go_wp2_with fail;refine (pdq_nil w1 f).mono ?_;rintro e w2 ⟨rfl,rfl⟩;go_wp2
 go_end0
 exact ⟨rfl,rfl⟩
theorem Br (ss:List jl) (v:Value) (B:Nat) (w:World) (ho:w.ownsRow B 295 2 v ss.length (fT ss)) (hlen:ss.length≤4194304) :
  Calls Tryz.prog 263 #[v,.func (.func 264) #[] #[]] w fun e w'=>e=.returned (.tuple #[])∧∃ ss':List jl,ss'.Perm ss∧(ss'.Pairwise fun p q=>BL q p=false)∧w'.ownsRow B 295 2 v ss'.length (fT ss')∧w.grownBy w' v.ownBlock:=by
 have ho':=ho;obtain ⟨hl,h⟩:=ho
 rcases h with ⟨rfl,h0⟩ | ⟨g,cap,cur,rfl,hB,hb,hn,hc,hsz,ht⟩
 ·refine (KQ w _).mono ?_
  rintro e w' ⟨rfl,rfl⟩;have:ss=[]:=List.length_eq_zero_iff.1 h0;subst this;exact ⟨rfl,[],List.Perm.nil,List.Pairwise.nil,ho',World.grownBy.refl _ _⟩
 ·have eg:∀ args w,(callFunc 264 args).run Tryz.prog w=.ok (.enter 264 args) w:=enters_of Tryz.func264 (by kernel_rfl) rfl
  have hlt:g<w.heap.size:=(Array.getElem?_eq_some_iff.1 hb).1
  have hcon:=AnyQ.slices_SortFunc Tryz.sortKeys 2 Tryz.isAgg295 Tryz.sizeOf295 gW qz (fun x u hu=>by simp [gW] at hu;rcases hu with rfl | rfl <;> rfl) cfP swoP 264 #[] g 0 cap ss.toArray w eg (Mq g 0 _ w) (JI hb ht) hlt (by simp;omega)
  change Calls Tryz.prog 263 _ _ _ at hcon
  have e0:ss.toArray.size=ss.length:=by simp
  rw [e0] at hcon;refine hcon.mono ?_;rintro e w' ⟨rfl,d',n,os,⟨hs',_,hp⟩,hso,rfl⟩
  have hsz':d'.toList.length=ss.length:=by simpa using hs'
  have hd:d'=d'.toList.toArray:=by simp
  have hx1:(d'.extract 0 ss.length).toList=d'.toList:=by rw [show ss.length=d'.size by simpa using hs'.symm];simp
  have hx2:(ss.toArray.extract 0 ss.length).toList=ss:=by simp
  rw [hx1,hx2] at hp;refine ⟨rfl,d'.toList,hp,?_,?_,?_⟩
  ·rw [List.pairwise_iff_getElem]
   intro i j hi hj hij
   have:=hso i j (Nat.zero_le _) hij (by rw [← hsz'];exact hj)
   rw [Ip] at this
   have e1:d'[j]! = d'.toList[j]:=by rw [getElem!_pos d' j (by simpa using hj)];simp
   have e2:d'[i]! = d'.toList[i]:=by rw [getElem!_pos d' i (by simpa using hi)];simp
   rw [e1,e2] at this;exact this
  ·refine ⟨oH _,.inr ⟨g,cap,putCells id 0 (flatK gW 2 d'.toList.toArray) cur,by rw [hsz'],hB,?_,by omega,hc,by simp [putCells,hsz],?_⟩⟩
   ·rw [← hd]
    simp only [sortWorldK,grow,putRowK,putRow,mapBlock,Sort.ahead]
    rw [Array.getElem?_append_left (by simpa using hlt),Array.getElem?_modify,if_pos rfl,hb]
    rfl
   ·exact Dw cur d'.toList (by rw [hsz',hsz];exact Nat.mul_le_mul_right 2 hn)
  ·refine ⟨rfl,rfl,rfl,by simp [sortWorldK,grow,putRowK,putRow,mapBlock,Sort.ahead],fun k hk hne=>?_⟩
   simp only [sortWorldK,grow,putRowK,putRow,mapBlock,Sort.ahead]
   have hne':¬ g=k:=fun e=>hne (by rw [e];rfl)
   rw [Array.getElem?_append_left (by simpa using hk),Array.getElem?_modify,if_neg hne']
end Go.Proofs.YtcmgddnckohdaaaGreatDoor
namespace Go.Proofs.YtcmgddnckohdaaaGreatDoor
open Go.RowKit
def ll (c:dP):jl:=(c.f,c.what)
theorem vB:∀ (a b:List jl),a.Nodup→b.Nodup→(∀ p,p∈a ↔ p∈b)→a.Perm b
 | [],b,_,_,h=>by
  have:b=[]:=List.eq_nil_iff_forall_not_mem.2 fun p hp=>by have:=(h p).2 hp;simp at this
  rw [this]
 | x::a,b,ha,hb,h=>by
  have hx:x∈b:=(h x).1 (by simp)
  rw [List.nodup_cons] at ha;obtain ⟨s,t,rfl⟩:=List.append_of_mem hx;have hb':(x::(s++t)).Nodup:=(List.perm_middle.nodup_iff).1 hb;rw [List.nodup_cons] at hb';refine List.Perm.trans (List.Perm.cons x (vB a (s++t) ha.2 hb'.2 fun p=>?_)) List.perm_middle.symm;have hp:=h p
  simp only [List.mem_cons,List.mem_append] at hp ⊢
  by_cases e:p=x
  ·subst e
   simp only [List.mem_append] at hb'
   exact ⟨fun h1=>absurd h1 ha.1,fun h1=>absurd h1 hb'.1⟩
  ·simp only [e,false_or] at hp
   exact hp
theorem Ez {S:List dP} (h:gF S):(S.map ll).Pairwise fun p q=>BL q p=false:=by
 rw [List.pairwise_map];refine List.Pairwise.imp ?_ h;intro a b hab
 cases hq:BL (ll b) (ll a) with
 | false=>rfl
 | true =>
  have h1:BL (ll a) (ll b)=true:=hab;have:=uF h1 hq;rw [qQ] at this;cases this
theorem GD {S:List dP} (h:gF S):(S.map ll).Nodup:=by
 unfold List.Nodup;rw [List.pairwise_map];refine List.Pairwise.imp ?_ h;intro a b hab e;have h1:BL (ll a) (ll b)=true:=hab;rw [e,qQ] at h1;cases h1
theorem wX (b n:Nat) (S:List dP) (w:World) (h:jh w b n S) (hS:gF S) (hfit:∀ c∈S,iN c) (hn:n≤4194304) :
  Calls Tryz.prog 257 #[.map (some b)] w fun e w'=>∃ v,e=.returned v∧w'.ownsRow w.heap.size 295 2 v S.length (fT (S.map ll))∧Below w.heap.size w w':=by
 obtain ⟨i0,hi,hz0,hz1,hz2⟩:=info_parts infoKey;obtain ⟨D,hown,hD,hat⟩:=h;have HH:Hid (∀ k:dP,iN k→Maps.has D (vR k.f k.what)=S.any fun a=>eX a k):=fun k hk=>jh.has hat k hk;clear hat
 go_enter Tryz.func257,Tryz.ntmps257
 go_wp2_with (first
  | (at_range;refine wpList_range_own _ rfl _ 291 rfl 295 67 qX Tryz.underlying291 _ b n _ rfl hown ?_;intro w0 hrg0 hg0 hs0)
  | go_in)
 go_frame
 go_loopw [3,4] (fun o _ wr=>∃ (ss:List jl) (left:Lit→Bool) (cnt:Nat),wr.ranges Tryz.prog 295 RF b w.heap.size n D left cnt∧wr.ownsRow w.heap.size 295 2 o ss.length (fT ss)∧Below w.heap.size w wr∧tX D left ss∧ss.length+cnt≤n) (fun _ _ wr=>wr.rangeLeft b w.heap.size)
 case atStart=>exact ⟨[],_,_,hrg0,⟨rfl,.inl ⟨rfl,rfl⟩⟩,⟨hg0.os,hg0.tape,hg0.output,hg0.size,fun k hk=>hg0.block k hk (by simp)⟩,tX.start D,by simpa using size_le hown⟩
 case round =>
  obtain ⟨ss,left,cnt,hrg,ho,hbl,Az,hcn⟩:=hrel
  go_wp2_with (first
   | (at_next;refine wpList_next_ranges _ rfl _ rfl 295 qX RF keyV (fun f:fI=>Value.agg #[.int .i64 f.what,.int .i64 f.num,.string f.v]) (fun key kl hk=>by obtain ⟨f,n,rfl,_⟩:=Au hk;exact ⟨(f,n),rfl⟩) MJ b w.heap.size n _ _ _ rfl hrg ?_ ?_)
   | go_in)
  ·intro _ hl0
   have HC:Hid (∀ p:jl,CK p→(p∈ss ↔ ∃ c∈S,c.f=p.1∧c.what=p.2)):=fun p hp=>by
    rw [Az.2.2 p hp,hl0,HH.out ⟨p.1,p.2,0,⟨#[]⟩⟩ hp]
    simp [eX]
   have HO:Hid (ss.Nodup∧(∀ p∈ss,CK p)∧wr.ownsRow w.heap.size 295 2 u3 ss.length (fT ss)∧Below w.heap.size w wr):=⟨Az.1,Az.2.1,ho,hbl⟩;clear hrg ho hbl Az hrg0 hown hl0 hg0
   have HP:Hid (ss.Perm (S.map ll)):=vB _ _ HO.out.1 (GD hS) fun p=>⟨fun hp=>by
     obtain ⟨c,hc,h1,h2⟩:=(HC.out p (HO.out.2.1 p hp)).1 hp
     exact List.mem_map.2 ⟨c,hc,Prod.ext h1 h2⟩,fun hp=>by
     obtain ⟨c,hc,rfl⟩:=List.mem_map.1 hp
     exact (HC.out (ll c) (show CK (ll c) from hfit c hc)).2 ⟨c,hc,rfl,rfl⟩⟩
   have hlen:ss.length≤4194304:=by omega
   go_wp2_with fail;refine (Br ss u3 w.heap.size wr HO.out.2.2.1 hlen).mono ?_;rintro e w1 ⟨rfl,ss',hp',hs',ho',hg'⟩;have HE:Hid (ss'=S.map ll):=Gc (hp'.trans HP.out) hs' (Ez hS)
   have HF:Hid (w1.ownsRow w.heap.size 295 2 u3 S.length (fT (S.map ll))∧Below w.heap.size w w1):=by
    have h1:=ho';rw [HE.out,List.length_map] at h1;exact ⟨h1,HO.out.2.2.2.grown hg' HO.out.2.2.2.size (aw HO.out.2.2.1)⟩
   clear hp' hs' ho' hg';go_wp2;go_ret;exact ⟨_,rfl,HF.out.1,HF.out.2⟩
  ·intro pf pn f kl y1 y2 w1 cnt1 hkey hlk hv hat hrg1 hlt hg1 hs1 hen
   obtain ⟨f',n',hpe,hp1,hp2,rfl⟩:=Au hkey
   simp only [keyV,Value.agg.injEq,Array.mk.injEq,List.cons.injEq,Value.string.injEq,Value.int.injEq,and_true,true_and] at hpe
   obtain ⟨rfl,rfl⟩:=hpe;dsimp only [keyV] at *;have hfp:CK (pf,pn):=⟨hp1,hp2⟩;have HCO:Hid (tX D (fun z=>left z&&!z.sameKey (vR pf pn)) (ss++[(pf,pn)])):=tX.step (p:=(pf,pn)) Az hfp hlk (Maps.has_true_of_atKey (y:=y1) hat);have ho1:w1.ownsRow w.heap.size 295 2 u3 ss.length (fT ss):=ar ho hg1 (fun k hk=>(xm hrg ho k hk).1)
   have hbl1:Below w.heap.size w w1:=hbl.grown hg1 hbl.size (fun k e=>by cases e;exact Nat.le_refl _)
   have HRG:Hid (w1.ranges Tryz.prog 295 RF b w.heap.size n D (fun z=>left z&&!z.sameKey (vR pf pn)) cnt1):=hrg1;have hms:wr.rangeLeft b w.heap.size=cnt:=hrg.left_eq
   have HRB:Hid (∀ k,u3.ownBlock=some k→w.heap.size<k∧k≠b):=fun k hk=>by
    have h1:=xm hrg ho k hk;have h2:=aw ho k hk
    refine ⟨?_,fun e=>h1.2 (by rw [e])⟩
    have h3:k≠w.heap.size:=fun e=>h1.1 (by rw [e])
    omega
   have hsz1:=hbl1.size;clear hrg hrg1 Az ho hbl hg1 hat hv hkey hlk hrg0 hg0 hown;clear hs1
   have hcn1:ss.length+1+cnt1≤n:=by omega
   have hl4:ss.length≤4194304:=by omega
   have kQ:Hid (∀ k,u3.ownBlock=some k→w.heap.size<k∧k≠b):=HRB.out
   have qE:Hid (∀ (j:Nat) (u:Value),(gW (pf,pn))[j]?=some u→((w1.alloc (.cells #[.string pf,.int .i64 pn] 295)).alloc (.cells #[.string pf,.int .i64 pn] 295)).cell? ((⟨w1.heap.size+1,0,none⟩:Addr).add j)=some u):=by
    have h:=cell_two_new (w1.alloc (.cells #[.string pf,.int .i64 pn] 295)) (.string pf) (.int .i64 pn) 295;rw [World.size_alloc] at h;exact h
   go_wp2_with (at_builtin;refine wpList_append_own _ rfl _ _ 319 rfl w.heap.size 295 i0 (.agg #[.string ByteArray.empty,.int .i64 0]) 2 24 Tryz.underlying319 hi hz0 hz1 hz2 rfl (by decide) _ _ _ rfl ((ho1.alloc _).alloc _) ⟨w1.heap.size+1,0,none⟩ 1 1 (gW (pf,pn)) rfl rfl qE.out (fun x hx=>by simp [gW] at hx;rcases hx with rfl | rfl <;> rfl) (by unfold maxLen;omega) (by omega) (by simp;omega) ?_;intro v' w3 hown' hgrow3 hnil3)
   have hgr:((w1.alloc (.cells #[.string pf,.int .i64 pn] 295)).alloc (.cells #[.string pf,.int .i64 pn] 295)).grownBy w3 u3.ownBlock:=hgrow3;have hrg3:=((HRG.out.alloc (.cells #[.string pf,.int .i64 pn] 295)).alloc (.cells #[.string pf,.int .i64 pn] 295)).kept hgr (fun e=>(kQ.out b e.symm).2 rfl) (fun e=>Nat.lt_irrefl _ (kQ.out _ e.symm).1)
   refine ⟨⟨ss++[(pf,pn)],_,cnt1,hrg3,?_,?_,HCO.out,by simp;omega⟩,by rw [hrg3.left_eq,hms];exact hlt⟩
   ·rw [Ca,List.length_append]
    exact hown'
   ·exact ((hbl1.alloc hsz1 _).alloc (by simp;omega) _).grown hgr (by simp;omega) (fun k hk=>Nat.le_of_lt (kQ.out k hk).1)
open Go.RowKit
abbrev eD:=dU×Value
def gu (p:eD):List Value:=[.string p.1.name,p.2]
def dw (l:List eD):List Value:=l.flatMap gu
theorem ci (l:List eD) (p:eD):dw (l++[p])=dw l++gu p:=by simp [dw]
theorem aW (l:List eD):(dw l).length=l.length*2:=by
 induction l with
 | nil=>rfl
 | cons a l ih=>simp only [dw,List.flatMap_cons,List.length_append] at ih ⊢;rw [ih];simp [gu];omega
def di (l:List fI):List Value:=l.flatMap dL
theorem Ck (l:List fI) (f:fI):di (l++[f])=di l++dL f:=by simp [di]
theorem Cc:(Tryz.prog.info? 65).map (fun i=>(i.zero,i.size,i.bytes))=some (some (.agg #[.string ByteArray.empty,.slice none 0 0]),2,40):=by kernel_rfl
theorem Cb:(Tryz.prog.info? 67).map (fun i=>(i.zero,i.size,i.bytes))=some (some (.agg #[.int .i64 0,.int .i64 0,.string ByteArray.empty]),3,32):=by kernel_rfl
theorem bD {w:World} {base:Nat} {e:TypeId} {size:Nat} {v:Value} {n:Nat} {xs:List Value} (h:w.ownsRow base e size v n xs):∀ k,v.ownBlock=some k→k<w.heap.size:=by
 intro k hk
 rcases h.2 with ⟨rfl,_⟩ | ⟨g,cap,cur,rfl,_,hc,_⟩
 ·cases hk
 ·cases hk;exact (Array.getElem?_eq_some_iff.1 hc).1
structure dG (w:World) (B:Nat) (o:Value) (l:List eD):Prop where
 row:w.ownsRow B 65 2 o l.length (dw l)
 iL:∀ p∈l,w.ownsRow B 67 3 p.2 p.1.fs.length (di p.1.fs)
 apart:l.Pairwise fun p q=>∀ k,p.2.ownBlock=some k→q.2.ownBlock≠some k
theorem dG.nil (w:World) (B:Nat):dG w B (.slice none 0 0) []:=⟨⟨rfl,.inl ⟨rfl,rfl⟩⟩,(fun p h=>by cases h),List.Pairwise.nil⟩
theorem dG.keep {w w':World} {B:Nat} {o:Value} {l:List eD} (h:dG w B o l) (hb:Below w.heap.size w w'):dG w' B o l :=
 ⟨ah h.row hb,fun p hp=>ah (h.iL p hp) hb,h.apart⟩
theorem dG.push {w2 w3:World} {B:Nat} {o o':Value} {l:List eD} {n:ByteArray} {ob:Obj} (h:dG w2 B o l) (hown:w3.ownsRow B 65 2 o' (l.length+1) (dw l++[.string n,.slice none 0 0])) (hg:(w2.alloc ob).grownBy w3 o.ownBlock):dG w3 B o' (l++[(⟨n,[]⟩,.slice none 0 0)]):=by
 refine ⟨?_,fun p hp=>?_,?_⟩
 ·rw [ci,List.length_append];exact hown
 ·rcases List.mem_append.1 hp with hp | hp
  ·exact ar (ah (h.iL p hp) ((Below.refl _ _).alloc aG ob)) hg (aN h.row (h.iL p hp) (by decide))
  ·simp at hp;subst hp;exact ⟨rfl,.inl ⟨rfl,rfl⟩⟩
 ·rw [List.pairwise_append]
  exact ⟨h.apart,by simp,fun p _ q hq k _=>by simp at hq;subst hq;simp [Value.ownBlock]⟩
theorem dG.last {w:World} {B:Nat} {o:Value} {l:List eD} {e:dU} {fv:Value} (h:dG w B o (l++[(e,fv)])):∃ g cap,o=.slice (some ⟨g,0,none⟩) (l.length+1) cap∧w.cell? ⟨g,l.length*2,none⟩=some (.string e.name)∧w.cell? ⟨g,l.length*2+1,none⟩=some fv∧w.frozen? ⟨g,l.length*2+1,none⟩=false∧l.length+1≤cap∧cap≤maxLen:=by
 rcases h.row.2 with ⟨_,h0⟩ | ⟨g,cap,cur,rfl,_,hb,hn,hc,hs,ht⟩
 ·simp at h0
 ·have hlen:(l++[(e,fv)]).length=l.length+1:=by simp
  rw [hlen] at ht hn ⊢
  have hx:∀ j,j<2→cur.toList[l.length*2+j]?=[Value.string e.name,fv][j]?:=fun j hj=>by
   have h1:(cur.toList.take ((l.length+1)*2))[l.length*2+j]?=cur.toList[l.length*2+j]?:=by
    rw [List.getElem?_take,if_pos (by omega)]
   rw [← h1,ht,ci,List.getElem?_append_right (by rw [aW];omega),aW,Nat.add_sub_cancel_left]
   rfl
  have x0:=hx 0 (by omega)
  have x1:=hx 1 (by omega)
  simp only [Nat.add_zero] at x0
  refine ⟨g,cap,rfl,?_,?_,Lib.frozen_of_heap hb _,hn,hc⟩
  ·simp only [World.cell?,hb,Option.isSome_none,Bool.false_eq_true,if_false]
   simpa using x0
  ·simp only [World.cell?,hb,Option.isSome_none,Bool.false_eq_true,if_false]
   simpa using x1
theorem set_end {α:Type} (L:List α) (a b x:α):(L++[a,b]).set (L.length+1) x=L++[a,x]:=by
 rw [List.set_append_right _ _ (by omega)]
 simp
theorem dG.more {w2 w3:World} {B H:Nat} {g cap n fg lK:Nat} {l:List eD} {e:dU} {fv:Value} {f:fI} {ob:Obj} (h:dG w2 B (.slice (some ⟨g,0,none⟩) n cap) (l++[(e,fv)])) (hown:w3.ownsRow B 67 3 (.slice (some ⟨fg,0,none⟩) (e.fs.length+1) lK) (e.fs.length+1) (di e.fs++dL f)) (hg:(w2.alloc ob).grownBy w3 fv.ownBlock) (hat:fv.ownBlock=some fg∨fg=H) (hH:w2.heap.size≤H) :
  dG (w3.setCell ⟨g,l.length*2+1,none⟩ (.slice (some ⟨fg,0,none⟩) (e.fs.length+1) lK)) B (.slice (some ⟨g,0,none⟩) n cap) (l++[(⟨e.name,e.fs++[f]⟩,.slice (some ⟨fg,0,none⟩) (e.fs.length+1) lK)]):=by
 have hfl:=h.iL (e,fv) (by simp)
 have hb1:Below w2.heap.size w2 (w2.alloc ob):=(Below.refl _ _).alloc aG ob
 have hrow3:w3.ownsRow B 65 2 (.slice (some ⟨g,0,none⟩) n cap) (l++[(e,fv)]).length (dw (l++[(e,fv)])):=ar (ah h.row hb1) hg (aN hfl h.row (by decide))
 have gs:=aQ w3 g (l.length*2+1) (.slice (some ⟨fg,0,none⟩) (e.fs.length+1) lK)
 have hne:∀ (p:eD),w3.ownsRow B 67 3 p.2 p.1.fs.length (di p.1.fs)→∀ k,p.2.ownBlock=some k→some k≠some g:=fun p hp=>aN hrow3 hp (by decide)
 have hap:=List.pairwise_append.1 h.apart;refine ⟨?_,fun p hp=>?_,?_⟩
 ·obtain ⟨h1,h2⟩:=hrow3
  rcases h2 with ⟨h2,_⟩ | ⟨g',cap',cur,hv,hB,hb,hn,hc,hs,ht⟩
  ·cases h2
  ·cases hv
   have hlen:∀ x:eD,(l++[x]).length=l.length+1:=fun x=>by simp
   rw [hlen] at h1 hn ht
   refine ⟨by rw [aW],.inr ⟨g,cap,cur.setIfInBounds (l.length*2+1) (.slice (some ⟨fg,0,none⟩) (e.fs.length+1) lK),by simp,hB,?_,by rw [hlen];exact hn,hc,by simpa using hs,?_⟩⟩
   ·rw [Sort.setCell_eq]
    simp only [Sort.mapBlock,Array.getElem?_modify,if_true,hb,Option.map_some,Sort.onCells]
   ·rw [hlen,Array.toList_setIfInBounds,List.take_set,ht,ci,ci]
    have:=set_end (dw l) (.string e.name) fv (.slice (some ⟨fg,0,none⟩) (e.fs.length+1) lK);rw [aW] at this;exact this
 ·rcases List.mem_append.1 hp with hp | hp
  ·have hp2:=h.iL p (List.mem_append_left _ hp)
   have hp3:w3.ownsRow B 67 3 p.2 p.1.fs.length (di p.1.fs):=ar (ah hp2 hb1) hg (fun k hk ee=>(hap.2.2 p hp (e,fv) (by simp) k hk) ee.symm)
   exact ar hp3 gs (hne p hp3)
  ·simp at hp;subst hp
   have h3:w3.ownsRow B 67 3 (.slice (some ⟨fg,0,none⟩) (e.fs.length+1) lK) (e.fs++[f]).length (di (e.fs++[f])):=by
    rw [Ck,List.length_append];exact hown
   exact ar h3 gs (hne (⟨e.name,e.fs++[f]⟩,_) h3)
 ·rw [List.pairwise_append]
  refine ⟨hap.1,by simp,fun p hp q hq k hk=>?_⟩
  simp at hq;subst hq
  show some fg≠some k
  intro ee
  injection ee with ee
  subst ee
  rcases hat with hat | hat
  ·exact hap.2.2 p hp (e,fv) (by simp) _ hk hat
  ·have:=bD (h.iL p (List.mem_append_left _ hp)) _ hk
   omega
def tV (w:World) (B:Nat) (o:Value) (es:List dU):Prop:=∃ l:List eD,l.map (·.1)=es∧dG w B o l
open Go.RowKit
theorem getF_at {S:List dP} {c:dP} (hS:gF S) (hc:c∈S):sO S c=dZ c:=by
 unfold sO
 have:S.find? (fun a=>eX a c)=some c:=by
  induction S with
  | nil=>cases hc
  | cons a l ih =>
   have h':=List.pairwise_cons.1 hS
   rcases List.mem_cons.1 hc with rfl | hc
   ·simp [yo]
   ·rw [List.find?_cons,cr (h'.1 c hc)]
    exact ih h'.2 hc
 rw [this]
theorem MF {S:List dP} {k:Nat} (h:k<S.length):(S.take (k+1)).foldl gN []=gN ((S.take k).foldl gN []) (j6 S k):=by
 have:S[k]=j6 S k:=by simp [j6,h]
 rw [List.take_succ_eq_append_getElem h,List.foldl_append,this];rfl
theorem JB {w:World} {B:Nat} {v:Value} {S:List dP} (h:w.ownsRow B 295 2 v S.length (fT (S.map ll))) (k:Nat) (hk:k<S.length):∃ g cap,v=.slice (some ⟨g,0,none⟩) S.length cap∧w.cell? ⟨g,k*2,none⟩=some (.string (j6 S k).f)∧w.cell? ⟨g,k*2+1,none⟩=some (.int .i64 (j6 S k).what):=by
 rcases h.2 with ⟨_,h0⟩ | ⟨g,cap,cur,rfl,_,hb,hn,hc,hs,ht⟩
 ·omega
 ·have hx:∀ j,j<2→cur.toList[k*2+j]?=(gW (ll (j6 S k)))[j]?:=fun j hj=>by
   have h1:(cur.toList.take (S.length*2))[k*2+j]?=cur.toList[k*2+j]?:=by
    rw [List.getElem?_take,if_pos (by omega)]
   have e1:(k*2+j) / 2=k:=by omega
   have e2:(k*2+j) % 2=j:=by omega
   rw [← h1,ht,oI,e1,e2,List.getElem?_map,pM hk]
   rfl
  have x0:=hx 0 (by omega)
  have x1:=hx 1 (by omega)
  simp only [Nat.add_zero] at x0
  refine ⟨g,cap,rfl,?_,?_⟩
  ·simp only [World.cell?,hb,Option.isSome_none,Bool.false_eq_true,if_false]
   simpa [gW,ll] using x0
  ·simp only [World.cell?,hb,Option.isSome_none,Bool.false_eq_true,if_false]
   simpa [gW,ll] using x1
theorem MH (es:List dU) (c:dP):(gN es c).length≤es.length+1:=by
 rcases List.eq_nil_or_concat es with rfl | ⟨l,e,rfl⟩
 ·rw [mU (fun e he=>by simp at he)];simp
 ·rw [List.concat_eq_append]
  by_cases h:e.name=c.f
  ·rw [pW h];simp
  ·rw [mU (fun e' he=>by simp at he;rw [← he];exact h)];simp
theorem EO:∀ (L:List dP) (es:List dU),(L.foldl gN es).length≤es.length+L.length
 | [],es=>Nat.le_refl _
 | c::L,es=>by
  have h1:=EO L (gN es c);have h2:=MH es c
  simp only [List.foldl_cons,List.length_cons]
  omega
theorem addE_fs (es:List dU) (c:dP) (M:Nat) (h:∀ e∈es,e.fs.length≤M):∀ e∈gN es c,e.fs.length≤M+1:=by
 rcases List.eq_nil_or_concat es with rfl | ⟨l,e0,rfl⟩
 ·rw [mU (fun e he=>by simp at he)]
  intro e he
  simp at he;subst he;simp
 ·rw [List.concat_eq_append] at h ⊢
  by_cases hn:e0.name=c.f
  ·rw [pW hn]
   intro e he
   rcases List.mem_append.1 he with he | he
   ·have:=h e (List.mem_append_left _ he);omega
   ·simp at he;subst he
    have:=h e0 (by simp)
    simp;exact this
  ·rw [mU (fun e' he=>by simp at he;rw [← he];exact hn)]
   intro e he
   rcases List.mem_append.1 he with he | he
   ·have:=h e he;omega
   ·simp at he;subst he;simp
theorem IL:∀ (L:List dP) (es:List dU) (M:Nat),(∀ e∈es,e.fs.length≤M)→∀ e∈L.foldl gN es,e.fs.length≤M+L.length
 | [],es,M,h=>h
 | c::L,es,M,h=>fun e he=>by
  have:=IL L (gN es c) (M+1) (addE_fs es c M h) e he
  simp only [List.length_cons]
  omega
structure EL (w wr:World) (kv:Value) (S:List dP) (o:Value) (k:Nat):Prop where
 below:Below w.heap.size w wr
 keys:wr.ownsRow w.heap.size 295 2 kv S.length (fT (S.map ll))
 nH:tV wr w.heap.size o ((S.take k).foldl gN [])
structure EM (w wr:World) (kv:Value) (S:List dP) (o:Value) (l:List eD) (e:dU) (fv:Value):Prop where
 below:Below w.heap.size w wr
 keys:wr.ownsRow w.heap.size 295 2 kv S.length (fT (S.map ll))
 nH:dG wr w.heap.size o (l++[(e,fv)])
theorem EM.call {w wr wy:World} {kv o fv:Value} {S:List dP} {l:List eD} {e:dU} (h:EM w wr kv S o l e fv) (hb:Below wr.heap.size wr wy):EM w wy kv S o l e fv :=
 ⟨aa h.below hb,ah h.keys hb,h.nH.keep hb⟩
theorem EM.push {w w2 w3:World} {kv o o':Value} {S:List dP} {l:List eD} {n:ByteArray} {ob:Obj} (hb:Below w.heap.size w w2) (hk:w2.ownsRow w.heap.size 295 2 kv S.length (fT (S.map ll))) (h:dG w2 w.heap.size o l) (hown:w3.ownsRow w.heap.size 65 2 o' (l.length+1) (dw l++[.string n,.slice none 0 0])) (hg:(w2.alloc ob).grownBy w3 o.ownBlock):EM w w3 kv S o' l ⟨n,[]⟩ (.slice none 0 0) :=
 ⟨(hb.alloc hb.size ob).grown hg (by simp;have:=hb.size;omega) (aw h.row),ar (ah hk ((Below.refl _ _).alloc aG ob)) hg (aN h.row hk (by decide)),h.push hown hg⟩
theorem EM.next {w w2 w3:World} {kv:Value} {S:List dP} {g cap n fg lK H k:Nat} {l:List eD} {e:dU} {fv:Value} {f:fI} {ob:Obj} (h:EM w w2 kv S (.slice (some ⟨g,0,none⟩) n cap) l e fv) (hown:w3.ownsRow w.heap.size 67 3 (.slice (some ⟨fg,0,none⟩) (e.fs.length+1) lK) (e.fs.length+1) (di e.fs++dL f)) (hg:(w2.alloc ob).grownBy w3 fv.ownBlock) (hat:fv.ownBlock=some fg∨fg=H) (hH:w2.heap.size≤H) (hs:l.map (·.1)++[⟨e.name,e.fs++[f]⟩]=(S.take (k+1)).foldl gN []) :
  EL w (w3.setCell ⟨g,l.length*2+1,none⟩ (.slice (some ⟨fg,0,none⟩) (e.fs.length+1) lK)) kv S (.slice (some ⟨g,0,none⟩) n cap) (k+1):=by
 have hfl:=h.nH.iL (e,fv) (by simp)
 have hb3:Below w.heap.size w w3:=(h.below.alloc h.below.size ob).grown hg (by simp;have:=h.below.size;omega) (aw hfl)
 have hge:w.heap.size≤g:=aw h.nH.row g rfl
 have hk3:w3.ownsRow w.heap.size 295 2 kv S.length (fT (S.map ll)):=ar (ah h.keys ((Below.refl _ _).alloc aG ob)) hg (aN hfl h.keys (by decide))
 have hr3:w3.ownsRow w.heap.size 65 2 (.slice (some ⟨g,0,none⟩) n cap) (l++[(e,fv)]).length (dw (l++[(e,fv)])):=ar (ah h.nH.row ((Below.refl _ _).alloc aG ob)) hg (aN hfl h.nH.row (by decide))
 refine ⟨hb3.setCell (p:=⟨g,l.length*2+1,none⟩) hge _,ar hk3 (aQ w3 g (l.length*2+1) _) (aN hr3 hk3 (by decide)),_,?_,h.nH.more hown hg hat hH⟩
 rw [← hs,List.map_append];rfl
theorem MG {l:List eD} {e:dU} {fv:Value} {es:List dU} {c:dP} (h:(l++[(e,fv)]).map (·.1)=es) (hn:e.name=c.f):l.map (·.1)++[⟨e.name,e.fs++[dZ c]⟩]=gN es c:=by
 rw [← h,List.map_append];exact (pW hn).symm
theorem yZ {l:List eD} {es:List dU} {c:dP} (h:l.map (·.1)=es) (hn:∀ e,es.getLast?=some e→e.name≠c.f):l.map (·.1)++[⟨c.f,[]++[dZ c]⟩]=gN es c:=by
 rw [h];exact (mU hn).symm
theorem zL (b n:Nat) (S:List dP) (w:World) (h:jh w b n S) (hS:gF S) (hfit:∀ c∈S,iN c) (hsm:∀ c∈S,c.f.size≤1048576∧c.v.size≤1048576) (hn:n≤4194304) (hl:S.length≤4194304) (hbw:b<w.heap.size) :
  Calls Tryz.prog 240 #[.map (some b)] w fun e w'=>∃ o,e=.returned o∧tV w' w.heap.size o (S.foldl gN [])∧Below w.heap.size w w':=by
 obtain ⟨i0,hi,hz0,hz1,hz2⟩:=info_parts Cc;obtain ⟨j0,hj,jz0,jz1,jz2⟩:=info_parts Cb;have HM:Hid (jh w b n S):=h;have HF:Hid (∀ c∈S,iN c):=hfit;have MN:Hid (∀ c∈S,c.f.size≤1048576∧c.v.size≤1048576):=hsm;have dK:Hid (gF S):=hS;clear h hfit hsm hS
 go_enter Tryz.func240,Tryz.ntmps240
 go_wp2_with fail;refine (wX b n S _ HM.out dK.out HF.out hn).mono ?_;rintro e w1 ⟨kv,rfl,hk1,hb1⟩;have Ho:Hid (EL w w1 kv S (.slice none 0 0) 0):=⟨hb1,hk1,[],rfl,dG.nil _ _⟩
 obtain ⟨ka,kc,rfl⟩:∃ ka kc,kv=.slice ka S.length kc:=by
  rcases hk1.2 with ⟨rfl,h0⟩ | ⟨g,cap,cur,rfl,_⟩
  ·exact ⟨none,0,by rw [h0]⟩
  ·exact ⟨_,cap,rfl⟩
 clear hk1 hb1;go_wp2
 go_loopw [3,12] (fun o i wr=>∃ k:Nat,k≤S.length∧i=.int .i64 k∧EL w wr (.slice ka S.length kc) S o k) (fun _ i _=>S.length-(intOf i).toNat)
 case atStart=>exact ⟨0,Nat.zero_le _,rfl,Ho.out⟩
 case round =>
  clear Ho;obtain ⟨k,hk,rfl,JN⟩:=hrel
  by_cases hlt:k<S.length
  ·obtain ⟨kg,kcap,hkv,d0,d1⟩:=JB JN.keys k hlt
   cases hkv
   have HC:=List.mem_of_getElem? (pM hlt);have HQ:Hid (iN (j6 S k)∧sO S (j6 S k)=dZ (j6 S k)):=⟨HF.out _ HC,getF_at dK.out HC⟩;have hcs:=(MN.out _ HC).1;have hcv:=(MN.out _ HC).2;have HST:Hid ((S.take (k+1)).foldl gN []=gN ((S.take k).foldl gN []) (j6 S k)):=MF hlt
   have HMR:Hid (jh wr b n S):=HM.out.kept (row:=none) ⟨JN.below.os,JN.below.tape,JN.below.output,JN.below.size,fun j hj _=>JN.below.block j hj⟩ (by simp)
   clear HC;generalize j6 S k=c at *;obtain ⟨l,hle,hP⟩:=JN.nH
   have hk0:(0:Int)≤(k:Int):=by omega
   have hk1:(k:Int)<(S.length:Int):=by omega
   have M0:Hid (Below w.heap.size w wr∧wr.ownsRow w.heap.size 295 2 (.slice (some ⟨kg,0,none⟩) S.length kc) S.length (fT (S.map ll))):=⟨JN.below,JN.keys⟩
   have hll:l.length≤4194304:=by
    have:l.length=((S.take k).foldl gN []).length:=by rw [← hle,List.length_map]
    rw [this];refine Nat.le_trans (EO _ _) ?_
    simp;omega
   have BA:Hid (Below wr.heap.size wr (wr.alloc (.cells #[.string c.f,.int .i64 c.what] 295))):=(aM);have XA:Hid ((wr.alloc (.cells #[.string c.f,.int .i64 c.what] 295)).heap[wr.heap.size]?=some (.cells #[.string c.f,.int .i64 c.what] 295)):=am wr _;clear JN
   have HOL:Hid (∃ oa oc,u3=.slice oa l.length oc):=by
    rcases hP.row.2 with ⟨rfl,h0⟩ | ⟨g,cap,cur,rfl,_⟩
    ·exact ⟨none,0,by rw [h0]⟩
    ·exact ⟨_,cap,rfl⟩
   obtain ⟨oa,oc,rfl⟩:=HOL.out;clear HOL;have HPP:Hid (dG wr w.heap.size (.slice oa l.length oc) l):=hP;have HLE:Hid (l.map (·.1)=(S.take k).foldl gN []):=hle;clear hP hle
   rcases List.eq_nil_or_concat l with hnil | ⟨l',⟨e,fv⟩,hcon⟩
   ·have hw0:IntKind.i64.wrap ((l.length:Int)-1)=-1:=by rw [hnil];rfl
    have HAD:Hid (l.map (·.1)++[⟨c.f,[]++[dZ c]⟩]=(S.take (k+1)).foldl gN []):=by
     show _=_
     rw [HST.out]
     exact yZ HLE.out fun e he=>by rw [← HLE.out,hnil] at he;simp at he
    clear hnil HLE
    go_upto_region 6 with fail
    clear hw0
    go_quiet (fail)
    go_wp2_with fail;refine (jm c.f _ hcs).mono ?_;rintro e1 w2 ⟨rfl,hb2'⟩;have hb2:Below wr.heap.size wr w2:=aa BA.out ⟨hb2'.os,hb2'.tape,hb2'.output,hb2'.size,hb2'.block⟩
    have X2:w2.heap[wr.heap.size]?=some (.cells #[.string c.f,.int .i64 c.what] 295):=(hb2'.block _ (by simp)).trans XA.out
    have ho2:=HPP.out.keep hb2;have hzw2:=(aa M0.out.1 hb2).size;have MR:Hid (∀ (j:Nat) (u:Value),[Value.string c.f,.slice none 0 0][j]?=some u→(w2.alloc (.cells #[.string c.f,.slice none 0 0] 65)).cell? ((⟨w2.heap.size,0,none⟩:Addr).add j)=some u):=cell_two_new w2 _ _ _
    go_upto_region 8 with (at_builtin;go_loud (refine wpList_append_lies _ rfl _ _ 28 rfl w.heap.size 65 i0 (.agg #[.string ByteArray.empty,.slice none 0 0]) 2 40 Tryz.underlying28 hi hz0 hz1 hz2 rfl (by decide) _ l.length (dw l) rfl (ho2.row.alloc _) ⟨w2.heap.size,0,none⟩ 1 1 [.string c.f,.slice none 0 0] rfl rfl MR.out (fun x hx=>by simp at hx;rcases hx with rfl | rfl <;> rfl) (by decide) (by unfold maxLen;omega) (by omega) (by simp;omega) _ rfl ?_);intro g cap w3 hown3 hg3 LZ hlt3)
    have hz23:wr.heap.size<w2.heap.size:=(Array.getElem?_eq_some_iff.1 X2).1
    have X3:w3.heap[wr.heap.size]?=some (.cells #[.string c.f,.int .i64 c.what] 295):=(hg3.block _ (by simp;omega) (bd ho2.row X2 (by decide))).trans ((Below.heap_alloc _ _ _ hz23).trans X2)
    have Fz:Hid (EM w w3 (.slice (some ⟨kg,0,none⟩) S.length kc) S (.slice (some ⟨g,0,none⟩) (l.length+1) cap) l ⟨c.f,[]⟩ (.slice none 0 0)):=EM.push (aa M0.out.1 hb2) (ah M0.out.2 hb2) ho2 hown3 hg3
    obtain ⟨q,MO⟩:∃ q:dU×Value,Hid (EM w w3 (.slice (some ⟨kg,0,none⟩) S.length kc) S (.slice (some ⟨g,0,none⟩) (l.length+1) cap) l q.1 q.2∧l.map (·.1)++[⟨q.1.name,q.1.fs++[dZ c]⟩]=(S.take (k+1)).foldl gN []∧q.1.fs.length≤4194304):=⟨(⟨c.f,[]⟩,.slice none 0 0),Fz.out,HAD.out,by simp⟩
    clear hown3 hg3 LZ hlt3 hb2 X2 ho2 MR BA XA HPP Fz HAD;obtain ⟨e,fv⟩:=q;obtain ⟨l',hl'⟩:∃ l':List eD,l'=l:=⟨_,rfl⟩;rw [← hl'] at MO hll
    simp only [← hl']
    clear hl';have CS:Hid (EM w w3 (.slice (some ⟨kg,0,none⟩) S.length kc) S (.slice (some ⟨g,0,none⟩) (l'.length+1) cap) l' e fv):=MO.out.1;have HAD:Hid (l'.map (·.1)++[⟨e.name,e.fs++[dZ c]⟩]=(S.take (k+1)).foldl gN []):=MO.out.2.1;have Ke:Hid (e.fs.length≤4194304):=MO.out.2.2;clear MO
    have HFB:Hid (∀ j,fv.ownBlock=some j→j<w3.heap.size):=bD (CS.out.nH.iL (e,fv) (by simp))
    have HM3:Hid (jh w3 b n S):=HM.out.kept (row:=none) ⟨CS.out.below.os,CS.out.below.tape,CS.out.below.output,CS.out.below.size,fun j hj _=>CS.out.below.block j hj⟩ (by simp)
    have hlk:(Instr.lookup 291 (.map (some b)) (.agg #[.string c.f,.int .i64 c.what]) false).run Tryz.prog w3=.ok (.agg #[.int .i64 c.what,.int .i64 c.num,.string c.v]) w3:=by
     have h:=HM3.out.lookup c HQ.out.1;rw [HQ.out.2] at h;exact h
    obtain ⟨p0,p1⟩:w3.cell? ⟨wr.heap.size,0,none⟩=some (.string c.f)∧w3.cell? ⟨wr.heap.size,1,none⟩=some (.int .i64 c.what):=by simp [World.cell?,X3]
    go_wp2_with fail;refine (jm c.v _ hcv).mono ?_;rintro e5 w5 ⟨rfl,hb5⟩
    have X5:w5.heap[w3.heap.size]?=some (.cells #[.int .i64 c.what,.int .i64 c.num,.string c.v] 67):=(hb5.block _ (by simp)).trans (am w3 _)
    have LY:Below w3.heap.size w3 w5:=aa (aM) hb5;have hz5:w3.heap.size<w5.heap.size:=(Array.getElem?_eq_some_iff.1 X5).1
    obtain ⟨q0,q1,q2⟩:w5.cell? ⟨w3.heap.size,0,none⟩=some (.int .i64 c.what)∧w5.cell? ⟨w3.heap.size,1,none⟩=some (.int .i64 c.num)∧w5.cell? ⟨w3.heap.size,2,none⟩=some (.string c.v):=by simp [World.cell?,X5]
    have qf:w5.frozen? ⟨w3.heap.size,2,none⟩=false:=by simp [World.frozen?,X5]
    have Kg:Hid (EM w (w5.setCell ⟨w3.heap.size,2,none⟩ (.string c.v)) (.slice (some ⟨kg,0,none⟩) S.length kc) S (.slice (some ⟨g,0,none⟩) (l'.length+1) cap) l' e fv):=CS.out.call (pU LY _ _ aG _)
    have X6:Hid ((w5.setCell ⟨w3.heap.size,2,none⟩ (.string c.v)).heap[w3.heap.size]?=some (.cells #[.int .i64 c.what,.int .i64 c.num,.string c.v] 67)∧w3.heap.size<(w5.setCell ⟨w3.heap.size,2,none⟩ (.string c.v)).heap.size):=by
     refine ⟨?_,by simpa using hz5⟩
     rw [setCell_eq_setRow _ _ _ _ _ _ _ X5];exact setRow_heap _ _ _ _ _ _ X5
    have hL0:(0:Int)≤(l'.length:Int):=by omega
    have hL1:(l'.length:Int)<(l'.length:Int)+1:=by omega
    have hw1:IntKind.i64.wrap ((l'.length:Int)+1-1)=(l'.length:Int):=by rw [IntKind.wrap_i64];omega
    clear hlk p0 p1 X3 hb5 LY CS HM3
    go_upto_region 11 with fail
    generalize w5.setCell ⟨w3.heap.size,2,none⟩ (.string c.v)=w6 at *;clear q0 q1 q2 qf X5 hz5;generalize w3.heap.size=fb at *
    obtain ⟨q0,q1,q2⟩:w6.cell? ⟨fb,0,none⟩=some (.int .i64 c.what)∧w6.cell? ⟨fb,1,none⟩=some (.int .i64 c.num)∧w6.cell? ⟨fb,2,none⟩=some (.string c.v):=by simp [World.cell?,X6.out.1]
    obtain ⟨g',cap',hgo,y0,y1,yf,hcp,hcm⟩:=Kg.out.nH.last
    injection hgo with hgo1 hgo2 hgo3
    injection hgo1 with hgo1
    injection hgo1 with hgo1
    subst hgo1 hgo3
    have hfl:=Kg.out.nH.iL (e,fv) (by simp)
    have hgz:g<w6.heap.size:=av y0;have Hq:Hid ((w6.alloc (.cells #[.int .i64 c.what,.int .i64 c.num,.string c.v] 67)).ownsRow w.heap.size 67 3 fv e.fs.length (di e.fs)):=hfl.alloc _;have qE:Hid (∀ (j:Nat) (u:Value),(dL (dZ c))[j]?=some u→(w6.alloc (.cells #[.int .i64 c.what,.int .i64 c.num,.string c.v] 67)).cell? ((⟨w6.heap.size,0,none⟩:Addr).add j)=some u):=cR w6 _ _ _ _
    have HWZ:Hid (w.heap.size≤(w6.alloc (.cells #[.int .i64 c.what,.int .i64 c.num,.string c.v] 67)).heap.size):=by
     have:=Kg.out.below.size
     show w.heap.size≤_
     simp;omega
    have HGF:Hid (fb≠g):=fun ee=>bd Kg.out.nH.row X6.out.1 (by decide) (by rw [ee];rfl)
    have FC:Hid (∀ wx:World,(w6.alloc (.cells #[.int .i64 c.what,.int .i64 c.num,.string c.v] 67)).grownBy wx fv.ownBlock→wx.cell? ⟨g,l'.length*2+1,none⟩=some fv∧wx.frozen? ⟨g,l'.length*2+1,none⟩=false∧wx.heap[fb]?=some (.cells #[.int .i64 c.what,.int .i64 c.num,.string c.v] 67)):=fun wx hgx=>by
     have hg1:wx.heap[g]?=w6.heap[g]?:=(hgx.block g (by simp;omega) (aN hfl Kg.out.nH.row (by decide) g rfl)).trans (Below.heap_alloc _ _ _ hgz)
     have hf1:wx.heap[fb]?=some (.cells #[.int .i64 c.what,.int .i64 c.num,.string c.v] 67):=(hgx.block fb (by have:=X6.out.2;simp;omega) (fun ee=>by have:=HFB.out fb ee.symm;omega)).trans ((Below.heap_alloc _ _ _ X6.out.2).trans X6.out.1)
     exact ⟨(World.cell?_of_block (a:=⟨g,l'.length*2+1,none⟩) hg1).trans y1,(World.frozen?_of_block (a:=⟨g,l'.length*2+1,none⟩) hg1).trans yf,hf1⟩
    have hAL:Below w6.heap.size w6 (w6.alloc (.cells #[.int .i64 c.what,.int .i64 c.num,.string c.v] 67)):=(aM);have Hl:Hid ((w6.alloc (.cells #[.int .i64 c.what,.int .i64 c.num,.string c.v] 67)).cell? ⟨fb,0,none⟩=some (.int .i64 c.what)∧(w6.alloc (.cells #[.int .i64 c.what,.int .i64 c.num,.string c.v] 67)).cell? ⟨fb,1,none⟩=some (.int .i64 c.num)∧(w6.alloc (.cells #[.int .i64 c.what,.int .i64 c.num,.string c.v] 67)).cell? ⟨fb,2,none⟩=some (.string c.v)):=⟨ag hAL aG q0,ag hAL aG q1,ag hAL aG q2⟩;clear hAL;refine wp_region_noPanic ?_
    refine wp_region_held_drew (S:=fun w'=>w'.cell? ⟨fb,0,none⟩=some (.int .i64 c.what)∧w'.cell? ⟨fb,1,none⟩=some (.int .i64 c.num)∧w'.cell? ⟨fb,2,none⟩=some (.string c.v)) (by kernel_rfl) ?_ (fun hHeld=>?_)
    ·exact ⟨q0,q1,q2⟩
    refine aO 0 ?_ rfl ?_ (aO 1 ?_ rfl ?_ (aO 2 ?_ rfl ?_ (aO 3 ?_ rfl ?_ (aO 5 ?_ rfl ?_ ?_))))
    iterate 5 (rotate_left;focus (intro w hSw;(try dsimp only at hSw);simp only [Act.put,aU];go_simp;try with_reducible rfl))
    simp only [Act.put,aU]
    refine lZ 4 6 rfl rfl (fun K hK=>?_) (fun K hK=>?_)
    focus
     go_simp;refine hK.out _ _ ⟨q0,q1,q2⟩ (fun uN=>?_);clear hK K;refine bE 6 rfl (fun K hK=>?_)
    rotate_left
    focus
     go_simp;refine hK.out _ _ Hl.out (fun uN=>?_);clear hK K;refine bE 4 rfl (fun K hK=>?_)
    rotate_left
    all_goals
     go_simp;refine hK.out _ _ Hl.out (fun Cj=>?_);clear hK K;refine bE 7 rfl (fun K hK=>?_)
     refine step_append_lies _ rfl _ _ 63 rfl w.heap.size 67 j0 (.agg #[.int .i64 0,.int .i64 0,.string ByteArray.empty]) 3 32 Tryz.underlying63 hj jz0 jz1 jz2 rfl (by decide) fv e.fs.length (di e.fs) rfl Hq.out ⟨w6.heap.size,0,none⟩ 1 1 (dL (dZ c)) rfl rfl qE.out (fun x hx=>by simp [dL] at hx;rcases hx with rfl | rfl | rfl <;> rfl) (by decide) (by unfold maxLen;have:=Ke.out;omega) (by have:=Ke.out;omega) HWZ.out (w6.heap.size+1) (by simp) ?_
     intro fg lK w7 LQ lT hat7 hlt7;have HG7:Hid ((w6.alloc (.cells #[.int .i64 c.what,.int .i64 c.num,.string c.v] 67)).grownBy w7 fv.ownBlock):=⟨lT.os,lT.tape,lT.output,lT.size,lT.block⟩;have FL:Hid (EL w (w7.setCell ⟨g,l'.length*2+1,none⟩ (.slice (some ⟨fg,0,none⟩) (e.fs.length+1) lK)) (.slice (some ⟨kg,0,none⟩) S.length kc) S (.slice (some ⟨g,0,none⟩) (l'.length+1) cap) (k+1)):=Kg.out.next LQ HG7.out hat7 (Nat.le_succ _) HAD.out;have LP:=FC.out w7 HG7.out;have x1:=LP.1;have xf:=LP.2.1
     have HS7:Hid (w7.cell? ⟨fb,0,none⟩=some (.int .i64 c.what)∧w7.cell? ⟨fb,1,none⟩=some (.int .i64 c.num)∧w7.cell? ⟨fb,2,none⟩=some (.string c.v)):=by
      have h:=LP.2.2
      show _∧_∧_
      simp [World.cell?,h]
     have HS8:Hid ((w7.setCell ⟨g,l'.length*2+1,none⟩ (.slice (some ⟨fg,0,none⟩) (e.fs.length+1) lK)).cell? ⟨fb,0,none⟩=some (.int .i64 c.what)∧(w7.setCell ⟨g,l'.length*2+1,none⟩ (.slice (some ⟨fg,0,none⟩) (e.fs.length+1) lK)).cell? ⟨fb,1,none⟩=some (.int .i64 c.num)∧(w7.setCell ⟨g,l'.length*2+1,none⟩ (.slice (some ⟨fg,0,none⟩) (e.fs.length+1) lK)).cell? ⟨fb,2,none⟩=some (.string c.v)):=by
      have h:=(Below.heap_setCell w7 ⟨g,l'.length*2+1,none⟩ (.slice (some ⟨fg,0,none⟩) (e.fs.length+1) lK) fb HGF.out).trans LP.2.2
      show _∧_∧_
      simp only [World.cell?,h]
      exact ⟨rfl,rfl,rfl⟩
     clear LP;refine hK.out _ _ HS7.out (fun Ci=>?_);clear hK K;refine aO 8 ?_ rfl ?_ (aO 9 ?_ rfl ?_ ?_)
     iterate 2 (rotate_left;focus (intro w hSw;(try dsimp only at hSw);simp only [Act.put,aU];go_simp;try with_reducible rfl))
     simp only [Act.put,aU]
     refine bE 10 rfl (fun K hK=>?_);go_simp;refine hK.out _ _ HS8.out (fun hHeld9=>?_);clear hK K
     refine wpAnyH_done (by kernel_rfl) ?_ _
     refine NoPanic.normal ?_;go_wp2
     exact ⟨⟨k+1,by omega,by go_num,FL.out⟩,by simp [intOf];omega⟩
   ·rw [List.concat_eq_append] at hcon
    have hlen:l.length=l'.length+1:=by rw [hcon];simp
    have hw0:IntKind.i64.wrap ((l.length:Int)-1)=(l'.length:Int):=by rw [IntKind.wrap_i64];omega
    have hx0:(0:Int)≤(l'.length:Int):=by omega
    have hx1:(l'.length:Int)<(l.length:Int):=by omega
    have HPC:Hid (dG wr w.heap.size (.slice oa l.length oc) (l'++[(e,fv)])):=by
     show dG wr w.heap.size (.slice oa l.length oc) (l'++[(e,fv)])
     rw [← hcon];exact HPP.out
    obtain ⟨g0,cap0,hgo,y0',y1',yf',hcp0,hcm0⟩:=HPC.out.last
    injection hgo with hgo1 hgo2 hgo3
    subst hgo1 hgo3
    by_cases hnm:e.name=c.f
    focus
     have hq:(e.name.toList==c.f.toList)=true:=cA hnm
     have hneg:decide ((l'.length:Int)<0)=false:=by simp
     have HAD:Hid (l'.map (·.1)++[⟨e.name,e.fs++[dZ c]⟩]=(S.take (k+1)).foldl gN []):=by
      show _=_
      rw [HST.out]
      exact MG (l:=l') (e:=e) (fv:=fv) (by rw [← hcon];exact HLE.out) hnm
     have Ke:Hid (e.fs.length≤4194304):=by
      have hm:e∈(S.take k).foldl gN []:=by rw [← HLE.out,hcon];simp
      have h:=IL (S.take k) [] 0 (fun e he=>by cases he) e hm
      show _≤_
      simp at h;omega
     have y0:=ag BA.out aG y0'
     obtain ⟨k0,k1⟩:(wr.alloc (.cells #[.string c.f,.int .i64 c.what] 295)).cell? ⟨wr.heap.size,0,none⟩=some (.string c.f)∧(wr.alloc (.cells #[.string c.f,.int .i64 c.what] 295)).cell? ⟨wr.heap.size,1,none⟩=some (.int .i64 c.what):=⟨by simp,by simp⟩
     have Fz:Hid (∀ nq,EM w ((wr.alloc (.cells #[.string c.f,.int .i64 c.what] 295)).drewN nq) (.slice (some ⟨kg,0,none⟩) S.length kc) S (.slice (some ⟨g0,0,none⟩) (l'.length+1) oc) l' e fv):=fun nq=>by
      have h:EM w wr (.slice (some ⟨kg,0,none⟩) S.length kc) S (.slice (some ⟨g0,0,none⟩) (l'.length+1) oc) l' e fv:=⟨M0.out.1,M0.out.2,by rw [← hlen];exact HPC.out⟩
      exact h.call (below_drewN BA.out nq)
     have hw2:IntKind.i64.wrap ((l'.length:Int)+1-1)=(l'.length:Int):=by rw [IntKind.wrap_i64];omega
     have hx2:(l'.length:Int)<(l'.length:Int)+1:=by omega
     rw [hlen] at hll;rw [hlen];clear hnm HLE HPC y1' yf' hcp0 hcm0 hw0 hx1
     go_upto_region 6 with fail
     go_quiet (fail)
     obtain ⟨w3,hw3⟩:∃ w3,w3=(wr.alloc (.cells #[.string c.f,.int .i64 c.what] 295)).drewN nq:=⟨_,rfl⟩
     have CS:Hid (EM w w3 (.slice (some ⟨kg,0,none⟩) S.length kc) S (.slice (some ⟨g0,0,none⟩) (l'.length+1) oc) l' e fv):=by rw [hw3];exact Fz.out nq
     have X3:w3.heap[wr.heap.size]?=some (.cells #[.string c.f,.int .i64 c.what] 295):=by rw [hw3];exact XA.out
     rw [← hw3];clear hw3 Fz BA XA HPP y0 k0 k1;obtain ⟨g,rfl⟩:∃ g,g=g0:=⟨_,rfl⟩;obtain ⟨cap,rfl⟩:∃ cap,cap=oc:=⟨_,rfl⟩;have hz23:wr.heap.size<w3.heap.size:=(Array.getElem?_eq_some_iff.1 X3).1
    rotate_left
    focus
     have hq:(e.name.toList==c.f.toList)=false:=b9 hnm
     have hneg:decide ((l'.length:Int)<0)=false:=by simp
     have HAD:Hid (l.map (·.1)++[⟨c.f,[]++[dZ c]⟩]=(S.take (k+1)).foldl gN []):=by
      show _=_
      rw [HST.out]
      exact yZ HLE.out fun e' he=>by
       rw [← HLE.out,hcon,List.map_append] at he
       simp at he
       rw [← he];exact hnm
     have y0:=ag BA.out aG y0'
     obtain ⟨k0,k1⟩:(wr.alloc (.cells #[.string c.f,.int .i64 c.what] 295)).cell? ⟨wr.heap.size,0,none⟩=some (.string c.f)∧(wr.alloc (.cells #[.string c.f,.int .i64 c.what] 295)).cell? ⟨wr.heap.size,1,none⟩=some (.int .i64 c.what):=⟨by simp,by simp⟩
     clear hnm HLE HPC y1' yf' hcp0 hcm0 hcon hlen hgo2
     go_upto_region 6 with fail
     clear hw0
     go_quiet (fail)
     go_wp2_with fail;refine (jm c.f _ hcs).mono ?_;rintro e1 w2 ⟨rfl,hb2'⟩;have hb2:Below wr.heap.size wr w2:=aa BA.out ⟨hb2'.os,hb2'.tape,hb2'.output,hb2'.size,hb2'.block⟩
     have X2:w2.heap[wr.heap.size]?=some (.cells #[.string c.f,.int .i64 c.what] 295):=(hb2'.block _ (by simp)).trans XA.out
     have ho2:=HPP.out.keep hb2;have hzw2:=(aa M0.out.1 hb2).size;have MR:Hid (∀ (j:Nat) (u:Value),[Value.string c.f,.slice none 0 0][j]?=some u→(w2.alloc (.cells #[.string c.f,.slice none 0 0] 65)).cell? ((⟨w2.heap.size,0,none⟩:Addr).add j)=some u):=cell_two_new w2 _ _ _
     go_upto_region 8 with (at_builtin;go_loud (refine wpList_append_lies _ rfl _ _ 28 rfl w.heap.size 65 i0 (.agg #[.string ByteArray.empty,.slice none 0 0]) 2 40 Tryz.underlying28 hi hz0 hz1 hz2 rfl (by decide) _ l.length (dw l) rfl (ho2.row.alloc _) ⟨w2.heap.size,0,none⟩ 1 1 [.string c.f,.slice none 0 0] rfl rfl MR.out (fun x hx=>by simp at hx;rcases hx with rfl | rfl <;> rfl) (by decide) (by unfold maxLen;omega) (by omega) (by simp;omega) _ rfl ?_);intro g cap w3 hown3 hg3 LZ hlt3)
     have hz23:wr.heap.size<w2.heap.size:=(Array.getElem?_eq_some_iff.1 X2).1
     have X3:w3.heap[wr.heap.size]?=some (.cells #[.string c.f,.int .i64 c.what] 295):=(hg3.block _ (by simp;omega) (bd ho2.row X2 (by decide))).trans ((Below.heap_alloc _ _ _ hz23).trans X2)
     have Fz:Hid (EM w w3 (.slice (some ⟨kg,0,none⟩) S.length kc) S (.slice (some ⟨g,0,none⟩) (l.length+1) cap) l ⟨c.f,[]⟩ (.slice none 0 0)):=EM.push (aa M0.out.1 hb2) (ah M0.out.2 hb2) ho2 hown3 hg3
     obtain ⟨q,MO⟩:∃ q:dU×Value,Hid (EM w w3 (.slice (some ⟨kg,0,none⟩) S.length kc) S (.slice (some ⟨g,0,none⟩) (l.length+1) cap) l q.1 q.2∧l.map (·.1)++[⟨q.1.name,q.1.fs++[dZ c]⟩]=(S.take (k+1)).foldl gN []∧q.1.fs.length≤4194304):=⟨(⟨c.f,[]⟩,.slice none 0 0),Fz.out,HAD.out,by simp⟩
     clear hown3 hg3 LZ hlt3 hb2 X2 ho2 MR BA XA HPP Fz HAD;obtain ⟨e,fv⟩:=q;obtain ⟨l',hl'⟩:∃ l':List eD,l'=l:=⟨_,rfl⟩;rw [← hl'] at MO hll
     simp only [← hl']
     clear hl';have CS:Hid (EM w w3 (.slice (some ⟨kg,0,none⟩) S.length kc) S (.slice (some ⟨g,0,none⟩) (l'.length+1) cap) l' e fv):=MO.out.1;have HAD:Hid (l'.map (·.1)++[⟨e.name,e.fs++[dZ c]⟩]=(S.take (k+1)).foldl gN []):=MO.out.2.1;have Ke:Hid (e.fs.length≤4194304):=MO.out.2.2;clear MO
    rotate_left
    all_goals
     have HFB:Hid (∀ j,fv.ownBlock=some j→j<w3.heap.size):=bD (CS.out.nH.iL (e,fv) (by simp))
     have HM3:Hid (jh w3 b n S):=HM.out.kept (row:=none) ⟨CS.out.below.os,CS.out.below.tape,CS.out.below.output,CS.out.below.size,fun j hj _=>CS.out.below.block j hj⟩ (by simp)
     have hlk:(Instr.lookup 291 (.map (some b)) (.agg #[.string c.f,.int .i64 c.what]) false).run Tryz.prog w3=.ok (.agg #[.int .i64 c.what,.int .i64 c.num,.string c.v]) w3:=by
      have h:=HM3.out.lookup c HQ.out.1;rw [HQ.out.2] at h;exact h
     obtain ⟨p0,p1⟩:w3.cell? ⟨wr.heap.size,0,none⟩=some (.string c.f)∧w3.cell? ⟨wr.heap.size,1,none⟩=some (.int .i64 c.what):=by simp [World.cell?,X3]
     go_wp2_with fail;refine (jm c.v _ hcv).mono ?_;rintro e5 w5 ⟨rfl,hb5⟩
     have X5:w5.heap[w3.heap.size]?=some (.cells #[.int .i64 c.what,.int .i64 c.num,.string c.v] 67):=(hb5.block _ (by simp)).trans (am w3 _)
     have LY:Below w3.heap.size w3 w5:=aa (aM) hb5;have hz5:w3.heap.size<w5.heap.size:=(Array.getElem?_eq_some_iff.1 X5).1
     obtain ⟨q0,q1,q2⟩:w5.cell? ⟨w3.heap.size,0,none⟩=some (.int .i64 c.what)∧w5.cell? ⟨w3.heap.size,1,none⟩=some (.int .i64 c.num)∧w5.cell? ⟨w3.heap.size,2,none⟩=some (.string c.v):=by simp [World.cell?,X5]
     have qf:w5.frozen? ⟨w3.heap.size,2,none⟩=false:=by simp [World.frozen?,X5]
     have Kg:Hid (EM w (w5.setCell ⟨w3.heap.size,2,none⟩ (.string c.v)) (.slice (some ⟨kg,0,none⟩) S.length kc) S (.slice (some ⟨g,0,none⟩) (l'.length+1) cap) l' e fv):=CS.out.call (pU LY _ _ aG _)
     have X6:Hid ((w5.setCell ⟨w3.heap.size,2,none⟩ (.string c.v)).heap[w3.heap.size]?=some (.cells #[.int .i64 c.what,.int .i64 c.num,.string c.v] 67)∧w3.heap.size<(w5.setCell ⟨w3.heap.size,2,none⟩ (.string c.v)).heap.size):=by
      refine ⟨?_,by simpa using hz5⟩
      rw [setCell_eq_setRow _ _ _ _ _ _ _ X5];exact setRow_heap _ _ _ _ _ _ X5
     have hL0:(0:Int)≤(l'.length:Int):=by omega
     have hL1:(l'.length:Int)<(l'.length:Int)+1:=by omega
     have hw1:IntKind.i64.wrap ((l'.length:Int)+1-1)=(l'.length:Int):=by rw [IntKind.wrap_i64];omega
     clear hlk p0 p1 X3 hb5 LY CS HM3
     go_upto_region 11 with fail
     generalize w5.setCell ⟨w3.heap.size,2,none⟩ (.string c.v)=w6 at *;clear q0 q1 q2 qf X5 hz5;generalize w3.heap.size=fb at *
     obtain ⟨q0,q1,q2⟩:w6.cell? ⟨fb,0,none⟩=some (.int .i64 c.what)∧w6.cell? ⟨fb,1,none⟩=some (.int .i64 c.num)∧w6.cell? ⟨fb,2,none⟩=some (.string c.v):=by simp [World.cell?,X6.out.1]
     obtain ⟨g',cap',hgo,y0,y1,yf,hcp,hcm⟩:=Kg.out.nH.last
     injection hgo with hgo1 hgo2 hgo3
     injection hgo1 with hgo1
     injection hgo1 with hgo1
     subst hgo1 hgo3
     have hfl:=Kg.out.nH.iL (e,fv) (by simp)
     have hgz:g<w6.heap.size:=av y0;have Hq:Hid ((w6.alloc (.cells #[.int .i64 c.what,.int .i64 c.num,.string c.v] 67)).ownsRow w.heap.size 67 3 fv e.fs.length (di e.fs)):=hfl.alloc _;have qE:Hid (∀ (j:Nat) (u:Value),(dL (dZ c))[j]?=some u→(w6.alloc (.cells #[.int .i64 c.what,.int .i64 c.num,.string c.v] 67)).cell? ((⟨w6.heap.size,0,none⟩:Addr).add j)=some u):=cR w6 _ _ _ _
     have HWZ:Hid (w.heap.size≤(w6.alloc (.cells #[.int .i64 c.what,.int .i64 c.num,.string c.v] 67)).heap.size):=by
      have:=Kg.out.below.size
      show w.heap.size≤_
      simp;omega
     have HGF:Hid (fb≠g):=fun ee=>bd Kg.out.nH.row X6.out.1 (by decide) (by rw [ee];rfl)
     have FC:Hid (∀ wx:World,(w6.alloc (.cells #[.int .i64 c.what,.int .i64 c.num,.string c.v] 67)).grownBy wx fv.ownBlock→wx.cell? ⟨g,l'.length*2+1,none⟩=some fv∧wx.frozen? ⟨g,l'.length*2+1,none⟩=false∧wx.heap[fb]?=some (.cells #[.int .i64 c.what,.int .i64 c.num,.string c.v] 67)):=fun wx hgx=>by
      have hg1:wx.heap[g]?=w6.heap[g]?:=(hgx.block g (by simp;omega) (aN hfl Kg.out.nH.row (by decide) g rfl)).trans (Below.heap_alloc _ _ _ hgz)
      have hf1:wx.heap[fb]?=some (.cells #[.int .i64 c.what,.int .i64 c.num,.string c.v] 67):=(hgx.block fb (by have:=X6.out.2;simp;omega) (fun ee=>by have:=HFB.out fb ee.symm;omega)).trans ((Below.heap_alloc _ _ _ X6.out.2).trans X6.out.1)
      exact ⟨(World.cell?_of_block (a:=⟨g,l'.length*2+1,none⟩) hg1).trans y1,(World.frozen?_of_block (a:=⟨g,l'.length*2+1,none⟩) hg1).trans yf,hf1⟩
     have hAL:Below w6.heap.size w6 (w6.alloc (.cells #[.int .i64 c.what,.int .i64 c.num,.string c.v] 67)):=(aM);have Hl:Hid ((w6.alloc (.cells #[.int .i64 c.what,.int .i64 c.num,.string c.v] 67)).cell? ⟨fb,0,none⟩=some (.int .i64 c.what)∧(w6.alloc (.cells #[.int .i64 c.what,.int .i64 c.num,.string c.v] 67)).cell? ⟨fb,1,none⟩=some (.int .i64 c.num)∧(w6.alloc (.cells #[.int .i64 c.what,.int .i64 c.num,.string c.v] 67)).cell? ⟨fb,2,none⟩=some (.string c.v)):=⟨ag hAL aG q0,ag hAL aG q1,ag hAL aG q2⟩;clear hAL;refine wp_region_noPanic ?_
     refine wp_region_held_drew (S:=fun w'=>w'.cell? ⟨fb,0,none⟩=some (.int .i64 c.what)∧w'.cell? ⟨fb,1,none⟩=some (.int .i64 c.num)∧w'.cell? ⟨fb,2,none⟩=some (.string c.v)) (by kernel_rfl) ?_ (fun hHeld=>?_)
     ·exact ⟨q0,q1,q2⟩
     refine aO 0 ?_ rfl ?_ (aO 1 ?_ rfl ?_ (aO 2 ?_ rfl ?_ (aO 3 ?_ rfl ?_ (aO 5 ?_ rfl ?_ ?_))))
     iterate 5 (rotate_left;focus (intro w hSw;(try dsimp only at hSw);simp only [Act.put,aU];go_simp;try with_reducible rfl))
     simp only [Act.put,aU]
     refine lZ 4 6 rfl rfl (fun K hK=>?_) (fun K hK=>?_)
     focus
      go_simp;refine hK.out _ _ ⟨q0,q1,q2⟩ (fun uN=>?_);clear hK K;refine bE 6 rfl (fun K hK=>?_)
     rotate_left
     focus
      go_simp;refine hK.out _ _ Hl.out (fun uN=>?_);clear hK K;refine bE 4 rfl (fun K hK=>?_)
     rotate_left
     all_goals
      go_simp;refine hK.out _ _ Hl.out (fun Cj=>?_);clear hK K;refine bE 7 rfl (fun K hK=>?_)
      refine step_append_lies _ rfl _ _ 63 rfl w.heap.size 67 j0 (.agg #[.int .i64 0,.int .i64 0,.string ByteArray.empty]) 3 32 Tryz.underlying63 hj jz0 jz1 jz2 rfl (by decide) fv e.fs.length (di e.fs) rfl Hq.out ⟨w6.heap.size,0,none⟩ 1 1 (dL (dZ c)) rfl rfl qE.out (fun x hx=>by simp [dL] at hx;rcases hx with rfl | rfl | rfl <;> rfl) (by decide) (by unfold maxLen;have:=Ke.out;omega) (by have:=Ke.out;omega) HWZ.out (w6.heap.size+1) (by simp) ?_
      intro fg lK w7 LQ lT hat7 hlt7;have HG7:Hid ((w6.alloc (.cells #[.int .i64 c.what,.int .i64 c.num,.string c.v] 67)).grownBy w7 fv.ownBlock):=⟨lT.os,lT.tape,lT.output,lT.size,lT.block⟩;have FL:Hid (EL w (w7.setCell ⟨g,l'.length*2+1,none⟩ (.slice (some ⟨fg,0,none⟩) (e.fs.length+1) lK)) (.slice (some ⟨kg,0,none⟩) S.length kc) S (.slice (some ⟨g,0,none⟩) (l'.length+1) cap) (k+1)):=Kg.out.next LQ HG7.out hat7 (Nat.le_succ _) HAD.out;have LP:=FC.out w7 HG7.out;have x1:=LP.1;have xf:=LP.2.1
      have HS7:Hid (w7.cell? ⟨fb,0,none⟩=some (.int .i64 c.what)∧w7.cell? ⟨fb,1,none⟩=some (.int .i64 c.num)∧w7.cell? ⟨fb,2,none⟩=some (.string c.v)):=by
       have h:=LP.2.2
       show _∧_∧_
       simp [World.cell?,h]
      have HS8:Hid ((w7.setCell ⟨g,l'.length*2+1,none⟩ (.slice (some ⟨fg,0,none⟩) (e.fs.length+1) lK)).cell? ⟨fb,0,none⟩=some (.int .i64 c.what)∧(w7.setCell ⟨g,l'.length*2+1,none⟩ (.slice (some ⟨fg,0,none⟩) (e.fs.length+1) lK)).cell? ⟨fb,1,none⟩=some (.int .i64 c.num)∧(w7.setCell ⟨g,l'.length*2+1,none⟩ (.slice (some ⟨fg,0,none⟩) (e.fs.length+1) lK)).cell? ⟨fb,2,none⟩=some (.string c.v)):=by
       have h:=(Below.heap_setCell w7 ⟨g,l'.length*2+1,none⟩ (.slice (some ⟨fg,0,none⟩) (e.fs.length+1) lK) fb HGF.out).trans LP.2.2
       show _∧_∧_
       simp only [World.cell?,h]
       exact ⟨rfl,rfl,rfl⟩
      clear LP;refine hK.out _ _ HS7.out (fun Ci=>?_);clear hK K;refine aO 8 ?_ rfl ?_ (aO 9 ?_ rfl ?_ ?_)
      iterate 2 (rotate_left;focus (intro w hSw;(try dsimp only at hSw);simp only [Act.put,aU];go_simp;try with_reducible rfl))
      simp only [Act.put,aU]
      refine bE 10 rfl (fun K hK=>?_);go_simp;refine hK.out _ _ HS8.out (fun hHeld9=>?_);clear hK K
      refine wpAnyH_done (by kernel_rfl) ?_ _
      refine NoPanic.normal ?_;go_wp2
      exact ⟨⟨k+1,by omega,by go_num,FL.out⟩,by simp [intOf];omega⟩
  ·have HFE:Hid (tV wr w.heap.size u3 (S.foldl gN [])∧Below w.heap.size w wr):=by
    have h:=JN.nH
    rw [List.take_of_length_le (by omega)] at h
    exact ⟨h,JN.below⟩
   clear JN;go_wp2;go_ret;exact ⟨_,rfl,HFE.out⟩
end Go.Proofs.YtcmgddnckohdaaaGreatDoor
