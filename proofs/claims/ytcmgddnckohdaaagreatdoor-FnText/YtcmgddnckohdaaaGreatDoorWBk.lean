import Derived.Test.YtcmgddnckohdaaaGreatDoorFits1
set_option maxRecDepth 100000
set_option maxHeartbeats 6400000
set_option linter.unusedSimpArgs false
set_option linter.unusedVariables false
namespace Go.Proofs.YtcmgddnckohdaaaGreatDoor
open Go.RowKit
structure OwnAt (w wr:World) (bs:List (List Value)):Prop where
 below:Below w.heap.size w wr
 big:w.heap.size+bs.length≤wr.heap.size
 has:∀ i b,bs[i]?=some b→∀ j v,b[j]?=some v→wr.cell? ⟨w.heap.size+i,j,none⟩=some v∧wr.frozen? ⟨w.heap.size+i,j,none⟩=false
theorem OwnAt.call {w wr w':World} {bs:List (List Value)} (h:OwnAt w wr bs) (hb:Below wr.heap.size wr w'):OwnAt w w' bs :=
 ⟨aa h.below hb,Nat.le_trans h.big hb.size,fun i b hi j v hj=>by
  have hlt:w.heap.size+i<wr.heap.size:=by
   have:=(List.getElem?_eq_some_iff.1 hi).1;have:=h.big;omega
  rw [hb.cell (p:=⟨w.heap.size+i,j,none⟩) hlt,hb.frozen (p:=⟨w.heap.size+i,j,none⟩) hlt]
  exact h.has i b hi j v hj⟩
theorem OwnAt.start (w:World):OwnAt w w []:=⟨Below.refl _ _,Nat.le_refl _,fun i b hi=>by simp at hi⟩
theorem OwnAt.push {w wr:World} {bs:List (List Value)} (h:OwnAt w wr bs) (he:wr.heap.size=w.heap.size+bs.length) (C:Array Value) (T:TypeId):OwnAt w (wr.alloc (.cells C T)) (bs++[C.toList]):=by
 refine ⟨h.below.alloc (by omega) _,by simp;omega,fun i b hi j v hj=>?_⟩
 by_cases e:i<bs.length
 ·rw [List.getElem?_append_left e] at hi
  have hh:=h.has i b hi j v hj;have hb:Below wr.heap.size wr (wr.alloc (.cells C T)):=(aM)
  rw [hb.cell (p:=⟨w.heap.size+i,j,none⟩) (show w.heap.size+i<_ by omega),hb.frozen (p:=⟨w.heap.size+i,j,none⟩) (show w.heap.size+i<_ by omega)]
  exact hh
 ·rw [List.getElem?_append_right (by omega)] at hi
  have hi0:i-bs.length=0:=by
   have:=(List.getElem?_eq_some_iff.1 hi).1
   simp at this;omega
  rw [hi0] at hi
  simp at hi;subst hi
  have e1:w.heap.size+i=wr.heap.size:=by omega
  rw [e1,World.cell?_alloc_at (w:=wr) C T wr.heap.size j rfl,World.frozen?_alloc_at (w:=wr) C T wr.heap.size j rfl]
  have hj':j<C.size:=by
   have:=(List.getElem?_eq_some_iff.1 hj).1
   simpa using this
  refine ⟨by simpa using hj,?_⟩
  simp
theorem OwnAt.set {w wr:World} {bs:List (List Value)} (h:OwnAt w wr bs) {i j:Nat} {b:List Value} (hi:bs[i]?=some b) (hj:j<b.length) (x:Value):OwnAt w (wr.setCell ⟨w.heap.size+i,j,none⟩ x) (bs.set i (b.set j x)):=by
 have hil:i<bs.length:=(List.getElem?_eq_some_iff.1 hi).1
 refine ⟨h.below.setCell (p:=⟨w.heap.size+i,j,none⟩) (by simp) _,by simp;have:=h.big;omega,fun i' b' hi' j' v hj'=>?_⟩
 by_cases e:i'=i
 ·subst e
  rw [List.getElem?_set_self hil] at hi'
  cases hi'
  by_cases ej:j'=j
  ·subst ej
   rw [List.getElem?_set_self hj] at hj'
   cases hj'
   have hh:=h.has i' b hi j' (b[j']) (by simp [hj])
   exact ⟨by simp [go_sem,hh.1],by simp [go_sem,hh.2]⟩
  ·rw [List.getElem?_set_ne (Ne.symm ej)] at hj'
   have hh:=h.has i' b hi j' v hj'
   refine ⟨?_,by simpa [go_sem] using hh.2⟩
   exact (World.cell?_setCell_other wr ⟨w.heap.size+i',j,none⟩ ⟨w.heap.size+i',j',none⟩ x (by simp <;> omega)).trans hh.1
 ·rw [List.getElem?_set_ne (Ne.symm e)] at hi'
  have hh:=h.has i' b' hi' j' v hj'
  refine ⟨?_,by simpa [go_sem] using hh.2⟩
  rw [World.cell?_of_block (w:=wr) (Below.heap_setCell wr _ x _ (by simp;omega))]
  exact hh.1
structure iV (wr:World) (B n c:Nat) (rows:List (List Value)):Prop where
 big:B<wr.heap.size
 room:wr.there B 0 (n*c)
 wide:∀ r∈rows,r.length=c
 has:∀ i r,rows[i]?=some r→wr.rangeAt B (i*c) r
theorem il.held {w wr:World} {B n c:Nat} {rows:List (List Value)} (h:il w wr B n c rows):iV wr B n c rows:=⟨h.big,h.room,h.wide,h.has⟩
theorem iV.keep {wr w1:World} {B n c:Nat} {rows:List (List Value)} (h:iV wr B n c rows) (hb:Below wr.heap.size wr w1):iV w1 B n c rows :=
 ⟨Nat.lt_of_lt_of_le h.big hb.size,b8 h.room hb h.big,h.wide,fun i r hr=>qM (h.has i r hr) hb h.big⟩
theorem iV.other {wr:World} {B n c:Nat} {rows:List (List Value)} (h:iV wr B n c rows) {k o:Nat} (hk:k≠B) (x:Value):iV (wr.setCell ⟨k,o,none⟩ x) B n c rows:=by
 have hc:∀ o',(wr.setCell ⟨k,o,none⟩ x).cell? ⟨B,o',none⟩=wr.cell? ⟨B,o',none⟩:=fun o'=>World.cell?_of_block (w:=wr) (Below.heap_setCell wr ⟨k,o,none⟩ x B (Ne.symm hk))
 refine ⟨by simpa using h.big,fun j hj=>?_,h.wide,fun i r hr j v hv=>?_⟩
 ·have:=h.room j hj
  rw [hc,World.frozen?_setCell];exact this
 ·rw [hc];exact h.has i r hr j v hv
theorem iV.cell {wr:World} {B n c:Nat} {rows:List (List Value)} (h:iV wr B n c rows) {i j:Nat} {r:List Value} {v:Value} (hr:rows[i]?=some r) (hv:r[j]?=some v):wr.cell? ⟨B,i*c+j,none⟩=some v:=h.has i r hr j v hv
theorem iV.free {wr:World} {B n c:Nat} {rows:List (List Value)} (h:iV wr B n c rows) {k j:Nat} (hk:k<n) (hj:j<c):(∃ v,wr.cell? ⟨B,k*c+j,none⟩=some v)∧wr.frozen? ⟨B,k*c+j,none⟩=false:=by
 have:=h.room (k*c+j) (o7 hk hj)
 simpa [Option.isSome_iff_exists] using this
theorem kF.held {w wr:World} {B n:Nat} {l:List dx} (h:kF w wr B n l l.length):iV wr B n 3 (l.map fA) :=
 ⟨h.big,h.room,fun r hr=>by obtain ⟨t,_,rfl⟩:=List.mem_map.1 hr;rfl,fun i r hr=>by
  rw [List.getElem?_map] at hr
  cases ht:l[i]? with
  | none=>rw [ht] at hr;cases hr
  | some t =>
   rw [ht] at hr;cases hr
   exact h.has i t (List.getElem?_eq_some_iff.1 ht).1 ht⟩
def iX (lo:Nat) (w:World) (v:Value) (l:List dx):Prop:=∃ b,lo≤b∧v=.slice (some ⟨b,0,none⟩) l.length l.length∧iV w b l.length 3 (l.map fA)
theorem iV.tris {w:World} {b n:Nat} {l:List dx} (h:iV w b n 3 (l.map fA)) (hn:n=l.length) (cap:Nat) (hc:n≤cap) (hm:cap≤maxLen):dA w (.slice (some ⟨b,0,none⟩) n cap) l :=
 ⟨_,cap,by rw [hn],by omega,hm,fun i t ht=>⟨b,0,rfl,by
  have hr:(l.map fA)[i]?=some (fA t):=by rw [List.getElem?_map,ht];rfl
  refine ⟨?_,?_,?_⟩
  ·simpa using h.cell hr (j:=0) (v:=.string t.s) rfl
  ·simpa using h.cell hr (j:=1) (v:=.int .i64 t.x) rfl
  ·simpa using h.cell hr (j:=2) (v:=.int .i64 t.y) rfl⟩⟩
theorem iX.at {lo:Nat} {w:World} {v:Value} {l:List dx} (h:iX lo w v l) (hm:l.length≤1048576):dA w v l:=by
 obtain ⟨b,_,rfl,hh⟩:=h
 exact hh.tris rfl _ aG (by unfold maxLen;omega)
theorem iX.keep {lo:Nat} {w w':World} {v:Value} {l:List dx} (h:iX lo w v l) (hb:Below w.heap.size w w'):iX lo w' v l:=by
 obtain ⟨b,hl,hv,hh⟩:=h;exact ⟨b,hl,hv,hh.keep hb⟩
theorem iX.mono {lo lo':Nat} {w:World} {v:Value} {l:List dx} (h:iX lo w v l) (hl:lo'≤lo):iX lo' w v l:=by
 obtain ⟨b,hb,hv,hh⟩:=h
 exact ⟨b,by omega,hv,hh⟩
theorem iX.other {lo:Nat} {w:World} {v:Value} {l:List dx} (h:iX lo w v l) {k o:Nat} (hk:k<lo) (x:Value):iX lo (w.setCell ⟨k,o,none⟩ x) v l:=by
 obtain ⟨b,hl,hv,hh⟩:=h
 exact ⟨b,hl,hv,hh.other (by omega) x⟩
open Go.RowKit
attribute [local go_sem] Later.cell Later.frozen
structure Boxed (w wr:World) (vk vp:Value):Prop where
  below:Below w.heap.size w wr
  big:w.heap.size<wr.heap.size
  c0:wr.cell? ⟨w.heap.size,0,none⟩=some vk
  c1:wr.cell? ⟨w.heap.size,1,none⟩=some vp
theorem Boxed.start (w:World) (vk vp:Value) (T:TypeId):Boxed w (w.alloc (.cells #[vk,vp] T)) vk vp :=
  ⟨(aM),by simp,by simp [go_sem],by simp [go_sem]⟩
theorem Boxed.call {w wr w':World} {vk vp:Value} (h:Boxed w wr vk vp) (hb:Below wr.heap.size wr w'):Boxed w w' vk vp :=
  ⟨aa h.below hb,Nat.lt_of_lt_of_le h.big hb.size,ag hb aG h.c0,ag hb aG h.c1⟩
theorem Boxed.drew {w wr:World} {vk vp:Value} (h:Boxed w wr vk vp):Boxed w wr.drew vk vp :=
  ⟨h.below.drew,h.big,by simpa using h.c0,by simpa using h.c1⟩
theorem Boxed.drewN {w wr:World} {vk vp:Value} (h:Boxed w wr vk vp) (n:Nat):Boxed w (wr.drewN n) vk vp :=
  h.call (below_drewN (Below.refl _ _) n)
def yt (l:List dx) (k:Nat):Bool:=gJ (at' l k)&&gY l k
def ng (l:List dx) (k:Nat):Bool:=(gq (at' l k)&&gY l k)&&fw k fun i=>!jb (at' l i) (at' l k)
theorem rJ (vk vp : Value) (ks ps : List dx) (w : World) (hk : dA w vk ks) (hp : dA w vp ps) (nk : Names ks) (np : Names ps) :
    Calls Tryz.prog 47 #[.agg #[vk,vp]] w fun e w'=>e=.returned (.bool (dM ks&&dH ps))∧Below w.heap.size w w':=by
  have HK:=hk;have HP:=hp;obtain ⟨ak,ck,rfl,lk,mk,ek⟩:=hk;obtain ⟨ap,cp,rfl,lp,mp,ep⟩:=hp;unfold maxLen at mk mp;have Ho:Hid (dA w (.slice ak ks.length ck) ks):=HK;have uW:Hid (dA w (.slice ap ps.length cp) ps):=HP;have NK:Hid (Names ks):=nk;have NP:Hid (Names ps):=np;have EK:Hid (∀ i t,ks[i]?=some t→∃ b off,ak=some ⟨b,off,none⟩∧gX w b (off+i*3) t):=ek;have EP:Hid (∀ i t,ps[i]?=some t→∃ b off,ap=some ⟨b,off,none⟩∧gX w b (off+i*3) t):=ep;clear HK HP nk np ek ep
  by_cases h1:(6:Int)<(ks.length:Int)
  · have e : (dM ks && dH ps) = false := by
      have:¬ ks.length≤6:=by omega
      rw [Ar];simp [this]
    rw [e];clear e
    go_enter Tryz.func47,Tryz.ntmps47
    go_wp2;go_ret;exact ⟨rfl,(aM)⟩
  by_cases h2:(16:Int)<(ps.length:Int)
  · have e : (dM ks && dH ps) = false := by
      have:¬ ps.length≤16:=by omega
      rw [xA];simp [this]
    rw [e];clear e
    go_enter Tryz.func47,Tryz.ntmps47
    go_wp2;go_ret;exact ⟨rfl,(aM)⟩
  have hbk : dM ks = fw ks.length (yt ks) := by rw [Ar]; have : ks.length ≤ 6 := by omega
                                                simp only [this,decide_true,Bool.true_and];rfl
  have HBK:Hid (dM ks=fw ks.length (yt ks)):=hbk
  have hbp : dH ps = fw ps.length (ng ps) := by rw [xA]; have : ps.length ≤ 16 := by omega
                                                simp only [this,decide_true,Bool.true_and];rfl
  have HBP:Hid (dH ps=fw ps.length (ng ps)):=hbp;clear hbk hbp
  go_enter Tryz.func47,Tryz.ntmps47
  go_wp2
  go_loopw [3] (fun i wr=>∃ k:Nat,k≤ks.length∧i=.int .i64 k∧Boxed w wr (.slice ak ks.length ck) (.slice ap ps.length cp)∧Hid (∀ j,j<k→yt ks j=true)) (fun i _=>ks.length-(intOf i).toNat)
  case atStart=>exact ⟨0,Nat.zero_le _,rfl,Boxed.start _ _ _ _,fun j hj=>absurd hj (Nat.not_lt_zero _)⟩
  case round =>
    obtain ⟨k,hk,rfl,hx,HA⟩:=hrel;have x0:=hx.c0;have x1:=hx.c1;have xz:=hx.big;have HX:Hid (Boxed w wr (.slice ak ks.length ck) (.slice ap ps.length cp)):=hx;clear hx
    by_cases hlt:k<ks.length
    · obtain ⟨b,off,rfl,hc⟩:=EK.out k _ (bo hlt)
      obtain ⟨d0,d1,d2⟩:=hc.keep HX.out.below aG;have hsk:(at' ks k).s.size≤maxLen:=NK.out _ (List.mem_of_getElem? (bo hlt))
      have uh:Hid (yt ks k=false→(dM ks&&dH ps)=false):=fun h=>by rw [HBK.out,bc hlt h];rfl
      have KR:Hid (yt ks k=(gJ (at' ks k)&&gY ks k)):=rfl
      have hk0:(0:Int)≤(k:Int):=by omega
      have hk1:(k:Int)<(ks.length:Int):=by omega
      have hbl:b<wr.heap.size:=av d0
      have go1:∀ (v:Bool),Hid (gJ (at' ks k)=v)→∀ x:Later wr,Calls Tryz.prog 87 #[.agg #[.string (at' ks k).s,.int .i64 (at' ks k).x,.int .i64 (at' ks k).y]] x.val fun e w''=>e=.returned (.bool v)∧∃ y:Later wr,w''=y.val :=
        fun v hv x=>Calls.later (hv.out ▸ sD (at' ks k) x.val hsk)
      have GO:Hid (∀ (v:Bool),Hid (gJ (at' ks k)=v)→∀ x:Later wr,Calls Tryz.prog 87 #[.agg #[.string (at' ks k).s,.int .i64 (at' ks k).x,.int .i64 (at' ks k).y]] x.val fun e w''=>e=.returned (.bool v)∧∃ y:Later wr,w''=y.val):=go1;clear go1;have hne:=Later.some wr
      cases ho:gJ (at' ks k)
      · have HO:Hid (gJ (at' ks k)=false):=ho
        clear ho;go_wp2
        refine au (by kernel_rfl) (by kernel_rfl) ?_
        repeat (go_big_quiet_step (exact GO.out _ HO _))
        refine wpQuiet_nil ?_;rintro _ ⟨x,rfl⟩;go_wp2;go_ret
        exact ⟨ax (uh.out (by rw [KR.out,HO.out];rfl)).symm,aa HX.out.below x.below⟩
      · have HO:Hid (gJ (at' ks k)=true):=ho
        clear ho
        by_cases hkz:(0:Int)<(k:Int)
        · have hg:0<k:=by omega
          obtain ⟨b',off',EH,hcm'⟩:=EK.out (k-1) _ (bo (by omega))
          cases EH
          obtain ⟨m0,-,-⟩:=hcm'.keep HX.out.below aG
          have AS:Hid (gY ks k=!kz (at' ks (k-1)).s (at' ks k).s):=by
            show gY ks k=_
            obtain ⟨m,rfl⟩:∃ m,k=m+1:=⟨k-1,by omega⟩
            exact tJ ks m
          clear hcm' hc
          have hi0:(0:Int)≤(k:Int)-1:=by omega
          have hi1:(k:Int)-1<(ks.length:Int):=by omega
          go_wp2
          refine au (by kernel_rfl) (by kernel_rfl) ?_
          repeat (go_big_quiet_step (exact GO.out _ HO _))
          refine wpQuiet_nil ?_;rintro _ ⟨x,rfl⟩;go_wp2
          · rename_i h
            go_ret
            exact ⟨ax (uh.out (by rw [KR.out,HO.out,AS.out];unfold kz;rw [h];rfl)).symm,aa HX.out.below x.below⟩
          · rename_i h
            exact ⟨⟨k+1,by omega,by go_num,HX.out.call x.below,fun j hj=>if e:j=k then by rw [e,KR.out,HO.out,AS.out];unfold kz;rw [h];rfl else HA.out j (by omega)⟩,by simp [intOf];omega⟩
        · have hg:decide (0<k)=false:=by simp;omega
          go_wp2
          refine au (by kernel_rfl) (by kernel_rfl) ?_
          repeat (go_big_quiet_step (exact GO.out _ HO _))
          refine wpQuiet_nil ?_;rintro _ ⟨x,rfl⟩;go_wp2
          exact ⟨⟨k+1,by omega,by go_num,HX.out.call x.below,fun j hj=>by
            obtain rfl:j=k:=by omega
            rw [KR.out,HO.out];obtain rfl:j=0:=by omega
            rw [tH];rfl⟩,by simp [intOf];omega⟩
    · have HKT:Hid (dM ks=true):=HBK.out.trans (aX fun j hj=>HA.out j (by omega))
      go_wp2;clear HA EK NK HBK
      go_loopw [4,5] (fun i _ wr=>∃ k:Nat,k≤ps.length∧i=.int .i64 k∧Boxed w wr (.slice ak ks.length ck) (.slice ap ps.length cp)∧Hid (∀ j,j<k→ng ps j=true)) (fun i _ _=>ps.length-(intOf i).toNat)
      case atStart=>exact ⟨0,Nat.zero_le _,rfl,HX.out,fun j hj=>absurd hj (Nat.not_lt_zero _)⟩
      case round =>
        clear HX x0 x1 xz hlt hk;obtain ⟨k,hk,rfl,hx,HA⟩:=hrel;have x0:=hx.c0;have x1:=hx.c1;have xz:=hx.big;have HX:Hid (Boxed w wr (.slice ak ks.length ck) (.slice ap ps.length cp)):=hx;clear hx
        by_cases hlt:k<ps.length
        · obtain ⟨b,off,rfl,hc⟩:=EP.out k _ (bo hlt)
          obtain ⟨d0,d1,d2⟩:=hc.keep HX.out.below aG;have hsk:(at' ps k).s.size≤maxLen:=NP.out _ (List.mem_of_getElem? (bo hlt))
          have uh:Hid (ng ps k=false→(dM ks&&dH ps)=false):=fun h=>by rw [HKT.out,HBP.out,bc hlt h];rfl
          have PR:Hid (ng ps k=((gq (at' ps k)&&gY ps k)&&fw k fun i=>!jb (at' ps i) (at' ps k))):=rfl
          have hk0:(0:Int)≤(k:Int):=by omega
          have hk1:(k:Int)<(ps.length:Int):=by omega
          have hbl:b<wr.heap.size:=av d0
          have GO:Hid (∀ (v:Bool),Hid (gq (at' ps k)=v)→∀ x:Later wr,Calls Tryz.prog 88 #[.agg #[.string (at' ps k).s,.int .i64 (at' ps k).x,.int .i64 (at' ps k).y]] x.val fun e w''=>e=.returned (.bool v)∧∃ y:Later wr,w''=y.val) :=
            fun v hv x=>Calls.later (hv.out ▸ qy (at' ps k) x.val hsk)
          have hne:=Later.some wr;have HCK:Hid (gX w b (off+k*3) (at' ps k)):=hc
          cases ho:gq (at' ps k)
          · have HO:Hid (gq (at' ps k)=false):=ho
            clear ho;go_wp2
            refine au (by kernel_rfl) (by kernel_rfl) ?_
            repeat (go_big_quiet_step (exact GO.out _ HO _))
            refine wpQuiet_nil ?_;rintro _ ⟨x,rfl⟩;go_wp2;go_ret
            exact ⟨ax (uh.out (by rw [PR.out,HO.out];rfl)).symm,aa HX.out.below x.below⟩
          · have HO:Hid (gq (at' ps k)=true):=ho
            clear ho
            by_cases hkz:(0:Int)<(k:Int)
            · have hg:0<k:=by omega
              obtain ⟨b',off',EH,hcm'⟩:=EP.out (k-1) _ (bo (by omega))
              cases EH
              obtain ⟨m0,-,-⟩:=hcm'.keep HX.out.below aG
              have AS:Hid (gY ps k=!kz (at' ps (k-1)).s (at' ps k).s):=by
                show gY ps k=_
                obtain ⟨m,rfl⟩:∃ m,k=m+1:=⟨k-1,by omega⟩
                exact tJ ps m
              clear hcm' hc
              have hi0:(0:Int)≤(k:Int)-1:=by omega
              have hi1:(k:Int)-1<(ps.length:Int):=by omega
              go_wp2
              refine au (by kernel_rfl) (by kernel_rfl) ?_
              repeat (go_big_quiet_step (exact GO.out _ HO _))
              refine wpQuiet_nil ?_;rintro _ ⟨x,rfl⟩;go_wp2
              · rename_i h
                go_ret
                exact ⟨ax (uh.out (by rw [PR.out,HO.out,AS.out];unfold kz;rw [h];rfl)).symm,aa HX.out.below x.below⟩
              · rename_i h
                have HAS:Hid (gY ps k=true):=by
                  show gY ps k=true
                  rw [AS.out];unfold kz;rw [h];rfl
                clear m0;have hy0:Boxed w x.val (.slice ak ks.length ck) (.slice (some ⟨b,off,none⟩) ps.length cp):=HX.out.call x.below;have HY0:Hid (Boxed w x.val (.slice ak ks.length ck) (.slice (some ⟨b,off,none⟩) ps.length cp)):=hy0;clear hy0 GO HX x0 x1 xz d0 d1 d2 hbl hne
                go_loopw [5] (fun i wr=>∃ j:Nat,j≤k∧i=.int .i64 j∧Boxed w wr (.slice ak ks.length ck) (.slice (some ⟨b,off,none⟩) ps.length cp)∧Hid (∀ q,q<j→(!jb (at' ps q) (at' ps k))=true)) (fun i _=>k-(intOf i).toNat)
                case atStart=>exact ⟨0,Nat.zero_le _,rfl,HY0.out,fun j hj=>absurd hj (Nat.not_lt_zero _)⟩
                case round =>
                  clear HY0;obtain ⟨j,hj,rfl,hy,HB⟩:=hrel;have y0:=hy.c0;have y1:=hy.c1;have yz:=hy.big;have HY:Hid (Boxed w wr (.slice ak ks.length ck) (.slice (some ⟨b,off,none⟩) ps.length cp)):=hy;clear hy
                  by_cases hjk:j<k
                  · obtain ⟨b',off',EH,hcj⟩:=EP.out j _ (bo (by omega))
                    cases EH
                    obtain ⟨-,e1,e2⟩:=hcj.keep HY.out.below aG;obtain ⟨-,f1,f2⟩:=HCK.out.keep HY.out.below aG
                    have hj0:(0:Int)≤(j:Int):=by omega
                    have hj1:(j:Int)<(ps.length:Int):=by omega
                    have SM:Hid (jb (at' ps j) (at' ps k)=(decide ((at' ps j).x=(at' ps k).x)&&decide ((at' ps j).y=(at' ps k).y))):=rfl
                    have BADI:Hid ((!jb (at' ps j) (at' ps k))=false→(dM ks&&dH ps)=false):=fun h=>uh.out (by rw [PR.out,bc hjk h,Bool.and_false])
                    clear hcj
                    by_cases hxx:(at' ps j).x=(at' ps k).x
                    · have hxb:((at' ps j).x==(at' ps k).x)=true:=by simp [hxx]
                      have HXX:Hid ((at' ps j).x=(at' ps k).x):=hxx;clear hxx
                      by_cases hyy:(at' ps j).y=(at' ps k).y
                      · have hyb:((at' ps j).y==(at' ps k).y)=true:=by simp [hyy]
                        have HYY:Hid ((at' ps j).y=(at' ps k).y):=hyy;clear hyy;go_wp2
                        refine wp_region_quiet_lit (by kernel_rfl) (by kernel_rfl) ?_
                        repeat (go_big_quiet_step (fail))
                        refine wpQuiet_nil ?_;rintro _ ⟨nq,rfl⟩;go_wp2;go_ret
                        exact ⟨ax (BADI.out (by rw [SM.out,HXX.out,HYY.out];simp)).symm,below_drewN HY.out.below _⟩
                      · have hyb:((at' ps j).y==(at' ps k).y)=false:=by simp [hyy]
                        have HYY:Hid (¬ (at' ps j).y=(at' ps k).y):=hyy;clear hyy;go_wp2
                        refine wp_region_quiet_lit (by kernel_rfl) (by kernel_rfl) ?_
                        repeat (go_big_quiet_step (fail))
                        refine wpQuiet_nil ?_;rintro _ ⟨nq,rfl⟩;go_wp2
                        exact ⟨⟨j+1,by omega,by go_num,HY.out.drewN _,fun q hq=>if e:q=j then by rw [e,SM.out];simp [HYY.out] else HB.out q (by omega)⟩,by simp [intOf];omega⟩
                    · have hxb:((at' ps j).x==(at' ps k).x)=false:=by simp [hxx]
                      have HXX:Hid (¬ (at' ps j).x=(at' ps k).x):=hxx;clear hxx;go_wp2
                      refine wp_region_quiet_lit (by kernel_rfl) (by kernel_rfl) ?_
                      repeat (go_big_quiet_step (fail))
                      refine wpQuiet_nil ?_;rintro _ ⟨nq,rfl⟩;go_wp2
                      exact ⟨⟨j+1,by omega,by go_num,HY.out.drewN _,fun q hq=>if e:q=j then by rw [e,SM.out];simp [HXX.out] else HB.out q (by omega)⟩,by simp [intOf];omega⟩
                  · have AZ : Hid (ng ps k = true) := by
                      show ng ps k=true
                      rw [PR.out,HO.out,HAS.out,aX fun q hq=>HB.out q (by omega)];rfl
                    go_wp2
                    exact ⟨⟨k+1,by omega,by go_num,HY.out,fun q hq=>if e:q=k then by rw [e];exact AZ.out else HA.out q (by omega)⟩,by simp [intOf];omega⟩
            · have hg:decide (0<k)=false:=by simp;omega
              go_wp2
              refine au (by kernel_rfl) (by kernel_rfl) ?_
              repeat (go_big_quiet_step (exact GO.out _ HO _))
              refine wpQuiet_nil ?_;rintro _ ⟨x,rfl⟩;go_wp2
              have HAS:Hid (gY ps k=true):=by
                show gY ps k=true
                obtain rfl:k=0:=by omega
                exact tH ps
              have hy0:Boxed w x.val (.slice ak ks.length ck) (.slice (some ⟨b,off,none⟩) ps.length cp):=HX.out.call x.below;have HY0:Hid (Boxed w x.val (.slice ak ks.length ck) (.slice (some ⟨b,off,none⟩) ps.length cp)):=hy0;clear hy0 GO HX x0 x1 xz d0 d1 d2 hbl hne
              go_loopw [5] (fun i wr=>∃ j:Nat,j≤k∧i=.int .i64 j∧Boxed w wr (.slice ak ks.length ck) (.slice (some ⟨b,off,none⟩) ps.length cp)∧Hid (∀ q,q<j→(!jb (at' ps q) (at' ps k))=true)) (fun i _=>k-(intOf i).toNat)
              case atStart=>exact ⟨0,Nat.zero_le _,rfl,HY0.out,fun j hj=>absurd hj (Nat.not_lt_zero _)⟩
              case round =>
                clear HY0;obtain ⟨j,hj,rfl,hy,HB⟩:=hrel;have y0:=hy.c0;have y1:=hy.c1;have yz:=hy.big;have HY:Hid (Boxed w wr (.slice ak ks.length ck) (.slice (some ⟨b,off,none⟩) ps.length cp)):=hy;clear hy
                by_cases hjk:j<k
                · exact absurd hjk (by omega)
                · have AZ : Hid (ng ps k = true) := by
                    show ng ps k=true
                    rw [PR.out,HO.out,HAS.out,aX fun q hq=>HB.out q (by omega)];rfl
                  go_wp2
                  exact ⟨⟨k+1,by omega,by go_num,HY.out,fun q hq=>if e:q=k then by rw [e];exact AZ.out else HA.out q (by omega)⟩,by simp [intOf];omega⟩
        · go_wp2
          go_ret
          exact ⟨ax (by rw [HKT.out,HBP.out,aX fun j hj=>HA.out j (by omega)];rfl),HX.out.below⟩
end Go.Proofs.YtcmgddnckohdaaaGreatDoor
namespace Go.Proofs.YtcmgddnckohdaaaGreatDoor
open Go.RowKit
def iO (lo:Nat) (w:World) (v:Value) (l:List dU):Prop :=
 ∃ (b:Nat) (rows:List (List Value)),lo≤b∧v=.slice (some ⟨b,0,none⟩) l.length l.length∧iV w b l.length 2 rows∧rows.length=l.length ∧
  ∀ (i:Nat) (e:dU),l[i]?=some e→∃ fb:Nat,fb≠b∧lo≤fb∧rows[i]?=some [.string e.name,.slice (some ⟨fb,0,none⟩) e.fs.length e.fs.length]∧iV w fb e.fs.length 3 (e.fs.map dL)
theorem iV.iL {wr:World} {B n:Nat} {l:List fI} (h:iV wr B n 3 (l.map dL)) (hn:l.length=n) (cap:Nat) (hc:n≤cap) (hm:cap≤maxLen):iW wr (.slice (some ⟨B,0,none⟩) n cap) l :=
 ⟨some ⟨B,0,none⟩,cap,by rw [hn],by omega,hm,fun i f hf=>⟨B,0,rfl,by
  have hr:(l.map dL)[i]?=some (dL f):=by rw [List.getElem?_map,hf];rfl
  refine ⟨?_,?_,?_⟩
  ·simpa using h.cell hr (j:=0) (v:=.int .i64 f.what) rfl
  ·simpa using h.cell hr (j:=1) (v:=.int .i64 f.num) rfl
  ·simpa using h.cell hr (j:=2) (v:=.string f.v) rfl⟩⟩
theorem iO.at {lo:Nat} {w:World} {v:Value} {l:List dU} (h:iO lo w v l) (hm:l.length≤1048576) (hf:∀ e∈l,e.fs.length≤1048576):je w v l:=by
 obtain ⟨b,rows,_,rfl,hh,_,hr⟩:=h
 refine ⟨some ⟨b,0,none⟩,l.length,rfl,Nat.le_refl _,by unfold maxLen;omega,fun i e he=>⟨b,0,rfl,?_⟩⟩
 obtain ⟨fb,_,_,h1,h2⟩:=hr i e he
 refine ⟨_,?_,?_,h2.iL rfl _ aG (by have:=hf e (List.mem_of_getElem? he);unfold maxLen;omega)⟩
 ·simpa using hh.cell h1 (j:=0) rfl
 ·simpa using hh.cell h1 (j:=1) rfl
theorem iO.keep {lo:Nat} {w w':World} {v:Value} {l:List dU} (h:iO lo w v l) (hb:Below w.heap.size w w'):iO lo w' v l:=by
 obtain ⟨b,rows,hl,hv,hh,hn,hr⟩:=h;refine ⟨b,rows,hl,hv,hh.keep hb,hn,fun i e he=>?_⟩;obtain ⟨fb,h0,h1,h2,h3⟩:=hr i e he;exact ⟨fb,h0,h1,h2,h3.keep hb⟩
theorem iO.other {lo:Nat} {w:World} {v:Value} {l:List dU} (h:iO lo w v l) {k o:Nat} (hk:k<lo) (x:Value):iO lo (w.setCell ⟨k,o,none⟩ x) v l:=by
 obtain ⟨b,rows,hl,hv,hh,hn,hr⟩:=h
 refine ⟨b,rows,hl,hv,hh.other (by omega) x,hn,fun i e he=>?_⟩
 obtain ⟨fb,h0,h1,h2,h3⟩:=hr i e he
 exact ⟨fb,h0,h1,h2,h3.other (by omega) x⟩
theorem iO.mono {lo lo':Nat} {w:World} {v:Value} {l:List dU} (h:iO lo w v l) (hlo:lo'≤lo):iO lo' w v l:=by
 obtain ⟨b,rows,hl,hv,hh,hn,hr⟩:=h
 refine ⟨b,rows,by omega,hv,hh,hn,fun i e he=>?_⟩
 obtain ⟨fb,h0,h1,h2,h3⟩:=hr i e he
 exact ⟨fb,h0,by omega,h2,h3⟩
structure zg (w wr:World) (B:Nat) (l:List dU) (k:Nat) (rows:List (List Value)):Prop where
 fill:il w wr B l.length 2 rows
 len:rows.length=k
 has:∀ (i:Nat) (e:dU),i<k→l[i]?=some e→∃ fb:Nat,fb≠B∧w.heap.size≤fb∧rows[i]?=some [.string e.name,.slice (some ⟨fb,0,none⟩) e.fs.length e.fs.length]∧iV wr fb e.fs.length 3 (e.fs.map dL)
theorem qd {wr:World} {B o:Nat} {vs:List Value} {b n c:Nat} {rows:List (List Value)} (h:iV wr b n c rows) (hb:B≠b):iV (wr.setCells B o vs) b n c rows:=by
 induction vs generalizing wr o with
 | nil=>exact h
 | cons v vs ih=>exact ih (h.other hb v)
theorem zg.next {w wr w1:World} {B k fb:Nat} {l:List dU} {rows:List (List Value)} {e:dU} (h:zg w wr B l k rows) (hk:k<l.length) (he:l[k]?=some e) (hb:Below wr.heap.size wr w1) (hfb:wr.heap.size≤fb) (hh:iV w1 fb e.fs.length 3 (e.fs.map dL)) :
  zg w (w1.setCells B (k*2) [.string e.name,.slice (some ⟨fb,0,none⟩) e.fs.length e.fs.length]) B l (k+1) (rows++[[.string e.name,.slice (some ⟨fb,0,none⟩) e.fs.length e.fs.length]]):=by
 have hne:B≠fb:=by have:=h.fill.big;omega
 have hst:=(h.fill.call hb).store (r:=[.string e.name,.slice (some ⟨fb,0,none⟩) e.fs.length e.fs.length]) (by rw [h.len];exact hk) rfl
 rw [h.len] at hst
 refine ⟨hst,by simp [h.len],fun i e' hi he'=>?_⟩
 by_cases ei:i=k
 ·subst ei
  rw [he] at he';cases he'
  refine ⟨fb,Ne.symm hne,by have:=h.fill.below.size;omega,?_,qd hh hne⟩
  rw [List.getElem?_append_right (by rw [h.len];exact Nat.le_refl _),h.len];simp
 ·obtain ⟨fb',h0,h1,h2,h3⟩:=h.has i e' (by omega) he'
  refine ⟨fb',h0,h1,?_,qd (h3.keep hb) (Ne.symm h0)⟩
  rw [List.getElem?_append_left (by rw [h.len];omega)];exact h2
theorem zg.done {w wr:World} {B lo:Nat} {l:List dU} {rows:List (List Value)} (h:zg w wr B l l.length rows) (hlo:lo≤w.heap.size):iO lo wr (.slice (some ⟨B,0,none⟩) l.length l.length) l :=
 ⟨B,rows,by have:=h.fill.old;omega,rfl,h.fill.held,h.len,fun i e he=>by
  obtain ⟨fb,h0,h1,h2,h3⟩:=h.has i e (List.getElem?_eq_some_iff.1 he).1 he
  exact ⟨fb,h0,by omega,h2,h3⟩⟩
open Go.RowKit
structure dI (w:World) (vk vp ve:Value) (ks ps:List dx) (es:List dU):Prop where
 k:dA w vk ks
 p:dA w vp ps
 e:je w ve es
theorem dI.keep {w w':World} {vk vp ve:Value} {ks ps:List dx} {es:List dU} (h:dI w vk vp ve ks ps es) (hb:Below w.heap.size w w'):dI w' vk vp ve ks ps es:=⟨h.k.keep hb,h.p.keep hb,h.e.keep hb⟩
structure jU (ks ps:List dx) (es:List dU):Prop where
 k:Names ks
 p:Names ps
 e:zh es
structure uf (lo:Nat) (w:World) (vk vp ve:Value) (ks ps:List dx) (es:List dU):Prop where
 k:iX lo w vk ks
 p:iX lo w vp ps
 e:iO lo w ve es
 d:∀ b n c b' n' c',vk=.slice (some ⟨b,0,none⟩) n c∨vp=.slice (some ⟨b,0,none⟩) n c→ve=.slice (some ⟨b',0,none⟩) n' c'→b≠b'
theorem uf.keep {lo:Nat} {w w':World} {vk vp ve:Value} {ks ps:List dx} {es:List dU} (h:uf lo w vk vp ve ks ps es) (hb:Below w.heap.size w w'):uf lo w' vk vp ve ks ps es:=⟨h.k.keep hb,h.p.keep hb,h.e.keep hb,h.d⟩
def KI (ks ps:List dx) (es:List dU):Nat:=F7 ks+F7 ps+KH es
structure ic (ks ps:List dx) (es:List dU):Prop where
 k:ks.length≤1048576
 p:ps.length≤1048576
 e:es.length≤1048576
 f:∀ e∈es,e.fs.length≤1048576
 n:∀ e∈es,e.name.size≤1048576
 v:∀ e∈es,∀ f∈e.fs,f.v.size≤1048576
theorem ic.of {ks ps:List dx} {es:List dU} (h:KI ks ps es≤1048576):ic ks ps es:=by
 unfold KI F7 KH at h
 have one:∀ e∈es,zU e≤1048576:=fun e he=>by have:=Df zU es e he;omega
 refine ⟨by omega,by omega,by omega,fun e he=>?_,fun e he=>?_,fun e he f hf=>?_⟩
 ·have:=one e he;unfold zU Bh at this;omega
 ·have:=one e he;unfold zU Bh at this;omega
 ·have:=one e he;unfold zU Bh at this;have h2:f.v.size≤_:=Df (fun f:fI=>f.v.size) e.fs f hf;omega
theorem uf.at {lo:Nat} {w:World} {vk vp ve:Value} {ks ps:List dx} {es:List dU} (h:uf lo w vk vp ve ks ps es) (hs:ic ks ps es):dI w vk vp ve ks ps es:=⟨h.k.at hs.k,h.p.at hs.p,h.e.at hs.e hs.f⟩
end Go.Proofs.YtcmgddnckohdaaaGreatDoor
namespace Go.Proofs.YtcmgddnckohdaaaGreatDoor.Dr
open Go.RowKit
theorem H8 {w:World} {R p b o:Nat} {s:ByteArray} (h:Rd w R p) (hc:w.cell? ⟨b,o,none⟩=some (.string s)):b≠R:=by
 obtain ⟨v,n,hn,hx,a,cap,rfl,-⟩:=h.box;intro e;subst e
 simp only [World.cell?,hx] at hc
 rcases o with - | - | o <;> simp at hc
theorem tu {w w':World} {R b o:Nat} {u:Value} (hg:w.grownBy w' (some R)) (hb:b≠R) (hc:w.cell? ⟨b,o,none⟩=some u):w'.cell? ⟨b,o,none⟩=some u:=by
 rw [World.cell?_of_block (w:=w) (hg.block b (av hc) (fun e=>hb (Option.some.inj e)))];exact hc
theorem He {w w':World} {R p:Nat} {v:Value} {ws:List ByteArray} (h:dV w v ws) (hr:Rd w R p) (hg:w.grownBy w' (some R)):dV w' v ws:=by
 obtain ⟨g,off,cap,rfl,h1,h2,h3⟩:=h;exact ⟨g,off,cap,rfl,h1,h2,fun i x hx=>tu hg (H8 hr (h3 i x hx)) (h3 i x hx)⟩
theorem cu {w w':World} {R p:Nat} {v:Value} {l:List dx} (h:dA w v l) (hr:Rd w R p) (hg:w.grownBy w' (some R)):dA w' v l:=by
 obtain ⟨a,cap,rfl,h1,h2,h3⟩:=h;refine ⟨a,cap,rfl,h1,h2,fun i t ht=>?_⟩;obtain ⟨b,off,e,d0,d1,d2⟩:=h3 i t ht;have hb:=H8 hr d0;exact ⟨b,off,e,tu hg hb d0,tu hg hb d1,tu hg hb d2⟩
def wst (ws:List ByteArray) (i:Nat):ByteArray:=ws.getD i ⟨#[]⟩
theorem Ht {ws:List ByteArray} {i:Nat} (h:i<ws.length):ws[i]?=some (wst ws i):=by simp [wst,h]
theorem qO (R p:Nat) (v:Value) (ws:List ByteArray) (w:World) (h:Rd w R p) (hp:p≤1000000) (hv:dV w v ws) (hw:1≤ws.length∧ws.length≤1000) :
  Calls Tryz.prog 49 #[.pointer (some ⟨R,0,none⟩),v] w fun e w'=>∃ s,e=.returned (.string s)∧s∈ws∧Rd w' R (p+1)∧w.grownBy w' (some R):=by
 have HV:Hid (∀ w',w.grownBy w' (some R)→dV w' v ws):=fun w' hg=>He hv h hg
 have HP:Hid (Calls Tryz.prog 25 #[.pointer (some ⟨R,0,none⟩),.int .i64 (ws.length:Int)] w fun e w'=>∃ x:Int,e=.returned (.int .i64 x)∧0≤x∧(1≤(ws.length:Int)→x<(ws.length:Int))∧((ws.length:Int)<1→x=0)∧Rd w' R (p+1)∧w.grownBy w' (some R)):=aL R p _ w h hp (by omega)
 obtain ⟨g,off,cap,rfl,h1,h2,-⟩:=hv;unfold maxLen at h2;obtain ⟨hw1,hw2⟩:=hw
 go_enter Tryz.func49,Tryz.ntmps49
 go_wp2_with fail;refine HP.out.mono ?_;rintro e w1 ⟨x,rfl,hx0,hx1,-,hr,hg⟩
 have hx1':=hx1 (by omega)
 obtain ⟨i,rfl⟩:∃ i:Nat,x=i:=⟨x.toNat,by omega⟩
 obtain ⟨g',off',cap',e9,-,-,h3⟩:=HV.out _ hg
 cases e9
 have c0:=h3 i _ (Ht (by omega))
 have HM:Hid (wst ws i∈ws):=List.mem_of_getElem? (Ht (by omega))
 have HR:=ay hr;have HG:=ay hg;clear h3 hr hg hx1;generalize wst ws i=s at *;go_wp2;go_ret;exact ⟨s,rfl,HM.out,HR.out,HG.out⟩
end Go.Proofs.YtcmgddnckohdaaaGreatDoor.Dr
namespace Go.Proofs.YtcmgddnckohdaaaGreatDoor
open Go.RowKit
attribute [local go_sem] Later.cell Later.frozen
def CE (l:List dx) (v:ByteArray):Int:=if sj l v=true then ((l.findIdx fun t=>decide (t.s=v):Nat):Int) else -1
theorem Fj {l:List dx} {v:ByteArray} {k:Nat} (hk:k<l.length) (h:(at' l k).s=v) (hn:∀ j,j<k→¬ (at' l j).s=v):CE l v=k:=by
 unfold CE;rw [if_pos (uE hk h)]
 have e:∀ j (hj:j<l.length),at' l j=l[j]:=fun j hj=>by simp [at',hj]
 have:(l.findIdx fun t=>decide (t.s=v))=k:=by
  rw [List.findIdx_eq hk]
  refine ⟨by rw [← e k hk];simpa using h,fun j hj=>by rw [← e j (by omega)];simpa using hn j hj⟩
 rw [this]
theorem Fp {l:List dx} {v:ByteArray} (h:∀ j,j<l.length→¬ (at' l j).s=v):CE l v=-1:=by
 unfold CE;rw [if_neg];rw [xR h];simp
theorem Cz (l:List dx) (v:ByteArray):decide (0≤CE l v)=sj l v:=by
 unfold CE;cases sj l v <;> simp
theorem Mx (l:List dx) (v:ByteArray):decide (CE l v<0)=!sj l v:=by
 unfold CE;cases sj l v <;> simp
theorem yh (vk vp:Value) (l:List dx) (s:ByteArray) (w:World) (hv:dA w vk l) :
  Calls Tryz.prog 121 #[.agg #[vk,vp],.string s] w fun e w'=>e=.returned (.int .i64 (CE l s))∧Below w.heap.size w w':=by
 obtain ⟨a,cap,rfl,hlc,hcm,hc⟩:=hv;unfold maxLen at hcm;have HC:Hid (∀ i t,l[i]?=some t→∃ b off,a=some ⟨b,off,none⟩∧gX w b (off+i*3) t):=hc;clear hc
 go_enter Tryz.func121,Tryz.ntmps121
 go_wp2
 go_loopw [5] (fun i wr=>∃ k:Nat,k≤l.length∧i=.int .i64 k∧Boxed w wr (.slice a l.length cap) vp∧Hid (∀ j,j<k→¬ (at' l j).s=s)) (fun i _=>l.length-(intOf i).toNat)
 case atStart=>exact ⟨0,Nat.zero_le _,rfl,Boxed.start _ _ _ _,fun j hj=>absurd hj (Nat.not_lt_zero _)⟩
 case round =>
  obtain ⟨k,hk,rfl,hx,HA⟩:=hrel;have x0:=hx.c0;have x1:=hx.c1;have HX:Hid (Boxed w wr (.slice a l.length cap) vp):=hx;clear hx
  by_cases hlt:k<l.length
  ·obtain ⟨b,off,rfl,hc⟩:=HC.out k _ (bo hlt)
   obtain ⟨d0,d1,d2⟩:=hc.keep HX.out.below aG
   have hk0:(0:Int)≤(k:Int):=by omega
   have hk1:(k:Int)<(l.length:Int):=by omega
   by_cases hx:(at' l k).s=s
   ·have h1:((at' l k).s.toList==s.toList)=true:=cA hx
    have HH:Hid ((at' l k).s=s):=hx;clear hx;go_wp2;go_ret;exact ⟨lM (Fj hlt HH.out HA.out).symm,HX.out.below⟩
   ·have h1:((at' l k).s.toList==s.toList)=false:=b9 hx
    have HH:Hid (¬ (at' l k).s=s):=hx;clear hx;go_wp2
    exact ⟨⟨k+1,by omega,by go_num,HX.out,fun j hj=>if e:j=k then by rw [e];exact HH.out else HA.out j (by omega)⟩,by simp [intOf];omega⟩
  ·go_wp2
   go_ret
   exact ⟨lM (Fp fun j hj=>HA.out j (by omega)).symm,HX.out.below⟩
theorem vK (vk vp:Value) (l:List dx) (s:ByteArray) (w:World) (hv:dA w vp l) :
  Calls Tryz.prog 122 #[.agg #[vk,vp],.string s] w fun e w'=>e=.returned (.int .i64 (CE l s))∧Below w.heap.size w w':=by
 obtain ⟨a,cap,rfl,hlc,hcm,hc⟩:=hv;unfold maxLen at hcm;have HC:Hid (∀ i t,l[i]?=some t→∃ b off,a=some ⟨b,off,none⟩∧gX w b (off+i*3) t):=hc;clear hc
 go_enter Tryz.func122,Tryz.ntmps122
 go_wp2
 go_loopw [5] (fun i wr=>∃ k:Nat,k≤l.length∧i=.int .i64 k∧Boxed w wr vk (.slice a l.length cap)∧Hid (∀ j,j<k→¬ (at' l j).s=s)) (fun i _=>l.length-(intOf i).toNat)
 case atStart=>exact ⟨0,Nat.zero_le _,rfl,Boxed.start _ _ _ _,fun j hj=>absurd hj (Nat.not_lt_zero _)⟩
 case round =>
  obtain ⟨k,hk,rfl,hx,HA⟩:=hrel;have x0:=hx.c0;have x1:=hx.c1;have HX:Hid (Boxed w wr vk (.slice a l.length cap)):=hx;clear hx
  by_cases hlt:k<l.length
  ·obtain ⟨b,off,rfl,hc⟩:=HC.out k _ (bo hlt)
   obtain ⟨d0,d1,d2⟩:=hc.keep HX.out.below aG
   have hk0:(0:Int)≤(k:Int):=by omega
   have hk1:(k:Int)<(l.length:Int):=by omega
   by_cases hx:(at' l k).s=s
   ·have h1:((at' l k).s.toList==s.toList)=true:=cA hx
    have HH:Hid ((at' l k).s=s):=hx;clear hx;go_wp2;go_ret;exact ⟨lM (Fj hlt HH.out HA.out).symm,HX.out.below⟩
   ·have h1:((at' l k).s.toList==s.toList)=false:=b9 hx
    have HH:Hid (¬ (at' l k).s=s):=hx;clear hx;go_wp2
    exact ⟨⟨k+1,by omega,by go_num,HX.out,fun j hj=>if e:j=k then by rw [e];exact HH.out else HA.out j (by omega)⟩,by simp [intOf];omega⟩
  ·go_wp2
   go_ret
   exact ⟨lM (Fp fun j hj=>HA.out j (by omega)).symm,HX.out.below⟩
def oC (x:ByteArray):Int:=bif eu x then (lI x:Int) else -1
theorem xM {x:ByteArray} (h:eu x=true):oC x=lI x:=by unfold oC;rw [h];rfl
theorem BK {x:ByteArray} (h:eu x=false):oC x=-1:=by unfold oC;rw [h];rfl
theorem Kz (x0 x1:ByteArray):(eu x0&&(eu x1&&(decide (lI x0≤lI x1)&&decide (lI x1≤10000))))=(decide (0≤oC x0)&&eB (oC x1) (oC x0) 10000):=by
 cases h0:eu x0
 ·rw [BK h0];rfl
 ·rw [xM h0]
  cases h1:eu x1
  ·rw [BK h1];simp [eB];omega
  ·rw [xM h1,Bool.eq_iff_iff];simp [eB];omega
theorem BS (v:Value) (ws:List ByteArray) (w:World) (hv:dV w v ws) (hz:∀ x∈ws,x.size≤1048576) :
  Calls Tryz.prog 166 #[v] w fun e w'=>e=.returned (.bool (ja ws))∧Below w.heap.size w w':=by
 obtain ⟨g,off,cap,rfl,hlc,hcm,hc⟩:=hv;unfold maxLen at hcm
 by_cases h2:ws.length=2
 ·have h2':(((ws.length:Nat):Int)==2)=true:=by simp [h2]
  have h2i:(1:Int)<((ws.length:Nat):Int):=by omega
  have h2j:1<ws.length:=by omega
  have h2k:0<ws.length:=by omega
  have c0:w.cell? ⟨g,off,none⟩=some (.string (dE ws 0)):=by simpa using hc 0 _ (bA h2k)
  have c1:w.cell? ⟨g,off+1,none⟩=some (.string (dE ws 1)):=hc 1 _ (bA h2j);have hg:g<w.heap.size:=av c0;have Z0:Hid ((dE ws 0).size≤1048576):=hz _ (List.mem_of_getElem? (bA h2k));have Z1:Hid ((dE ws 1).size≤1048576):=hz _ (List.mem_of_getElem? (bA h2j))
  have HE:Hid (ja ws=(eu (dE ws 0)&&(eu (dE ws 1)&&(decide (lI (dE ws 0)≤lI (dE ws 1))&&decide (lI (dE ws 1)≤10000))))):=by show ja ws=_;unfold ja;simp [h2]
  clear hz hc h2;generalize dE ws 0=x0 at *;generalize dE ws 1=x1 at *;have hne:=Later.some w
  have GN:Hid (∀ (x:ByteArray),x.size≤1048576→∀ y:Later w,Calls Tryz.prog 120 #[.string x] y.val fun e w''=>e=.returned (.int .i64 (oC x))∧∃ z:Later w,w''=z.val) :=
   fun x hx y=>Calls.xX (cg x y.val (by unfold maxLen;omega))
  have GI:Hid (∀ (a b c:Int) (y:Later w),Calls Tryz.prog 84 #[.int .i64 a,.int .i64 b,.int .i64 c] y.val fun e w''=>e=.returned (.bool (eB a b c))∧∃ z:Later w,w''=z.val) :=
   fun a b c y=>Calls.xX (bi a b c y.val)
  have HE2:Hid (ja ws=(decide (0≤oC x0)&&eB (oC x1) (oC x0) 10000)):=by
   show ja ws=_
   rw [HE.out];exact Kz x0 x1
  clear HE
  by_cases hq:0≤oC x0
  ·have hq':decide (0≤oC x0)=true:=decide_eq_true hq
   have HE:Hid (ja ws=eB (oC x1) (oC x0) 10000):=by show ja ws=_;rw [HE2.out,hq'];rfl
   have z0:=Z0.out;have z1:=Z1.out;clear HE2 Z0 Z1
   go_enter Tryz.func166,Tryz.ntmps166
   go_wp2
   refine au (by kernel_rfl) (by kernel_rfl) ?_
   repeat (go_big_quiet_step (first | (go_at_call 120;exact GN.out _ (by assumption) _) | (go_at_call 84;exact GI.out _ _ _ _)))
   refine wpQuiet_nil ?_;rintro _ ⟨x,rfl⟩;go_wp2;go_ret;exact ⟨ax HE.out.symm,x.below⟩
  ·have hq':decide (0≤oC x0)=false:=decide_eq_false hq
   have HE:Hid (ja ws=false):=by show ja ws=_;rw [HE2.out,hq'];rfl
   have z0:=Z0.out;clear HE2 Z0 Z1 hq
   go_enter Tryz.func166,Tryz.ntmps166
   go_wp2
   refine au (by kernel_rfl) (by kernel_rfl) ?_
   repeat (go_big_quiet_step (first | (go_at_call 120;exact GN.out _ (by assumption) _)))
   refine wpQuiet_nil ?_;rintro _ ⟨x,rfl⟩;go_wp2;go_ret;exact ⟨ax HE.out.symm,x.below⟩
 ·have h2':(((ws.length:Nat):Int)==2)=false:=by simp;omega
  have e:ja ws=false:=by unfold ja;simp [h2]
  have hne:=Later.some w;rw [e];clear e hc hz
  go_enter Tryz.func166,Tryz.ntmps166
  go_wp2
  refine au (by kernel_rfl) (by kernel_rfl) ?_
  repeat (go_big_quiet_step (fail))
  refine wpQuiet_nil ?_;rintro _ ⟨x,rfl⟩;go_wp2;go_ret;exact ⟨rfl,x.below⟩
end Go.Proofs.YtcmgddnckohdaaaGreatDoor
namespace Go.Proofs.YtcmgddnckohdaaaGreatDoor
open Go.RowKit
attribute [local go_sem] Later.cell Later.frozen
theorem dV.cellS {w:World} {g off n cap:Nat} {ws:List ByteArray} (h:dV w (.slice (some ⟨g,off,none⟩) n cap) ws) (i:Nat) (hi:i<ws.length):w.cell? ⟨g,off+i,none⟩=some (.string (dE ws i)):=by
 obtain ⟨g',off',cap',e,_,_,hc⟩:=h
 cases e
 exact hc i _ (bA hi)
theorem Gg {ps:List dx} {ws:List ByteArray} (h:eB ws.length 2 8=false):gL ps ws=false:=by unfold gL;rw [h];rfl
theorem Dv {ps:List dx} {ws:List ByteArray} (h:eB ws.length 2 8=true):gL ps ws=fw ws.length (gT ps ws):=by unfold gL;rw [h];rfl
theorem zJ (vk vp v:Value) (ps:List dx) (ws:List ByteArray) (w:World) (hp:dA w vp ps) (hv:dV w v ws) (hmem:∀ x,sj ps x=hasB ps x) :
  Calls Tryz.prog 167 #[.agg #[vk,vp],v] w fun e w'=>e=.returned (.bool (gL ps ws))∧Below w.heap.size w w':=by
 have HST:Hid (dV w v ws):=hv;have HP:Hid (dA w vp ps):=hp;have HMEM:Hid (∀ x,sj ps x=hasB ps x):=hmem;obtain ⟨g,off,cap,rfl,hlc,hcm,-⟩:=hv;clear hp hmem;unfold maxLen at hcm
 cases hin:eB ws.length 2 8
 ·have HI:Hid (eB ws.length 2 8=false):=hin
  have e:gL ps ws=false:=Gg hin;rw [e];clear e hin
  go_enter Tryz.func167,Tryz.ntmps167
  go_wp2_with fail;refine (bi _ _ _ _).mono ?_;rw [HI.out];rintro e w1 ⟨rfl,rfl⟩;go_wp2;go_ret;exact ⟨rfl,(aM)⟩
 have HI:Hid (eB ws.length 2 8=true):=hin;have e:gL ps ws=fw ws.length (gT ps ws):=Dv hin
 have h8:ws.length≤8:=by simp [eB] at hin;omega
 rw [e];clear e hin
 go_enter Tryz.func167,Tryz.ntmps167
 go_wp2_with fail;refine (bi _ _ _ _).mono ?_;rw [HI.out];rintro e w1 ⟨rfl,rfl⟩;go_wp2
 go_loopw [5] (fun i wr=>∃ k:Nat,k≤ws.length∧i=.int .i64 k∧Boxed w wr vk vp∧Hid (∀ j,j<k→gT ps ws j=true)) (fun i _=>ws.length-(intOf i).toNat)
 case atStart=>exact ⟨0,Nat.zero_le _,rfl,Boxed.start _ _ _ _,fun j hj=>absurd hj (Nat.not_lt_zero _)⟩
 case round =>
  obtain ⟨k,hk,rfl,hx,HA⟩:=hrel;have x0:=hx.c0;have x1:=hx.c1;have xz:=hx.big;have HX:Hid (Boxed w wr vk vp):=hx;clear hx
  by_cases hlt:k<ws.length
  ·have c0:wr.cell? ⟨g,off+k,none⟩=some (.string (dE ws k)):=(HST.out.keep HX.out.below).cellS k hlt
   have hgl:g<wr.heap.size:=av c0
   have hk0:(0:Int)≤(k:Int):=by omega
   have hk1:(k:Int)<(ws.length:Int):=by omega
   have hne:=Later.some wr
   have GP:Hid (∀ (x:ByteArray) (y:Later wr),Calls Tryz.prog 122 #[.agg #[vk,vp],.string x] y.val fun e w''=>e=.returned (.int .i64 (CE ps x))∧∃ z:Later wr,w''=z.val) :=
    fun x y=>Calls.later (vK vk vp ps x y.val ((HP.out.keep HX.out.below).keep y.below))
   cases hh:hasB ps (dE ws k)
   ·have hq:decide (CE ps (dE ws k)<0)=true:=by rw [Mx,HMEM.out,hh];rfl
    have HH:Hid (gT ps ws k=false):=by show gT ps ws k=false;unfold gT;rw [hh];rfl
    clear hh;go_wp2
    refine au (by kernel_rfl) (by kernel_rfl) ?_
    repeat (go_big_quiet_step (first | (go_at_call 122;exact GP.out _ _)))
    refine wpQuiet_nil ?_;rintro _ ⟨x,rfl⟩;go_wp2;go_ret;exact ⟨ax (bc hlt HH.out).symm,aa HX.out.below x.below⟩
   ·have hq:decide (CE ps (dE ws k)<0)=false:=by rw [Mx,HMEM.out,hh];rfl
    have HH:Hid (hasB ps (dE ws k)=true):=hh;clear hh
    by_cases hz:0<k
    ·have hz':decide (0<k)=true:=by simp [hz]
     have c1:wr.cell? ⟨g,off+(k-1),none⟩=some (.string (dE ws (k-1))):=(HST.out.keep HX.out.below).cellS (k-1) (by omega)
     have hi0:(0:Int)≤(k:Int)-1:=by omega
     have hi1:(k:Int)-1<(ws.length:Int):=by omega
     by_cases hx:dE ws (k-1)=dE ws k
     ·have he:((dE ws (k-1)).toList==(dE ws k).toList)=true:=cA hx
      have HF:Hid (gT ps ws k=false):=by show gT ps ws k=false;unfold gT;simp [hx,hz]
      clear hx;go_wp2
      refine au (by kernel_rfl) (by kernel_rfl) ?_
      repeat (go_big_quiet_step (first | (go_at_call 122;exact GP.out _ _)))
      refine wpQuiet_nil ?_;rintro _ ⟨x,rfl⟩;go_wp2;go_ret;exact ⟨ax (bc hlt HF.out).symm,aa HX.out.below x.below⟩
     ·have he:((dE ws (k-1)).toList==(dE ws k).toList)=false:=b9 hx
      have HF:Hid (gT ps ws k=true):=by show gT ps ws k=true;unfold gT;rw [HH.out];simp [hx]
      clear hx;go_wp2
      refine au (by kernel_rfl) (by kernel_rfl) ?_
      repeat (go_big_quiet_step (first | (go_at_call 122;exact GP.out _ _)))
      refine wpQuiet_nil ?_;rintro _ ⟨x,rfl⟩;go_wp2
      exact ⟨⟨k+1,by omega,by go_num,HX.out.call x.below,fun j hj=>if e:j=k then by rw [e];exact HF.out else HA.out j (by omega)⟩,by simp [intOf];omega⟩
    ·have hz':decide (0<k)=false:=by simp;omega
     have HF:Hid (gT ps ws k=true):=by show gT ps ws k=true;unfold gT;rw [HH.out];simp [hz]
     go_wp2
     refine au (by kernel_rfl) (by kernel_rfl) ?_
     repeat (go_big_quiet_step (first | (go_at_call 122;exact GP.out _ _)))
     refine wpQuiet_nil ?_;rintro _ ⟨x,rfl⟩;go_wp2
     exact ⟨⟨k+1,by omega,by go_num,HX.out.call x.below,fun j hj=>if e:j=k then by rw [e];exact HF.out else HA.out j (by omega)⟩,by simp [intOf];omega⟩
  ·go_wp2
   go_ret
   exact ⟨ax (aX fun j hj=>HA.out j (by omega)).symm,HX.out.below⟩
theorem xK:DW.toList=[111,112,101,110]:=by rw [ByteArray.toList_eq];rfl
theorem sW:pJ.toList=[99,108,111,115,101,100]:=by rw [ByteArray.toList_eq];rfl
theorem Js (s:ByteArray):eB (oC s) 1 6=kD s:=by
 unfold kD
 cases h:eu s
 ·rw [BK h];rfl
 ·rw [xM h];rfl
theorem Bp (vk vp:Value) (ks ps:List dx) (what:Int) (s:ByteArray) (w:World) (hk:dA w vk ks) (hp:dA w vp ps) (nk:Names ks) (np:Names ps) (hs:s.size≤1048576) :
  Calls Tryz.prog 138 #[.agg #[vk,vp],.int .i64 what,.string s] w fun e w'=>e=.returned (.bool (eF ks ps&&gU ks ps what s))∧Below w.heap.size w w':=by
 have HK:=hk;have HP:=hp;obtain ⟨ak,ck,rfl,-,-,-⟩:=hk;obtain ⟨ap,cp,rfl,-,-,-⟩:=hp;have Ho:Hid (dA w (.slice ak ks.length ck) ks):=HK;have uW:Hid (dA w (.slice ap ps.length cp) ps):=HP;have HB:Hid (∀ wx:World,Below w.heap.size w wx→Calls Tryz.prog 47 #[.agg #[.slice ak ks.length ck,.slice ap ps.length cp]] wx fun e w'=>e=.returned (.bool (eF ks ps))∧Below wx.heap.size wx w'):=fun wx hx=>rJ _ _ ks ps wx (HK.keep hx) (HP.keep hx) nk np
 have Kh:Hid (∀ wx:World,Calls Tryz.prog 54 #[.string s,.int .u8 32] wx fun e w'=>∃ v,e=.returned v∧dV w' v (dn s)∧Below wx.heap.size wx w') :=
  fun wx=>(uH s wx hs).mono fun e w' ⟨v,ws,he,hst,hm,hb⟩=>⟨v,he,Cu hm ▸ hst,hb⟩
 have zm:Hid (∀ x∈dn s,x.size≤1048576):=fun x hx=>Nat.le_trans (AO s x hx) hs;clear HK HP nk np
 cases hbb:eF ks ps
 ·have A7:Hid (eF ks ps=false):=hbb
  rw [Bool.false_and];clear hbb
  go_enter Tryz.func138,Tryz.ntmps138
  go_wp2_with fail;refine (HB.out _ (aM)).mono ?_;rw [A7.out];rintro e w1 ⟨rfl,hb1⟩;go_wp2;go_ret;exact ⟨rfl,aa (aM) hb1⟩
 have A7:Hid (eF ks ps=true):=hbb
 have HKA:Hid (∀ i,i<ks.length→gY ks i=true):=Jz (by unfold eF at hbb;rw [Bool.and_eq_true] at hbb;exact hbb.1)
 have HPA:Hid (∀ i,i<ps.length→gY ps i=true):=Gm (by unfold eF at hbb;rw [Bool.and_eq_true] at hbb;exact hbb.2)
 rw [Bool.true_and];clear hbb
 have HV:Hid (∀ k:Int,what=k→gU ks ps what s=gU ks ps k s):=fun k hk=>by rw [hk]
 generalize hcw:dn s=ws at *
 have E2:Hid (gU ks ps 2 s=ja ws):=by show _=_;rw [← hcw];rfl
 have E4:Hid (gU ks ps 4 s=gL ps ws):=by show _=_;rw [← hcw];rfl
 clear hcw;have E1:Hid (gU ks ps 1 s=hasB ks s):=rfl;have E3:Hid (gU ks ps 3 s=kD s):=rfl;have E5:Hid (gU ks ps 5 s=iq s):=rfl
 have E6:Hid (¬ what=1→¬ what=2→¬ what=3→¬ what=4→¬ what=5→gU ks ps what s=false):=fun h1 h2 h3 h4 h5=>by simp [gU,h1,h2,h3,h4,h5]
 go_enter Tryz.func138,Tryz.ntmps138
 go_wp2_with fail;refine (HB.out _ (aM)).mono ?_;rw [A7.out];rintro e w1 ⟨rfl,hb1⟩;have hx1:Boxed w w1 (.slice ak ks.length ck) (.slice ap ps.length cp):=(Boxed.start w _ _ _).call hb1;have jG:Hid (Boxed w w1 (.slice ak ks.length ck) (.slice ap ps.length cp)):=hx1;clear hx1 hb1;go_wp2_with fail;refine (Kh.out _).mono ?_;rintro e w2 ⟨v,rfl,hst,hb2⟩;have hx2:=jG.out.call hb2;have x0:=hx2.c0;have x1:=hx2.c1;have jF:Hid (Boxed w w2 (.slice ak ks.length ck) (.slice ap ps.length cp)):=hx2;have HST:Hid (dV w2 v ws):=hst;obtain ⟨g,off,cap,rfl,-,-,-⟩:=hst;clear hx2 hb2 jG HB Kh
 by_cases h1:what=1
 ·subst h1
  go_wp2_with fail;refine (yh _ _ ks s _ (Ho.out.keep jF.out.below)).mono ?_;rintro e w3 ⟨rfl,hb3⟩;go_wp2;go_ret
  exact ⟨ax (by rw [E1.out];rw [Cz];exact (sM HKA.out).symm),aa jF.out.below hb3⟩
 have g1:(what==1)=false:=by simp [h1]
 by_cases h2:what=2
 ·subst h2
  go_wp2_with fail;refine (BS _ ws _ HST.out zm.out).mono ?_;rintro e w3 ⟨rfl,hb3⟩;go_wp2;go_ret;exact ⟨ax E2.out.symm,aa jF.out.below hb3⟩
 have g2:(what==2)=false:=by simp [h2]
 by_cases h3:what=3
 ·subst h3
  go_wp2_with fail
  refine (cg s _ (by unfold maxLen;omega)).mono ?_
  rintro e w3 ⟨rfl,rfl⟩;go_wp2_with fail;refine (bi _ _ _ _).mono ?_;rintro e w4 ⟨rfl,rfl⟩;go_wp2;go_ret
  exact ⟨ax (by rw [E3.out];exact Js s),jF.out.below⟩
 have g3:(what==3)=false:=by simp [h3]
 by_cases h4:what=4
 ·subst h4
  go_wp2_with fail;refine (zJ _ _ _ ps ws _ (uW.out.keep jF.out.below) HST.out fun x=>(sM HPA.out).symm).mono ?_;rintro e w3 ⟨rfl,hb3⟩;go_wp2;go_ret;exact ⟨ax E4.out.symm,aa jF.out.below hb3⟩
 have g4:(what==4)=false:=by simp [h4]
 by_cases h5:what=5
 ·subst h5
  by_cases q1:s=DW
  ·have r1:(s.toList==[111,112,101,110])=true:=xK ▸ cA q1
   have HF:Hid (iq s=true):=by show iq s=true;simp [iq,q1]
   clear q1;go_wp2;go_ret
   exact ⟨ax (by rw [E5.out,HF.out]),jF.out.below⟩
  ·have r1:(s.toList==[111,112,101,110])=false:=xK ▸ b9 q1
   by_cases q2:s=pJ
   ·have r2:(s.toList==[99,108,111,115,101,100])=true:=sW ▸ cA q2
    have HF:Hid (iq s=true):=by show iq s=true;simp [iq,q2]
    clear q1 q2;go_wp2;go_ret
    exact ⟨ax (by rw [E5.out,HF.out]),jF.out.below⟩
   ·have r2:(s.toList==[99,108,111,115,101,100])=false:=sW ▸ b9 q2
    have HF:Hid (iq s=false):=by show iq s=false;simp [iq,q1,q2]
    clear q1 q2;go_wp2;go_ret
    exact ⟨ax (by rw [E5.out,HF.out]),jF.out.below⟩
 have g5:(what==5)=false:=by simp [h5]
 have HF:Hid (gU ks ps what s=false):=E6.out h1 h2 h3 h4 h5;clear h1 h2 h3 h4 h5;go_wp2;go_ret;exact ⟨ax HF.out.symm,jF.out.below⟩
theorem mo (vk vp:Value) (ks ps:List dx) (c:dP) (w:World) (hk:dA w vk ks) (hp:dA w vp ps) (nk:Names ks) (np:Names ps) (hf:c.f.size≤1048576) (hs:c.v.size≤1048576) :
  Calls Tryz.prog 89 #[.agg #[vk,vp],.agg #[.string c.f,.int .i64 c.what,.int .i64 c.num,.string c.v]] w fun e w'=>e=.returned (.bool (eF ks ps&&gy ks ps c))∧Below w.heap.size w w':=by
 have HK:=hk;have HP:=hp;obtain ⟨ak,ck,rfl,-,-,-⟩:=hk;obtain ⟨ap,cp,rfl,-,-,-⟩:=hp;have HF:Hid (∀ wx:World,Below w.heap.size w wx→Calls Tryz.prog 138 #[.agg #[.slice ak ks.length ck,.slice ap ps.length cp],.int .i64 c.what,.string c.v] wx fun e w'=>e=.returned (.bool (eF ks ps&&gU ks ps c.what c.v))∧Below wx.heap.size wx w'):=fun wx hx=>Bp _ _ ks ps c.what c.v wx (HK.keep hx) (HP.keep hx) nk np hs;clear HK HP nk np;obtain ⟨f,what,num,v⟩:=c;dsimp only at *
 have HE:Hid ((eF ks ps&&gy ks ps ⟨f,what,num,v⟩)=(dD f&&(eB num 1 1000000&&(eF ks ps&&gU ks ps what v)))):=by
  show (eF ks ps&&(dD f&&(eB num 1 1000000&&gU ks ps what v)))=_
  cases eF ks ps <;> cases dD f <;> cases eB num 1 1000000 <;> rfl
 generalize (eF ks ps&&gy ks ps ⟨f,what,num,v⟩)=res at *;generalize (eF ks ps&&gU ks ps what v)=b3 at *
 go_enter Tryz.func89,Tryz.ntmps89
 go_wp2_with fail
 refine (bh f _ (by unfold maxLen;omega)).mono ?_
 generalize dD f=b1 at *;rintro e w1 ⟨rfl,rfl⟩
 cases b1
 ·go_wp2
  go_ret
  exact ⟨ax (by rw [HE.out];rfl),(aM).alloc (by simp) _⟩
 ·go_wp2_with fail
  refine (bi _ _ _ _).mono ?_;generalize eB num 1 1000000=b2 at *;rintro e w2 ⟨rfl,rfl⟩
  cases b2
  ·go_wp2
   go_ret
   exact ⟨ax (by rw [HE.out];rfl),(aM).alloc (by simp) _⟩
  ·go_wp2_with fail
   refine (HF.out _ ((aM).alloc (by simp) _)).mono ?_
   rintro e w3 ⟨rfl,hb3⟩;go_wp2;go_ret
   exact ⟨ax (by rw [HE.out];rfl),aa ((aM).alloc (by simp) _) hb3⟩
end Go.Proofs.YtcmgddnckohdaaaGreatDoor
namespace Go.Proofs.YtcmgddnckohdaaaGreatDoor
open Go.RowKit
attribute [local go_sem] Later.cell Later.frozen
theorem mD {a b:Bool} (h:a=b):Ending.returned (.bool a)=.returned (.bool b):=by rw [h]
def nQ (a b:dx):Bool:=(a.s.toList==b.s.toList)&&((a.x==b.x)&&(a.y==b.y))
def qg (l m:List dx):Bool:=(l.length==m.length)&&fw l.length fun i=>nQ (at' l i) (at' m i)
theorem wY {l m:List dx} {k:Nat} (hk:k<l.length) (h:nQ (at' l k) (at' m k)=false):qg l m=false:=by
 unfold qg
 cases ha:fw l.length fun i=>nQ (at' l i) (at' m i)
 ·simp
 ·have:=bH ha k hk
  rw [h] at this
  cases this
theorem zW {l m:List dx} (h:¬ l.length=m.length):qg l m=false:=by simp [qg,h]
theorem uo {l m:List dx} (h:l.length=m.length) (ha:∀ i,i<l.length→nQ (at' l i) (at' m i)=true):qg l m=true:=by
 unfold qg;rw [aX ha,h]
 simp
theorem uY (a b:dx):(nQ a b=true∧(a.s.toList==b.s.toList)=true∧(a.x==b.x)=true∧(a.y==b.y)=true)∨(nQ a b=false∧((a.s.toList==b.s.toList)=false∨((a.s.toList==b.s.toList)=true∧(a.x==b.x)=false)∨((a.s.toList==b.s.toList)=true∧(a.x==b.x)=true∧(a.y==b.y)=false))):=by
 unfold nQ
 cases (a.s.toList==b.s.toList) <;> cases (a.x==b.x) <;> cases (a.y==b.y) <;> simp
def jM (ks ks' ps ps':List dx):Bool:=qg ks ks'&&qg ps ps'
end Go.Proofs.YtcmgddnckohdaaaGreatDoor
namespace Go.Proofs.YtcmgddnckohdaaaGreatDoor
open Go.RowKit
def oneM (n:Int):ByteArray:=⟨#[UInt8.ofNat n.toNat]⟩
def mkD (k:Nat) (out:ByteArray):ByteArray:=if _h:k=0 then out else mkD (k / 10) (oneM (48+(k:Int) % 10)++out)
termination_by k
decreasing_by omega
def mkT (k:Nat):ByteArray:=if k=0 then ⟨#[109,48]⟩ else ⟨#[109]⟩++mkD k ⟨#[]⟩
open Go.RowKit
attribute [local go_sem] Later.cell Later.frozen
theorem I4 (vk vp uk up:Value) (ks ps ks' ps':List dx) (w:World) (hk:dA w vk ks) (hp:dA w vp ps) (hk':dA w uk ks') (hp':dA w up ps') (lk:ks.length≤1048576) (lp:ps.length≤1048576) :
  Calls Tryz.prog 35 #[.agg #[vk,vp],.agg #[uk,up]] w fun e w'=>e=.returned (.bool (jM ks ks' ps ps'))∧Below w.heap.size w w':=by
 obtain ⟨ak,ck,rfl,-,m1,h1⟩:=hk;obtain ⟨ap,cp,rfl,-,m2,h2⟩:=hp;obtain ⟨FJ,GX,rfl,-,m3,h3⟩:=hk';obtain ⟨FI,cp',rfl,-,m4,h4⟩:=hp';unfold maxLen at m1 m2 m3 m4;have HU:Hid (∀ i t,ks[i]?=some t→∃ b off,ak=some ⟨b,off,none⟩∧w.cell? ⟨b,off+i*3,none⟩=some (.string t.s)∧w.cell? ⟨b,off+i*3+1,none⟩=some (.int .i64 t.x)∧w.cell? ⟨b,off+i*3+2,none⟩=some (.int .i64 t.y)):=h1;have HP:Hid (∀ i t,ps[i]?=some t→∃ b off,ap=some ⟨b,off,none⟩∧w.cell? ⟨b,off+i*3,none⟩=some (.string t.s)∧w.cell? ⟨b,off+i*3+1,none⟩=some (.int .i64 t.x)∧w.cell? ⟨b,off+i*3+2,none⟩=some (.int .i64 t.y)):=h2;have HV:Hid (∀ i t,ks'[i]?=some t→∃ b off,FJ=some ⟨b,off,none⟩∧w.cell? ⟨b,off+i*3,none⟩=some (.string t.s)∧w.cell? ⟨b,off+i*3+1,none⟩=some (.int .i64 t.x)∧w.cell? ⟨b,off+i*3+2,none⟩=some (.int .i64 t.y)):=h3;have HQ:Hid (∀ i t,ps'[i]?=some t→∃ b off,FI=some ⟨b,off,none⟩∧w.cell? ⟨b,off+i*3,none⟩=some (.string t.s)∧w.cell? ⟨b,off+i*3+1,none⟩=some (.int .i64 t.x)∧w.cell? ⟨b,off+i*3+2,none⟩=some (.int .i64 t.y)):=h4;clear h1 h2 h3 h4
 have HX0:Hid (OwnAt w ((w.alloc (.cells #[.slice ak ks.length ck,.slice ap ps.length cp] 27)).alloc (.cells #[.slice FJ ks'.length GX,.slice FI ps'.length cp'] 27)) [[.slice ak ks.length ck,.slice ap ps.length cp],[.slice FJ ks'.length GX,.slice FI ps'.length cp']]):=((OwnAt.start w).push rfl _ _).push (by simp) _ _
 by_cases hl1:ks.length=ks'.length
 ·have q1:(((ks.length:Nat):Int) != ((ks'.length:Nat):Int))=false:=by simp [hl1]
  have HLK:Hid (ks.length=ks'.length):=hl1
  have le1:ks.length≤ks'.length:=by omega
  clear hl1
  by_cases hl2:ps.length=ps'.length
  ·have q2:(((ps.length:Nat):Int) != ((ps'.length:Nat):Int))=false:=by simp [hl2]
   have HLP:Hid (ps.length=ps'.length):=hl2
   have le2:ps.length≤ps'.length:=by omega
   clear hl2
   go_enter Tryz.func35,Tryz.ntmps35
   go_wp2
   go_loopw [5] (fun i wr=>∃ k:Nat,k≤ks.length∧i=.int .i64 k∧Hid (∀ i,i<k→nQ (at' ks i) (at' ks' i)=true)∧Hid (OwnAt w wr [[.slice ak ks.length ck,.slice ap ps.length cp],[.slice FJ ks'.length GX,.slice FI ps'.length cp']])) (fun i _=>ks.length-(intOf i).toNat)
   case atStart=>exact ⟨0,Nat.zero_le _,rfl,fun i hi=>absurd hi (Nat.not_lt_zero _),HX0.out⟩
   case round =>
    clear HX0;obtain ⟨k,hk,rfl,HA,HX⟩:=hrel;have x0:wr.cell? ⟨w.heap.size,0,none⟩=some (.slice ak ks.length ck):=(HX.out.has 0 _ rfl 0 _ rfl).1;have x1:wr.cell? ⟨w.heap.size,1,none⟩=some (.slice ap ps.length cp):=(HX.out.has 0 _ rfl 1 _ rfl).1;have y0:wr.cell? ⟨w.heap.size+1,0,none⟩=some (.slice FJ ks'.length GX):=(HX.out.has 1 _ rfl 0 _ rfl).1;have y1:wr.cell? ⟨w.heap.size+1,1,none⟩=some (.slice FI ps'.length cp'):=(HX.out.has 1 _ rfl 1 _ rfl).1;have hxz:w.heap.size<wr.heap.size:=av x0;have hyz:w.heap.size+1<wr.heap.size:=av y0
    by_cases hlt:k<ks.length
    ·obtain ⟨b,off,rfl,d0,d1,d2⟩:=HU.out k _ (bo hlt)
     obtain ⟨b',off',rfl,e0,e1,e2⟩:=HV.out k _ (bo (show k<ks'.length by omega))
     have c0:=ag HX.out.below aG d0;have c1:=ag HX.out.below aG d1;have c2:=ag HX.out.below aG d2;have f0:=ag HX.out.below aG e0;have f1:=ag HX.out.below aG e1;have f2:=ag HX.out.below aG e2;have z1:=av c0;have z2:=av f0;clear d0 d1 d2 e0 e1 e2
     have hk0:(0:Int)≤(k:Int):=by omega
     have hk1:(k:Int)<(ks.length:Int):=by omega
     have hk2:(k:Int)<(ks'.length:Int):=by omega
     have hne:=Later.some wr
     rcases uY (at' ks k) (at' ks' k) with ⟨ht,h1,h2,h3⟩ | ⟨ht,h1⟩
     ·have HN:Hid (∀ i,i<k+1→nQ (at' ks i) (at' ks' i)=true):=fun i hi=>by
       by_cases e:i=k
       ·subst e;exact ht
       ·exact HA.out i (by omega)
      clear ht;go_wp2
      refine au (by kernel_rfl) (by kernel_rfl) ?_
      repeat (go_big_quiet_step (fail))
      refine wpQuiet_nil ?_;rintro _ ⟨x,rfl⟩;have HB2:Hid (OwnAt w x.val _):=HX.out.call x.below;go_wp2
      exact ⟨⟨k+1,by omega,by go_num,HN,HB2⟩,by simp [intOf];omega⟩
     ·have HS:Hid (jM ks ks' ps ps'=false):=by
       have h0:=wY hlt ht
       show _=_
       unfold jM;rw [h0]
       simp
      clear ht
      rcases h1 with h1 | ⟨h1,h2⟩ | ⟨h1,h2,h3⟩
      all_goals
       go_wp2
       refine au (by kernel_rfl) (by kernel_rfl) ?_
       repeat (go_big_quiet_step (fail))
       refine wpQuiet_nil ?_;rintro _ ⟨x,rfl⟩;have HB2:Hid (Below w.heap.size w x.val):=aa HX.out.below x.below;go_wp2;go_ret;exact ⟨mD HS.out.symm,HB2.out⟩
    ·have Ho:Hid (qg ks ks'=true):=uo HLK.out (fun i hi=>HA.out i (by omega))
     have HX0:=HX;clear HX HA;go_wp2;clear x0 x1 y0 y1 hxz hyz
     go_loopw [6] (fun i wr=>∃ k:Nat,k≤ps.length∧i=.int .i64 k∧Hid (∀ i,i<k→nQ (at' ps i) (at' ps' i)=true)∧Hid (OwnAt w wr [[.slice ak ks.length ck,.slice ap ps.length cp],[.slice FJ ks'.length GX,.slice FI ps'.length cp']])) (fun i _=>ps.length-(intOf i).toNat)
     case atStart=>exact ⟨0,Nat.zero_le _,rfl,fun i hi=>absurd hi (Nat.not_lt_zero _),HX0.out⟩
     case round =>
      clear HX0;obtain ⟨k,hk,rfl,HA,HX⟩:=hrel;have x0:wr.cell? ⟨w.heap.size,0,none⟩=some (.slice ak ks.length ck):=(HX.out.has 0 _ rfl 0 _ rfl).1;have x1:wr.cell? ⟨w.heap.size,1,none⟩=some (.slice ap ps.length cp):=(HX.out.has 0 _ rfl 1 _ rfl).1;have y0:wr.cell? ⟨w.heap.size+1,0,none⟩=some (.slice FJ ks'.length GX):=(HX.out.has 1 _ rfl 0 _ rfl).1;have y1:wr.cell? ⟨w.heap.size+1,1,none⟩=some (.slice FI ps'.length cp'):=(HX.out.has 1 _ rfl 1 _ rfl).1;have hxz:w.heap.size<wr.heap.size:=av x0;have hyz:w.heap.size+1<wr.heap.size:=av y0
      by_cases hlt:k<ps.length
      ·obtain ⟨b,off,rfl,d0,d1,d2⟩:=HP.out k _ (bo hlt)
       obtain ⟨b',off',rfl,e0,e1,e2⟩:=HQ.out k _ (bo (show k<ps'.length by omega))
       have c0:=ag HX.out.below aG d0;have c1:=ag HX.out.below aG d1;have c2:=ag HX.out.below aG d2;have f0:=ag HX.out.below aG e0;have f1:=ag HX.out.below aG e1;have f2:=ag HX.out.below aG e2;have z1:=av c0;have z2:=av f0;clear d0 d1 d2 e0 e1 e2
       have hk0:(0:Int)≤(k:Int):=by omega
       have hk1:(k:Int)<(ps.length:Int):=by omega
       have hk2:(k:Int)<(ps'.length:Int):=by omega
       have hne:=Later.some wr
       rcases uY (at' ps k) (at' ps' k) with ⟨ht,h1,h2,h3⟩ | ⟨ht,h1⟩
       ·have HN:Hid (∀ i,i<k+1→nQ (at' ps i) (at' ps' i)=true):=fun i hi=>by
         by_cases e:i=k
         ·subst e;exact ht
         ·exact HA.out i (by omega)
        clear ht;go_wp2
        refine au (by kernel_rfl) (by kernel_rfl) ?_
        repeat (go_big_quiet_step (fail))
        refine wpQuiet_nil ?_;rintro _ ⟨x,rfl⟩;have HB2:Hid (OwnAt w x.val _):=HX.out.call x.below;go_wp2
        exact ⟨⟨k+1,by omega,by go_num,HN,HB2⟩,by simp [intOf];omega⟩
       ·have HS:Hid (jM ks ks' ps ps'=false):=by
         have h0:=wY hlt ht
         show _=_
         unfold jM;rw [h0]
         simp
        clear ht
        rcases h1 with h1 | ⟨h1,h2⟩ | ⟨h1,h2,h3⟩
        all_goals
         go_wp2
         refine au (by kernel_rfl) (by kernel_rfl) ?_
         repeat (go_big_quiet_step (fail))
         refine wpQuiet_nil ?_;rintro _ ⟨x,rfl⟩;have HB2:Hid (Below w.heap.size w x.val):=aa HX.out.below x.below;go_wp2;go_ret;exact ⟨mD HS.out.symm,HB2.out⟩
      ·have HS:Hid (jM ks ks' ps ps'=true):=by
        have h0:=uo HLP.out (fun i hi=>HA.out i (by omega))
        show _=_
        unfold jM;rw [Ho.out,h0]
        rfl
       go_wp2;go_ret;exact ⟨mD HS.out.symm,HX.out.below⟩
  ·have q2:(((ps.length:Nat):Int) != ((ps'.length:Nat):Int))=true:=by simp;omega
   have HS:Hid (jM ks ks' ps ps'=false):=by
    show _=_
    unfold jM;rw [zW hl2]
    simp
   clear hl2
   go_enter Tryz.func35,Tryz.ntmps35
   go_wp2;go_ret;exact ⟨mD HS.out.symm,HX0.out.below⟩
 ·have q1:(((ks.length:Nat):Int) != ((ks'.length:Nat):Int))=true:=by simp;omega
  have HS:Hid (jM ks ks' ps ps'=false):=by
   show _=_
   unfold jM;rw [zW hl1]
   simp
  clear hl1
  go_enter Tryz.func35,Tryz.ntmps35
  go_wp2;go_ret;exact ⟨mD HS.out.symm,HX0.out.below⟩
end Go.Proofs.YtcmgddnckohdaaaGreatDoor
namespace Go.Proofs.YtcmgddnckohdaaaGreatDoor
open Go.RowKit
attribute [local go_sem] Later.cell Later.frozen
theorem wZ (l:List dx):qg l l=true:=uo rfl (fun i _=>by simp [nQ])
theorem Dt (ks ps:List dx):jM ks ks ps ps=true:=by
 unfold jM;rw [wZ,wZ]
 rfl
theorem qH (vk vp ve uk up ue:Value) (ks ps:List dx) (es:List dU) (w:World) (hB:dI w vk vp ve ks ps es) (hB':dI w uk up ue ks ps es) (sB:ic ks ps es) :
  Calls Tryz.prog 10 #[.agg #[vk,vp,ve],.agg #[uk,up,ue]] w fun e w'=>e=.returned (.bool true)∧Below w.heap.size w w':=by
 have lk:=sB.k;have lp:=sB.p;have le:=sB.e;have HL:Hid (∀ e∈es,e.fs.length≤1048576):=sB.f
 have HW:Hid (∀ wx:World,Below w.heap.size w wx→Calls Tryz.prog 35 #[.agg #[vk,vp],.agg #[uk,up]] wx fun e w'=>e=.returned (.bool true)∧Below wx.heap.size wx w'):=fun wx hx=>by
  have h:=I4 vk vp uk up ks ps ks ps wx (hB.k.keep hx) (hB.p.keep hx) (hB'.k.keep hx) (hB'.p.keep hx) lk lp;rw [Dt] at h;exact h
 clear sB;obtain ⟨⟨ak,ck,rfl,-,m1,-⟩,⟨ap,cp,rfl,-,m2,-⟩,⟨ae,ce,rfl,-,m3,h3⟩⟩:=hB;obtain ⟨⟨FJ,GX,rfl,-,n1,-⟩,⟨FI,cp',rfl,-,n2,-⟩,⟨ae',ce',rfl,-,n3,h3'⟩⟩:=hB';unfold maxLen at m1 m2 m3 n1 n2 n3;have HE:Hid (∀ i e,es[i]?=some e→∃ b off,ae=some ⟨b,off,none⟩∧lH w b (off+i*2) e):=h3;have HE':Hid (∀ i e,es[i]?=some e→∃ b off,ae'=some ⟨b,off,none⟩∧lH w b (off+i*2) e):=h3';clear h3 h3'
 have HX0:Hid (OwnAt w ((w.alloc (.cells #[.slice ak ks.length ck,.slice ap ps.length cp,.slice ae es.length ce] 30)).alloc (.cells #[.slice FJ ks.length GX,.slice FI ps.length cp',.slice ae' es.length ce'] 30)) [[.slice ak ks.length ck,.slice ap ps.length cp,.slice ae es.length ce],[.slice FJ ks.length GX,.slice FI ps.length cp',.slice ae' es.length ce']]):=((OwnAt.start w).push rfl _ _).push (by simp) _ _
 have HZ:Hid (∀ wr:World,OwnAt w wr [[.slice ak ks.length ck,.slice ap ps.length cp,.slice ae es.length ce],[.slice FJ ks.length GX,.slice FI ps.length cp',.slice ae' es.length ce']]→(wr.cell? ⟨w.heap.size,0,none⟩=some (.slice ak ks.length ck)∧wr.cell? ⟨w.heap.size,1,none⟩=some (.slice ap ps.length cp)∧wr.cell? ⟨w.heap.size,2,none⟩=some (.slice ae es.length ce))∧wr.cell? ⟨w.heap.size+1,0,none⟩=some (.slice FJ ks.length GX)∧wr.cell? ⟨w.heap.size+1,1,none⟩=some (.slice FI ps.length cp')∧wr.cell? ⟨w.heap.size+1,2,none⟩=some (.slice ae' es.length ce')):=fun wr h=>⟨⟨(h.has 0 _ rfl 0 _ rfl).1,(h.has 0 _ rfl 1 _ rfl).1,(h.has 0 _ rfl 2 _ rfl).1⟩,(h.has 1 _ rfl 0 _ rfl).1,(h.has 1 _ rfl 1 _ rfl).1,(h.has 1 _ rfl 2 _ rfl).1⟩;obtain ⟨⟨x0,x1,x2⟩,y0,y1,y2⟩:=HZ.out _ HX0.out
 go_enter Tryz.func10,Tryz.ntmps10
 go_wp2_with fail;clear x0 x1 x2 y0 y1 y2;generalize ((w.alloc (.cells #[.slice ak ks.length ck,.slice ap ps.length cp,.slice ae es.length ce] 30)).alloc (.cells #[.slice FJ ks.length GX,.slice FI ps.length cp',.slice ae' es.length ce'] 30))=w0 at *;refine (HW.out _ HX0.out.below).mono ?_;rintro e w1 ⟨rfl,hb1⟩;have jG:Hid (OwnAt w w1 _):=HX0.out.call hb1;clear HX0 hb1 HW;obtain ⟨⟨x0,x1,x2⟩,y0,y1,y2⟩:=HZ.out _ jG.out;go_wp2;clear x0 x1 x2 y0 y1 y2
 go_loopw [5] (fun i wr=>∃ k:Nat,k≤es.length∧i=.int .i64 k∧Hid (OwnAt w wr [[.slice ak ks.length ck,.slice ap ps.length cp,.slice ae es.length ce],[.slice FJ ks.length GX,.slice FI ps.length cp',.slice ae' es.length ce']])) (fun i _=>es.length-(intOf i).toNat)
 case atStart=>exact ⟨0,Nat.zero_le _,rfl,jG.out⟩
 case round =>
  clear jG;obtain ⟨k,hk,rfl,HX⟩:=hrel;obtain ⟨⟨x0,x1,x2⟩,y0,y1,y2⟩:=HZ.out _ HX.out;have hxz:w.heap.size<wr.heap.size:=av x0;have hyz:w.heap.size+1<wr.heap.size:=av y0
  by_cases hlt:k<es.length
  ·obtain ⟨b,off,rfl,fv,d0,d1,hf⟩:=HE.out k _ (bp hlt)
   obtain ⟨b',off',rfl,fv',e0,e1,hf'⟩:=HE'.out k _ (bp hlt);have Ke:=HL.out _ (List.mem_of_getElem? (bp hlt));generalize eZ es k=en at *;obtain ⟨fa,fc,rfl,-,fm,hf3⟩:=hf;obtain ⟨fa',fc',rfl,-,fm',hf3'⟩:=hf';unfold maxLen at fm fm';have HF:Hid (∀ i f,en.fs[i]?=some f→∃ b off,fa=some ⟨b,off,none⟩∧lG w b (off+i*3) f):=hf3;have HF':Hid (∀ i f,en.fs[i]?=some f→∃ b off,fa'=some ⟨b,off,none⟩∧lG w b (off+i*3) f):=hf3';have HD:Hid (∀ wx:World,OwnAt w wx [[.slice ak ks.length ck,.slice ap ps.length cp,.slice (some ⟨b,off,none⟩) es.length ce],[.slice FJ ks.length GX,.slice FI ps.length cp',.slice (some ⟨b',off',none⟩) es.length ce']]→wx.cell? ⟨b,off+k*2,none⟩=some (.string en.name)∧wx.cell? ⟨b,off+k*2+1,none⟩=some (.slice fa en.fs.length fc)∧wx.cell? ⟨b',off'+k*2,none⟩=some (.string en.name)∧wx.cell? ⟨b',off'+k*2+1,none⟩=some (.slice fa' en.fs.length fc')):=fun wx h=>⟨ag h.below aG d0,ag h.below aG d1,ag h.below aG e0,ag h.below aG e1⟩;clear d0 d1 e0 e1 hf3 hf3';obtain ⟨c0,c1,f0,f1⟩:=HD.out _ HX.out;have z1:=av c0;have z2:=av f0
   have hk0:(0:Int)≤(k:Int):=by omega
   have hk1:(k:Int)<(es.length:Int):=by omega
   have hne:=Later.some wr;go_wp2
   refine au (by kernel_rfl) (by kernel_rfl) ?_
   repeat (go_big_quiet_step (fail))
   refine wpQuiet_nil ?_;rintro _ ⟨x,rfl⟩;have jF:Hid (OwnAt w x.val _):=HX.out.call x.below;clear x0 x1 x2 y0 y1 y2 c0 c1 f0 f1 z1 z2 hxz hyz HX hne;go_wp2
   go_loopw [6] (fun i wr=>∃ j:Nat,j≤en.fs.length∧i=.int .i64 j∧Hid (OwnAt w wr [[.slice ak ks.length ck,.slice ap ps.length cp,.slice (some ⟨b,off,none⟩) es.length ce],[.slice FJ ks.length GX,.slice FI ps.length cp',.slice (some ⟨b',off',none⟩) es.length ce']])) (fun i _=>en.fs.length-(intOf i).toNat)
   case atStart=>exact ⟨0,Nat.zero_le _,rfl,jF.out⟩
   case round =>
    clear jF;obtain ⟨j,hj,rfl,HX⟩:=hrel;obtain ⟨⟨x0,x1,x2⟩,y0,y1,y2⟩:=HZ.out _ HX.out;obtain ⟨c0,c1,f0,f1⟩:=HD.out _ HX.out;have hxz:w.heap.size<wr.heap.size:=av x0;have hyz:w.heap.size+1<wr.heap.size:=av y0;have z1:=av c0;have z2:=av f0
    by_cases hjl:j<en.fs.length
    ·obtain ⟨g,o,hga,g0,g1,g2⟩:=HF.out j _ (b7 hjl)
     obtain ⟨g',o',hga',l0,l1,l2⟩:=HF'.out j _ (b7 hjl);subst hga;subst hga';generalize fH en.fs j=fd at *;have s0:=ag HX.out.below aG g0;have s1:=ag HX.out.below aG g1;have s2:=ag HX.out.below aG g2;have r0:=ag HX.out.below aG l0;have r1:=ag HX.out.below aG l1;have r2:=ag HX.out.below aG l2;have z3:=av s0;have z4:=av r0;clear g0 g1 g2 l0 l1 l2
     have hj0:(0:Int)≤(j:Int):=by omega
     have hj1:(j:Int)<(en.fs.length:Int):=by omega
     have hne:=Later.some wr;go_wp2
     refine au (by kernel_rfl) (by kernel_rfl) ?_
     repeat (go_big_quiet_step (fail))
     refine wpQuiet_nil ?_;rintro _ ⟨x,rfl⟩;have HB2:Hid (OwnAt w x.val _):=HX.out.call x.below;go_wp2
     exact ⟨⟨j+1,by omega,by go_num,HB2⟩,by simp [intOf];omega⟩
    ·have hje:j=en.fs.length:=by omega
     subst hje;go_wp2
     exact ⟨⟨k+1,by omega,by go_num,HX⟩,by simp [intOf];omega⟩
  ·have hke:k=es.length:=by omega
   subst hke;have HB:Hid (Below w.heap.size w wr):=HX.out.below;go_wp2;go_ret;exact ⟨rfl,HB.out⟩
end Go.Proofs.YtcmgddnckohdaaaGreatDoor
