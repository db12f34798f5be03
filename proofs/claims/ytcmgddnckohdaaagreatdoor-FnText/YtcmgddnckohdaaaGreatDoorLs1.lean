import Derived.Test.YtcmgddnckohdaaaGreatDoorTl1
set_option maxRecDepth 100000
set_option maxHeartbeats 12800000
namespace Go.Proofs.YtcmgddnckohdaaaGreatDoor.Tx
open Go.RowKit Sd
set_option linter.unusedSimpArgs false
set_option linter.unusedVariables false
attribute [local go_sem] Later.cell Later.frozen
theorem K5 {l:List dx} (h:l.Pairwise fun a b=>iU a.s b.s=true) (v:ByteArray) {j:Nat} (hj:j<l.length):iU (at' l j).s v=decide (j<iH l v):=by
  rw [bK hj]
  by_cases hp:j<iH l v
  · have:=List.not_of_lt_findIdx hp
    rw [decide_eq_true hp]
    simpa [l7] using this
  · rw [decide_eq_false hp]
    have hpl:iH l v<l.length:=by omega
    have hq:kz (l[iH l v]).s v=true:=List.findIdx_getElem (w:=hpl);rw [l7] at hq
    by_cases he:iH l v=j
    · subst he
      simpa using hq
    · have h1:=List.pairwise_iff_getElem.1 h (iH l v) j hpl hj (by omega)
      cases h2:iU (l[j]).s v
      · rfl
      · rw [cK h1 h2] at hq
        simp at hq
theorem Lu (ks:List dx) (ws:List ByteArray) (h:ws.length=4):gV ks ws=bif gJ (fC ws) then (bif hasB ks (fC ws).s then 4 else bif decide (6≤ks.length) then 6 else 0) else 3:=by
  unfold gV gJ;rw [decide_eq_true h,Bool.true_and]
theorem Jg (ks:List dx) (ws:List ByteArray) (h:ws.length=4):fO ks ws=bif gq (fC ws) then (bif hasB ks (fC ws).s then 4 else bif gK ks (fC ws) then 5 else bif decide (16≤ks.length) then 6 else 0) else 3:=by
  unfold fO gq;rw [decide_eq_true h,Bool.true_and]
structure TS (w:World) (B:Array Value) (t:dx) (T:TypeId) (w1:World):Prop where
  c1:w1.heap[w.heap.size]?=some (.cells B 30 (0,0))
  c2:w1.heap[w.heap.size+1]?=some (.cells #[.slice none 0 0,.slice none 0 0,.slice none 0 0] 30 (0,0))
  c3:w1.heap[w.heap.size+2]?=some (.cells #[.string t.s,.int .i64 t.x,.int .i64 t.y] T (0,0))
  b:Below w.heap.size w w1
theorem TS.keep {w w1 w2:World} {B:Array Value} {t:dx} {T:TypeId} (h:TS w B t T w1) (hb:Below w1.heap.size w1 w2):TS w B t T w2 :=
  ⟨(hb.block _ (Array.getElem?_eq_some_iff.1 h.c1).1).trans h.c1,(hb.block _ (Array.getElem?_eq_some_iff.1 h.c2).1).trans h.c2,(hb.block _ (Array.getElem?_eq_some_iff.1 h.c3).1).trans h.c3,aa h.b hb⟩
theorem TS.start {w W:World} {B:Array Value} {t:dx} {T:TypeId} (z:Array Value) (h1:W.heap[w.heap.size]?=some (.cells B 30 (0,0))) (h2:W.heap[w.heap.size+1]?=some (.cells #[.slice none 0 0,.slice none 0 0,.slice none 0 0] 30 (0,0))) (hs:W.heap.size=w.heap.size+2) (hb:Below w.heap.size w W):TS w B t T ((W.alloc (.cells z T)).setRow (w.heap.size+2) #[.string t.s,.int .i64 t.x,.int .i64 t.y]):=by
  have ha:Below W.heap.size W (W.alloc (.cells z T)):=(aM)
  have h3:(W.alloc (.cells z T)).heap[w.heap.size+2]?=some (.cells z T (0,0)):=by rw [← hs];exact am W _
  refine ⟨?_,?_,setRow_heap _ _ _ _ _ _ h3,below_setRow (aa hb ha) (by omega) _⟩
  · rw [setRow_other _ _ _ _ (by omega),ha.block _ (by omega)];exact h1
  · rw [setRow_other _ _ _ _ (by omega),ha.block _ (by omega)];exact h2
theorem TS.cells {w w1:World} {x y z:Value} {t:dx} {T:TypeId} (h:TS w #[x,y,z] t T w1):(w1.cell? ⟨w.heap.size,0,none⟩=some x∧w1.cell? ⟨w.heap.size,1,none⟩=some y∧w1.cell? ⟨w.heap.size,2,none⟩=some z)∧(w1.cell? ⟨w.heap.size+2,0,none⟩=some (.string t.s)∧w1.cell? ⟨w.heap.size+2,1,none⟩=some (.int .i64 t.x)∧w1.cell? ⟨w.heap.size+2,2,none⟩=some (.int .i64 t.y))∧w.heap.size<w1.heap.size∧w.heap.size+1<w1.heap.size∧w.heap.size+2<w1.heap.size:=by
  obtain ⟨c1,c2,c3,-⟩:=h
  exact ⟨⟨by simp [World.cell?,c1],by simp [World.cell?,c1],by simp [World.cell?,c1]⟩,⟨by simp [World.cell?,c3],by simp [World.cell?,c3],by simp [World.cell?,c3]⟩,(Array.getElem?_eq_some_iff.1 c1).1,(Array.getElem?_eq_some_iff.1 c2).1,(Array.getElem?_eq_some_iff.1 c3).1⟩
theorem FT {w:World} {a:Option Addr} {l:List dx} {c:Nat} (h:dA w (.slice a l.length c) l) {n:Nat} (hn:n<l.length):∃ b off,a=some ⟨b,off,none⟩∧w.cell? ⟨b,off+n*3,none⟩=some (.string (at' l n).s)∧w.cell? ⟨b,off+n*3+1,none⟩=some (.int .i64 (at' l n).x)∧w.cell? ⟨b,off+n*3+2,none⟩=some (.int .i64 (at' l n).y):=by
  obtain ⟨a',c',e,h1,h2,h3⟩:=h
  injection e with e1 e2 e3
  subst e1
  exact h3 n _ (by rw [bK hn];simp [hn])
theorem Dc {w:World} {a:Option Addr} {l:List dx} {c:Nat} (h:dA w (.slice a l.length c) l) {n:Nat} (hn:n≤l.length):n=0 ∨ ∃ ad,a=some ad∧∀ j u,(aS (l.take n))[j]?=some u→w.cell? (ad.add j)=some u:=by
  have h1:=mh (h.take n hn);rw [List.length_take,Nat.min_eq_left hn] at h1;exact h1
theorem EZ {w:World} {a:Option Addr} {l:List dx} {c:Nat} (h:dA w (.slice a l.length c) l) {n:Nat} (hn:n≤l.length):l.length-n=0 ∨ ∃ ad,(if c=n then a else Option.map (fun x=>x.add (n*3)) a)=some ad∧∀ j u,(aS (l.drop n))[j]?=some u→w.cell? (ad.add j)=some u:=by
  by_cases h0:l.length-n=0
  · exact .inl h0
  · have hc : l.length ≤ c := by
      obtain ⟨a',c',e,h1,-⟩:=h
      injection e with e1 e2 e3
      omega
    rcases mh h with h1 | ⟨ad,rfl,h2⟩
    · omega
    · refine .inr ⟨ad.add (n*3),by rw [if_neg (by omega)];rfl,fun j u hu=>?_⟩
      rw [Addr.add_add];refine h2 _ _ ?_;rw [← cM l n hn,List.getElem?_drop] at hu;exact hu
theorem TS.set0 {w w1:World} {x y z:Value} {t:dx} {T:TypeId} (h:TS w #[x,y,z] t T w1) (v:Value):TS w #[v,y,z] t T (w1.setCell ⟨w.heap.size,0,none⟩ v):=by
  refine ⟨?_,?_,?_,h.b.setCell (p:=⟨w.heap.size,0,none⟩) aG v⟩
  · rw [setCell_eq_setRow _ _ _ _ _ _ _ h.c1];exact setRow_heap _ _ _ _ _ _ h.c1
  · rw [Below.heap_setCell w1 ⟨w.heap.size,0,none⟩ v (w.heap.size+1) (by show w.heap.size+1≠w.heap.size;omega)];exact h.c2
  · rw [Below.heap_setCell w1 ⟨w.heap.size,0,none⟩ v (w.heap.size+2) (by show w.heap.size+2≠w.heap.size;omega)];exact h.c3
theorem TS.set1 {w w1:World} {x y z:Value} {t:dx} {T:TypeId} (h:TS w #[x,y,z] t T w1) (v:Value):TS w #[x,v,z] t T (w1.setCell ⟨w.heap.size,1,none⟩ v):=by
  refine ⟨?_,?_,?_,h.b.setCell (p:=⟨w.heap.size,1,none⟩) aG v⟩
  · rw [setCell_eq_setRow _ _ _ _ _ _ _ h.c1];exact setRow_heap _ _ _ _ _ _ h.c1
  · rw [Below.heap_setCell w1 ⟨w.heap.size,1,none⟩ v (w.heap.size+1) (by show w.heap.size+1≠w.heap.size;omega)];exact h.c2
  · rw [Below.heap_setCell w1 ⟨w.heap.size,1,none⟩ v (w.heap.size+2) (by show w.heap.size+2≠w.heap.size;omega)];exact h.c3
theorem mO (l:List dx) (n:Nat) (t:dx):(aS (l.take n)++[.string t.s,.int .i64 t.x,.int .i64 t.y])++aS (l.drop n)=aS (fD l n t):=by
  unfold fD
  rw [bN,show t::l.drop n=[t]++l.drop n from rfl,bN]
  simp [aS,fA]
def jw (p t:dx):Bool:=decide (p.x=t.x)&&decide (p.y=t.y)
theorem any_hit {l:List dx} {t:dx} {i:Nat} (hi:i<l.length) (h:jw (at' l i) t=true):gK l t=true:=by
  unfold gK;rw [List.any_eq_true]
  exact ⟨_,List.getElem_mem hi,by rw [bK hi] at h;exact h⟩
theorem MC {l:List dx} {t:dx} (h:∀ i,i<l.length→jw (at' l i) t=false):gK l t=false:=by
  unfold gK;rw [List.any_eq_false];intro p hp;obtain ⟨i,hi,rfl⟩:=List.getElem_of_mem hp;have:=h i hi;rw [bK hi] at this;unfold jw at this;rw [this]
  decide
theorem Gv (v vw : Value) (ap ae : Option Addr) (np cp ne ce : Nat) (ks : List dx) (ws : List ByteArray) (w : World) (hk : dA w v ks) (hw : dV w vw ws) (hl : ks.length ≤ 6) (hsz : ∀ i, i < ws.length → (dE ws i).size ≤ 1048576) (hso : ks.Pairwise fun a b => iU a.s b.s = true) :
    Calls Tryz.prog 67 #[.agg #[v,.slice ap np cp,.slice ae ne ce],vw] w fun e w'=>Below w.heap.size w w' ∧
      ((gV ks ws≠0∧e=.returned (.tuple #[.agg #[v,.slice ap np cp,.slice ae ne ce],.int .i64 (gV ks ws)])) ∨
       (gV ks ws=0∧∃ u,e=.returned (.tuple #[.agg #[u,.slice ap np cp,.slice ae ne ce],.int .i64 0])∧w'.ownsRow w.heap.size 69 3 u (ks.length+1) (aS (fD ks (iH ks (fC ws).s) (fC ws))))):=by
  obtain ⟨i0,hi,hz0,hz1,hz2⟩:=info_parts kS;have HK:=aq hk;have HW:=aq hw;obtain ⟨ak,ck,rfl,hlc,hcm,-⟩:=hk;obtain ⟨wb,wo,wc,rfl,hwl,hwm,-⟩:=hw;unfold maxLen at hcm hwm
  by_cases h4:ws.length=4
  · skip
    have HC:=aq (Lu ks ws h4)
    have hx1:=hsz 1 (by omega)
    have hx2:=hsz 2 (by omega)
    have hx3:=hsz 3 (by omega)
    have nT:Hid (∀ wx:World,Calls Tryz.prog 120 #[.string (dE ws 2)] wx fun e w'=>e=.returned (.int .i64 (jc (dE ws 2)))∧w'=wx):=fun wx=>cg (dE ws 2) wx (by unfold maxLen;omega)
    have FM:Hid (∀ wx:World,Calls Tryz.prog 120 #[.string (dE ws 3)] wx fun e w'=>e=.returned (.int .i64 (jc (dE ws 3)))∧w'=wx):=fun wx=>cg (dE ws 3) wx (by unfold maxLen;omega)
    have HT:Hid (fC ws=⟨dE ws 1,jc (dE ws 2),jc (dE ws 3)⟩):=rfl;generalize gV ks ws=kc at *;generalize fC ws=t at *;rw [h4];rw [h4] at hwl;have zP:=aq h4;clear h4
    have y1:w.cell? ⟨wb,wo+1,none⟩=some (.string (dE ws 1)):=HW.out.cellS 1 (by have h:ws.length=4:=zP.out;omega)
    have y2:w.cell? ⟨wb,wo+2,none⟩=some (.string (dE ws 2)):=HW.out.cellS 2 (by have h:ws.length=4:=zP.out;omega)
    have y3:w.cell? ⟨wb,wo+3,none⟩=some (.string (dE ws 3)):=HW.out.cellS 3 (by have h:ws.length=4:=zP.out;omega)
    have ez:wb<w.heap.size:=av y1
    go_enter Tryz.func67,Tryz.ntmps67
    go_wp2_with fail
    have HB2:Hid (Below w.heap.size w ((w.alloc (.cells #[.slice ak ks.length ck,.slice ap np cp,.slice ae ne ce] 30)).alloc (.cells #[.slice none 0 0,.slice none 0 0,.slice none 0 0] 30))):=(aM).alloc (by simp) _
    have HC1:Hid (((w.alloc (.cells #[.slice ak ks.length ck,.slice ap np cp,.slice ae ne ce] 30)).alloc (.cells #[.slice none 0 0,.slice none 0 0,.slice none 0 0] 30)).heap[w.heap.size]?=some (.cells #[.slice ak ks.length ck,.slice ap np cp,.slice ae ne ce] 30 (0,0))):=j4 w _ _
    have iY:Hid (((w.alloc (.cells #[.slice ak ks.length ck,.slice ap np cp,.slice ae ne ce] 30)).alloc (.cells #[.slice none 0 0,.slice none 0 0,.slice none 0 0] 30)).heap[w.heap.size+1]?=some (.cells #[.slice none 0 0,.slice none 0 0,.slice none 0 0] 30 (0,0))):=by have h:=am (w.alloc (.cells #[.slice ak ks.length ck,.slice ap np cp,.slice ae ne ce] 30)) (.cells #[.slice none 0 0,.slice none 0 0,.slice none 0 0] 30);rw [World.size_alloc] at h;exact h
    have zm:Hid (((w.alloc (.cells #[.slice ak ks.length ck,.slice ap np cp,.slice ae ne ce] 30)).alloc (.cells #[.slice none 0 0,.slice none 0 0,.slice none 0 0] 30)).heap.size=w.heap.size+2):=by show _=_;simp
    generalize ((w.alloc (.cells #[.slice ak ks.length ck,.slice ap np cp,.slice ae ne ce] 30)).alloc (.cells #[.slice none 0 0,.slice none 0 0,.slice none 0 0] 30))=W at *
    have dK:Hid (∀ w':World,Below w.heap.size w w'→(w'.cell? ⟨wb,wo+1,none⟩=some (.string (dE ws 1))∧w'.cell? ⟨wb,wo+2,none⟩=some (.string (dE ws 2))∧w'.cell? ⟨wb,wo+3,none⟩=some (.string (dE ws 3)))):=fun w' hx=>by have h:ws.length=4:=zP.out;exact ⟨(HW.out.keep hx).cellS 1 (by omega),(HW.out.keep hx).cellS 2 (by omega),(HW.out.keep hx).cellS 3 (by omega)⟩
    go_cut [6] (fun s6 wc=>s6=.pointer (some ⟨w.heap.size+2,0,none⟩)∧Hid (TS w #[.slice ak ks.length ck,.slice ap np cp,.slice ae ne ce] t 69 wc))
    case first =>
      clear y1 y2 y3 ez;refine wp_region_noPanic ?_
      refine wp_region_held_drew (S:=fun w'=>w'.cell? ⟨wb,wo+1,none⟩=some (.string (dE ws 1))∧w'.cell? ⟨wb,wo+2,none⟩=some (.string (dE ws 2))∧w'.cell? ⟨wb,wo+3,none⟩=some (.string (dE ws 3))) (by kernel_rfl) ?_ (fun hHeld=>?_)
      · exact dK.out _ HB2.out.drew
      have HF:Hid (TS w #[.slice ak ks.length ck,.slice ap np cp,.slice ae ne ce] t 69 ((W.drew.alloc (.cells #[.string ⟨#[]⟩,.int .i64 0,.int .i64 0] 69)).setRow (w.heap.size+2) #[.string t.s,.int .i64 t.x,.int .i64 t.y])):=TS.start _ HC1.out iY.out zm.out HB2.out.drew;have kQ:Hid (Below w.heap.size w W.drew):=HB2.out.drew;have Fw:Hid (W.drew.heap.size=w.heap.size+2):=zm.out;generalize W.drew=W0 at *;refine aO 0 ?_ rfl ?_ ?_;rotate_left
      · intro w hSw;(try dsimp only at hSw);go_simp;try with_reducible rfl
      simp only [Act.put,aU]
      refine aO 1 ?_ rfl ?_ ?_;rotate_left
      · intro w hSw;(try dsimp only at hSw);go_simp;try with_reducible rfl
      simp only [Act.put,aU]
      refine aO 2 ?_ rfl ?_ ?_;rotate_left
      · intro w hSw;(try dsimp only at hSw);go_simp;try with_reducible rfl
      simp only [Act.put,aU]
      refine aO 3 ?_ rfl ?_ ?_;rotate_left
      · intro w hSw;(try dsimp only at hSw);go_simp;try with_reducible rfl
      simp only [Act.put,aU]
      refine aO 4 ?_ rfl ?_ ?_;rotate_left
      · intro w hSw;(try dsimp only at hSw);go_simp;try with_reducible rfl
      simp only [Act.put,aU]
      refine aO 5 ?_ rfl ?_ ?_;rotate_left
      · intro w hSw;(try dsimp only at hSw);go_simp;try with_reducible rfl
      simp only [Act.put,aU]
      refine aO 7 ?_ rfl ?_ ?_;rotate_left
      · intro w hSw;(try dsimp only at hSw);go_simp;try with_reducible rfl
      simp only [Act.put,aU]
      refine aO 8 ?_ rfl ?_ ?_;rotate_left
      · intro w hSw;(try dsimp only at hSw);go_simp;try with_reducible rfl
      simp only [Act.put,aU]
      refine aO 9 ?_ rfl ?_ ?_;rotate_left
      · intro w hSw;(try dsimp only at hSw);go_simp;try with_reducible rfl
      simp only [Act.put,aU]
      clear hHeld;refine lZ 6 12 rfl rfl (fun K hK=>?_) (fun K hK=>?_)
      · go_simp
        refine (nT.out _).mono ?_;rintro e V ⟨rfl,hv⟩;have hv2:=hv.symm;subst hv2;refine hK.out _ _ (dK.out _ kQ.out) (fun _=>?_);clear hK K;refine lZ 10 12 rfl rfl (fun K hK=>?_) (fun K hK=>?_)
        · go_simp
          refine (FM.out _).mono ?_;rintro e V ⟨rfl,hv⟩;have hv2:=hv.symm;subst hv2;refine hK.out _ _ (dK.out _ kQ.out) (fun _=>?_);clear hK K;refine lZ 11 12 rfl rfl (fun K hK=>?_) (fun K hK=>?_)
          · go_simp
            refine hK.out _ _ (dK.out _ kQ.out) (fun _=>?_);clear hK K;refine bE 12 rfl (fun K hK=>?_);go_simp;have uX:Hid (Below w.heap.size w (W0.alloc (.cells #[.string ⟨#[]⟩,.int .i64 0,.int .i64 0] 69))):=aa kQ.out (aM)
            have HXB:Hid ((W0.alloc (.cells #[.string ⟨#[]⟩,.int .i64 0,.int .i64 0] 69)).heap[w.heap.size+2]?=some (.cells #[.string ⟨#[]⟩,.int .i64 0,.int .i64 0] 69 (0,0))):=by have h:=am W0 (.cells #[.string ⟨#[]⟩,.int .i64 0,.int .i64 0] 69);rw [Fw.out] at h;exact h
            rw [Fw.out];refine hK.out _ _ (dK.out _ uX.out) (fun _=>?_);clear hK K;refine bE 13 rfl (fun K hK=>?_)
            refine aF rfl 69 _ _ rfl (w.heap.size+2) #[.string (dE ws 1),.int .i64 (jc (dE ws 2)),.int .i64 (jc (dE ws 3))] rfl rfl 69 _ HXB.out (by kernel_rfl) rfl (by simp [Value.oneCell']) ?_
            have jA:=HF.out;rw [HT.out] at jA;dsimp only at jA;refine hK.out _ _ (dK.out _ jA.b) (fun _=>?_);clear hK K
            refine wpAnyH_done (by kernel_rfl) ?_ _
            refine NoPanic.normal ?_;go_wp2_with fail
            go_meet
            exact ⟨rfl,by rw [HT.out];exact jA⟩
          · go_simp
            have uX:Hid (Below w.heap.size w (W0.alloc (.cells #[.string ⟨#[]⟩,.int .i64 0,.int .i64 0] 69))):=aa kQ.out (aM)
            have HXB:Hid ((W0.alloc (.cells #[.string ⟨#[]⟩,.int .i64 0,.int .i64 0] 69)).heap[w.heap.size+2]?=some (.cells #[.string ⟨#[]⟩,.int .i64 0,.int .i64 0] 69 (0,0))):=by have h:=am W0 (.cells #[.string ⟨#[]⟩,.int .i64 0,.int .i64 0] 69);rw [Fw.out] at h;exact h
            rw [Fw.out];refine hK.out _ _ (dK.out _ uX.out) (fun _=>?_);clear hK K;refine bE 11 rfl (fun K hK=>?_);go_simp;refine hK.out _ _ (dK.out _ uX.out) (fun _=>?_);clear hK K;refine bE 13 rfl (fun K hK=>?_)
            refine aF rfl 69 _ _ rfl (w.heap.size+2) #[.string (dE ws 1),.int .i64 (jc (dE ws 2)),.int .i64 (jc (dE ws 3))] rfl rfl 69 _ HXB.out (by kernel_rfl) rfl (by simp [Value.oneCell']) ?_
            have jA:=HF.out;rw [HT.out] at jA;dsimp only at jA;refine hK.out _ _ (dK.out _ jA.b) (fun _=>?_);clear hK K
            refine wpAnyH_done (by kernel_rfl) ?_ _
            refine NoPanic.normal ?_;go_wp2_with fail
            go_meet
            exact ⟨rfl,by rw [HT.out];exact jA⟩
        · go_simp
          have uX:Hid (Below w.heap.size w (W0.alloc (.cells #[.string ⟨#[]⟩,.int .i64 0,.int .i64 0] 69))):=aa kQ.out (aM)
          have HXB:Hid ((W0.alloc (.cells #[.string ⟨#[]⟩,.int .i64 0,.int .i64 0] 69)).heap[w.heap.size+2]?=some (.cells #[.string ⟨#[]⟩,.int .i64 0,.int .i64 0] 69 (0,0))):=by have h:=am W0 (.cells #[.string ⟨#[]⟩,.int .i64 0,.int .i64 0] 69);rw [Fw.out] at h;exact h
          rw [Fw.out];refine hK.out _ _ (dK.out _ uX.out) (fun _=>?_);clear hK K;refine bE 10 rfl (fun K hK=>?_);go_simp;refine (FM.out _).mono ?_;rintro e V ⟨rfl,hv⟩;have hv2:=hv.symm;subst hv2;refine hK.out _ _ (dK.out _ uX.out) (fun _=>?_);clear hK K;refine bE 11 rfl (fun K hK=>?_);go_simp;refine hK.out _ _ (dK.out _ uX.out) (fun _=>?_);clear hK K;refine bE 13 rfl (fun K hK=>?_)
          refine aF rfl 69 _ _ rfl (w.heap.size+2) #[.string (dE ws 1),.int .i64 (jc (dE ws 2)),.int .i64 (jc (dE ws 3))] rfl rfl 69 _ HXB.out (by kernel_rfl) rfl (by simp [Value.oneCell']) ?_
          have jA:=HF.out;rw [HT.out] at jA;dsimp only at jA;refine hK.out _ _ (dK.out _ jA.b) (fun _=>?_);clear hK K
          refine wpAnyH_done (by kernel_rfl) ?_ _
          refine NoPanic.normal ?_;go_wp2_with fail
          go_meet
          exact ⟨rfl,by rw [HT.out];exact jA⟩
      · go_simp
        have uX:Hid (Below w.heap.size w (W0.alloc (.cells #[.string ⟨#[]⟩,.int .i64 0,.int .i64 0] 69))):=aa kQ.out (aM)
        have HXB:Hid ((W0.alloc (.cells #[.string ⟨#[]⟩,.int .i64 0,.int .i64 0] 69)).heap[w.heap.size+2]?=some (.cells #[.string ⟨#[]⟩,.int .i64 0,.int .i64 0] 69 (0,0))):=by have h:=am W0 (.cells #[.string ⟨#[]⟩,.int .i64 0,.int .i64 0] 69);rw [Fw.out] at h;exact h
        rw [Fw.out];refine hK.out _ _ (dK.out _ uX.out) (fun _=>?_);clear hK K;refine bE 6 rfl (fun K hK=>?_);go_simp;refine (nT.out _).mono ?_;rintro e V ⟨rfl,hv⟩;have hv2:=hv.symm;subst hv2;refine hK.out _ _ (dK.out _ uX.out) (fun _=>?_);clear hK K;refine bE 10 rfl (fun K hK=>?_);go_simp;refine (FM.out _).mono ?_;rintro e V ⟨rfl,hv⟩;have hv2:=hv.symm;subst hv2;refine hK.out _ _ (dK.out _ uX.out) (fun _=>?_);clear hK K;refine bE 11 rfl (fun K hK=>?_);go_simp;refine hK.out _ _ (dK.out _ uX.out) (fun _=>?_);clear hK K;refine bE 13 rfl (fun K hK=>?_)
        refine aF rfl 69 _ _ rfl (w.heap.size+2) #[.string (dE ws 1),.int .i64 (jc (dE ws 2)),.int .i64 (jc (dE ws 3))] rfl rfl 69 _ HXB.out (by kernel_rfl) rfl (by simp [Value.oneCell']) ?_
        have jA:=HF.out;rw [HT.out] at jA;dsimp only at jA;refine hK.out _ _ (dK.out _ jA.b) (fun _=>?_);clear hK K
        refine wpAnyH_done (by kernel_rfl) ?_ _
        refine NoPanic.normal ?_;go_wp2_with fail
        go_meet
        exact ⟨rfl,by rw [HT.out];exact jA⟩
    case rest =>
      obtain ⟨rfl,HQ⟩:=hcut
      rename World=>w1
      clear y1 y2 y3 ez HB2 HC1 iY zm dK
      have HOK:Hid (∀ wx:World,Calls Tryz.prog 87 #[.agg #[.string t.s,.int .i64 t.x,.int .i64 t.y]] wx fun e w'=>e=.returned (.bool (gJ t))∧Below wx.heap.size wx w'):=fun wx=>sD t wx (by rw [HT.out];dsimp only;unfold maxLen;omega)
      have Hm:Hid (∀ wx:World,Below w.heap.size w wx→Calls Tryz.prog 121 #[.agg #[.slice ak ks.length ck,.slice ap np cp],.string t.s] wx fun e w'=>e=.returned (.int .i64 (CE ks t.s))∧Below wx.heap.size wx w'):=fun wx hx=>yh _ _ ks t.s wx (HK.out.keep hx);have HHB:Hid (decide (0≤CE ks t.s)=hasB ks t.s):=(Cz ks t.s).trans (sM (qK hso)).symm;have Ka:Hid (∀ j,j<ks.length→iU (at' ks j).s t.s=decide (j<iH ks t.s)):=fun j hj=>K5 hso t.s hj;have HPE:Hid (iH ks t.s≤ks.length):=BG ks t.s;generalize CE ks t.s=ai at *;generalize hasB ks t.s=hb at *;generalize gJ t=kb at *;have H1:Hid (TS w #[.slice ak ks.length ck,.slice ap np cp,.slice ae ne ce] t 69 w1):=HQ.out;clear HQ HT nT FM hx1 hx2 hx3 hsz hso HW;obtain ⟨⟨d0,d1,d2⟩,⟨f0,f1,f2⟩,z1,z2,z3⟩:=H1.out.cells;have g2:=H1.out.c2;go_wp2_with fail;refine (HOK.out _).mono ?_;rintro e w2 ⟨rfl,hb2⟩;have H2:Hid (TS w #[.slice ak ks.length ck,.slice ap np cp,.slice ae ne ce] t 69 w2):=H1.out.keep hb2;clear hb2 H1;clear d0 d1 d2 f0 f1 f2 z1 z2 z3 g2;obtain ⟨⟨d0,d1,d2⟩,⟨f0,f1,f2⟩,z1,z2,z3⟩:=H2.out.cells;have g2:=H2.out.c2
      cases kb
      · skip
        have hkc:Hid (kc=3):=HC.out
        go_wp2_with (refine wpList_store_row rfl 30 _ _ rfl (w.heap.size+1) #[.slice ak ks.length ck,.slice ap np cp,.slice ae ne ce] rfl rfl 30 _ g2 (by kernel_rfl) rfl (by simp [Value.oneCell']) ?_)
        exact bodyPost_ret (v:=.tuple #[.agg #[.slice ak ks.length ck,.slice ap np cp,.slice ae ne ce],.int .i64 3]) (by simp [results,Tryz.results67,go_sem,cell_setRow_same _ _ _ _ _ _ _ g2]) rfl ⟨below_setRow H2.out.b (by omega) _,.inl ⟨by rw [hkc.out];decide,by rw [hkc.out]⟩⟩
      · go_wp2_with fail
        refine (Hm.out _ H2.out.b).mono ?_;rintro e w3 ⟨rfl,hb3⟩;have H3:Hid (TS w #[.slice ak ks.length ck,.slice ap np cp,.slice ae ne ce] t 69 w3):=H2.out.keep hb3;clear hb3 H2;clear d0 d1 d2 f0 f1 f2 z1 z2 z3 g2;obtain ⟨⟨d0,d1,d2⟩,⟨f0,f1,f2⟩,z1,z2,z3⟩:=H3.out.cells;have g2:=H3.out.c2
        cases hb
        · have hai:¬ (0≤ai):=of_decide_eq_false HHB.out
          by_cases h6:6≤ks.length
          · have h6i:(6:Int)≤(ks.length:Int):=by omega
            have hkc:Hid (kc=6):=HC.out.trans (by rw [decide_eq_true h6];rfl)
            go_wp2_with (refine wpList_store_row rfl 30 _ _ rfl (w.heap.size+1) #[.slice ak ks.length ck,.slice ap np cp,.slice ae ne ce] rfl rfl 30 _ g2 (by kernel_rfl) rfl (by simp [Value.oneCell']) ?_)
            exact bodyPost_ret (v:=.tuple #[.agg #[.slice ak ks.length ck,.slice ap np cp,.slice ae ne ce],.int .i64 6]) (by simp [results,Tryz.results67,go_sem,cell_setRow_same _ _ _ _ _ _ _ g2]) rfl ⟨below_setRow H3.out.b (by omega) _,.inl ⟨by rw [hkc.out];decide,by rw [hkc.out]⟩⟩
          · have h6i:¬ (6:Int)≤(ks.length:Int):=by omega
            have Kc:Hid (kc=0):=HC.out.trans (by rw [decide_eq_false h6];rfl)
            clear HC;go_wp2_with fail
            go_loopw [7] (fun i wr=>∃ n:Nat,n≤iH ks t.s∧i=.int .i64 n∧Hid (TS w #[.slice ak ks.length ck,.slice ap np cp,.slice ae ne ce] t 69 wr)) (fun i _=>ks.length-(intOf i).toNat)
            case atStart=>exact ⟨0,Nat.zero_le _,rfl,H3.out⟩
            case round =>
              clear H3;clear d0 d1 d2 f0 f1 f2 z1 z2 z3 g2;obtain ⟨n,hn,rfl,H3⟩:=hrel;have hpe:iH ks t.s≤ks.length:=HPE.out;go_wp2_with fail
              go_cut [58] (fun s58 wc=>s58=.bool (decide (n<iH ks t.s))∧Hid (TS w #[.slice ak ks.length ck,.slice ap np cp,.slice ae ne ce] t 69 wc))
              case first =>
                obtain ⟨⟨d0,d1,d2⟩,⟨f0,f1,f2⟩,z1,z2,z3⟩:=H3.out.cells;have g2:=H3.out.c2;have hne:=Later.some wr
                by_cases hlt:n<ks.length
                · have hk0:(0:Int)≤(n:Int):=by omega
                  have hk1:(n:Int)<(ks.length:Int):=by omega
                  obtain ⟨kb,ko,hkb,u0,-,-⟩:=FT (HK.out.keep H3.out.b) hlt;subst hkb;have hbl:=Ka.out n hlt;have zk:=av u0;unfold iU at hbl;have hdk:decide ((n:Int)<(ks.length:Int))=true:=decide_eq_true hk1
                  refine au (by kernel_rfl) (by kernel_rfl) ?_
                  repeat (go_big_quiet_step (fail))
                  refine wpQuiet_nil ?_;rintro _ ⟨x,rfl⟩;have H4:Hid (TS w #[.slice (some ⟨kb,ko,none⟩) ks.length ck,.slice ap np cp,.slice ae ne ce] t 69 x.val):=H3.out.keep x.below;go_wp2_with fail
                  go_meet
                  exact ⟨rfl,H4.out⟩
                · have hk1:¬ (n:Int)<(ks.length:Int):=by omega
                  have hdk:decide ((n:Int)<(ks.length:Int))=false:=decide_eq_false hk1
                  have hdp:decide (n<iH ks t.s)=false:=decide_eq_false (by omega)
                  refine au (by kernel_rfl) (by kernel_rfl) ?_
                  repeat (go_big_quiet_step (fail))
                  refine wpQuiet_nil ?_;rintro _ ⟨x,rfl⟩;have H4:Hid (TS w #[.slice ak ks.length ck,.slice ap np cp,.slice ae ne ce] t 69 x.val):=H3.out.keep x.below;go_wp2_with fail
                  go_meet
                  exact ⟨by rw [hdp],H4.out⟩
              case rest =>
                obtain ⟨rfl,H4⟩:=hcut
                by_cases hp:n<iH ks t.s
                · rw [decide_eq_true hp]
                  go_wp2_with fail
                  exact ⟨⟨n+1,by omega,by go_num,H4.out⟩,by simp [intOf];omega⟩
                · rw [decide_eq_false hp]
                  have hnp:Hid (iH ks t.s=n):=by show _=_;omega
                  go_wp2_with fail
                  have hn0:(0:Int)≤(n:Int):=by omega
                  have hn1:(n:Int)≤(ck:Int):=by omega
                  have hn2:(n:Int)≤(ks.length:Int):=by omega
                  have dK:Hid (∀ w':World,Below wc.heap.size wc w'→w'.cell? ⟨w.heap.size,0,none⟩=some (.slice ak ks.length ck)∧w'.cell? ⟨w.heap.size+2,0,none⟩=some (.string t.s)∧w'.cell? ⟨w.heap.size+2,1,none⟩=some (.int .i64 t.x)∧w'.cell? ⟨w.heap.size+2,2,none⟩=some (.int .i64 t.y)):=fun w' hx=>by
                    obtain ⟨⟨h0,h1,h2⟩,⟨k0,k1,k2⟩,-⟩:=(H4.out.keep hx).cells;exact ⟨h0,k0,k1,k2⟩
                  refine wp_region_noPanic ?_
                  refine bj (S:=fun w'=>w'.cell? ⟨w.heap.size,0,none⟩=some (.slice ak ks.length ck)∧w'.cell? ⟨w.heap.size+2,0,none⟩=some (.string t.s)∧w'.cell? ⟨w.heap.size+2,1,none⟩=some (.int .i64 t.x)∧w'.cell? ⟨w.heap.size+2,2,none⟩=some (.int .i64 t.y)) 18 (by kernel_rfl) ?_ (fun hHeld=>?_)
                  · exact dK.out _ (Below.refl _ _).drew
                  have bY:Hid (Below wc.heap.size wc wc.drew):=(Below.refl _ _).drew;generalize wc.drew=W0 at *;refine bG 1 ?_ rfl ?_ ?_;rotate_left
                  · intro w hSw;(try dsimp only at hSw);go_simp;try with_reducible rfl
                  simp only [Act.put,aU]
                  refine bG 2 ?_ rfl ?_ ?_;rotate_left
                  · intro w hSw;(try dsimp only at hSw);go_simp;try with_reducible rfl
                  simp only [Act.put,aU]
                  refine bG 3 ?_ rfl ?_ ?_;rotate_left
                  · intro w hSw;(try dsimp only at hSw);go_simp;try with_reducible rfl
                  simp only [Act.put,aU]
                  refine bG 4 ?_ rfl ?_ ?_;rotate_left
                  · intro w hSw;(try dsimp only at hSw);go_simp;try with_reducible rfl
                  simp only [Act.put,aU]
                  refine bG 5 ?_ rfl ?_ ?_;rotate_left
                  · intro w hSw;(try dsimp only at hSw);go_simp;try with_reducible rfl
                  simp only [Act.put,aU]
                  refine bG 7 ?_ rfl ?_ ?_;rotate_left
                  · intro w hSw;(try dsimp only at hSw);go_simp;try with_reducible rfl
                  simp only [Act.put,aU]
                  refine bG 10 ?_ rfl ?_ ?_;rotate_left
                  · intro w hSw;(try dsimp only at hSw);go_simp;try with_reducible rfl
                  simp only [Act.put,aU]
                  refine bG 11 ?_ rfl ?_ ?_;rotate_left
                  · intro w hSw;(try dsimp only at hSw);go_simp;try with_reducible rfl
                  simp only [Act.put,aU]
                  refine bG 12 ?_ rfl ?_ ?_;rotate_left
                  · intro w hSw;(try dsimp only at hSw);go_simp;try with_reducible rfl
                  simp only [Act.put,aU]
                  refine bG 13 ?_ rfl ?_ ?_;rotate_left
                  · intro w hSw;(try dsimp only at hSw);go_simp;try with_reducible rfl
                  simp only [Act.put,aU]
                  refine bG 14 ?_ rfl ?_ ?_;rotate_left
                  · intro w hSw;(try dsimp only at hSw);go_simp;try with_reducible rfl
                  simp only [Act.put,aU]
                  clear hHeld
                  have Hf:Hid (∀ wx:World,Below w.heap.size w wx→(n=0 ∨ ∃ ad,ak=some ad∧∀ j u,(aS (ks.take n))[j]?=some u→wx.cell? (ad.add j)=some u)):=fun wx hx=>cN (Dc HK.out (by omega)) hx
                  have HDS:Hid (∀ wx:World,Below w.heap.size w wx→(ks.length-n=0 ∨ ∃ ad,(if ck=n then ak else Option.map (fun x=>x.add (n*3)) ak)=some ad∧∀ j u,(aS (ks.drop n))[j]?=some u→wx.cell? (ad.add j)=some u)):=fun wx hx=>cN (EZ HK.out (by omega)) hx
                  have HZ:Hid (w.heap.size+2<wc.heap.size):=H4.out.cells.2.2.2.2
                  refine bn (rs:=[0,8]) (by kernel_rfl) (by simp) ?_
                  refine dF.cons rfl (fun K hK=>?_) (dF.cons rfl (fun K hK=>?_) dF.nil)
                  · go_simp
                    have hbb:Below W0.heap.size W0 (W0.alloc (.cells #[] 69)):=(aM);have HB2:Hid (Below wc.heap.size wc (W0.alloc (.cells #[] 69))):=aa bY.out hbb;have RA:Hid ((W0.alloc (.cells #[] 69)).ownsRow wc.heap.size 69 3 (.slice (some ⟨W0.heap.size,0,none⟩) 0 0) 0 []):=be (am W0 _) bY.out.size 3;refine hK.out _ _ (.inr (dK.out _ HB2.out)) ?_;clear hK K hbb bY;have bY:=HB2;clear HB2;generalize (W0.alloc (.cells #[] 69))=W1 at *
                    refine bn (rs:=[6,8]) (by kernel_rfl) (by simp) ?_
                    refine dF.cons rfl (fun K hK=>?_) (dF.cons rfl (fun K hK=>?_) dF.nil)
                    · have hzz:wc.heap.size≤W1.heap.size:=bY.out.size
                      refine aj _ rfl _ _ 24 rfl wc.heap.size 69 i0 _ 3 32 Tryz.underlying24 hi hz0 hz1 hz2 rfl (by decide) (.slice (some ⟨W0.heap.size,0,none⟩) 0 0) 0 [] rfl RA.out _ n _ (aS (ks.take n)) rfl (Hf.out _ (aa H4.out.b bY.out)) (by rw [aE,List.length_take];omega) bB (by unfold maxLen;omega) (by omega) hzz ?_
                      intro v9 W2 hown hgrow hat;have HB2:Hid (Below wc.heap.size wc W2):=bY.out.grown hgrow hzz (fun j e=>aw RA.out j e);refine hK.out _ _ (.inr (dK.out _ HB2.out)) ?_;clear hK K hgrow hat bY RA hzz;have bY:=HB2;rw [Nat.zero_add,List.nil_append] at hown;have RA:=aq hown;obtain ⟨x9,c9,rfl⟩:=cZ hown;clear HB2 hown;refine bL 8 rfl (fun K hK=>?_);go_simp;have hbb:Below W2.heap.size W2 (W2.alloc (.cells #[.string t.s,.int .i64 t.x,.int .i64 t.y] 69)):=(aM);have HB2:Hid (Below wc.heap.size wc (W2.alloc (.cells #[.string t.s,.int .i64 t.x,.int .i64 t.y] 69))):=aa bY.out hbb;have HV:Hid ((W2.alloc (.cells #[.string t.s,.int .i64 t.x,.int .i64 t.y] 69)).heap[W2.heap.size]?=some (.cells #[.string t.s,.int .i64 t.x,.int .i64 t.y] 69 (0,0))):=am W2 _;have y7:=aq (ah RA.out hbb);have iD:Hid (_≠some W2.heap.size):=fun e=>Nat.lt_irrefl _ (bD RA.out _ e);refine hK.out _ _ (.inr (dK.out _ HB2.out)) ?_;clear hK K hbb bY RA;have bY:=HB2;have RA:=y7;clear y7;clear HB2;generalize (W2.alloc (.cells #[.string t.s,.int .i64 t.x,.int .i64 t.y] 69))=W3 at *;refine bL 9 rfl (fun K hK=>?_);have hzz:wc.heap.size≤W3.heap.size:=bY.out.size
                      refine aj _ rfl _ _ 24 rfl wc.heap.size 69 i0 _ 3 32 Tryz.underlying24 hi hz0 hz1 hz2 rfl (by decide) (.slice x9 n c9) n (aS (ks.take n)) rfl RA.out _ 1 _ [.string t.s,.int .i64 t.x,.int .i64 t.y] rfl (.inr ⟨⟨W2.heap.size,0,none⟩,rfl,World.news_of_block HV.out⟩) rfl (fun u hu=>by simp at hu;rcases hu with rfl | rfl | rfl <;> rfl) (by unfold maxLen;omega) (by omega) hzz ?_
                      intro v9 W4 hown hgrow hat;have HB2:Hid (Below wc.heap.size wc W4):=bY.out.grown hgrow hzz (fun j e=>aw RA.out j e);refine hK.out _ _ (.inr (dK.out _ HB2.out)) ?_;clear hK K hgrow hat bY RA hzz HV iD;have bY:=HB2;have RA:=aq hown;obtain ⟨x8,c8,rfl⟩:=cZ hown;clear HB2 hown;refine bL 15 rfl (fun K hK=>?_);have hzz:wc.heap.size≤W4.heap.size:=bY.out.size
                      refine aj _ rfl _ _ 24 rfl wc.heap.size 69 i0 _ 3 32 Tryz.underlying24 hi hz0 hz1 hz2 rfl (by decide) (.slice x8 (n+1) c8) (n+1) (aS (ks.take n)++[.string t.s,.int .i64 t.x,.int .i64 t.y]) rfl RA.out _ (ks.length-n) _ (aS (ks.drop n)) rfl (HDS.out _ (aa H4.out.b bY.out)) (by rw [aE,List.length_drop]) bB (by unfold maxLen;omega) (by omega) hzz ?_
                      intro v9 W5 hown hgrow hat;have HB2:Hid (Below wc.heap.size wc W5):=bY.out.grown hgrow hzz (fun j e=>aw RA.out j e);refine hK.out _ _ (.inr (dK.out _ HB2.out)) ?_;clear hK K hgrow hat bY RA hzz;have bY:=HB2
                      rw [mO,show n+1+(ks.length-n)=ks.length+1 by omega] at hown
                      obtain ⟨va,vc,rfl⟩:=cZ hown;have RA:=aq hown;clear HB2 hown;refine bL 16 rfl (fun K hK=>?_);go_simp;refine hK.out _ _ (.inr (dK.out _ bY.out)) ?_;clear hK K;refine bL 17 rfl (fun K hK=>?_);go_simp;refine hK.out _ _ (.inr (dK.out _ bY.out)) ?_;clear hK K;refine bL 18 rfl (fun K hK=>?_);have H6:Hid (TS w #[.slice ak ks.length ck,.slice ap np cp,.slice ae ne ce] t 69 W5):=H4.out.keep bY.out;have lz:W5.cell? ⟨w.heap.size,0,none⟩=some (.slice ak ks.length ck):=(dK.out _ bY.out).1
                      have lf:W5.frozen? ⟨w.heap.size,0,none⟩=false:=by simp [World.frozen?,H6.out.c1]
                      have H7:=aq (H6.out.set0 (.slice va (ks.length+1) vc))
                      have HQ:Hid (∀ k,(Value.slice va (ks.length+1) vc).ownBlock=some k→w.heap.size+2<k):=fun k hq=>by have:=aw RA.out k hq;have:=HZ.out;omega
                      have CJ:Hid ((W5.setCell ⟨w.heap.size,0,none⟩ (.slice va (ks.length+1) vc)).ownsRow w.heap.size 69 3 (.slice va (ks.length+1) vc) (ks.length+1) (aS (fD ks n t))):=aJ (ar RA.out (aQ W5 w.heap.size 0 (.slice va (ks.length+1) vc)) (fun q hq e=>by have:=HQ.out q hq;injection e;omega)) (by have:=HZ.out;omega)
                      go_simp;refine hK.out _ _ (.inl rfl) ?_;clear hK K lz lf RA bY H6
                      refine aY (by kernel_rfl) ?_ _
                      refine NoPanic.normal ?_;generalize W5.setCell ⟨w.heap.size,0,none⟩ (.slice va (ks.length+1) vc)=W9 at *;obtain ⟨⟨d0,d1,d2⟩,⟨f0,f1,f2⟩,z1,z2,z3⟩:=H7.out.cells;have g2:=H7.out.c2
                      go_wp2_with (refine wpList_store_row rfl 30 _ _ rfl (w.heap.size+1) #[.slice va (ks.length+1) vc,.slice ap np cp,.slice ae ne ce] rfl rfl 30 _ g2 (by kernel_rfl) rfl (by simp [Value.oneCell']) ?_)
                      all_goals exact bodyPost_ret (v:=.tuple #[.agg #[.slice va (ks.length+1) vc,.slice ap np cp,.slice ae ne ce],.int .i64 0]) (by simp [results,Tryz.results67,go_sem,cell_setRow_same _ _ _ _ _ _ _ g2]) rfl ⟨below_setRow H7.out.b (by omega) _,.inr ⟨Kc.out,_,rfl,by rw [hnp.out];exact ar CJ.out (aD W9 (w.heap.size+1) _) (fun q hq e=>by have:=HQ.out q hq;injection e;omega)⟩⟩
                    · go_simp
                      have hbb:Below W1.heap.size W1 (W1.alloc (.cells #[.string t.s,.int .i64 t.x,.int .i64 t.y] 69)):=(aM);have HB2:Hid (Below wc.heap.size wc (W1.alloc (.cells #[.string t.s,.int .i64 t.x,.int .i64 t.y] 69))):=aa bY.out hbb;have HV:Hid ((W1.alloc (.cells #[.string t.s,.int .i64 t.x,.int .i64 t.y] 69)).heap[W1.heap.size]?=some (.cells #[.string t.s,.int .i64 t.x,.int .i64 t.y] 69 (0,0))):=am W1 _;have y7:=aq (ah RA.out hbb);have iD:Hid (_≠some W1.heap.size):=fun e=>Nat.lt_irrefl _ (bD RA.out _ e);refine hK.out _ _ (.inr (dK.out _ HB2.out)) ?_;clear hK K hbb bY RA;have bY:=HB2;have RA:=y7;clear y7;clear HB2;generalize (W1.alloc (.cells #[.string t.s,.int .i64 t.x,.int .i64 t.y] 69))=W2 at *;refine bL 6 rfl (fun K hK=>?_);have hzz:wc.heap.size≤W2.heap.size:=bY.out.size
                      refine aj _ rfl _ _ 24 rfl wc.heap.size 69 i0 _ 3 32 Tryz.underlying24 hi hz0 hz1 hz2 rfl (by decide) (.slice (some ⟨W0.heap.size,0,none⟩) 0 0) 0 [] rfl RA.out _ n _ (aS (ks.take n)) rfl (Hf.out _ (aa H4.out.b bY.out)) (by rw [aE,List.length_take];omega) bB (by unfold maxLen;omega) (by omega) hzz ?_
                      intro v9 W3 hown hgrow hat;have HB2:Hid (Below wc.heap.size wc W3):=bY.out.grown hgrow hzz (fun j e=>aw RA.out j e);have o5:Hid (W3.heap[W1.heap.size]?=some (.cells #[.string t.s,.int .i64 t.x,.int .i64 t.y] 69 (0,0))):=(hgrow.block _ (Array.getElem?_eq_some_iff.1 HV.out).1 (fun e=>iD.out e.symm)).trans HV.out
                      have y9:Hid (v9.ownBlock≠some W1.heap.size):=fun e=>by
                        rcases hat with h | h
                        · exact iD.out (h.symm.trans e)
                        · have h1:=Option.some.inj (h.symm.trans e);have h2:=(Array.getElem?_eq_some_iff.1 HV.out).1;omega
                      refine hK.out _ _ (.inr (dK.out _ HB2.out)) ?_;clear hK K hgrow hat bY RA hzz HV iD;have bY:=HB2;rw [Nat.zero_add,List.nil_append] at hown;have RA:=aq hown;obtain ⟨x9,c9,rfl⟩:=cZ hown;have HV:=o5;have iD:=y9;clear o5 y9;clear HB2 hown;refine bL 9 rfl (fun K hK=>?_);have hzz:wc.heap.size≤W3.heap.size:=bY.out.size
                      refine aj _ rfl _ _ 24 rfl wc.heap.size 69 i0 _ 3 32 Tryz.underlying24 hi hz0 hz1 hz2 rfl (by decide) (.slice x9 n c9) n (aS (ks.take n)) rfl RA.out _ 1 _ [.string t.s,.int .i64 t.x,.int .i64 t.y] rfl (.inr ⟨⟨W1.heap.size,0,none⟩,rfl,World.news_of_block HV.out⟩) rfl (fun u hu=>by simp at hu;rcases hu with rfl | rfl | rfl <;> rfl) (by unfold maxLen;omega) (by omega) hzz ?_
                      intro v9 W4 hown hgrow hat;have HB2:Hid (Below wc.heap.size wc W4):=bY.out.grown hgrow hzz (fun j e=>aw RA.out j e);refine hK.out _ _ (.inr (dK.out _ HB2.out)) ?_;clear hK K hgrow hat bY RA hzz HV iD;have bY:=HB2;have RA:=aq hown;obtain ⟨x8,c8,rfl⟩:=cZ hown;clear HB2 hown;refine bL 15 rfl (fun K hK=>?_);have hzz:wc.heap.size≤W4.heap.size:=bY.out.size
                      refine aj _ rfl _ _ 24 rfl wc.heap.size 69 i0 _ 3 32 Tryz.underlying24 hi hz0 hz1 hz2 rfl (by decide) (.slice x8 (n+1) c8) (n+1) (aS (ks.take n)++[.string t.s,.int .i64 t.x,.int .i64 t.y]) rfl RA.out _ (ks.length-n) _ (aS (ks.drop n)) rfl (HDS.out _ (aa H4.out.b bY.out)) (by rw [aE,List.length_drop]) bB (by unfold maxLen;omega) (by omega) hzz ?_
                      intro v9 W5 hown hgrow hat;have HB2:Hid (Below wc.heap.size wc W5):=bY.out.grown hgrow hzz (fun j e=>aw RA.out j e);refine hK.out _ _ (.inr (dK.out _ HB2.out)) ?_;clear hK K hgrow hat bY RA hzz;have bY:=HB2
                      rw [mO,show n+1+(ks.length-n)=ks.length+1 by omega] at hown
                      obtain ⟨va,vc,rfl⟩:=cZ hown;have RA:=aq hown;clear HB2 hown;refine bL 16 rfl (fun K hK=>?_);go_simp;refine hK.out _ _ (.inr (dK.out _ bY.out)) ?_;clear hK K;refine bL 17 rfl (fun K hK=>?_);go_simp;refine hK.out _ _ (.inr (dK.out _ bY.out)) ?_;clear hK K;refine bL 18 rfl (fun K hK=>?_);have H6:Hid (TS w #[.slice ak ks.length ck,.slice ap np cp,.slice ae ne ce] t 69 W5):=H4.out.keep bY.out;have lz:W5.cell? ⟨w.heap.size,0,none⟩=some (.slice ak ks.length ck):=(dK.out _ bY.out).1
                      have lf:W5.frozen? ⟨w.heap.size,0,none⟩=false:=by simp [World.frozen?,H6.out.c1]
                      have H7:=aq (H6.out.set0 (.slice va (ks.length+1) vc))
                      have HQ:Hid (∀ k,(Value.slice va (ks.length+1) vc).ownBlock=some k→w.heap.size+2<k):=fun k hq=>by have:=aw RA.out k hq;have:=HZ.out;omega
                      have CJ:Hid ((W5.setCell ⟨w.heap.size,0,none⟩ (.slice va (ks.length+1) vc)).ownsRow w.heap.size 69 3 (.slice va (ks.length+1) vc) (ks.length+1) (aS (fD ks n t))):=aJ (ar RA.out (aQ W5 w.heap.size 0 (.slice va (ks.length+1) vc)) (fun q hq e=>by have:=HQ.out q hq;injection e;omega)) (by have:=HZ.out;omega)
                      go_simp;refine hK.out _ _ (.inl rfl) ?_;clear hK K lz lf RA bY H6
                      refine aY (by kernel_rfl) ?_ _
                      refine NoPanic.normal ?_;generalize W5.setCell ⟨w.heap.size,0,none⟩ (.slice va (ks.length+1) vc)=W9 at *;obtain ⟨⟨d0,d1,d2⟩,⟨f0,f1,f2⟩,z1,z2,z3⟩:=H7.out.cells;have g2:=H7.out.c2
                      go_wp2_with (refine wpList_store_row rfl 30 _ _ rfl (w.heap.size+1) #[.slice va (ks.length+1) vc,.slice ap np cp,.slice ae ne ce] rfl rfl 30 _ g2 (by kernel_rfl) rfl (by simp [Value.oneCell']) ?_)
                      all_goals exact bodyPost_ret (v:=.tuple #[.agg #[.slice va (ks.length+1) vc,.slice ap np cp,.slice ae ne ce],.int .i64 0]) (by simp [results,Tryz.results67,go_sem,cell_setRow_same _ _ _ _ _ _ _ g2]) rfl ⟨below_setRow H7.out.b (by omega) _,.inr ⟨Kc.out,_,rfl,by rw [hnp.out];exact ar CJ.out (aD W9 (w.heap.size+1) _) (fun q hq e=>by have:=HQ.out q hq;injection e;omega)⟩⟩
                  · go_simp
                    have hbb:Below W0.heap.size W0 (W0.alloc (.cells #[.string t.s,.int .i64 t.x,.int .i64 t.y] 69)):=(aM);have HB2:Hid (Below wc.heap.size wc (W0.alloc (.cells #[.string t.s,.int .i64 t.x,.int .i64 t.y] 69))):=aa bY.out hbb;have HV:Hid ((W0.alloc (.cells #[.string t.s,.int .i64 t.x,.int .i64 t.y] 69)).heap[W0.heap.size]?=some (.cells #[.string t.s,.int .i64 t.x,.int .i64 t.y] 69 (0,0))):=am W0 _;refine hK.out _ _ (.inr (dK.out _ HB2.out)) ?_;clear hK K hbb bY;have bY:=HB2;clear HB2;generalize (W0.alloc (.cells #[.string t.s,.int .i64 t.x,.int .i64 t.y] 69))=W1 at *;refine bL 0 rfl (fun K hK=>?_);go_simp;have hbb:Below W1.heap.size W1 (W1.alloc (.cells #[] 69)):=(aM);have HB2:Hid (Below wc.heap.size wc (W1.alloc (.cells #[] 69))):=aa bY.out hbb;have RA:Hid ((W1.alloc (.cells #[] 69)).ownsRow wc.heap.size 69 3 (.slice (some ⟨W1.heap.size,0,none⟩) 0 0) 0 []):=be (am W1 _) bY.out.size 3;have o5:=aq ((hbb.block _ (Array.getElem?_eq_some_iff.1 HV.out).1).trans HV.out)
                    have iD:Hid ((Value.slice (some ⟨W1.heap.size,0,none⟩) 0 0).ownBlock≠some W0.heap.size):=fun e=>by have h1:W1.heap.size=W0.heap.size:=Option.some.inj e;have h2:=(Array.getElem?_eq_some_iff.1 HV.out).1;omega
                    refine hK.out _ _ (.inr (dK.out _ HB2.out)) ?_;clear hK K hbb bY HV;have bY:=HB2;have HV:=o5;clear o5;clear HB2;generalize (W1.alloc (.cells #[] 69))=W2 at *;refine bL 6 rfl (fun K hK=>?_);have hzz:wc.heap.size≤W2.heap.size:=bY.out.size
                    refine aj _ rfl _ _ 24 rfl wc.heap.size 69 i0 _ 3 32 Tryz.underlying24 hi hz0 hz1 hz2 rfl (by decide) (.slice (some ⟨W1.heap.size,0,none⟩) 0 0) 0 [] rfl RA.out _ n _ (aS (ks.take n)) rfl (Hf.out _ (aa H4.out.b bY.out)) (by rw [aE,List.length_take];omega) bB (by unfold maxLen;omega) (by omega) hzz ?_
                    intro v9 W3 hown hgrow hat;have HB2:Hid (Below wc.heap.size wc W3):=bY.out.grown hgrow hzz (fun j e=>aw RA.out j e);have o5:Hid (W3.heap[W0.heap.size]?=some (.cells #[.string t.s,.int .i64 t.x,.int .i64 t.y] 69 (0,0))):=(hgrow.block _ (Array.getElem?_eq_some_iff.1 HV.out).1 (fun e=>iD.out e.symm)).trans HV.out
                    have y9:Hid (v9.ownBlock≠some W0.heap.size):=fun e=>by
                      rcases hat with h | h
                      · exact iD.out (h.symm.trans e)
                      · have h1:=Option.some.inj (h.symm.trans e);have h2:=(Array.getElem?_eq_some_iff.1 HV.out).1;omega
                    refine hK.out _ _ (.inr (dK.out _ HB2.out)) ?_;clear hK K hgrow hat bY RA hzz HV iD;have bY:=HB2;rw [Nat.zero_add,List.nil_append] at hown;have RA:=aq hown;obtain ⟨x9,c9,rfl⟩:=cZ hown;have HV:=o5;have iD:=y9;clear o5 y9;clear HB2 hown;refine bL 9 rfl (fun K hK=>?_);have hzz:wc.heap.size≤W3.heap.size:=bY.out.size
                    refine aj _ rfl _ _ 24 rfl wc.heap.size 69 i0 _ 3 32 Tryz.underlying24 hi hz0 hz1 hz2 rfl (by decide) (.slice x9 n c9) n (aS (ks.take n)) rfl RA.out _ 1 _ [.string t.s,.int .i64 t.x,.int .i64 t.y] rfl (.inr ⟨⟨W0.heap.size,0,none⟩,rfl,World.news_of_block HV.out⟩) rfl (fun u hu=>by simp at hu;rcases hu with rfl | rfl | rfl <;> rfl) (by unfold maxLen;omega) (by omega) hzz ?_
                    intro v9 W4 hown hgrow hat;have HB2:Hid (Below wc.heap.size wc W4):=bY.out.grown hgrow hzz (fun j e=>aw RA.out j e);refine hK.out _ _ (.inr (dK.out _ HB2.out)) ?_;clear hK K hgrow hat bY RA hzz HV iD;have bY:=HB2;have RA:=aq hown;obtain ⟨x8,c8,rfl⟩:=cZ hown;clear HB2 hown;refine bL 15 rfl (fun K hK=>?_);have hzz:wc.heap.size≤W4.heap.size:=bY.out.size
                    refine aj _ rfl _ _ 24 rfl wc.heap.size 69 i0 _ 3 32 Tryz.underlying24 hi hz0 hz1 hz2 rfl (by decide) (.slice x8 (n+1) c8) (n+1) (aS (ks.take n)++[.string t.s,.int .i64 t.x,.int .i64 t.y]) rfl RA.out _ (ks.length-n) _ (aS (ks.drop n)) rfl (HDS.out _ (aa H4.out.b bY.out)) (by rw [aE,List.length_drop]) bB (by unfold maxLen;omega) (by omega) hzz ?_
                    intro v9 W5 hown hgrow hat;have HB2:Hid (Below wc.heap.size wc W5):=bY.out.grown hgrow hzz (fun j e=>aw RA.out j e);refine hK.out _ _ (.inr (dK.out _ HB2.out)) ?_;clear hK K hgrow hat bY RA hzz;have bY:=HB2
                    rw [mO,show n+1+(ks.length-n)=ks.length+1 by omega] at hown
                    obtain ⟨va,vc,rfl⟩:=cZ hown;have RA:=aq hown;clear HB2 hown;refine bL 16 rfl (fun K hK=>?_);go_simp;refine hK.out _ _ (.inr (dK.out _ bY.out)) ?_;clear hK K;refine bL 17 rfl (fun K hK=>?_);go_simp;refine hK.out _ _ (.inr (dK.out _ bY.out)) ?_;clear hK K;refine bL 18 rfl (fun K hK=>?_);have H6:Hid (TS w #[.slice ak ks.length ck,.slice ap np cp,.slice ae ne ce] t 69 W5):=H4.out.keep bY.out;have lz:W5.cell? ⟨w.heap.size,0,none⟩=some (.slice ak ks.length ck):=(dK.out _ bY.out).1
                    have lf:W5.frozen? ⟨w.heap.size,0,none⟩=false:=by simp [World.frozen?,H6.out.c1]
                    have H7:=aq (H6.out.set0 (.slice va (ks.length+1) vc))
                    have HQ:Hid (∀ k,(Value.slice va (ks.length+1) vc).ownBlock=some k→w.heap.size+2<k):=fun k hq=>by have:=aw RA.out k hq;have:=HZ.out;omega
                    have CJ:Hid ((W5.setCell ⟨w.heap.size,0,none⟩ (.slice va (ks.length+1) vc)).ownsRow w.heap.size 69 3 (.slice va (ks.length+1) vc) (ks.length+1) (aS (fD ks n t))):=aJ (ar RA.out (aQ W5 w.heap.size 0 (.slice va (ks.length+1) vc)) (fun q hq e=>by have:=HQ.out q hq;injection e;omega)) (by have:=HZ.out;omega)
                    go_simp;refine hK.out _ _ (.inl rfl) ?_;clear hK K lz lf RA bY H6
                    refine aY (by kernel_rfl) ?_ _
                    refine NoPanic.normal ?_;generalize W5.setCell ⟨w.heap.size,0,none⟩ (.slice va (ks.length+1) vc)=W9 at *;obtain ⟨⟨d0,d1,d2⟩,⟨f0,f1,f2⟩,z1,z2,z3⟩:=H7.out.cells;have g2:=H7.out.c2
                    go_wp2_with (refine wpList_store_row rfl 30 _ _ rfl (w.heap.size+1) #[.slice va (ks.length+1) vc,.slice ap np cp,.slice ae ne ce] rfl rfl 30 _ g2 (by kernel_rfl) rfl (by simp [Value.oneCell']) ?_)
                    all_goals exact bodyPost_ret (v:=.tuple #[.agg #[.slice va (ks.length+1) vc,.slice ap np cp,.slice ae ne ce],.int .i64 0]) (by simp [results,Tryz.results67,go_sem,cell_setRow_same _ _ _ _ _ _ _ g2]) rfl ⟨below_setRow H7.out.b (by omega) _,.inr ⟨Kc.out,_,rfl,by rw [hnp.out];exact ar CJ.out (aD W9 (w.heap.size+1) _) (fun q hq e=>by have:=HQ.out q hq;injection e;omega)⟩⟩
        · have hai:0≤ai:=of_decide_eq_true HHB.out
          have hkc:Hid (kc=4):=HC.out
          go_wp2_with (refine wpList_store_row rfl 30 _ _ rfl (w.heap.size+1) #[.slice ak ks.length ck,.slice ap np cp,.slice ae ne ce] rfl rfl 30 _ g2 (by kernel_rfl) rfl (by simp [Value.oneCell']) ?_)
          exact bodyPost_ret (v:=.tuple #[.agg #[.slice ak ks.length ck,.slice ap np cp,.slice ae ne ce],.int .i64 4]) (by simp [results,Tryz.results67,go_sem,cell_setRow_same _ _ _ _ _ _ _ g2]) rfl ⟨below_setRow H3.out.b (by omega) _,.inl ⟨by rw [hkc.out];decide,by rw [hkc.out]⟩⟩
  · have Kc : Hid (gV ks ws = 3) := by
      show _=_
      unfold gV;rw [decide_eq_false h4]
      rfl
    generalize gV ks ws=kc at *
    have h4i:¬ ((ws.length:Int)=4):=by omega
    have h4b:((ws.length:Int)==4)=false:=by simp [h4i]
    have HB2:Hid (Below w.heap.size w ((w.alloc (.cells #[.slice ak ks.length ck,.slice ap np cp,.slice ae ne ce] 30)).alloc (.cells #[.slice none 0 0,.slice none 0 0,.slice none 0 0] 30))):=(aM).alloc (by simp) _
    have iY:Hid (((w.alloc (.cells #[.slice ak ks.length ck,.slice ap np cp,.slice ae ne ce] 30)).alloc (.cells #[.slice none 0 0,.slice none 0 0,.slice none 0 0] 30)).heap[w.heap.size+1]?=some (.cells #[.slice none 0 0,.slice none 0 0,.slice none 0 0] 30 (0,0))):=by have h:=am (w.alloc (.cells #[.slice ak ks.length ck,.slice ap np cp,.slice ae ne ce] 30)) (.cells #[.slice none 0 0,.slice none 0 0,.slice none 0 0] 30);rw [World.size_alloc] at h;exact h
    have g2:=iY.out
    go_enter Tryz.func67,Tryz.ntmps67
    go_wp2_with (refine wpList_store_row rfl 30 _ _ rfl (w.heap.size+1) #[.slice ak ks.length ck,.slice ap np cp,.slice ae ne ce] rfl rfl 30 _ g2 (by kernel_rfl) rfl (by simp [Value.oneCell']) ?_)
    exact bodyPost_ret (v:=.tuple #[.agg #[.slice ak ks.length ck,.slice ap np cp,.slice ae ne ce],.int .i64 3]) (by simp [results,Tryz.results67,go_sem,cell_setRow_same _ _ _ _ _ _ _ g2]) rfl ⟨below_setRow HB2.out (by omega) _,.inl ⟨by rw [Kc.out];decide,by rw [Kc.out]⟩⟩
theorem Et (v vw : Value) (ap ae : Option Addr) (np cp ne ce : Nat) (ks : List dx) (ws : List ByteArray) (w : World) (hk : dA w v ks) (hw : dV w vw ws) (hl : ks.length ≤ 16) (hsz : ∀ i, i < ws.length → (dE ws i).size ≤ 1048576) (hso : ks.Pairwise fun a b => iU a.s b.s = true) :
    Calls Tryz.prog 68 #[.agg #[.slice ap np cp,v,.slice ae ne ce],vw] w fun e w'=>Below w.heap.size w w' ∧
      ((fO ks ws≠0∧e=.returned (.tuple #[.agg #[.slice ap np cp,v,.slice ae ne ce],.int .i64 (fO ks ws)])) ∨
       (fO ks ws=0∧∃ u,e=.returned (.tuple #[.agg #[.slice ap np cp,u,.slice ae ne ce],.int .i64 0])∧w'.ownsRow w.heap.size 72 3 u (ks.length+1) (aS (fD ks (iH ks (fC ws).s) (fC ws))))):=by
  obtain ⟨i0,hi,hz0,hz1,hz2⟩:=info_parts jS;have HK:=aq hk;have HW:=aq hw;obtain ⟨ak,ck,rfl,hlc,hcm,-⟩:=hk;obtain ⟨wb,wo,wc,rfl,hwl,hwm,-⟩:=hw;unfold maxLen at hcm hwm
  by_cases h4:ws.length=4
  · skip
    have HC:=aq (Jg ks ws h4)
    have hx1:=hsz 1 (by omega)
    have hx2:=hsz 2 (by omega)
    have hx3:=hsz 3 (by omega)
    have nT:Hid (∀ wx:World,Calls Tryz.prog 120 #[.string (dE ws 2)] wx fun e w'=>e=.returned (.int .i64 (jc (dE ws 2)))∧w'=wx):=fun wx=>cg (dE ws 2) wx (by unfold maxLen;omega)
    have FM:Hid (∀ wx:World,Calls Tryz.prog 120 #[.string (dE ws 3)] wx fun e w'=>e=.returned (.int .i64 (jc (dE ws 3)))∧w'=wx):=fun wx=>cg (dE ws 3) wx (by unfold maxLen;omega)
    have HT:Hid (fC ws=⟨dE ws 1,jc (dE ws 2),jc (dE ws 3)⟩):=rfl;generalize fO ks ws=kc at *;generalize fC ws=t at *;rw [h4];rw [h4] at hwl;have zP:=aq h4;clear h4
    have y1:w.cell? ⟨wb,wo+1,none⟩=some (.string (dE ws 1)):=HW.out.cellS 1 (by have h:ws.length=4:=zP.out;omega)
    have y2:w.cell? ⟨wb,wo+2,none⟩=some (.string (dE ws 2)):=HW.out.cellS 2 (by have h:ws.length=4:=zP.out;omega)
    have y3:w.cell? ⟨wb,wo+3,none⟩=some (.string (dE ws 3)):=HW.out.cellS 3 (by have h:ws.length=4:=zP.out;omega)
    have ez:wb<w.heap.size:=av y1
    go_enter Tryz.func68,Tryz.ntmps68
    go_wp2_with fail
    have HB2:Hid (Below w.heap.size w ((w.alloc (.cells #[.slice ap np cp,.slice ak ks.length ck,.slice ae ne ce] 30)).alloc (.cells #[.slice none 0 0,.slice none 0 0,.slice none 0 0] 30))):=(aM).alloc (by simp) _
    have HC1:Hid (((w.alloc (.cells #[.slice ap np cp,.slice ak ks.length ck,.slice ae ne ce] 30)).alloc (.cells #[.slice none 0 0,.slice none 0 0,.slice none 0 0] 30)).heap[w.heap.size]?=some (.cells #[.slice ap np cp,.slice ak ks.length ck,.slice ae ne ce] 30 (0,0))):=j4 w _ _
    have iY:Hid (((w.alloc (.cells #[.slice ap np cp,.slice ak ks.length ck,.slice ae ne ce] 30)).alloc (.cells #[.slice none 0 0,.slice none 0 0,.slice none 0 0] 30)).heap[w.heap.size+1]?=some (.cells #[.slice none 0 0,.slice none 0 0,.slice none 0 0] 30 (0,0))):=by have h:=am (w.alloc (.cells #[.slice ap np cp,.slice ak ks.length ck,.slice ae ne ce] 30)) (.cells #[.slice none 0 0,.slice none 0 0,.slice none 0 0] 30);rw [World.size_alloc] at h;exact h
    have zm:Hid (((w.alloc (.cells #[.slice ap np cp,.slice ak ks.length ck,.slice ae ne ce] 30)).alloc (.cells #[.slice none 0 0,.slice none 0 0,.slice none 0 0] 30)).heap.size=w.heap.size+2):=by show _=_;simp
    generalize ((w.alloc (.cells #[.slice ap np cp,.slice ak ks.length ck,.slice ae ne ce] 30)).alloc (.cells #[.slice none 0 0,.slice none 0 0,.slice none 0 0] 30))=W at *
    have dK:Hid (∀ w':World,Below w.heap.size w w'→(w'.cell? ⟨wb,wo+1,none⟩=some (.string (dE ws 1))∧w'.cell? ⟨wb,wo+2,none⟩=some (.string (dE ws 2))∧w'.cell? ⟨wb,wo+3,none⟩=some (.string (dE ws 3)))):=fun w' hx=>by have h:ws.length=4:=zP.out;exact ⟨(HW.out.keep hx).cellS 1 (by omega),(HW.out.keep hx).cellS 2 (by omega),(HW.out.keep hx).cellS 3 (by omega)⟩
    go_cut [6] (fun s6 wc=>s6=.pointer (some ⟨w.heap.size+2,0,none⟩)∧Hid (TS w #[.slice ap np cp,.slice ak ks.length ck,.slice ae ne ce] t 72 wc))
    case first =>
      clear y1 y2 y3 ez;refine wp_region_noPanic ?_
      refine wp_region_held_drew (S:=fun w'=>w'.cell? ⟨wb,wo+1,none⟩=some (.string (dE ws 1))∧w'.cell? ⟨wb,wo+2,none⟩=some (.string (dE ws 2))∧w'.cell? ⟨wb,wo+3,none⟩=some (.string (dE ws 3))) (by kernel_rfl) ?_ (fun hHeld=>?_)
      · exact dK.out _ HB2.out.drew
      have HF:Hid (TS w #[.slice ap np cp,.slice ak ks.length ck,.slice ae ne ce] t 72 ((W.drew.alloc (.cells #[.string ⟨#[]⟩,.int .i64 0,.int .i64 0] 72)).setRow (w.heap.size+2) #[.string t.s,.int .i64 t.x,.int .i64 t.y])):=TS.start _ HC1.out iY.out zm.out HB2.out.drew;have kQ:Hid (Below w.heap.size w W.drew):=HB2.out.drew;have Fw:Hid (W.drew.heap.size=w.heap.size+2):=zm.out;generalize W.drew=W0 at *;refine aO 0 ?_ rfl ?_ ?_;rotate_left
      · intro w hSw;(try dsimp only at hSw);go_simp;try with_reducible rfl
      simp only [Act.put,aU]
      refine aO 1 ?_ rfl ?_ ?_;rotate_left
      · intro w hSw;(try dsimp only at hSw);go_simp;try with_reducible rfl
      simp only [Act.put,aU]
      refine aO 2 ?_ rfl ?_ ?_;rotate_left
      · intro w hSw;(try dsimp only at hSw);go_simp;try with_reducible rfl
      simp only [Act.put,aU]
      refine aO 3 ?_ rfl ?_ ?_;rotate_left
      · intro w hSw;(try dsimp only at hSw);go_simp;try with_reducible rfl
      simp only [Act.put,aU]
      refine aO 4 ?_ rfl ?_ ?_;rotate_left
      · intro w hSw;(try dsimp only at hSw);go_simp;try with_reducible rfl
      simp only [Act.put,aU]
      refine aO 5 ?_ rfl ?_ ?_;rotate_left
      · intro w hSw;(try dsimp only at hSw);go_simp;try with_reducible rfl
      simp only [Act.put,aU]
      refine aO 7 ?_ rfl ?_ ?_;rotate_left
      · intro w hSw;(try dsimp only at hSw);go_simp;try with_reducible rfl
      simp only [Act.put,aU]
      refine aO 8 ?_ rfl ?_ ?_;rotate_left
      · intro w hSw;(try dsimp only at hSw);go_simp;try with_reducible rfl
      simp only [Act.put,aU]
      refine aO 9 ?_ rfl ?_ ?_;rotate_left
      · intro w hSw;(try dsimp only at hSw);go_simp;try with_reducible rfl
      simp only [Act.put,aU]
      clear hHeld;refine lZ 6 12 rfl rfl (fun K hK=>?_) (fun K hK=>?_)
      · go_simp
        refine (nT.out _).mono ?_;rintro e V ⟨rfl,hv⟩;have hv2:=hv.symm;subst hv2;refine hK.out _ _ (dK.out _ kQ.out) (fun _=>?_);clear hK K;refine lZ 10 12 rfl rfl (fun K hK=>?_) (fun K hK=>?_)
        · go_simp
          refine (FM.out _).mono ?_;rintro e V ⟨rfl,hv⟩;have hv2:=hv.symm;subst hv2;refine hK.out _ _ (dK.out _ kQ.out) (fun _=>?_);clear hK K;refine lZ 11 12 rfl rfl (fun K hK=>?_) (fun K hK=>?_)
          · go_simp
            refine hK.out _ _ (dK.out _ kQ.out) (fun _=>?_);clear hK K;refine bE 12 rfl (fun K hK=>?_);go_simp;have uX:Hid (Below w.heap.size w (W0.alloc (.cells #[.string ⟨#[]⟩,.int .i64 0,.int .i64 0] 72))):=aa kQ.out (aM)
            have HXB:Hid ((W0.alloc (.cells #[.string ⟨#[]⟩,.int .i64 0,.int .i64 0] 72)).heap[w.heap.size+2]?=some (.cells #[.string ⟨#[]⟩,.int .i64 0,.int .i64 0] 72 (0,0))):=by have h:=am W0 (.cells #[.string ⟨#[]⟩,.int .i64 0,.int .i64 0] 72);rw [Fw.out] at h;exact h
            rw [Fw.out];refine hK.out _ _ (dK.out _ uX.out) (fun _=>?_);clear hK K;refine bE 13 rfl (fun K hK=>?_)
            refine aF rfl 72 _ _ rfl (w.heap.size+2) #[.string (dE ws 1),.int .i64 (jc (dE ws 2)),.int .i64 (jc (dE ws 3))] rfl rfl 72 _ HXB.out (by kernel_rfl) rfl (by simp [Value.oneCell']) ?_
            have jA:=HF.out;rw [HT.out] at jA;dsimp only at jA;refine hK.out _ _ (dK.out _ jA.b) (fun _=>?_);clear hK K
            refine wpAnyH_done (by kernel_rfl) ?_ _
            refine NoPanic.normal ?_;go_wp2_with fail
            go_meet
            exact ⟨rfl,by rw [HT.out];exact jA⟩
          · go_simp
            have uX:Hid (Below w.heap.size w (W0.alloc (.cells #[.string ⟨#[]⟩,.int .i64 0,.int .i64 0] 72))):=aa kQ.out (aM)
            have HXB:Hid ((W0.alloc (.cells #[.string ⟨#[]⟩,.int .i64 0,.int .i64 0] 72)).heap[w.heap.size+2]?=some (.cells #[.string ⟨#[]⟩,.int .i64 0,.int .i64 0] 72 (0,0))):=by have h:=am W0 (.cells #[.string ⟨#[]⟩,.int .i64 0,.int .i64 0] 72);rw [Fw.out] at h;exact h
            rw [Fw.out];refine hK.out _ _ (dK.out _ uX.out) (fun _=>?_);clear hK K;refine bE 11 rfl (fun K hK=>?_);go_simp;refine hK.out _ _ (dK.out _ uX.out) (fun _=>?_);clear hK K;refine bE 13 rfl (fun K hK=>?_)
            refine aF rfl 72 _ _ rfl (w.heap.size+2) #[.string (dE ws 1),.int .i64 (jc (dE ws 2)),.int .i64 (jc (dE ws 3))] rfl rfl 72 _ HXB.out (by kernel_rfl) rfl (by simp [Value.oneCell']) ?_
            have jA:=HF.out;rw [HT.out] at jA;dsimp only at jA;refine hK.out _ _ (dK.out _ jA.b) (fun _=>?_);clear hK K
            refine wpAnyH_done (by kernel_rfl) ?_ _
            refine NoPanic.normal ?_;go_wp2_with fail
            go_meet
            exact ⟨rfl,by rw [HT.out];exact jA⟩
        · go_simp
          have uX:Hid (Below w.heap.size w (W0.alloc (.cells #[.string ⟨#[]⟩,.int .i64 0,.int .i64 0] 72))):=aa kQ.out (aM)
          have HXB:Hid ((W0.alloc (.cells #[.string ⟨#[]⟩,.int .i64 0,.int .i64 0] 72)).heap[w.heap.size+2]?=some (.cells #[.string ⟨#[]⟩,.int .i64 0,.int .i64 0] 72 (0,0))):=by have h:=am W0 (.cells #[.string ⟨#[]⟩,.int .i64 0,.int .i64 0] 72);rw [Fw.out] at h;exact h
          rw [Fw.out];refine hK.out _ _ (dK.out _ uX.out) (fun _=>?_);clear hK K;refine bE 10 rfl (fun K hK=>?_);go_simp;refine (FM.out _).mono ?_;rintro e V ⟨rfl,hv⟩;have hv2:=hv.symm;subst hv2;refine hK.out _ _ (dK.out _ uX.out) (fun _=>?_);clear hK K;refine bE 11 rfl (fun K hK=>?_);go_simp;refine hK.out _ _ (dK.out _ uX.out) (fun _=>?_);clear hK K;refine bE 13 rfl (fun K hK=>?_)
          refine aF rfl 72 _ _ rfl (w.heap.size+2) #[.string (dE ws 1),.int .i64 (jc (dE ws 2)),.int .i64 (jc (dE ws 3))] rfl rfl 72 _ HXB.out (by kernel_rfl) rfl (by simp [Value.oneCell']) ?_
          have jA:=HF.out;rw [HT.out] at jA;dsimp only at jA;refine hK.out _ _ (dK.out _ jA.b) (fun _=>?_);clear hK K
          refine wpAnyH_done (by kernel_rfl) ?_ _
          refine NoPanic.normal ?_;go_wp2_with fail
          go_meet
          exact ⟨rfl,by rw [HT.out];exact jA⟩
      · go_simp
        have uX:Hid (Below w.heap.size w (W0.alloc (.cells #[.string ⟨#[]⟩,.int .i64 0,.int .i64 0] 72))):=aa kQ.out (aM)
        have HXB:Hid ((W0.alloc (.cells #[.string ⟨#[]⟩,.int .i64 0,.int .i64 0] 72)).heap[w.heap.size+2]?=some (.cells #[.string ⟨#[]⟩,.int .i64 0,.int .i64 0] 72 (0,0))):=by have h:=am W0 (.cells #[.string ⟨#[]⟩,.int .i64 0,.int .i64 0] 72);rw [Fw.out] at h;exact h
        rw [Fw.out];refine hK.out _ _ (dK.out _ uX.out) (fun _=>?_);clear hK K;refine bE 6 rfl (fun K hK=>?_);go_simp;refine (nT.out _).mono ?_;rintro e V ⟨rfl,hv⟩;have hv2:=hv.symm;subst hv2;refine hK.out _ _ (dK.out _ uX.out) (fun _=>?_);clear hK K;refine bE 10 rfl (fun K hK=>?_);go_simp;refine (FM.out _).mono ?_;rintro e V ⟨rfl,hv⟩;have hv2:=hv.symm;subst hv2;refine hK.out _ _ (dK.out _ uX.out) (fun _=>?_);clear hK K;refine bE 11 rfl (fun K hK=>?_);go_simp;refine hK.out _ _ (dK.out _ uX.out) (fun _=>?_);clear hK K;refine bE 13 rfl (fun K hK=>?_)
        refine aF rfl 72 _ _ rfl (w.heap.size+2) #[.string (dE ws 1),.int .i64 (jc (dE ws 2)),.int .i64 (jc (dE ws 3))] rfl rfl 72 _ HXB.out (by kernel_rfl) rfl (by simp [Value.oneCell']) ?_
        have jA:=HF.out;rw [HT.out] at jA;dsimp only at jA;refine hK.out _ _ (dK.out _ jA.b) (fun _=>?_);clear hK K
        refine wpAnyH_done (by kernel_rfl) ?_ _
        refine NoPanic.normal ?_;go_wp2_with fail
        go_meet
        exact ⟨rfl,by rw [HT.out];exact jA⟩
    case rest =>
      obtain ⟨rfl,HQ⟩:=hcut
      rename World=>w1
      clear y1 y2 y3 ez HB2 HC1 iY zm dK
      have HOK:Hid (∀ wx:World,Calls Tryz.prog 88 #[.agg #[.string t.s,.int .i64 t.x,.int .i64 t.y]] wx fun e w'=>e=.returned (.bool (gq t))∧Below wx.heap.size wx w'):=fun wx=>qy t wx (by rw [HT.out];dsimp only;unfold maxLen;omega)
      have Hm:Hid (∀ wx:World,Below w.heap.size w wx→Calls Tryz.prog 122 #[.agg #[.slice ap np cp,.slice ak ks.length ck],.string t.s] wx fun e w'=>e=.returned (.int .i64 (CE ks t.s))∧Below wx.heap.size wx w'):=fun wx hx=>vK _ _ ks t.s wx (HK.out.keep hx);have HHB:Hid (decide (0≤CE ks t.s)=hasB ks t.s):=(Cz ks t.s).trans (sM (qK hso)).symm;have Ka:Hid (∀ j,j<ks.length→iU (at' ks j).s t.s=decide (j<iH ks t.s)):=fun j hj=>K5 hso t.s hj;have HPE:Hid (iH ks t.s≤ks.length):=BG ks t.s;generalize CE ks t.s=ai at *;generalize hasB ks t.s=hb at *;generalize gq t=kb at *;have H1:Hid (TS w #[.slice ap np cp,.slice ak ks.length ck,.slice ae ne ce] t 72 w1):=HQ.out;clear HQ HT nT FM hx1 hx2 hx3 hsz hso HW;obtain ⟨⟨d0,d1,d2⟩,⟨f0,f1,f2⟩,z1,z2,z3⟩:=H1.out.cells;have g2:=H1.out.c2;go_wp2_with fail;refine (HOK.out _).mono ?_;rintro e w2 ⟨rfl,hb2⟩;have H2:Hid (TS w #[.slice ap np cp,.slice ak ks.length ck,.slice ae ne ce] t 72 w2):=H1.out.keep hb2;clear hb2 H1;clear d0 d1 d2 f0 f1 f2 z1 z2 z3 g2;obtain ⟨⟨d0,d1,d2⟩,⟨f0,f1,f2⟩,z1,z2,z3⟩:=H2.out.cells;have g2:=H2.out.c2
      cases kb
      · skip
        have hkc:Hid (kc=3):=HC.out
        go_wp2_with (refine wpList_store_row rfl 30 _ _ rfl (w.heap.size+1) #[.slice ap np cp,.slice ak ks.length ck,.slice ae ne ce] rfl rfl 30 _ g2 (by kernel_rfl) rfl (by simp [Value.oneCell']) ?_)
        exact bodyPost_ret (v:=.tuple #[.agg #[.slice ap np cp,.slice ak ks.length ck,.slice ae ne ce],.int .i64 3]) (by simp [results,Tryz.results68,go_sem,cell_setRow_same _ _ _ _ _ _ _ g2]) rfl ⟨below_setRow H2.out.b (by omega) _,.inl ⟨by rw [hkc.out];decide,by rw [hkc.out]⟩⟩
      · go_wp2_with fail
        refine (Hm.out _ H2.out.b).mono ?_;rintro e w3 ⟨rfl,hb3⟩;have H3:Hid (TS w #[.slice ap np cp,.slice ak ks.length ck,.slice ae ne ce] t 72 w3):=H2.out.keep hb3;clear hb3 H2;clear d0 d1 d2 f0 f1 f2 z1 z2 z3 g2;obtain ⟨⟨d0,d1,d2⟩,⟨f0,f1,f2⟩,z1,z2,z3⟩:=H3.out.cells;have g2:=H3.out.c2
        cases hb
        · have hai:¬ (0≤ai):=of_decide_eq_false HHB.out
          have HA1:Hid (∀ i,i<ks.length→jw (at' ks i) t=true→gK ks t=true):=fun i hi h=>any_hit hi h;have HA2:Hid ((∀ i,i<ks.length→jw (at' ks i) t=false)→gK ks t=false):=fun h=>MC h;generalize gK ks t=tb at *;go_wp2_with fail
          go_loopw [7,8] (fun s7 s8 wr=>∃ i n:Nat,i≤ks.length∧s8=.int .i64 i∧s7=.int .i64 n∧n=min i (iH ks t.s)∧Hid (TS w #[.slice ap np cp,.slice ak ks.length ck,.slice ae ne ce] t 72 wr∧∀ j,j<i→jw (at' ks j) t=false)) (fun _ s8 _=>ks.length-(intOf s8).toNat)
          case atStart=>exact ⟨0,0,Nat.zero_le _,rfl,rfl,by omega,H3.out,fun j hj=>by omega⟩
          case round =>
            clear H3;clear d0 d1 d2 f0 f1 f2 z1 z2 z3 g2;obtain ⟨i,n,hil,rfl,rfl,hn,HI⟩:=hrel;have HMN:Hid (n=min i (iH ks t.s)):=hn;clear hn;have hpe:iH ks t.s≤ks.length:=HPE.out
            have hnk:n≤ks.length:=by have h:n=min i (iH ks t.s):=HMN.out;omega
            have H3:Hid (TS w #[.slice ap np cp,.slice ak ks.length ck,.slice ae ne ce] t 72 wr):=HI.out.1;have HJ:Hid (∀ j,j<i→jw (at' ks j) t=false):=HI.out.2;clear HI;obtain ⟨⟨d0,d1,d2⟩,⟨f0,f1,f2⟩,z1,z2,z3⟩:=H3.out.cells;have g2:=H3.out.c2
            by_cases hlt:i<ks.length
            · have hk0:(0:Int)≤(i:Int):=by omega
              have hk1:(i:Int)<(ks.length:Int):=by omega
              go_wp2_with fail
              go_cut [65] (fun s65 wc=>s65=.bool (jw (at' ks i) t)∧Hid (TS w #[.slice ap np cp,.slice ak ks.length ck,.slice ae ne ce] t 72 wc))
              case first =>
                have hne:=Later.some wr;obtain ⟨kb,ko,hkb,u0,u1,u2⟩:=FT (HK.out.keep H3.out.b) hlt;subst hkb;have zk:=av u0
                by_cases hx:(at' ks i).x=t.x
                · have hxb:((at' ks i).x==t.x)=true:=by simp [hx]
                  have HS:Hid (jw (at' ks i) t=decide ((at' ks i).y=t.y)):=by
                    show _=_
                    unfold jw;rw [decide_eq_true hx,Bool.true_and]
                  have hyb:((at' ks i).y==t.y)=decide ((at' ks i).y=t.y):=by rw [Bool.eq_iff_iff];simp
                  clear hx
                  refine au (by kernel_rfl) (by kernel_rfl) ?_
                  repeat (go_big_quiet_step (fail))
                  refine wpQuiet_nil ?_;rintro _ ⟨x,rfl⟩;have H4:Hid (TS w #[.slice ap np cp,.slice (some ⟨kb,ko,none⟩) ks.length ck,.slice ae ne ce] t 72 x.val):=H3.out.keep x.below;go_wp2_with fail
                  go_meet
                  exact ⟨by rw [HS.out],H4.out⟩
                · have hxb:((at' ks i).x==t.x)=false:=by simp [hx]
                  have HS:Hid (jw (at' ks i) t=false):=by
                    show _=_
                    unfold jw;rw [decide_eq_false hx];rfl
                  clear hx
                  refine au (by kernel_rfl) (by kernel_rfl) ?_
                  repeat (go_big_quiet_step (fail))
                  refine wpQuiet_nil ?_;rintro _ ⟨x,rfl⟩;have H4:Hid (TS w #[.slice ap np cp,.slice (some ⟨kb,ko,none⟩) ks.length ck,.slice ae ne ce] t 72 x.val):=H3.out.keep x.below;go_wp2_with fail
                  go_meet
                  exact ⟨by rw [HS.out],H4.out⟩
              case rest =>
                obtain ⟨rfl,H4⟩:=hcut
                rename World=>w5
                clear H3;clear d0 d1 d2 f0 f1 f2 z1 z2 z3 g2;obtain ⟨⟨d0,d1,d2⟩,⟨f0,f1,f2⟩,z1,z2,z3⟩:=H4.out.cells;have g2:=H4.out.c2
                cases hsx:jw (at' ks i) t
                · have HJ2:Hid (∀ j,j<i+1→jw (at' ks j) t=false):=fun j hj=>if e:j=i then by rw [e];exact hsx else HJ.out j (by omega)
                  clear hsx;go_wp2_with fail
                  go_cut [76] (fun s76 wc=>s76=.bool (decide (i<iH ks t.s))∧Hid (TS w #[.slice ap np cp,.slice ak ks.length ck,.slice ae ne ce] t 72 wc))
                  case first =>
                    have hne:=Later.some w5;obtain ⟨kb,ko,hkb,u0,-,-⟩:=FT (HK.out.keep H4.out.b) hlt;subst hkb;have zk:=av u0;have hbl:=Ka.out i hlt;unfold iU at hbl
                    refine au (by kernel_rfl) (by kernel_rfl) ?_
                    repeat (go_big_quiet_step (fail))
                    refine wpQuiet_nil ?_;rintro _ ⟨x,rfl⟩;have H5:Hid (TS w #[.slice ap np cp,.slice (some ⟨kb,ko,none⟩) ks.length ck,.slice ae ne ce] t 72 x.val):=H4.out.keep x.below;go_wp2_with fail
                    go_meet
                    exact ⟨rfl,H5.out⟩
                  case rest =>
                    obtain ⟨rfl,H5⟩:=hcut
                    by_cases hp:i<iH ks t.s
                    · rw [decide_eq_true hp]
                      have hn2:Hid (i+1=min (i+1) (iH ks t.s)):=by show _=_;omega
                      go_wp2_with fail
                      exact ⟨⟨i+1,i+1,by omega,by go_num,by go_num,hn2.out,H5.out,HJ2.out⟩,by simp [intOf];omega⟩
                    · rw [decide_eq_false hp]
                      have hn2:Hid (n=min (i+1) (iH ks t.s)):=by have h:n=min i (iH ks t.s):=HMN.out;show _=_;omega
                      go_wp2_with fail
                      exact ⟨⟨i+1,n,by omega,by go_num,rfl,hn2.out,H5.out,HJ2.out⟩,by simp [intOf];omega⟩
                · have htb:=HA1.out i hlt hsx
                  subst htb;have hkc:Hid (kc=5):=HC.out
                  go_wp2_with (refine wpList_store_row rfl 30 _ _ rfl (w.heap.size+1) #[.slice ap np cp,.slice ak ks.length ck,.slice ae ne ce] rfl rfl 30 _ g2 (by kernel_rfl) rfl (by simp [Value.oneCell']) ?_)
                  exact bodyPost_ret (v:=.tuple #[.agg #[.slice ap np cp,.slice ak ks.length ck,.slice ae ne ce],.int .i64 5]) (by simp [results,Tryz.results68,go_sem,cell_setRow_same _ _ _ _ _ _ _ g2]) rfl ⟨below_setRow H4.out.b (by omega) _,.inl ⟨by rw [hkc.out];decide,by rw [hkc.out]⟩⟩
            · have hk1:¬ (i:Int)<(ks.length:Int):=by omega
              have htb:=HA2.out (fun j hj=>HJ.out j (by omega))
              subst htb
              by_cases h6:16≤ks.length
              · have h6i:(16:Int)≤(ks.length:Int):=by omega
                have hkc:Hid (kc=6):=HC.out.trans (by rw [decide_eq_true h6];rfl)
                go_wp2_with (refine wpList_store_row rfl 30 _ _ rfl (w.heap.size+1) #[.slice ap np cp,.slice ak ks.length ck,.slice ae ne ce] rfl rfl 30 _ g2 (by kernel_rfl) rfl (by simp [Value.oneCell']) ?_)
                exact bodyPost_ret (v:=.tuple #[.agg #[.slice ap np cp,.slice ak ks.length ck,.slice ae ne ce],.int .i64 6]) (by simp [results,Tryz.results68,go_sem,cell_setRow_same _ _ _ _ _ _ _ g2]) rfl ⟨below_setRow H3.out.b (by omega) _,.inl ⟨by rw [hkc.out];decide,by rw [hkc.out]⟩⟩
              · have h6i:¬ (16:Int)≤(ks.length:Int):=by omega
                have Kc:Hid (kc=0):=HC.out.trans (by rw [decide_eq_false h6];rfl)
                clear HC
                have hnp:Hid (iH ks t.s=n):=by have h:n=min i (iH ks t.s):=HMN.out;show _=_;omega
                go_wp2_with fail
                have hn0:(0:Int)≤(n:Int):=by omega
                have hn1:(n:Int)≤(ck:Int):=by omega
                have hn2:(n:Int)≤(ks.length:Int):=by omega
                have dK:Hid (∀ w':World,Below wr.heap.size wr w'→w'.cell? ⟨w.heap.size,1,none⟩=some (.slice ak ks.length ck)∧w'.cell? ⟨w.heap.size+2,0,none⟩=some (.string t.s)∧w'.cell? ⟨w.heap.size+2,1,none⟩=some (.int .i64 t.x)∧w'.cell? ⟨w.heap.size+2,2,none⟩=some (.int .i64 t.y)):=fun w' hx=>by
                  obtain ⟨⟨h0,h1,h2⟩,⟨k0,k1,k2⟩,-⟩:=(H3.out.keep hx).cells;exact ⟨h1,k0,k1,k2⟩
                refine wp_region_noPanic ?_
                refine bj (S:=fun w'=>w'.cell? ⟨w.heap.size,1,none⟩=some (.slice ak ks.length ck)∧w'.cell? ⟨w.heap.size+2,0,none⟩=some (.string t.s)∧w'.cell? ⟨w.heap.size+2,1,none⟩=some (.int .i64 t.x)∧w'.cell? ⟨w.heap.size+2,2,none⟩=some (.int .i64 t.y)) 18 (by kernel_rfl) ?_ (fun hHeld=>?_)
                · exact dK.out _ (Below.refl _ _).drew
                have bY:Hid (Below wr.heap.size wr wr.drew):=(Below.refl _ _).drew;generalize wr.drew=W0 at *;refine bG 1 ?_ rfl ?_ ?_;rotate_left
                · intro w hSw;(try dsimp only at hSw);go_simp;try with_reducible rfl
                simp only [Act.put,aU]
                refine bG 2 ?_ rfl ?_ ?_;rotate_left
                · intro w hSw;(try dsimp only at hSw);go_simp;try with_reducible rfl
                simp only [Act.put,aU]
                refine bG 3 ?_ rfl ?_ ?_;rotate_left
                · intro w hSw;(try dsimp only at hSw);go_simp;try with_reducible rfl
                simp only [Act.put,aU]
                refine bG 4 ?_ rfl ?_ ?_;rotate_left
                · intro w hSw;(try dsimp only at hSw);go_simp;try with_reducible rfl
                simp only [Act.put,aU]
                refine bG 5 ?_ rfl ?_ ?_;rotate_left
                · intro w hSw;(try dsimp only at hSw);go_simp;try with_reducible rfl
                simp only [Act.put,aU]
                refine bG 7 ?_ rfl ?_ ?_;rotate_left
                · intro w hSw;(try dsimp only at hSw);go_simp;try with_reducible rfl
                simp only [Act.put,aU]
                refine bG 10 ?_ rfl ?_ ?_;rotate_left
                · intro w hSw;(try dsimp only at hSw);go_simp;try with_reducible rfl
                simp only [Act.put,aU]
                refine bG 11 ?_ rfl ?_ ?_;rotate_left
                · intro w hSw;(try dsimp only at hSw);go_simp;try with_reducible rfl
                simp only [Act.put,aU]
                refine bG 12 ?_ rfl ?_ ?_;rotate_left
                · intro w hSw;(try dsimp only at hSw);go_simp;try with_reducible rfl
                simp only [Act.put,aU]
                refine bG 13 ?_ rfl ?_ ?_;rotate_left
                · intro w hSw;(try dsimp only at hSw);go_simp;try with_reducible rfl
                simp only [Act.put,aU]
                refine bG 14 ?_ rfl ?_ ?_;rotate_left
                · intro w hSw;(try dsimp only at hSw);go_simp;try with_reducible rfl
                simp only [Act.put,aU]
                clear hHeld
                have Hf:Hid (∀ wx:World,Below w.heap.size w wx→(n=0 ∨ ∃ ad,ak=some ad∧∀ j u,(aS (ks.take n))[j]?=some u→wx.cell? (ad.add j)=some u)):=fun wx hx=>cN (Dc HK.out (by omega)) hx
                have HDS:Hid (∀ wx:World,Below w.heap.size w wx→(ks.length-n=0 ∨ ∃ ad,(if ck=n then ak else Option.map (fun x=>x.add (n*3)) ak)=some ad∧∀ j u,(aS (ks.drop n))[j]?=some u→wx.cell? (ad.add j)=some u)):=fun wx hx=>cN (EZ HK.out (by omega)) hx
                clear d0 d1 d2 f0 f1 f2 z1 z2 z3 g2;have HZ:Hid (w.heap.size+2<wr.heap.size):=H3.out.cells.2.2.2.2
                refine bn (rs:=[0,8]) (by kernel_rfl) (by simp) ?_
                refine dF.cons rfl (fun K hK=>?_) (dF.cons rfl (fun K hK=>?_) dF.nil)
                · go_simp
                  have hbb:Below W0.heap.size W0 (W0.alloc (.cells #[] 72)):=(aM);have HB2:Hid (Below wr.heap.size wr (W0.alloc (.cells #[] 72))):=aa bY.out hbb;have RA:Hid ((W0.alloc (.cells #[] 72)).ownsRow wr.heap.size 72 3 (.slice (some ⟨W0.heap.size,0,none⟩) 0 0) 0 []):=be (am W0 _) bY.out.size 3;refine hK.out _ _ (.inr (dK.out _ HB2.out)) ?_;clear hK K hbb bY;have bY:=HB2;clear HB2;generalize (W0.alloc (.cells #[] 72))=W1 at *
                  refine bn (rs:=[6,8]) (by kernel_rfl) (by simp) ?_
                  refine dF.cons rfl (fun K hK=>?_) (dF.cons rfl (fun K hK=>?_) dF.nil)
                  · have hzz:wr.heap.size≤W1.heap.size:=bY.out.size
                    refine aj _ rfl _ _ 25 rfl wr.heap.size 72 i0 _ 3 32 Tryz.underlying25 hi hz0 hz1 hz2 rfl (by decide) (.slice (some ⟨W0.heap.size,0,none⟩) 0 0) 0 [] rfl RA.out _ n _ (aS (ks.take n)) rfl (Hf.out _ (aa H3.out.b bY.out)) (by rw [aE,List.length_take];omega) bB (by unfold maxLen;omega) (by omega) hzz ?_
                    intro v9 W2 hown hgrow hat;have HB2:Hid (Below wr.heap.size wr W2):=bY.out.grown hgrow hzz (fun j e=>aw RA.out j e);refine hK.out _ _ (.inr (dK.out _ HB2.out)) ?_;clear hK K hgrow hat bY RA hzz;have bY:=HB2;rw [Nat.zero_add,List.nil_append] at hown;have RA:=aq hown;obtain ⟨x9,c9,rfl⟩:=cZ hown;clear HB2 hown;refine bL 8 rfl (fun K hK=>?_);go_simp;have hbb:Below W2.heap.size W2 (W2.alloc (.cells #[.string t.s,.int .i64 t.x,.int .i64 t.y] 72)):=(aM);have HB2:Hid (Below wr.heap.size wr (W2.alloc (.cells #[.string t.s,.int .i64 t.x,.int .i64 t.y] 72))):=aa bY.out hbb;have HV:Hid ((W2.alloc (.cells #[.string t.s,.int .i64 t.x,.int .i64 t.y] 72)).heap[W2.heap.size]?=some (.cells #[.string t.s,.int .i64 t.x,.int .i64 t.y] 72 (0,0))):=am W2 _;have y7:=aq (ah RA.out hbb);have iD:Hid (_≠some W2.heap.size):=fun e=>Nat.lt_irrefl _ (bD RA.out _ e);refine hK.out _ _ (.inr (dK.out _ HB2.out)) ?_;clear hK K hbb bY RA;have bY:=HB2;have RA:=y7;clear y7;clear HB2;generalize (W2.alloc (.cells #[.string t.s,.int .i64 t.x,.int .i64 t.y] 72))=W3 at *;refine bL 9 rfl (fun K hK=>?_);have hzz:wr.heap.size≤W3.heap.size:=bY.out.size
                    refine aj _ rfl _ _ 25 rfl wr.heap.size 72 i0 _ 3 32 Tryz.underlying25 hi hz0 hz1 hz2 rfl (by decide) (.slice x9 n c9) n (aS (ks.take n)) rfl RA.out _ 1 _ [.string t.s,.int .i64 t.x,.int .i64 t.y] rfl (.inr ⟨⟨W2.heap.size,0,none⟩,rfl,World.news_of_block HV.out⟩) rfl (fun u hu=>by simp at hu;rcases hu with rfl | rfl | rfl <;> rfl) (by unfold maxLen;omega) (by omega) hzz ?_
                    intro v9 W4 hown hgrow hat;have HB2:Hid (Below wr.heap.size wr W4):=bY.out.grown hgrow hzz (fun j e=>aw RA.out j e);refine hK.out _ _ (.inr (dK.out _ HB2.out)) ?_;clear hK K hgrow hat bY RA hzz HV iD;have bY:=HB2;have RA:=aq hown;obtain ⟨x8,c8,rfl⟩:=cZ hown;clear HB2 hown;refine bL 15 rfl (fun K hK=>?_);have hzz:wr.heap.size≤W4.heap.size:=bY.out.size
                    refine aj _ rfl _ _ 25 rfl wr.heap.size 72 i0 _ 3 32 Tryz.underlying25 hi hz0 hz1 hz2 rfl (by decide) (.slice x8 (n+1) c8) (n+1) (aS (ks.take n)++[.string t.s,.int .i64 t.x,.int .i64 t.y]) rfl RA.out _ (ks.length-n) _ (aS (ks.drop n)) rfl (HDS.out _ (aa H3.out.b bY.out)) (by rw [aE,List.length_drop]) bB (by unfold maxLen;omega) (by omega) hzz ?_
                    intro v9 W5 hown hgrow hat;have HB2:Hid (Below wr.heap.size wr W5):=bY.out.grown hgrow hzz (fun j e=>aw RA.out j e);refine hK.out _ _ (.inr (dK.out _ HB2.out)) ?_;clear hK K hgrow hat bY RA hzz;have bY:=HB2
                    rw [mO,show n+1+(ks.length-n)=ks.length+1 by omega] at hown
                    obtain ⟨va,vc,rfl⟩:=cZ hown;have RA:=aq hown;clear HB2 hown;refine bL 16 rfl (fun K hK=>?_);go_simp;refine hK.out _ _ (.inr (dK.out _ bY.out)) ?_;clear hK K;refine bL 17 rfl (fun K hK=>?_);go_simp;refine hK.out _ _ (.inr (dK.out _ bY.out)) ?_;clear hK K;refine bL 18 rfl (fun K hK=>?_);have H6:Hid (TS w #[.slice ap np cp,.slice ak ks.length ck,.slice ae ne ce] t 72 W5):=H3.out.keep bY.out;have lz:W5.cell? ⟨w.heap.size,1,none⟩=some (.slice ak ks.length ck):=(dK.out _ bY.out).1
                    have lf:W5.frozen? ⟨w.heap.size,1,none⟩=false:=by simp [World.frozen?,H6.out.c1]
                    have H7:=aq (H6.out.set1 (.slice va (ks.length+1) vc))
                    have HQ:Hid (∀ k,(Value.slice va (ks.length+1) vc).ownBlock=some k→w.heap.size+2<k):=fun k hq=>by have:=aw RA.out k hq;have:=HZ.out;omega
                    have CJ:Hid ((W5.setCell ⟨w.heap.size,1,none⟩ (.slice va (ks.length+1) vc)).ownsRow w.heap.size 72 3 (.slice va (ks.length+1) vc) (ks.length+1) (aS (fD ks n t))):=aJ (ar RA.out (aQ W5 w.heap.size 1 (.slice va (ks.length+1) vc)) (fun q hq e=>by have:=HQ.out q hq;injection e;omega)) (by have:=HZ.out;omega)
                    go_simp;refine hK.out _ _ (.inl rfl) ?_;clear hK K lz lf RA bY H6
                    refine aY (by kernel_rfl) ?_ _
                    refine NoPanic.normal ?_;generalize W5.setCell ⟨w.heap.size,1,none⟩ (.slice va (ks.length+1) vc)=W9 at *;obtain ⟨⟨d0,d1,d2⟩,⟨f0,f1,f2⟩,z1,z2,z3⟩:=H7.out.cells;have g2:=H7.out.c2
                    go_wp2_with (refine wpList_store_row rfl 30 _ _ rfl (w.heap.size+1) #[.slice ap np cp,.slice va (ks.length+1) vc,.slice ae ne ce] rfl rfl 30 _ g2 (by kernel_rfl) rfl (by simp [Value.oneCell']) ?_)
                    all_goals exact bodyPost_ret (v:=.tuple #[.agg #[.slice ap np cp,.slice va (ks.length+1) vc,.slice ae ne ce],.int .i64 0]) (by simp [results,Tryz.results68,go_sem,cell_setRow_same _ _ _ _ _ _ _ g2]) rfl ⟨below_setRow H7.out.b (by omega) _,.inr ⟨Kc.out,_,rfl,by rw [hnp.out];exact ar CJ.out (aD W9 (w.heap.size+1) _) (fun q hq e=>by have:=HQ.out q hq;injection e;omega)⟩⟩
                  · go_simp
                    have hbb:Below W1.heap.size W1 (W1.alloc (.cells #[.string t.s,.int .i64 t.x,.int .i64 t.y] 72)):=(aM);have HB2:Hid (Below wr.heap.size wr (W1.alloc (.cells #[.string t.s,.int .i64 t.x,.int .i64 t.y] 72))):=aa bY.out hbb;have HV:Hid ((W1.alloc (.cells #[.string t.s,.int .i64 t.x,.int .i64 t.y] 72)).heap[W1.heap.size]?=some (.cells #[.string t.s,.int .i64 t.x,.int .i64 t.y] 72 (0,0))):=am W1 _;have y7:=aq (ah RA.out hbb);have iD:Hid (_≠some W1.heap.size):=fun e=>Nat.lt_irrefl _ (bD RA.out _ e);refine hK.out _ _ (.inr (dK.out _ HB2.out)) ?_;clear hK K hbb bY RA;have bY:=HB2;have RA:=y7;clear y7;clear HB2;generalize (W1.alloc (.cells #[.string t.s,.int .i64 t.x,.int .i64 t.y] 72))=W2 at *;refine bL 6 rfl (fun K hK=>?_);have hzz:wr.heap.size≤W2.heap.size:=bY.out.size
                    refine aj _ rfl _ _ 25 rfl wr.heap.size 72 i0 _ 3 32 Tryz.underlying25 hi hz0 hz1 hz2 rfl (by decide) (.slice (some ⟨W0.heap.size,0,none⟩) 0 0) 0 [] rfl RA.out _ n _ (aS (ks.take n)) rfl (Hf.out _ (aa H3.out.b bY.out)) (by rw [aE,List.length_take];omega) bB (by unfold maxLen;omega) (by omega) hzz ?_
                    intro v9 W3 hown hgrow hat;have HB2:Hid (Below wr.heap.size wr W3):=bY.out.grown hgrow hzz (fun j e=>aw RA.out j e);have o5:Hid (W3.heap[W1.heap.size]?=some (.cells #[.string t.s,.int .i64 t.x,.int .i64 t.y] 72 (0,0))):=(hgrow.block _ (Array.getElem?_eq_some_iff.1 HV.out).1 (fun e=>iD.out e.symm)).trans HV.out
                    have y9:Hid (v9.ownBlock≠some W1.heap.size):=fun e=>by
                      rcases hat with h | h
                      · exact iD.out (h.symm.trans e)
                      · have h1:=Option.some.inj (h.symm.trans e);have h2:=(Array.getElem?_eq_some_iff.1 HV.out).1;omega
                    refine hK.out _ _ (.inr (dK.out _ HB2.out)) ?_;clear hK K hgrow hat bY RA hzz HV iD;have bY:=HB2;rw [Nat.zero_add,List.nil_append] at hown;have RA:=aq hown;obtain ⟨x9,c9,rfl⟩:=cZ hown;have HV:=o5;have iD:=y9;clear o5 y9;clear HB2 hown;refine bL 9 rfl (fun K hK=>?_);have hzz:wr.heap.size≤W3.heap.size:=bY.out.size
                    refine aj _ rfl _ _ 25 rfl wr.heap.size 72 i0 _ 3 32 Tryz.underlying25 hi hz0 hz1 hz2 rfl (by decide) (.slice x9 n c9) n (aS (ks.take n)) rfl RA.out _ 1 _ [.string t.s,.int .i64 t.x,.int .i64 t.y] rfl (.inr ⟨⟨W1.heap.size,0,none⟩,rfl,World.news_of_block HV.out⟩) rfl (fun u hu=>by simp at hu;rcases hu with rfl | rfl | rfl <;> rfl) (by unfold maxLen;omega) (by omega) hzz ?_
                    intro v9 W4 hown hgrow hat;have HB2:Hid (Below wr.heap.size wr W4):=bY.out.grown hgrow hzz (fun j e=>aw RA.out j e);refine hK.out _ _ (.inr (dK.out _ HB2.out)) ?_;clear hK K hgrow hat bY RA hzz HV iD;have bY:=HB2;have RA:=aq hown;obtain ⟨x8,c8,rfl⟩:=cZ hown;clear HB2 hown;refine bL 15 rfl (fun K hK=>?_);have hzz:wr.heap.size≤W4.heap.size:=bY.out.size
                    refine aj _ rfl _ _ 25 rfl wr.heap.size 72 i0 _ 3 32 Tryz.underlying25 hi hz0 hz1 hz2 rfl (by decide) (.slice x8 (n+1) c8) (n+1) (aS (ks.take n)++[.string t.s,.int .i64 t.x,.int .i64 t.y]) rfl RA.out _ (ks.length-n) _ (aS (ks.drop n)) rfl (HDS.out _ (aa H3.out.b bY.out)) (by rw [aE,List.length_drop]) bB (by unfold maxLen;omega) (by omega) hzz ?_
                    intro v9 W5 hown hgrow hat;have HB2:Hid (Below wr.heap.size wr W5):=bY.out.grown hgrow hzz (fun j e=>aw RA.out j e);refine hK.out _ _ (.inr (dK.out _ HB2.out)) ?_;clear hK K hgrow hat bY RA hzz;have bY:=HB2
                    rw [mO,show n+1+(ks.length-n)=ks.length+1 by omega] at hown
                    obtain ⟨va,vc,rfl⟩:=cZ hown;have RA:=aq hown;clear HB2 hown;refine bL 16 rfl (fun K hK=>?_);go_simp;refine hK.out _ _ (.inr (dK.out _ bY.out)) ?_;clear hK K;refine bL 17 rfl (fun K hK=>?_);go_simp;refine hK.out _ _ (.inr (dK.out _ bY.out)) ?_;clear hK K;refine bL 18 rfl (fun K hK=>?_);have H6:Hid (TS w #[.slice ap np cp,.slice ak ks.length ck,.slice ae ne ce] t 72 W5):=H3.out.keep bY.out;have lz:W5.cell? ⟨w.heap.size,1,none⟩=some (.slice ak ks.length ck):=(dK.out _ bY.out).1
                    have lf:W5.frozen? ⟨w.heap.size,1,none⟩=false:=by simp [World.frozen?,H6.out.c1]
                    have H7:=aq (H6.out.set1 (.slice va (ks.length+1) vc))
                    have HQ:Hid (∀ k,(Value.slice va (ks.length+1) vc).ownBlock=some k→w.heap.size+2<k):=fun k hq=>by have:=aw RA.out k hq;have:=HZ.out;omega
                    have CJ:Hid ((W5.setCell ⟨w.heap.size,1,none⟩ (.slice va (ks.length+1) vc)).ownsRow w.heap.size 72 3 (.slice va (ks.length+1) vc) (ks.length+1) (aS (fD ks n t))):=aJ (ar RA.out (aQ W5 w.heap.size 1 (.slice va (ks.length+1) vc)) (fun q hq e=>by have:=HQ.out q hq;injection e;omega)) (by have:=HZ.out;omega)
                    go_simp;refine hK.out _ _ (.inl rfl) ?_;clear hK K lz lf RA bY H6
                    refine aY (by kernel_rfl) ?_ _
                    refine NoPanic.normal ?_;generalize W5.setCell ⟨w.heap.size,1,none⟩ (.slice va (ks.length+1) vc)=W9 at *;obtain ⟨⟨d0,d1,d2⟩,⟨f0,f1,f2⟩,z1,z2,z3⟩:=H7.out.cells;have g2:=H7.out.c2
                    go_wp2_with (refine wpList_store_row rfl 30 _ _ rfl (w.heap.size+1) #[.slice ap np cp,.slice va (ks.length+1) vc,.slice ae ne ce] rfl rfl 30 _ g2 (by kernel_rfl) rfl (by simp [Value.oneCell']) ?_)
                    all_goals exact bodyPost_ret (v:=.tuple #[.agg #[.slice ap np cp,.slice va (ks.length+1) vc,.slice ae ne ce],.int .i64 0]) (by simp [results,Tryz.results68,go_sem,cell_setRow_same _ _ _ _ _ _ _ g2]) rfl ⟨below_setRow H7.out.b (by omega) _,.inr ⟨Kc.out,_,rfl,by rw [hnp.out];exact ar CJ.out (aD W9 (w.heap.size+1) _) (fun q hq e=>by have:=HQ.out q hq;injection e;omega)⟩⟩
                · go_simp
                  have hbb:Below W0.heap.size W0 (W0.alloc (.cells #[.string t.s,.int .i64 t.x,.int .i64 t.y] 72)):=(aM);have HB2:Hid (Below wr.heap.size wr (W0.alloc (.cells #[.string t.s,.int .i64 t.x,.int .i64 t.y] 72))):=aa bY.out hbb;have HV:Hid ((W0.alloc (.cells #[.string t.s,.int .i64 t.x,.int .i64 t.y] 72)).heap[W0.heap.size]?=some (.cells #[.string t.s,.int .i64 t.x,.int .i64 t.y] 72 (0,0))):=am W0 _;refine hK.out _ _ (.inr (dK.out _ HB2.out)) ?_;clear hK K hbb bY;have bY:=HB2;clear HB2;generalize (W0.alloc (.cells #[.string t.s,.int .i64 t.x,.int .i64 t.y] 72))=W1 at *;refine bL 0 rfl (fun K hK=>?_);go_simp;have hbb:Below W1.heap.size W1 (W1.alloc (.cells #[] 72)):=(aM);have HB2:Hid (Below wr.heap.size wr (W1.alloc (.cells #[] 72))):=aa bY.out hbb;have RA:Hid ((W1.alloc (.cells #[] 72)).ownsRow wr.heap.size 72 3 (.slice (some ⟨W1.heap.size,0,none⟩) 0 0) 0 []):=be (am W1 _) bY.out.size 3;have o5:=aq ((hbb.block _ (Array.getElem?_eq_some_iff.1 HV.out).1).trans HV.out)
                  have iD:Hid ((Value.slice (some ⟨W1.heap.size,0,none⟩) 0 0).ownBlock≠some W0.heap.size):=fun e=>by have h1:W1.heap.size=W0.heap.size:=Option.some.inj e;have h2:=(Array.getElem?_eq_some_iff.1 HV.out).1;omega
                  refine hK.out _ _ (.inr (dK.out _ HB2.out)) ?_;clear hK K hbb bY HV;have bY:=HB2;have HV:=o5;clear o5;clear HB2;generalize (W1.alloc (.cells #[] 72))=W2 at *;refine bL 6 rfl (fun K hK=>?_);have hzz:wr.heap.size≤W2.heap.size:=bY.out.size
                  refine aj _ rfl _ _ 25 rfl wr.heap.size 72 i0 _ 3 32 Tryz.underlying25 hi hz0 hz1 hz2 rfl (by decide) (.slice (some ⟨W1.heap.size,0,none⟩) 0 0) 0 [] rfl RA.out _ n _ (aS (ks.take n)) rfl (Hf.out _ (aa H3.out.b bY.out)) (by rw [aE,List.length_take];omega) bB (by unfold maxLen;omega) (by omega) hzz ?_
                  intro v9 W3 hown hgrow hat;have HB2:Hid (Below wr.heap.size wr W3):=bY.out.grown hgrow hzz (fun j e=>aw RA.out j e);have o5:Hid (W3.heap[W0.heap.size]?=some (.cells #[.string t.s,.int .i64 t.x,.int .i64 t.y] 72 (0,0))):=(hgrow.block _ (Array.getElem?_eq_some_iff.1 HV.out).1 (fun e=>iD.out e.symm)).trans HV.out
                  have y9:Hid (v9.ownBlock≠some W0.heap.size):=fun e=>by
                    rcases hat with h | h
                    · exact iD.out (h.symm.trans e)
                    · have h1:=Option.some.inj (h.symm.trans e);have h2:=(Array.getElem?_eq_some_iff.1 HV.out).1;omega
                  refine hK.out _ _ (.inr (dK.out _ HB2.out)) ?_;clear hK K hgrow hat bY RA hzz HV iD;have bY:=HB2;rw [Nat.zero_add,List.nil_append] at hown;have RA:=aq hown;obtain ⟨x9,c9,rfl⟩:=cZ hown;have HV:=o5;have iD:=y9;clear o5 y9;clear HB2 hown;refine bL 9 rfl (fun K hK=>?_);have hzz:wr.heap.size≤W3.heap.size:=bY.out.size
                  refine aj _ rfl _ _ 25 rfl wr.heap.size 72 i0 _ 3 32 Tryz.underlying25 hi hz0 hz1 hz2 rfl (by decide) (.slice x9 n c9) n (aS (ks.take n)) rfl RA.out _ 1 _ [.string t.s,.int .i64 t.x,.int .i64 t.y] rfl (.inr ⟨⟨W0.heap.size,0,none⟩,rfl,World.news_of_block HV.out⟩) rfl (fun u hu=>by simp at hu;rcases hu with rfl | rfl | rfl <;> rfl) (by unfold maxLen;omega) (by omega) hzz ?_
                  intro v9 W4 hown hgrow hat;have HB2:Hid (Below wr.heap.size wr W4):=bY.out.grown hgrow hzz (fun j e=>aw RA.out j e);refine hK.out _ _ (.inr (dK.out _ HB2.out)) ?_;clear hK K hgrow hat bY RA hzz HV iD;have bY:=HB2;have RA:=aq hown;obtain ⟨x8,c8,rfl⟩:=cZ hown;clear HB2 hown;refine bL 15 rfl (fun K hK=>?_);have hzz:wr.heap.size≤W4.heap.size:=bY.out.size
                  refine aj _ rfl _ _ 25 rfl wr.heap.size 72 i0 _ 3 32 Tryz.underlying25 hi hz0 hz1 hz2 rfl (by decide) (.slice x8 (n+1) c8) (n+1) (aS (ks.take n)++[.string t.s,.int .i64 t.x,.int .i64 t.y]) rfl RA.out _ (ks.length-n) _ (aS (ks.drop n)) rfl (HDS.out _ (aa H3.out.b bY.out)) (by rw [aE,List.length_drop]) bB (by unfold maxLen;omega) (by omega) hzz ?_
                  intro v9 W5 hown hgrow hat;have HB2:Hid (Below wr.heap.size wr W5):=bY.out.grown hgrow hzz (fun j e=>aw RA.out j e);refine hK.out _ _ (.inr (dK.out _ HB2.out)) ?_;clear hK K hgrow hat bY RA hzz;have bY:=HB2
                  rw [mO,show n+1+(ks.length-n)=ks.length+1 by omega] at hown
                  obtain ⟨va,vc,rfl⟩:=cZ hown;have RA:=aq hown;clear HB2 hown;refine bL 16 rfl (fun K hK=>?_);go_simp;refine hK.out _ _ (.inr (dK.out _ bY.out)) ?_;clear hK K;refine bL 17 rfl (fun K hK=>?_);go_simp;refine hK.out _ _ (.inr (dK.out _ bY.out)) ?_;clear hK K;refine bL 18 rfl (fun K hK=>?_);have H6:Hid (TS w #[.slice ap np cp,.slice ak ks.length ck,.slice ae ne ce] t 72 W5):=H3.out.keep bY.out;have lz:W5.cell? ⟨w.heap.size,1,none⟩=some (.slice ak ks.length ck):=(dK.out _ bY.out).1
                  have lf:W5.frozen? ⟨w.heap.size,1,none⟩=false:=by simp [World.frozen?,H6.out.c1]
                  have H7:=aq (H6.out.set1 (.slice va (ks.length+1) vc))
                  have HQ:Hid (∀ k,(Value.slice va (ks.length+1) vc).ownBlock=some k→w.heap.size+2<k):=fun k hq=>by have:=aw RA.out k hq;have:=HZ.out;omega
                  have CJ:Hid ((W5.setCell ⟨w.heap.size,1,none⟩ (.slice va (ks.length+1) vc)).ownsRow w.heap.size 72 3 (.slice va (ks.length+1) vc) (ks.length+1) (aS (fD ks n t))):=aJ (ar RA.out (aQ W5 w.heap.size 1 (.slice va (ks.length+1) vc)) (fun q hq e=>by have:=HQ.out q hq;injection e;omega)) (by have:=HZ.out;omega)
                  go_simp;refine hK.out _ _ (.inl rfl) ?_;clear hK K lz lf RA bY H6
                  refine aY (by kernel_rfl) ?_ _
                  refine NoPanic.normal ?_;generalize W5.setCell ⟨w.heap.size,1,none⟩ (.slice va (ks.length+1) vc)=W9 at *;obtain ⟨⟨d0,d1,d2⟩,⟨f0,f1,f2⟩,z1,z2,z3⟩:=H7.out.cells;have g2:=H7.out.c2
                  go_wp2_with (refine wpList_store_row rfl 30 _ _ rfl (w.heap.size+1) #[.slice ap np cp,.slice va (ks.length+1) vc,.slice ae ne ce] rfl rfl 30 _ g2 (by kernel_rfl) rfl (by simp [Value.oneCell']) ?_)
                  all_goals exact bodyPost_ret (v:=.tuple #[.agg #[.slice ap np cp,.slice va (ks.length+1) vc,.slice ae ne ce],.int .i64 0]) (by simp [results,Tryz.results68,go_sem,cell_setRow_same _ _ _ _ _ _ _ g2]) rfl ⟨below_setRow H7.out.b (by omega) _,.inr ⟨Kc.out,_,rfl,by rw [hnp.out];exact ar CJ.out (aD W9 (w.heap.size+1) _) (fun q hq e=>by have:=HQ.out q hq;injection e;omega)⟩⟩
        · have hai:0≤ai:=of_decide_eq_true HHB.out
          have hkc:Hid (kc=4):=HC.out
          go_wp2_with (refine wpList_store_row rfl 30 _ _ rfl (w.heap.size+1) #[.slice ap np cp,.slice ak ks.length ck,.slice ae ne ce] rfl rfl 30 _ g2 (by kernel_rfl) rfl (by simp [Value.oneCell']) ?_)
          exact bodyPost_ret (v:=.tuple #[.agg #[.slice ap np cp,.slice ak ks.length ck,.slice ae ne ce],.int .i64 4]) (by simp [results,Tryz.results68,go_sem,cell_setRow_same _ _ _ _ _ _ _ g2]) rfl ⟨below_setRow H3.out.b (by omega) _,.inl ⟨by rw [hkc.out];decide,by rw [hkc.out]⟩⟩
  · have Kc : Hid (fO ks ws = 3) := by
      show _=_
      unfold fO;rw [decide_eq_false h4]
      rfl
    generalize fO ks ws=kc at *
    have h4i:¬ ((ws.length:Int)=4):=by omega
    have h4b:((ws.length:Int)==4)=false:=by simp [h4i]
    have HB2:Hid (Below w.heap.size w ((w.alloc (.cells #[.slice ap np cp,.slice ak ks.length ck,.slice ae ne ce] 30)).alloc (.cells #[.slice none 0 0,.slice none 0 0,.slice none 0 0] 30))):=(aM).alloc (by simp) _
    have iY:Hid (((w.alloc (.cells #[.slice ap np cp,.slice ak ks.length ck,.slice ae ne ce] 30)).alloc (.cells #[.slice none 0 0,.slice none 0 0,.slice none 0 0] 30)).heap[w.heap.size+1]?=some (.cells #[.slice none 0 0,.slice none 0 0,.slice none 0 0] 30 (0,0))):=by have h:=am (w.alloc (.cells #[.slice ap np cp,.slice ak ks.length ck,.slice ae ne ce] 30)) (.cells #[.slice none 0 0,.slice none 0 0,.slice none 0 0] 30);rw [World.size_alloc] at h;exact h
    have g2:=iY.out
    go_enter Tryz.func68,Tryz.ntmps68
    go_wp2_with (refine wpList_store_row rfl 30 _ _ rfl (w.heap.size+1) #[.slice ap np cp,.slice ak ks.length ck,.slice ae ne ce] rfl rfl 30 _ g2 (by kernel_rfl) rfl (by simp [Value.oneCell']) ?_)
    exact bodyPost_ret (v:=.tuple #[.agg #[.slice ap np cp,.slice ak ks.length ck,.slice ae ne ce],.int .i64 3]) (by simp [results,Tryz.results68,go_sem,cell_setRow_same _ _ _ _ _ _ _ g2]) rfl ⟨below_setRow HB2.out (by omega) _,.inl ⟨by rw [Kc.out];decide,by rw [Kc.out]⟩⟩
end Go.Proofs.YtcmgddnckohdaaaGreatDoor.Tx
