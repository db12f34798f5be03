import Derived.Test.YtcmgddnckohdaaaGreatDoorRt2
set_option maxRecDepth 100000
set_option maxHeartbeats 12800000
namespace Go.Proofs.YtcmgddnckohdaaaGreatDoor
open Go.RowKit
attribute [local go_sem] Later.cell Later.frozen
set_option linter.unusedSimpArgs false
set_option linter.unusedVariables false
theorem bg {w:World} {b:Nat} {x y z:Value} {T:TypeId} (h:w.heap[b]?=some (.cells #[x,y,z] T (0,0))):w.cell? ⟨b,0,none⟩=some x∧w.cell? ⟨b,1,none⟩=some y∧w.cell? ⟨b,2,none⟩=some z:=by simp [World.cell?,h]
theorem Ii {w:World} {lo g n cap:Nat} {fs:List fI} (h:w.ownsRow lo 67 3 (.slice (some ⟨g,0,none⟩) n cap) fs.length (di fs)):∀ q u,(di fs)[q]?=some u→w.cell? ⟨g,q,none⟩=some u:=fun q u hu=>by
 have:=h.cells (g:=g) rfl q u hu;rw [bm,Nat.zero_add] at this;exact this
theorem wR {w:World} {g:Nat} {fs:List fI} (j:Nat) (h:∀ q u,(di fs)[q]?=some u→w.cell? ⟨g,q,none⟩=some u):∀ q u,(di (fs.take j))[q]?=some u→w.cell? ((⟨g,0,none⟩:Addr).add q)=some u:=fun q u hu=>by
 rw [bm,Nat.zero_add];refine h q u ?_
 have e:di fs=di (fs.take j)++di (fs.drop j):=by rw [← cI,List.take_append_drop]
 rw [e,List.getElem?_append_left (List.getElem?_eq_some_iff.1 hu).1];exact hu
theorem Dk {w:World} {g:Nat} {fs:List fI} {j:Nat} (hj:j≤fs.length) (h:∀ q u,(di fs)[q]?=some u→w.cell? ⟨g,q,none⟩=some u):∀ q u,(di (fs.drop j))[q]?=some u→w.cell? ((⟨g,j*3,none⟩:Addr).add q)=some u:=fun q u hu=>by
 rw [bm];refine h _ u ?_
 have e:di fs=di (fs.take j)++di (fs.drop j):=by rw [← cI,List.take_append_drop]
 have hl:(di (fs.take j)).length=j*3:=by rw [bQ,List.length_take,Nat.min_eq_left hj]
 rw [e,List.getElem?_append_right (by rw [hl];omega),hl,Nat.add_sub_cancel_left]
 exact hu
theorem Ex (lv:Value) (fs:List fI) (f:fI) (lo:Nat) (w:World) (hO:w.ownsRow lo 67 3 lv fs.length (di fs)) (hlo:lo≤w.heap.size) (hn:fs.length≤1048576) :
  Calls Tryz.prog 177 #[lv,.agg #[.int .i64 f.what,.int .i64 f.num,.string f.v]] w fun e w'=>∃ v',e=.returned v'∧w'.ownsRow lo 67 3 v' (gP fs f).length (di (gP fs f))∧w.grownBy w' lv.ownBlock∧∀ j,v'.ownBlock=some j→lv.ownBlock=some j∨w.heap.size≤j:=by
 obtain ⟨i0,hi,hz0,hz1,hz2⟩:=info_parts Cb;have HO:Hid (w.ownsRow lo 67 3 lv fs.length (di fs)):=hO;obtain ⟨la,lc,rfl⟩:=cZ hO;have HB0:Hid (Below w.heap.size w (w.alloc (.cells #[.int .i64 f.what,.int .i64 f.num,.string f.v] 67))):=(aM);have HX0:Hid ((w.alloc (.cells #[.int .i64 f.what,.int .i64 f.num,.string f.v] 67)).heap[w.heap.size]?=some (.cells #[.int .i64 f.what,.int .i64 f.num,.string f.v] 67 (0,0))):=am w _;clear hO
 go_enter Tryz.func177,Tryz.ntmps177
 go_wp2;generalize w.alloc (.cells #[.int .i64 f.what,.int .i64 f.num,.string f.v] 67)=w1 at *;have hx1:w.heap.size<w1.heap.size:=(Array.getElem?_eq_some_iff.1 HX0.out).1
 go_loopw [5] (fun i wr=>∃ j:Nat,j≤fs.length∧i=.int .i64 j∧Hid (∀ i,i<j→(fH fs i).what<f.what)∧Hid (Below w1.heap.size w1 wr)) (fun i _=>fs.length-(intOf i).toNat)
 case atStart=>exact ⟨0,Nat.zero_le _,rfl,fun i hi=>absurd hi (Nat.not_lt_zero _),Below.refl _ _⟩
 case round =>
  obtain ⟨j,hj,rfl,HL,bY⟩:=hrel;have HX:Hid (wr.heap[w.heap.size]?=some (.cells #[.int .i64 f.what,.int .i64 f.num,.string f.v] 67 (0,0))):=(bY.out.block _ hx1).trans HX0.out;have hxz:w.heap.size<wr.heap.size:=(Array.getElem?_eq_some_iff.1 HX.out).1;have HOW:Hid (wr.ownsRow lo 67 3 (.slice la fs.length lc) fs.length (di fs)):=ah HO.out (aa HB0.out bY.out);obtain ⟨x0,x1,x2⟩:=bg HX.out
  have hj0:(0:Int)≤(j:Int):=by omega
  have hjl:(j:Int)≤(fs.length:Int):=by omega
  by_cases hlt:j<fs.length
  ·obtain ⟨g,cap,hv,hgl,hgz,hnc,hcm,d0,d1,d2,hth⟩:=ni HOW.out hlt
   cases hv
   unfold maxLen at hcm
   have hj1:(j:Int)<(fs.length:Int):=by omega
   have hcc:(fs.length:Int)≤(lc:Int):=by omega
   by_cases hw:(fH fs j).what<f.what
   ·have HN:Hid (∀ i,i<j+1→(fH fs i).what<f.what):=fun i hi=>by
     by_cases e:i=j
     ·subst e;exact hw
     ·exact HL.out i (by omega)
    have hwd:decide ((fH fs j).what<f.what)=true:=by simpa using hw
    have hne:=Later.some wr;go_wp2
    refine au (by kernel_rfl) (by kernel_rfl) ?_
    repeat (go_big_quiet_step (fail))
    refine wpQuiet_nil ?_;rintro _ ⟨x,rfl⟩;have HB2:Hid (Below w1.heap.size w1 x.val):=aa bY.out x.below;go_wp2
    exact ⟨⟨j+1,by omega,by go_num,HN,HB2⟩,by simp [intOf];omega⟩
   ·have hwd:decide ((fH fs j).what<f.what)=false:=by simpa using hw
    have hne:=Later.some wr;go_wp2
    refine au (by kernel_rfl) (by kernel_rfl) ?_
    repeat (go_big_quiet_step (fail))
    refine wpQuiet_nil ?_;rintro _ ⟨y,rfl⟩;have HB2:Hid (Below w1.heap.size w1 y.val):=aa bY.out y.below;have Fx:Hid (y.val.ownsRow lo 67 3 (.slice (some ⟨g,0,none⟩) fs.length lc) fs.length (di fs)):=ah HOW.out y.below;have jF:Hid (y.val.heap[w.heap.size]?=some (.cells #[.int .i64 f.what,.int .i64 f.num,.string f.v] 67 (0,0))):=(y.below.block _ hxz).trans HX.out;generalize y.val=wr2 at *;clear hne HX HOW bY x0 x1 x2 d0 d1 d2 hth hgz;obtain ⟨x0,x1,x2⟩:=bg jF.out;have hxz2:w.heap.size<wr2.heap.size:=(Array.getElem?_eq_some_iff.1 jF.out).1;obtain ⟨g',cap',hv,-,hgz,-,-,d0,d1,d2,hth⟩:=ni Fx.out hlt
    cases hv
    have hne:=Later.some wr2
    by_cases he:(fH fs j).what=f.what
    ·have Cf:((fH fs j).what==f.what)=true:=by simpa using he
     have HH:Hid (gP fs f=bif BR f (fH fs j) then fs.set j f else fs):=Dy fs f j hlt HL.out he;clear he hw hwd;go_wp2
     refine au (by kernel_rfl) (by kernel_rfl) ?_
     repeat (go_big_quiet_step (fail))
     refine wpQuiet_nil ?_;rintro _ ⟨y,rfl⟩;have HB3:Hid (Below w1.heap.size w1 y.val):=aa HB2.out y.below;have vZ:Hid (y.val.ownsRow lo 67 3 (.slice (some ⟨g,0,none⟩) fs.length lc) fs.length (di fs)):=ah Fx.out y.below;have tN:Hid (y.val.heap[w.heap.size]?=some (.cells #[.int .i64 f.what,.int .i64 f.num,.string f.v] 67 (0,0))):=(y.below.block _ hxz2).trans jF.out;generalize y.val=wr3 at *;clear hne jF Fx HB2 x0 x1 x2 d0 d1 d2 hth hgz Cf;obtain ⟨x0,x1,x2⟩:=bg tN.out;have hxz3:w.heap.size<wr3.heap.size:=(Array.getElem?_eq_some_iff.1 tN.out).1;obtain ⟨g',cap',hv,-,hgz,-,-,d0,d1,d2,hth⟩:=ni vZ.out hlt
     cases hv
     have hne:=Later.some wr3;have GL:Hid (∀ y:Later wr3,Calls Tryz.prog 203 #[.agg #[.int .i64 f.what,.int .i64 f.num,.string f.v],.agg #[.int .i64 (fH fs j).what,.int .i64 (fH fs j).num,.string (fH fs j).v]] y.val fun e w''=>e=.returned (.bool (BR f (fH fs j)))∧∃ z:Later wr3,w''=z.val):=fun y=>Calls.later (Ew (dO ⟨#[]⟩ f) (dO ⟨#[]⟩ (fH fs j)) y.val);go_wp2
     refine au (by kernel_rfl) (by kernel_rfl) ?_
     repeat (go_big_quiet_step (first | (go_at_call 203;exact GL.out _)))
     refine wpQuiet_nil ?_;rintro _ ⟨y,rfl⟩;have HB4:Hid (Below w1.heap.size w1 y.val):=aa HB3.out y.below;have HOW4:Hid (y.val.ownsRow lo 67 3 (.slice (some ⟨g,0,none⟩) fs.length lc) fs.length (di fs)):=ah vZ.out y.below;have Fv:Hid (y.val.heap[w.heap.size]?=some (.cells #[.int .i64 f.what,.int .i64 f.num,.string f.v] 67 (0,0))):=(y.below.block _ hxz3).trans tN.out;generalize y.val=wr4 at *;clear hne tN vZ HB3 x0 x1 x2 d0 d1 d2 hth hgz GL;obtain ⟨x0,x1,x2⟩:=bg Fv.out;obtain ⟨g',cap',hv,-,hgz,-,-,-,-,-,hth⟩:=ni HOW4.out hlt
     cases hv
     cases hlat:BR f (fH fs j)
     ·have HP:Hid (gP fs f=fs):=by show _=_;rw [HH.out,hlat];rfl
      clear hlat HH;go_wp2;go_ret
      exact ⟨_,rfl,by rw [HP.out];exact HOW4.out,bZ (aa HB0.out HB4.out) _,fun j hj=>.inl hj⟩
     ·have HP:Hid (gP fs f=fs.set j f):=by show _=_;rw [HH.out,hlat];rfl
      clear hlat HH;have hset:=La f HOW4.out hlt
      go_wp2_with (refine wpList_store_mid rfl 67 _ _ rfl g (j*3) #[.int .i64 f.what,.int .i64 f.num,.string f.v] rfl rfl hth (by kernel_rfl) (by simp [Value.oneCell']) ?_)
      go_ret
      exact ⟨_,rfl,by rw [HP.out];exact hset.1,nE (bZ (aa HB0.out HB4.out) _) hset.2,fun j hj=>.inl hj⟩
    ·have Cf:((fH fs j).what==f.what)=false:=by simpa using he
     have HP:Hid (gP fs f=fs.take j++f::fs.drop j):=Bw fs f j hj HL.out (fun _=>by omega)
     clear he hw hwd;go_wp2
     refine au (by kernel_rfl) (by kernel_rfl) ?_
     repeat (go_big_quiet_step (fail))
     refine wpQuiet_nil ?_;rintro _ ⟨y,rfl⟩;have HB3:Hid (Below w1.heap.size w1 y.val):=aa HB2.out y.below;have vZ:Hid (y.val.ownsRow lo 67 3 (.slice (some ⟨g,0,none⟩) fs.length lc) fs.length (di fs)):=ah Fx.out y.below;have tN:Hid (y.val.heap[w.heap.size]?=some (.cells #[.int .i64 f.what,.int .i64 f.num,.string f.v] 67 (0,0))):=(y.below.block _ hxz2).trans jF.out;generalize y.val=wr3 at *;clear hne jF Fx HB2 x0 x1 x2 d0 d1 d2 hth hgz Cf
     have hjc:j≤lc:=by omega
     have hjn:¬ lc=j:=by omega
     obtain ⟨x0,x1,x2⟩:=bg tN.out;go_wp2;refine wp_region_noPanic ?_
     refine wp_region_held_drew (S:=fun w'=>w'.cell? ⟨w.heap.size,0,none⟩=some (.int .i64 f.what)∧w'.cell? ⟨w.heap.size,1,none⟩=some (.int .i64 f.num)∧w'.cell? ⟨w.heap.size,2,none⟩=some (.string f.v)) (by kernel_rfl) ?_ (fun hHeld=>?_)
     ·exact ⟨x0,x1,x2⟩
     clear x0 x1 x2;have kQ:Hid (Below w1.heap.size w1 wr3.drew):=HB3.out.drew;have HOD:Hid (wr3.drew.ownsRow lo 67 3 (.slice _ _ _) fs.length (di fs)):=ah vZ.out (Below.refl _ _).drew;have HXD:Hid (wr3.drew.heap[w.heap.size]?=some (.cells #[.int .i64 f.what,.int .i64 f.num,.string f.v] 67 (0,0))):=tN.out;generalize wr3.drew=W0 at *;clear HB3 vZ tN;refine aO 1 ?_ rfl ?_ (aO 2 ?_ rfl ?_ (aO 3 ?_ rfl ?_ (aO 5 ?_ rfl ?_ (aO 8 ?_ rfl ?_ (aO 9 ?_ rfl ?_ (aO 10 ?_ rfl ?_ ?_))))))
     iterate 7 (rotate_left;focus (intro w hSw;(try dsimp only at hSw);simp only [Act.put,aU];go_simp;try with_reducible rfl))
     simp only [Act.put,aU]
     clear hHeld;have hw0:w.heap.size<W0.heap.size:=(Array.getElem?_eq_some_iff.1 HXD.out).1
     have hlo0:lo≤W0.heap.size:=by omega
     have bY:Hid (Below W0.heap.size W0 W0):=Below.refl _ _;have dK:Hid (∀ wx:World,Below W0.heap.size W0 wx→wx.cell? ⟨w.heap.size,0,none⟩=some (.int .i64 f.what)∧wx.cell? ⟨w.heap.size,1,none⟩=some (.int .i64 f.num)∧wx.cell? ⟨w.heap.size,2,none⟩=some (.string f.v)):=fun wx hx=>bg ((hx.block _ hw0).trans HXD.out);have zn:Hid (∀ wx:World,Below W0.heap.size W0 wx→∀ q u,(di fs)[q]?=some u→wx.cell? ⟨g,q,none⟩=some u):=fun wx hx=>Ii (ah HOD.out hx);refine lZ 0 6 rfl rfl (fun K hK=>?_) (fun K hK=>?_)
     ·go_simp
      have HB2:Hid (Below W0.heap.size W0 (W0.alloc (.cells #[] 67))):=bY.out.alloc bY.out.size _;have RD:Hid ((W0.alloc (.cells #[] 67)).ownsRow W0.heap.size 67 3 (.slice (some ⟨W0.heap.size,0,none⟩) 0 0) 0 []):=be (am W0 _) bY.out.size 3;refine hK.out _ _ (dK.out _ HB2.out) (fun _=>?_);clear hK K bY;have bY:=HB2;clear HB2;generalize W0.alloc (.cells #[] 67)=W1 at *;refine lZ 4 6 rfl rfl (fun K hK=>?_) (fun K hK=>?_)
      focus
       refine aj _ rfl _ _ 63 rfl W0.heap.size 67 i0 _ 3 32 Tryz.underlying63 hi hz0 hz1 hz2 rfl (by decide) _ 0 [] rfl RD.out _ j _ (di (fs.take j)) rfl (.inr ⟨_,rfl,wR j (zn.out _ bY.out)⟩) (by rw [bQ,List.length_take,Nat.min_eq_left hj]) kK (by unfold maxLen;omega) (by omega) bY.out.size ?_
       intro va W2 hown hgrow hat
       simp only [Nat.zero_add,List.nil_append] at hown
       have HB2:Hid (Below W0.heap.size W0 W2):=bY.out.grown hgrow bY.out.size (fun q e=>aw RD.out q e);refine hK.out _ _ (dK.out _ HB2.out) (fun _=>?_);clear hat hgrow RD;clear hK K bY;have bY:=HB2;clear HB2;have RD:=aq hown;obtain ⟨pa,qa,rfl⟩:=cZ hown;clear hown;refine bE 6 rfl (fun K hK=>?_);go_simp;have HB2:Hid (Below W0.heap.size W0 (W2.alloc (.cells #[.int .i64 f.what,.int .i64 f.num,.string f.v] 67))):=bY.out.alloc bY.out.size _;have BX:Hid ((W2.alloc (.cells #[.int .i64 f.what,.int .i64 f.num,.string f.v] 67)).heap[W2.heap.size]?=some (.cells #[.int .i64 f.what,.int .i64 f.num,.string f.v] 67 (0,0))):=am W2 _;have oZ:=aq (ah RD.out ((Below.refl _ W2).alloc aG (.cells #[.int .i64 f.what,.int .i64 f.num,.string f.v] 67)))
       have iD:Hid (∀ q,Value.ownBlock _=some q→some (W2.heap.size)≠some q):=fun q hq e=>by have:=bD RD.out q hq;injection e with e;omega
       refine hK.out _ _ (dK.out _ HB2.out) (fun _=>?_);clear hK K bY;have bY:=HB2;clear HB2
       have iB:W2.heap.size<(W2.alloc (.cells #[.int .i64 f.what,.int .i64 f.num,.string f.v] 67)).heap.size:=by rw [World.size_alloc];omega
       clear RD;have RD:=oZ;clear oZ;generalize W2.alloc (.cells #[.int .i64 f.what,.int .i64 f.num,.string f.v] 67)=W3 at *
      rotate_left
      focus
       go_simp;have HB2:Hid (Below W0.heap.size W0 (W1.alloc (.cells #[.int .i64 f.what,.int .i64 f.num,.string f.v] 67))):=bY.out.alloc bY.out.size _;have BX:Hid ((W1.alloc (.cells #[.int .i64 f.what,.int .i64 f.num,.string f.v] 67)).heap[W1.heap.size]?=some (.cells #[.int .i64 f.what,.int .i64 f.num,.string f.v] 67 (0,0))):=am W1 _;have oZ:=aq (ah RD.out ((Below.refl _ W1).alloc aG (.cells #[.int .i64 f.what,.int .i64 f.num,.string f.v] 67)))
       have iD:Hid (∀ q,Value.ownBlock _=some q→some (W1.heap.size)≠some q):=fun q hq e=>by have:=bD RD.out q hq;injection e with e;omega
       refine hK.out _ _ (dK.out _ HB2.out) (fun _=>?_);clear hK K bY;have bY:=HB2;clear HB2
       have iB:W1.heap.size<(W1.alloc (.cells #[.int .i64 f.what,.int .i64 f.num,.string f.v] 67)).heap.size:=by rw [World.size_alloc];omega
       clear RD;have RD:=oZ;clear oZ;generalize W1.alloc (.cells #[.int .i64 f.what,.int .i64 f.num,.string f.v] 67)=W2 at *;refine bE 4 rfl (fun K hK=>?_)
       refine aj _ rfl _ _ 63 rfl W0.heap.size 67 i0 _ 3 32 Tryz.underlying63 hi hz0 hz1 hz2 rfl (by decide) _ 0 [] rfl RD.out _ j _ (di (fs.take j)) rfl (.inr ⟨_,rfl,wR j (zn.out _ bY.out)⟩) (by rw [bQ,List.length_take,Nat.min_eq_left hj]) kK (by unfold maxLen;omega) (by omega) bY.out.size ?_
       intro va W3 hown hgrow hat
       simp only [Nat.zero_add,List.nil_append] at hown
       have HB2:Hid (Below W0.heap.size W0 W3):=bY.out.grown hgrow bY.out.size (fun q e=>aw RD.out q e);have ky:=aq ((hgrow.block _ iB (fun e=>iD.out _ e.symm rfl)).trans BX.out);have gH:=Nat.lt_of_lt_of_le iB hgrow.size;refine hK.out _ _ (dK.out _ HB2.out) (fun _=>?_);clear hat hgrow RD;clear BX iD iB;have BX:=ky;have iB:=gH;clear ky gH;clear hK K bY;have bY:=HB2;clear HB2;have RD:=aq hown;obtain ⟨pa,qa,rfl⟩:=cZ hown;clear hown
      rotate_left
      all_goals
       refine bE 7 rfl (fun K hK=>?_)
       refine aj _ rfl _ _ 63 rfl W0.heap.size 67 i0 _ 3 32 Tryz.underlying63 hi hz0 hz1 hz2 rfl (by decide) _ j (di (fs.take j)) rfl RD.out _ 1 _ (dL f) rfl (.inr ⟨_,rfl,World.news_of_block BX.out⟩) rfl (fun u hu=>by simp only [dL,List.mem_cons,List.not_mem_nil,or_false] at hu;rcases hu with rfl | rfl | rfl <;> rfl) (by unfold maxLen;omega) (by omega) bY.out.size ?_
       intro vb W4 hown hgrow hat;have HB2:Hid (Below W0.heap.size W0 W4):=bY.out.grown hgrow bY.out.size (fun q e=>aw RD.out q e);refine hK.out _ _ (dK.out _ HB2.out) (fun _=>?_);clear hat hgrow RD;clear hK K bY;have bY:=HB2;clear HB2;have RD:=aq hown;obtain ⟨pb,qb,rfl⟩:=cZ hown;clear hown;refine bE 11 rfl (fun K hK=>?_)
       refine aj _ rfl _ _ 63 rfl W0.heap.size 67 i0 _ 3 32 Tryz.underlying63 hi hz0 hz1 hz2 rfl (by decide) _ (j+1) (di (fs.take j)++dL f) rfl RD.out _ (fs.length-j) _ (di (fs.drop j)) rfl (.inr ⟨_,rfl,Dk hj (zn.out _ bY.out)⟩) (by rw [bQ,List.length_drop]) kK (by unfold maxLen;omega) (by omega) bY.out.size ?_
       intro vc W5 hown hgrow hat;have HB2:Hid (Below W0.heap.size W0 W5):=bY.out.grown hgrow bY.out.size (fun q e=>aw RD.out q e);refine hK.out _ _ (dK.out _ HB2.out) (fun _=>?_);clear hat hgrow RD;clear hK K bY;have bY:=HB2;clear HB2;have RD:=aq hown;obtain ⟨pc,qc,rfl⟩:=cZ hown;clear hown;have hHeld:=dK.out _ bY.out;refine aO 12 ?_ rfl ?_ ?_;rotate_left
       ·intro w hSw;(try dsimp only at hSw);go_simp;try with_reducible rfl
       simp only [Act.put,aU]
       clear hHeld
       refine wpAnyH_done (by kernel_rfl) ?_ _
       refine NoPanic.normal ?_;go_wp2;go_ret;refine ⟨_,rfl,?_,bZ (aa (aa HB0.out kQ.out) bY.out) _,fun q hq=>.inr ?_⟩
       ·have h:=aJ RD.out hlo0
        rw [HP.out,cI,kL,List.length_append,List.length_cons,List.length_take,List.length_drop,Nat.min_eq_left hj]
        have e2:j+(fs.length-j+1)=j+1+(fs.length-j):=by omega
        rw [e2,← List.append_assoc];exact h
       ·have:=aw RD.out q hq
        omega
     ·go_simp
      have HB2:Hid (Below W0.heap.size W0 (W0.alloc (.cells #[.int .i64 f.what,.int .i64 f.num,.string f.v] 67))):=bY.out.alloc bY.out.size _;have BX:Hid ((W0.alloc (.cells #[.int .i64 f.what,.int .i64 f.num,.string f.v] 67)).heap[W0.heap.size]?=some (.cells #[.int .i64 f.what,.int .i64 f.num,.string f.v] 67 (0,0))):=am W0 _;refine hK.out _ _ (dK.out _ HB2.out) (fun _=>?_);clear hK K bY;have bY:=HB2;clear HB2
      have iB:W0.heap.size<(W0.alloc (.cells #[.int .i64 f.what,.int .i64 f.num,.string f.v] 67)).heap.size:=by rw [World.size_alloc];omega
      generalize W0.alloc (.cells #[.int .i64 f.what,.int .i64 f.num,.string f.v] 67)=W1 at *;refine bE 0 rfl (fun K hK=>?_);go_simp;have HB2:Hid (Below W0.heap.size W0 (W1.alloc (.cells #[] 67))):=bY.out.alloc bY.out.size _;have RD:Hid ((W1.alloc (.cells #[] 67)).ownsRow W0.heap.size 67 3 (.slice (some ⟨W1.heap.size,0,none⟩) 0 0) 0 []):=be (am W1 _) bY.out.size 3
      have iD:Hid (∀ q,(Value.slice (some ⟨W1.heap.size,0,none⟩) 0 0).ownBlock=some q→some (W0.heap.size)≠some q):=fun q hq e=>by have hq2:W1.heap.size=q:=Option.some.inj hq;injection e with e;omega
      have ky:=aq ((Below.heap_alloc W1 (.cells #[] 67) _ iB).trans BX.out)
      have gH:W0.heap.size<(W1.alloc (.cells #[] 67)).heap.size:=by rw [World.size_alloc];omega
      refine hK.out _ _ (dK.out _ HB2.out) (fun _=>?_);clear hK K bY;have bY:=HB2;clear HB2;clear BX iB;have BX:=ky;have iB:=gH;clear ky gH;generalize W1.alloc (.cells #[] 67)=W2 at *;refine bE 4 rfl (fun K hK=>?_)
      refine aj _ rfl _ _ 63 rfl W0.heap.size 67 i0 _ 3 32 Tryz.underlying63 hi hz0 hz1 hz2 rfl (by decide) _ 0 [] rfl RD.out _ j _ (di (fs.take j)) rfl (.inr ⟨_,rfl,wR j (zn.out _ bY.out)⟩) (by rw [bQ,List.length_take,Nat.min_eq_left hj]) kK (by unfold maxLen;omega) (by omega) bY.out.size ?_
      intro va W3 hown hgrow hat
      simp only [Nat.zero_add,List.nil_append] at hown
      have HB2:Hid (Below W0.heap.size W0 W3):=bY.out.grown hgrow bY.out.size (fun q e=>aw RD.out q e);have ky:=aq ((hgrow.block _ iB (fun e=>iD.out _ e.symm rfl)).trans BX.out);have gH:=Nat.lt_of_lt_of_le iB hgrow.size;refine hK.out _ _ (dK.out _ HB2.out) (fun _=>?_);clear hat hgrow RD;clear BX iD iB;have BX:=ky;have iB:=gH;clear ky gH;clear hK K bY;have bY:=HB2;clear HB2;have RD:=aq hown;obtain ⟨pa,qa,rfl⟩:=cZ hown;clear hown;refine bE 7 rfl (fun K hK=>?_)
      refine aj _ rfl _ _ 63 rfl W0.heap.size 67 i0 _ 3 32 Tryz.underlying63 hi hz0 hz1 hz2 rfl (by decide) _ j (di (fs.take j)) rfl RD.out _ 1 _ (dL f) rfl (.inr ⟨_,rfl,World.news_of_block BX.out⟩) rfl (fun u hu=>by simp only [dL,List.mem_cons,List.not_mem_nil,or_false] at hu;rcases hu with rfl | rfl | rfl <;> rfl) (by unfold maxLen;omega) (by omega) bY.out.size ?_
      intro vb W4 hown hgrow hat;have HB2:Hid (Below W0.heap.size W0 W4):=bY.out.grown hgrow bY.out.size (fun q e=>aw RD.out q e);refine hK.out _ _ (dK.out _ HB2.out) (fun _=>?_);clear hat hgrow RD;clear hK K bY;have bY:=HB2;clear HB2;have RD:=aq hown;obtain ⟨pb,qb,rfl⟩:=cZ hown;clear hown;refine bE 11 rfl (fun K hK=>?_)
      refine aj _ rfl _ _ 63 rfl W0.heap.size 67 i0 _ 3 32 Tryz.underlying63 hi hz0 hz1 hz2 rfl (by decide) _ (j+1) (di (fs.take j)++dL f) rfl RD.out _ (fs.length-j) _ (di (fs.drop j)) rfl (.inr ⟨_,rfl,Dk hj (zn.out _ bY.out)⟩) (by rw [bQ,List.length_drop]) kK (by unfold maxLen;omega) (by omega) bY.out.size ?_
      intro vc W5 hown hgrow hat;have HB2:Hid (Below W0.heap.size W0 W5):=bY.out.grown hgrow bY.out.size (fun q e=>aw RD.out q e);refine hK.out _ _ (dK.out _ HB2.out) (fun _=>?_);clear hat hgrow RD;clear hK K bY;have bY:=HB2;clear HB2;have RD:=aq hown;obtain ⟨pc,qc,rfl⟩:=cZ hown;clear hown;have hHeld:=dK.out _ bY.out;refine aO 12 ?_ rfl ?_ ?_;rotate_left
      ·intro w hSw;(try dsimp only at hSw);go_simp;try with_reducible rfl
      simp only [Act.put,aU]
      clear hHeld
      refine wpAnyH_done (by kernel_rfl) ?_ _
      refine NoPanic.normal ?_;go_wp2;go_ret;refine ⟨_,rfl,?_,bZ (aa (aa HB0.out kQ.out) bY.out) _,fun q hq=>.inr ?_⟩
      ·have h:=aJ RD.out hlo0
       rw [HP.out,cI,kL,List.length_append,List.length_cons,List.length_take,List.length_drop,Nat.min_eq_left hj]
       have e2:j+(fs.length-j+1)=j+1+(fs.length-j):=by omega
       rw [e2,← List.append_assoc];exact h
      ·have:=aw RD.out q hq
       omega
  ·have hw2:decide ((j:Int)<(fs.length:Int))=false:=by simp;omega
   have HP:Hid (gP fs f=fs.take j++f::fs.drop j):=Bw fs f j hj HL.out (fun h=>absurd h hlt);have hne:=Later.some wr;go_wp2
   refine au (by kernel_rfl) (by kernel_rfl) ?_
   repeat (go_big_quiet_step (fail))
   refine wpQuiet_nil ?_;rintro _ ⟨y,rfl⟩;have HB2:Hid (Below w1.heap.size w1 y.val):=aa bY.out y.below;have Fx:Hid (y.val.ownsRow lo 67 3 (.slice la fs.length lc) fs.length (di fs)):=ah HOW.out y.below;have jF:Hid (y.val.heap[w.heap.size]?=some (.cells #[.int .i64 f.what,.int .i64 f.num,.string f.v] 67 (0,0))):=(y.below.block _ hxz).trans HX.out;generalize y.val=wr2 at *;clear hne HX HOW bY x0 x1 x2;obtain ⟨x0,x1,x2⟩:=bg jF.out;have hxz2:w.heap.size<wr2.heap.size:=(Array.getElem?_eq_some_iff.1 jF.out).1;have hne:=Later.some wr2;go_wp2
   refine au (by kernel_rfl) (by kernel_rfl) ?_
   repeat (go_big_quiet_step (fail))
   refine wpQuiet_nil ?_;rintro _ ⟨y,rfl⟩;have HB3:Hid (Below w1.heap.size w1 y.val):=aa HB2.out y.below;have vZ:Hid (y.val.ownsRow lo 67 3 (.slice la fs.length lc) fs.length (di fs)):=ah Fx.out y.below;have tN:Hid (y.val.heap[w.heap.size]?=some (.cells #[.int .i64 f.what,.int .i64 f.num,.string f.v] 67 (0,0))):=(y.below.block _ hxz2).trans jF.out;generalize y.val=wr3 at *;clear hne jF Fx HB2 x0 x1 x2;have hcase:=vZ.out.2
   rcases hcase with ⟨hv,h0⟩ | ⟨g,cap,cur,hv,hgl,-,hnc,hcm,-,-⟩
   ·injection hv with e1 e2 e3
    subst e1;subst e3
    have hj00:j=0:=by omega
    subst hj00;clear hj0 hjl hw2 e2;obtain ⟨x0,x1,x2⟩:=bg tN.out;go_wp2;refine wp_region_noPanic ?_
    refine wp_region_held_drew (S:=fun w'=>w'.cell? ⟨w.heap.size,0,none⟩=some (.int .i64 f.what)∧w'.cell? ⟨w.heap.size,1,none⟩=some (.int .i64 f.num)∧w'.cell? ⟨w.heap.size,2,none⟩=some (.string f.v)) (by kernel_rfl) ?_ (fun hHeld=>?_)
    ·exact ⟨x0,x1,x2⟩
    clear x0 x1 x2;have kQ:Hid (Below w1.heap.size w1 wr3.drew):=HB3.out.drew;have HOD:Hid (wr3.drew.ownsRow lo 67 3 (.slice _ _ _) fs.length (di fs)):=ah vZ.out (Below.refl _ _).drew;have HXD:Hid (wr3.drew.heap[w.heap.size]?=some (.cells #[.int .i64 f.what,.int .i64 f.num,.string f.v] 67 (0,0))):=tN.out;generalize wr3.drew=W0 at *;clear HB3 vZ tN;refine aO 1 ?_ rfl ?_ (aO 2 ?_ rfl ?_ (aO 3 ?_ rfl ?_ (aO 5 ?_ rfl ?_ (aO 8 ?_ rfl ?_ (aO 9 ?_ rfl ?_ (aO 10 ?_ rfl ?_ ?_))))))
    iterate 7 (rotate_left;focus (intro w hSw;(try dsimp only at hSw);simp only [Act.put,aU];go_simp;try with_reducible rfl))
    simp only [Act.put,aU]
    clear hHeld;have hw0:w.heap.size<W0.heap.size:=(Array.getElem?_eq_some_iff.1 HXD.out).1
    have hlo0:lo≤W0.heap.size:=by omega
    have bY:Hid (Below W0.heap.size W0 W0):=Below.refl _ _;have dK:Hid (∀ wx:World,Below W0.heap.size W0 wx→wx.cell? ⟨w.heap.size,0,none⟩=some (.int .i64 f.what)∧wx.cell? ⟨w.heap.size,1,none⟩=some (.int .i64 f.num)∧wx.cell? ⟨w.heap.size,2,none⟩=some (.string f.v)):=fun wx hx=>bg ((hx.block _ hw0).trans HXD.out);refine lZ 0 6 rfl rfl (fun K hK=>?_) (fun K hK=>?_)
    ·go_simp
     have HB2:Hid (Below W0.heap.size W0 (W0.alloc (.cells #[] 67))):=bY.out.alloc bY.out.size _;have RD:Hid ((W0.alloc (.cells #[] 67)).ownsRow W0.heap.size 67 3 (.slice (some ⟨W0.heap.size,0,none⟩) 0 0) 0 []):=be (am W0 _) bY.out.size 3;refine hK.out _ _ (dK.out _ HB2.out) (fun _=>?_);clear hK K bY;have bY:=HB2;clear HB2;generalize W0.alloc (.cells #[] 67)=W1 at *;refine lZ 4 6 rfl rfl (fun K hK=>?_) (fun K hK=>?_)
     focus
      refine aj _ rfl _ _ 63 rfl W0.heap.size 67 i0 _ 3 32 Tryz.underlying63 hi hz0 hz1 hz2 rfl (by decide) _ 0 [] rfl RD.out _ 0 _ [] rfl (.inl rfl) rfl (fun u hu=>by cases hu) (by unfold maxLen;omega) (by omega) bY.out.size ?_
      intro va W2 hown hgrow hat
      simp only [Nat.zero_add,List.nil_append] at hown
      have HB2:Hid (Below W0.heap.size W0 W2):=bY.out.grown hgrow bY.out.size (fun q e=>aw RD.out q e);refine hK.out _ _ (dK.out _ HB2.out) (fun _=>?_);clear hat hgrow RD;clear hK K bY;have bY:=HB2;clear HB2;have RD:=aq hown;obtain ⟨pa,qa,rfl⟩:=cZ hown;clear hown;refine bE 6 rfl (fun K hK=>?_);go_simp;have HB2:Hid (Below W0.heap.size W0 (W2.alloc (.cells #[.int .i64 f.what,.int .i64 f.num,.string f.v] 67))):=bY.out.alloc bY.out.size _;have BX:Hid ((W2.alloc (.cells #[.int .i64 f.what,.int .i64 f.num,.string f.v] 67)).heap[W2.heap.size]?=some (.cells #[.int .i64 f.what,.int .i64 f.num,.string f.v] 67 (0,0))):=am W2 _;have oZ:=aq (ah RD.out ((Below.refl _ W2).alloc aG (.cells #[.int .i64 f.what,.int .i64 f.num,.string f.v] 67)))
      have iD:Hid (∀ q,Value.ownBlock _=some q→some (W2.heap.size)≠some q):=fun q hq e=>by have:=bD RD.out q hq;injection e with e;omega
      refine hK.out _ _ (dK.out _ HB2.out) (fun _=>?_);clear hK K bY;have bY:=HB2;clear HB2
      have iB:W2.heap.size<(W2.alloc (.cells #[.int .i64 f.what,.int .i64 f.num,.string f.v] 67)).heap.size:=by rw [World.size_alloc];omega
      clear RD;have RD:=oZ;clear oZ;generalize W2.alloc (.cells #[.int .i64 f.what,.int .i64 f.num,.string f.v] 67)=W3 at *
     rotate_left
     focus
      go_simp;have HB2:Hid (Below W0.heap.size W0 (W1.alloc (.cells #[.int .i64 f.what,.int .i64 f.num,.string f.v] 67))):=bY.out.alloc bY.out.size _;have BX:Hid ((W1.alloc (.cells #[.int .i64 f.what,.int .i64 f.num,.string f.v] 67)).heap[W1.heap.size]?=some (.cells #[.int .i64 f.what,.int .i64 f.num,.string f.v] 67 (0,0))):=am W1 _;have oZ:=aq (ah RD.out ((Below.refl _ W1).alloc aG (.cells #[.int .i64 f.what,.int .i64 f.num,.string f.v] 67)))
      have iD:Hid (∀ q,Value.ownBlock _=some q→some (W1.heap.size)≠some q):=fun q hq e=>by have:=bD RD.out q hq;injection e with e;omega
      refine hK.out _ _ (dK.out _ HB2.out) (fun _=>?_);clear hK K bY;have bY:=HB2;clear HB2
      have iB:W1.heap.size<(W1.alloc (.cells #[.int .i64 f.what,.int .i64 f.num,.string f.v] 67)).heap.size:=by rw [World.size_alloc];omega
      clear RD;have RD:=oZ;clear oZ;generalize W1.alloc (.cells #[.int .i64 f.what,.int .i64 f.num,.string f.v] 67)=W2 at *;refine bE 4 rfl (fun K hK=>?_)
      refine aj _ rfl _ _ 63 rfl W0.heap.size 67 i0 _ 3 32 Tryz.underlying63 hi hz0 hz1 hz2 rfl (by decide) _ 0 [] rfl RD.out _ 0 _ [] rfl (.inl rfl) rfl (fun u hu=>by cases hu) (by unfold maxLen;omega) (by omega) bY.out.size ?_
      intro va W3 hown hgrow hat
      simp only [Nat.zero_add,List.nil_append] at hown
      have HB2:Hid (Below W0.heap.size W0 W3):=bY.out.grown hgrow bY.out.size (fun q e=>aw RD.out q e);have ky:=aq ((hgrow.block _ iB (fun e=>iD.out _ e.symm rfl)).trans BX.out);have gH:=Nat.lt_of_lt_of_le iB hgrow.size;refine hK.out _ _ (dK.out _ HB2.out) (fun _=>?_);clear hat hgrow RD;clear BX iD iB;have BX:=ky;have iB:=gH;clear ky gH;clear hK K bY;have bY:=HB2;clear HB2;have RD:=aq hown;obtain ⟨pa,qa,rfl⟩:=cZ hown;clear hown
     rotate_left
     all_goals
      refine bE 7 rfl (fun K hK=>?_)
      refine aj _ rfl _ _ 63 rfl W0.heap.size 67 i0 _ 3 32 Tryz.underlying63 hi hz0 hz1 hz2 rfl (by decide) _ 0 [] rfl RD.out _ 1 _ (dL f) rfl (.inr ⟨_,rfl,World.news_of_block BX.out⟩) rfl (fun u hu=>by simp only [dL,List.mem_cons,List.not_mem_nil,or_false] at hu;rcases hu with rfl | rfl | rfl <;> rfl) (by unfold maxLen;omega) (by omega) bY.out.size ?_
      intro vb W4 hown hgrow hat
      simp only [Nat.zero_add,List.nil_append] at hown
      have HB2:Hid (Below W0.heap.size W0 W4):=bY.out.grown hgrow bY.out.size (fun q e=>aw RD.out q e);refine hK.out _ _ (dK.out _ HB2.out) (fun _=>?_);clear hat hgrow RD;clear hK K bY;have bY:=HB2;clear HB2;have RD:=aq hown;obtain ⟨pb,qb,rfl⟩:=cZ hown;clear hown;refine bE 11 rfl (fun K hK=>?_)
      refine aj _ rfl _ _ 63 rfl W0.heap.size 67 i0 _ 3 32 Tryz.underlying63 hi hz0 hz1 hz2 rfl (by decide) _ 1 (dL f) rfl RD.out _ 0 _ [] rfl (.inl rfl) rfl (fun u hu=>by cases hu) (by unfold maxLen;omega) (by omega) bY.out.size ?_
      intro vc W5 hown hgrow hat
      simp only [Nat.add_zero,List.append_nil] at hown
      have HB2:Hid (Below W0.heap.size W0 W5):=bY.out.grown hgrow bY.out.size (fun q e=>aw RD.out q e);refine hK.out _ _ (dK.out _ HB2.out) (fun _=>?_);clear hat hgrow RD;clear hK K bY;have bY:=HB2;clear HB2;have RD:=aq hown;obtain ⟨pc,qc,rfl⟩:=cZ hown;clear hown;have hHeld:=dK.out _ bY.out;refine aO 12 ?_ rfl ?_ ?_;rotate_left
      ·intro w hSw;(try dsimp only at hSw);go_simp;try with_reducible rfl
      simp only [Act.put,aU]
      clear hHeld
      refine wpAnyH_done (by kernel_rfl) ?_ _
      refine NoPanic.normal ?_;go_wp2;go_ret;refine ⟨_,rfl,?_,bZ (aa (aa HB0.out kQ.out) bY.out) _,fun q hq=>.inr ?_⟩
      ·have h:=aJ RD.out hlo0
       have e0:fs=[]:=List.eq_nil_of_length_eq_zero h0
       have e1:gP fs f=[f]:=by rw [e0];rfl
       rw [e1];exact h
      ·have:=aw RD.out q hq
       omega
    ·go_simp
     have HB2:Hid (Below W0.heap.size W0 (W0.alloc (.cells #[.int .i64 f.what,.int .i64 f.num,.string f.v] 67))):=bY.out.alloc bY.out.size _;have BX:Hid ((W0.alloc (.cells #[.int .i64 f.what,.int .i64 f.num,.string f.v] 67)).heap[W0.heap.size]?=some (.cells #[.int .i64 f.what,.int .i64 f.num,.string f.v] 67 (0,0))):=am W0 _;refine hK.out _ _ (dK.out _ HB2.out) (fun _=>?_);clear hK K bY;have bY:=HB2;clear HB2
     have iB:W0.heap.size<(W0.alloc (.cells #[.int .i64 f.what,.int .i64 f.num,.string f.v] 67)).heap.size:=by rw [World.size_alloc];omega
     generalize W0.alloc (.cells #[.int .i64 f.what,.int .i64 f.num,.string f.v] 67)=W1 at *;refine bE 0 rfl (fun K hK=>?_);go_simp;have HB2:Hid (Below W0.heap.size W0 (W1.alloc (.cells #[] 67))):=bY.out.alloc bY.out.size _;have RD:Hid ((W1.alloc (.cells #[] 67)).ownsRow W0.heap.size 67 3 (.slice (some ⟨W1.heap.size,0,none⟩) 0 0) 0 []):=be (am W1 _) bY.out.size 3
     have iD:Hid (∀ q,(Value.slice (some ⟨W1.heap.size,0,none⟩) 0 0).ownBlock=some q→some (W0.heap.size)≠some q):=fun q hq e=>by have hq2:W1.heap.size=q:=Option.some.inj hq;injection e with e;omega
     have ky:=aq ((Below.heap_alloc W1 (.cells #[] 67) _ iB).trans BX.out)
     have gH:W0.heap.size<(W1.alloc (.cells #[] 67)).heap.size:=by rw [World.size_alloc];omega
     refine hK.out _ _ (dK.out _ HB2.out) (fun _=>?_);clear hK K bY;have bY:=HB2;clear HB2;clear BX iB;have BX:=ky;have iB:=gH;clear ky gH;generalize W1.alloc (.cells #[] 67)=W2 at *;refine bE 4 rfl (fun K hK=>?_)
     refine aj _ rfl _ _ 63 rfl W0.heap.size 67 i0 _ 3 32 Tryz.underlying63 hi hz0 hz1 hz2 rfl (by decide) _ 0 [] rfl RD.out _ 0 _ [] rfl (.inl rfl) rfl (fun u hu=>by cases hu) (by unfold maxLen;omega) (by omega) bY.out.size ?_
     intro va W3 hown hgrow hat
     simp only [Nat.zero_add,List.nil_append] at hown
     have HB2:Hid (Below W0.heap.size W0 W3):=bY.out.grown hgrow bY.out.size (fun q e=>aw RD.out q e);have ky:=aq ((hgrow.block _ iB (fun e=>iD.out _ e.symm rfl)).trans BX.out);have gH:=Nat.lt_of_lt_of_le iB hgrow.size;refine hK.out _ _ (dK.out _ HB2.out) (fun _=>?_);clear hat hgrow RD;clear BX iD iB;have BX:=ky;have iB:=gH;clear ky gH;clear hK K bY;have bY:=HB2;clear HB2;have RD:=aq hown;obtain ⟨pa,qa,rfl⟩:=cZ hown;clear hown;refine bE 7 rfl (fun K hK=>?_)
     refine aj _ rfl _ _ 63 rfl W0.heap.size 67 i0 _ 3 32 Tryz.underlying63 hi hz0 hz1 hz2 rfl (by decide) _ 0 [] rfl RD.out _ 1 _ (dL f) rfl (.inr ⟨_,rfl,World.news_of_block BX.out⟩) rfl (fun u hu=>by simp only [dL,List.mem_cons,List.not_mem_nil,or_false] at hu;rcases hu with rfl | rfl | rfl <;> rfl) (by unfold maxLen;omega) (by omega) bY.out.size ?_
     intro vb W4 hown hgrow hat
     simp only [Nat.zero_add,List.nil_append] at hown
     have HB2:Hid (Below W0.heap.size W0 W4):=bY.out.grown hgrow bY.out.size (fun q e=>aw RD.out q e);refine hK.out _ _ (dK.out _ HB2.out) (fun _=>?_);clear hat hgrow RD;clear hK K bY;have bY:=HB2;clear HB2;have RD:=aq hown;obtain ⟨pb,qb,rfl⟩:=cZ hown;clear hown;refine bE 11 rfl (fun K hK=>?_)
     refine aj _ rfl _ _ 63 rfl W0.heap.size 67 i0 _ 3 32 Tryz.underlying63 hi hz0 hz1 hz2 rfl (by decide) _ 1 (dL f) rfl RD.out _ 0 _ [] rfl (.inl rfl) rfl (fun u hu=>by cases hu) (by unfold maxLen;omega) (by omega) bY.out.size ?_
     intro vc W5 hown hgrow hat
     simp only [Nat.add_zero,List.append_nil] at hown
     have HB2:Hid (Below W0.heap.size W0 W5):=bY.out.grown hgrow bY.out.size (fun q e=>aw RD.out q e);refine hK.out _ _ (dK.out _ HB2.out) (fun _=>?_);clear hat hgrow RD;clear hK K bY;have bY:=HB2;clear HB2;have RD:=aq hown;obtain ⟨pc,qc,rfl⟩:=cZ hown;clear hown;have hHeld:=dK.out _ bY.out;refine aO 12 ?_ rfl ?_ ?_;rotate_left
     ·intro w hSw;(try dsimp only at hSw);go_simp;try with_reducible rfl
     simp only [Act.put,aU]
     clear hHeld
     refine wpAnyH_done (by kernel_rfl) ?_ _
     refine NoPanic.normal ?_;go_wp2;go_ret;refine ⟨_,rfl,?_,bZ (aa (aa HB0.out kQ.out) bY.out) _,fun q hq=>.inr ?_⟩
     ·have h:=aJ RD.out hlo0
      have e0:fs=[]:=List.eq_nil_of_length_eq_zero h0
      have e1:gP fs f=[f]:=by rw [e0];rfl
      rw [e1];exact h
     ·have:=aw RD.out q hq
      omega
   ·cases hv
    unfold maxLen at hcm
    have hje:j=fs.length:=by omega
    subst hje
    have hcc:(fs.length:Int)≤(lc:Int):=by omega
    rw [List.take_length,List.drop_length] at HP
    by_cases hjn:lc=fs.length
    focus
     subst hjn;clear hj0 hjl hw2
    rotate_left
    focus
     clear hj0 hjl hw2
    rotate_left
    all_goals
     obtain ⟨x0,x1,x2⟩:=bg tN.out;go_wp2;refine wp_region_noPanic ?_
     refine wp_region_held_drew (S:=fun w'=>w'.cell? ⟨w.heap.size,0,none⟩=some (.int .i64 f.what)∧w'.cell? ⟨w.heap.size,1,none⟩=some (.int .i64 f.num)∧w'.cell? ⟨w.heap.size,2,none⟩=some (.string f.v)) (by kernel_rfl) ?_ (fun hHeld=>?_)
     ·exact ⟨x0,x1,x2⟩
     clear x0 x1 x2;have kQ:Hid (Below w1.heap.size w1 wr3.drew):=HB3.out.drew;have HOD:Hid (wr3.drew.ownsRow lo 67 3 (.slice _ _ _) fs.length (di fs)):=ah vZ.out (Below.refl _ _).drew;have HXD:Hid (wr3.drew.heap[w.heap.size]?=some (.cells #[.int .i64 f.what,.int .i64 f.num,.string f.v] 67 (0,0))):=tN.out;generalize wr3.drew=W0 at *;clear HB3 vZ tN;refine aO 1 ?_ rfl ?_ (aO 2 ?_ rfl ?_ (aO 3 ?_ rfl ?_ (aO 5 ?_ rfl ?_ (aO 8 ?_ rfl ?_ (aO 9 ?_ rfl ?_ (aO 10 ?_ rfl ?_ ?_))))))
     iterate 7 (rotate_left;focus (intro w hSw;(try dsimp only at hSw);simp only [Act.put,aU];go_simp;try with_reducible rfl))
     simp only [Act.put,aU]
     clear hHeld;have hw0:w.heap.size<W0.heap.size:=(Array.getElem?_eq_some_iff.1 HXD.out).1
     have hlo0:lo≤W0.heap.size:=by omega
     have bY:Hid (Below W0.heap.size W0 W0):=Below.refl _ _;have dK:Hid (∀ wx:World,Below W0.heap.size W0 wx→wx.cell? ⟨w.heap.size,0,none⟩=some (.int .i64 f.what)∧wx.cell? ⟨w.heap.size,1,none⟩=some (.int .i64 f.num)∧wx.cell? ⟨w.heap.size,2,none⟩=some (.string f.v)):=fun wx hx=>bg ((hx.block _ hw0).trans HXD.out);have zn:Hid (∀ wx:World,Below W0.heap.size W0 wx→∀ q u,(di fs)[q]?=some u→wx.cell? ⟨g,q,none⟩=some u):=fun wx hx=>Ii (ah HOD.out hx);refine lZ 0 6 rfl rfl (fun K hK=>?_) (fun K hK=>?_)
     ·go_simp
      have HB2:Hid (Below W0.heap.size W0 (W0.alloc (.cells #[] 67))):=bY.out.alloc bY.out.size _;have RD:Hid ((W0.alloc (.cells #[] 67)).ownsRow W0.heap.size 67 3 (.slice (some ⟨W0.heap.size,0,none⟩) 0 0) 0 []):=be (am W0 _) bY.out.size 3;refine hK.out _ _ (dK.out _ HB2.out) (fun _=>?_);clear hK K bY;have bY:=HB2;clear HB2;generalize W0.alloc (.cells #[] 67)=W1 at *;refine lZ 4 6 rfl rfl (fun K hK=>?_) (fun K hK=>?_)
      focus
       refine aj _ rfl _ _ 63 rfl W0.heap.size 67 i0 _ 3 32 Tryz.underlying63 hi hz0 hz1 hz2 rfl (by decide) _ 0 [] rfl RD.out _ fs.length _ (di fs) rfl (.inr ⟨_,rfl,fun q u hu=>by rw [bm,Nat.zero_add];exact zn.out _ bY.out q u hu⟩) (bQ _) kK (by unfold maxLen;omega) (by omega) bY.out.size ?_
       intro va W2 hown hgrow hat
       simp only [Nat.zero_add,List.nil_append] at hown
       have HB2:Hid (Below W0.heap.size W0 W2):=bY.out.grown hgrow bY.out.size (fun q e=>aw RD.out q e);refine hK.out _ _ (dK.out _ HB2.out) (fun _=>?_);clear hat hgrow RD;clear hK K bY;have bY:=HB2;clear HB2;have RD:=aq hown;obtain ⟨pa,qa,rfl⟩:=cZ hown;clear hown;refine bE 6 rfl (fun K hK=>?_);go_simp;have HB2:Hid (Below W0.heap.size W0 (W2.alloc (.cells #[.int .i64 f.what,.int .i64 f.num,.string f.v] 67))):=bY.out.alloc bY.out.size _;have BX:Hid ((W2.alloc (.cells #[.int .i64 f.what,.int .i64 f.num,.string f.v] 67)).heap[W2.heap.size]?=some (.cells #[.int .i64 f.what,.int .i64 f.num,.string f.v] 67 (0,0))):=am W2 _;have oZ:=aq (ah RD.out ((Below.refl _ W2).alloc aG (.cells #[.int .i64 f.what,.int .i64 f.num,.string f.v] 67)))
       have iD:Hid (∀ q,Value.ownBlock _=some q→some (W2.heap.size)≠some q):=fun q hq e=>by have:=bD RD.out q hq;injection e with e;omega
       refine hK.out _ _ (dK.out _ HB2.out) (fun _=>?_);clear hK K bY;have bY:=HB2;clear HB2
       have iB:W2.heap.size<(W2.alloc (.cells #[.int .i64 f.what,.int .i64 f.num,.string f.v] 67)).heap.size:=by rw [World.size_alloc];omega
       clear RD;have RD:=oZ;clear oZ;generalize W2.alloc (.cells #[.int .i64 f.what,.int .i64 f.num,.string f.v] 67)=W3 at *
      rotate_left
      focus
       go_simp;have HB2:Hid (Below W0.heap.size W0 (W1.alloc (.cells #[.int .i64 f.what,.int .i64 f.num,.string f.v] 67))):=bY.out.alloc bY.out.size _;have BX:Hid ((W1.alloc (.cells #[.int .i64 f.what,.int .i64 f.num,.string f.v] 67)).heap[W1.heap.size]?=some (.cells #[.int .i64 f.what,.int .i64 f.num,.string f.v] 67 (0,0))):=am W1 _;have oZ:=aq (ah RD.out ((Below.refl _ W1).alloc aG (.cells #[.int .i64 f.what,.int .i64 f.num,.string f.v] 67)))
       have iD:Hid (∀ q,Value.ownBlock _=some q→some (W1.heap.size)≠some q):=fun q hq e=>by have:=bD RD.out q hq;injection e with e;omega
       refine hK.out _ _ (dK.out _ HB2.out) (fun _=>?_);clear hK K bY;have bY:=HB2;clear HB2
       have iB:W1.heap.size<(W1.alloc (.cells #[.int .i64 f.what,.int .i64 f.num,.string f.v] 67)).heap.size:=by rw [World.size_alloc];omega
       clear RD;have RD:=oZ;clear oZ;generalize W1.alloc (.cells #[.int .i64 f.what,.int .i64 f.num,.string f.v] 67)=W2 at *;refine bE 4 rfl (fun K hK=>?_)
       refine aj _ rfl _ _ 63 rfl W0.heap.size 67 i0 _ 3 32 Tryz.underlying63 hi hz0 hz1 hz2 rfl (by decide) _ 0 [] rfl RD.out _ fs.length _ (di fs) rfl (.inr ⟨_,rfl,fun q u hu=>by rw [bm,Nat.zero_add];exact zn.out _ bY.out q u hu⟩) (bQ _) kK (by unfold maxLen;omega) (by omega) bY.out.size ?_
       intro va W3 hown hgrow hat
       simp only [Nat.zero_add,List.nil_append] at hown
       have HB2:Hid (Below W0.heap.size W0 W3):=bY.out.grown hgrow bY.out.size (fun q e=>aw RD.out q e);have ky:=aq ((hgrow.block _ iB (fun e=>iD.out _ e.symm rfl)).trans BX.out);have gH:=Nat.lt_of_lt_of_le iB hgrow.size;refine hK.out _ _ (dK.out _ HB2.out) (fun _=>?_);clear hat hgrow RD;clear BX iD iB;have BX:=ky;have iB:=gH;clear ky gH;clear hK K bY;have bY:=HB2;clear HB2;have RD:=aq hown;obtain ⟨pa,qa,rfl⟩:=cZ hown;clear hown
      rotate_left
      all_goals
       refine bE 7 rfl (fun K hK=>?_)
       refine aj _ rfl _ _ 63 rfl W0.heap.size 67 i0 _ 3 32 Tryz.underlying63 hi hz0 hz1 hz2 rfl (by decide) _ fs.length (di fs) rfl RD.out _ 1 _ (dL f) rfl (.inr ⟨_,rfl,World.news_of_block BX.out⟩) rfl (fun u hu=>by simp only [dL,List.mem_cons,List.not_mem_nil,or_false] at hu;rcases hu with rfl | rfl | rfl <;> rfl) (by unfold maxLen;omega) (by omega) bY.out.size ?_
       intro vb W4 hown hgrow hat;have HB2:Hid (Below W0.heap.size W0 W4):=bY.out.grown hgrow bY.out.size (fun q e=>aw RD.out q e);refine hK.out _ _ (dK.out _ HB2.out) (fun _=>?_);clear hat hgrow RD;clear hK K bY;have bY:=HB2;clear HB2;have RD:=aq hown;obtain ⟨pb,qb,rfl⟩:=cZ hown;clear hown;refine bE 11 rfl (fun K hK=>?_)
       refine aj _ rfl _ _ 63 rfl W0.heap.size 67 i0 _ 3 32 Tryz.underlying63 hi hz0 hz1 hz2 rfl (by decide) _ (fs.length+1) (di fs++dL f) rfl RD.out _ 0 _ [] rfl (.inl rfl) rfl (fun u hu=>by cases hu) (by unfold maxLen;omega) (by omega) bY.out.size ?_
       intro vc W5 hown hgrow hat
       simp only [Nat.add_zero,List.append_nil] at hown
       have HB2:Hid (Below W0.heap.size W0 W5):=bY.out.grown hgrow bY.out.size (fun q e=>aw RD.out q e);refine hK.out _ _ (dK.out _ HB2.out) (fun _=>?_);clear hat hgrow RD;clear hK K bY;have bY:=HB2;clear HB2;have RD:=aq hown;obtain ⟨pc,qc,rfl⟩:=cZ hown;clear hown;have hHeld:=dK.out _ bY.out;refine aO 12 ?_ rfl ?_ ?_;rotate_left
       ·intro w hSw;(try dsimp only at hSw);go_simp;try with_reducible rfl
       simp only [Act.put,aU]
       clear hHeld
       refine wpAnyH_done (by kernel_rfl) ?_ _
       refine NoPanic.normal ?_;go_wp2;go_ret;refine ⟨_,rfl,?_,bZ (aa (aa HB0.out kQ.out) bY.out) _,fun q hq=>.inr ?_⟩
       ·have h:=aJ RD.out hlo0
        rw [HP.out,cI,List.length_append];exact h
       ·have:=aw RD.out q hq
        omega
     ·go_simp
      have HB2:Hid (Below W0.heap.size W0 (W0.alloc (.cells #[.int .i64 f.what,.int .i64 f.num,.string f.v] 67))):=bY.out.alloc bY.out.size _;have BX:Hid ((W0.alloc (.cells #[.int .i64 f.what,.int .i64 f.num,.string f.v] 67)).heap[W0.heap.size]?=some (.cells #[.int .i64 f.what,.int .i64 f.num,.string f.v] 67 (0,0))):=am W0 _;refine hK.out _ _ (dK.out _ HB2.out) (fun _=>?_);clear hK K bY;have bY:=HB2;clear HB2
      have iB:W0.heap.size<(W0.alloc (.cells #[.int .i64 f.what,.int .i64 f.num,.string f.v] 67)).heap.size:=by rw [World.size_alloc];omega
      generalize W0.alloc (.cells #[.int .i64 f.what,.int .i64 f.num,.string f.v] 67)=W1 at *;refine bE 0 rfl (fun K hK=>?_);go_simp;have HB2:Hid (Below W0.heap.size W0 (W1.alloc (.cells #[] 67))):=bY.out.alloc bY.out.size _;have RD:Hid ((W1.alloc (.cells #[] 67)).ownsRow W0.heap.size 67 3 (.slice (some ⟨W1.heap.size,0,none⟩) 0 0) 0 []):=be (am W1 _) bY.out.size 3
      have iD:Hid (∀ q,(Value.slice (some ⟨W1.heap.size,0,none⟩) 0 0).ownBlock=some q→some (W0.heap.size)≠some q):=fun q hq e=>by have hq2:W1.heap.size=q:=Option.some.inj hq;injection e with e;omega
      have ky:=aq ((Below.heap_alloc W1 (.cells #[] 67) _ iB).trans BX.out)
      have gH:W0.heap.size<(W1.alloc (.cells #[] 67)).heap.size:=by rw [World.size_alloc];omega
      refine hK.out _ _ (dK.out _ HB2.out) (fun _=>?_);clear hK K bY;have bY:=HB2;clear HB2;clear BX iB;have BX:=ky;have iB:=gH;clear ky gH;generalize W1.alloc (.cells #[] 67)=W2 at *;refine bE 4 rfl (fun K hK=>?_)
      refine aj _ rfl _ _ 63 rfl W0.heap.size 67 i0 _ 3 32 Tryz.underlying63 hi hz0 hz1 hz2 rfl (by decide) _ 0 [] rfl RD.out _ fs.length _ (di fs) rfl (.inr ⟨_,rfl,fun q u hu=>by rw [bm,Nat.zero_add];exact zn.out _ bY.out q u hu⟩) (bQ _) kK (by unfold maxLen;omega) (by omega) bY.out.size ?_
      intro va W3 hown hgrow hat
      simp only [Nat.zero_add,List.nil_append] at hown
      have HB2:Hid (Below W0.heap.size W0 W3):=bY.out.grown hgrow bY.out.size (fun q e=>aw RD.out q e);have ky:=aq ((hgrow.block _ iB (fun e=>iD.out _ e.symm rfl)).trans BX.out);have gH:=Nat.lt_of_lt_of_le iB hgrow.size;refine hK.out _ _ (dK.out _ HB2.out) (fun _=>?_);clear hat hgrow RD;clear BX iD iB;have BX:=ky;have iB:=gH;clear ky gH;clear hK K bY;have bY:=HB2;clear HB2;have RD:=aq hown;obtain ⟨pa,qa,rfl⟩:=cZ hown;clear hown;refine bE 7 rfl (fun K hK=>?_)
      refine aj _ rfl _ _ 63 rfl W0.heap.size 67 i0 _ 3 32 Tryz.underlying63 hi hz0 hz1 hz2 rfl (by decide) _ fs.length (di fs) rfl RD.out _ 1 _ (dL f) rfl (.inr ⟨_,rfl,World.news_of_block BX.out⟩) rfl (fun u hu=>by simp only [dL,List.mem_cons,List.not_mem_nil,or_false] at hu;rcases hu with rfl | rfl | rfl <;> rfl) (by unfold maxLen;omega) (by omega) bY.out.size ?_
      intro vb W4 hown hgrow hat;have HB2:Hid (Below W0.heap.size W0 W4):=bY.out.grown hgrow bY.out.size (fun q e=>aw RD.out q e);refine hK.out _ _ (dK.out _ HB2.out) (fun _=>?_);clear hat hgrow RD;clear hK K bY;have bY:=HB2;clear HB2;have RD:=aq hown;obtain ⟨pb,qb,rfl⟩:=cZ hown;clear hown;refine bE 11 rfl (fun K hK=>?_)
      refine aj _ rfl _ _ 63 rfl W0.heap.size 67 i0 _ 3 32 Tryz.underlying63 hi hz0 hz1 hz2 rfl (by decide) _ (fs.length+1) (di fs++dL f) rfl RD.out _ 0 _ [] rfl (.inl rfl) rfl (fun u hu=>by cases hu) (by unfold maxLen;omega) (by omega) bY.out.size ?_
      intro vc W5 hown hgrow hat
      simp only [Nat.add_zero,List.append_nil] at hown
      have HB2:Hid (Below W0.heap.size W0 W5):=bY.out.grown hgrow bY.out.size (fun q e=>aw RD.out q e);refine hK.out _ _ (dK.out _ HB2.out) (fun _=>?_);clear hat hgrow RD;clear hK K bY;have bY:=HB2;clear HB2;have RD:=aq hown;obtain ⟨pc,qc,rfl⟩:=cZ hown;clear hown;have hHeld:=dK.out _ bY.out;refine aO 12 ?_ rfl ?_ ?_;rotate_left
      ·intro w hSw;(try dsimp only at hSw);go_simp;try with_reducible rfl
      simp only [Act.put,aU]
      clear hHeld
      refine wpAnyH_done (by kernel_rfl) ?_ _
      refine NoPanic.normal ?_;go_wp2;go_ret;refine ⟨_,rfl,?_,bZ (aa (aa HB0.out kQ.out) bY.out) _,fun q hq=>.inr ?_⟩
      ·have h:=aJ RD.out hlo0
       rw [HP.out,cI,List.length_append];exact h
      ·have:=aw RD.out q hq
       omega
end Go.Proofs.YtcmgddnckohdaaaGreatDoor
