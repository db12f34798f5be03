import Derived.Test.YtbjmgglpiakgdaaGreatDoorWay7
import Derived.Test.YtbjmgglpiakgdaaGreatDoorFitsS2
set_option linter.unusedSimpArgs false
set_option linter.unusedVariables false
namespace Go.Proofs.YtbjmgglpiakgdaaGreatDoor
open Go.RowKit
theorem rev_take (l:List Cel) (k:Nat) (h:k < l.length):l.reverse.take (k+1)=l.reverse.take k ++ [tat l (l.length - 1 - k)]:=by
 have hl:k < l.reverse.length:=by rw [List.length_reverse]; exact h
 rw [List.take_succ_eq_append_getElem hl]
 congr 2
 rw [List.getElem_reverse]
 simp [tat,show l.length - 1 - k < l.length by omega]
theorem legS_yes {a b:Cel} (h:lesser b a=true):legS a b=(legU b a).reverse:=by unfold legS; rw [h]; rfl
theorem legS_no {a b:Cel} (h:lesser b a=false):legS a b=legU a b:=by unfold legS; rw [h]; rfl
set_option maxRecDepth 100000 in
set_option maxHeartbeats 12800000 in
theorem l7LegR_any (a b:Cel) (w:World) (ha:a.In) (hb:b.In) (hl:lesser b a=true) :
  Calls Tryz.prog 73 #[cv a,cv b] w fun e w'=>∃ u,e=.returned u∧CNew w' w.heap.size u (legU b a).reverse∧Below w.heap.size w w':=by
 obtain ⟨i0,hi0,hz0,hz1,hz2⟩:=info_parts infoCell
 have HB:Hid (Below w.heap.size w (((w.alloc (.cells #[.int .i64 a.x,.int .i64 a.y] 77)).alloc (.cells #[.int .i64 b.x,.int .i64 b.y] 77)).alloc (.cells #[] 77))):=(((Below.refl _ _).alloc (Nat.le_refl _) _).alloc (by simp) _).alloc (by simp; omega) _
 have HR:Hid ((((w.alloc (.cells #[.int .i64 a.x,.int .i64 a.y] 77)).alloc (.cells #[.int .i64 b.x,.int .i64 b.y] 77)).alloc (.cells #[] 77)).heap[w.heap.size+2]?=some (.cells #[] 77 (0,0))):=by
  have h:=heap_newW ((w.alloc (.cells #[.int .i64 a.x,.int .i64 a.y] 77)).alloc (.cells #[.int .i64 b.x,.int .i64 b.y] 77)) (.cells #[] 77)
  rw [show ((w.alloc (.cells #[.int .i64 a.x,.int .i64 a.y] 77)).alloc (.cells #[.int .i64 b.x,.int .i64 b.y] 77)).heap.size=w.heap.size+2 by simp] at h
  exact h
 have c0:(((w.alloc (.cells #[.int .i64 a.x,.int .i64 a.y] 77)).alloc (.cells #[.int .i64 b.x,.int .i64 b.y] 77)).alloc (.cells #[] 77)).cell? ⟨w.heap.size,0,none⟩=some (.int .i64 a.x):=by simp [go_sem]
 have c1:(((w.alloc (.cells #[.int .i64 a.x,.int .i64 a.y] 77)).alloc (.cells #[.int .i64 b.x,.int .i64 b.y] 77)).alloc (.cells #[] 77)).cell? ⟨w.heap.size,1,none⟩=some (.int .i64 a.y):=by simp [go_sem]
 have c2:(((w.alloc (.cells #[.int .i64 a.x,.int .i64 a.y] 77)).alloc (.cells #[.int .i64 b.x,.int .i64 b.y] 77)).alloc (.cells #[] 77)).cell? ⟨w.heap.size+1,0,none⟩=some (.int .i64 b.x):=by simp [go_sem]
 have c3:(((w.alloc (.cells #[.int .i64 a.x,.int .i64 a.y] 77)).alloc (.cells #[.int .i64 b.x,.int .i64 b.y] 77)).alloc (.cells #[] 77)).cell? ⟨w.heap.size+1,1,none⟩=some (.int .i64 b.y):=by simp [go_sem]
 have HRC:Hid (∀ wx:World,Calls Tryz.prog 73 #[cv b,cv a] wx fun e w'=>∃ u,e=.returned u∧CNew w' wx.heap.size u (legU b a)∧Below wx.heap.size wx w'):=fun wx=>l7LegU_any b a wx hb ha (lesser_swap hl)
 have hlen:(legU b a).length≤16:=by rw [legU_len]; have:=legN_le hb ha; omega
 have hpos:0 < (legU b a).length:=by rw [legU_len]; omega
 have hlc:=hl
 clear hl
 generalize legU b a=l at *
 rcases (show (b.x < a.x) ∨ (¬ b.x < a.x∧b.x=a.x∧b.y < a.y) by unfold lesser at hlc; split at hlc <;> simp at hlc <;> omega) with x1 | ⟨x1,x2,x3⟩
 focus
  go_enter Tryz.func73,Tryz.ntmps73
 rotate_left
 focus
  have hq:(b.x == a.x)=true:=by simp [x2]
  clear x2
  go_enter Tryz.func73,Tryz.ntmps73
 rotate_left
 all_goals
  go_wp2_with fail
  generalize (((w.alloc (.cells #[.int .i64 a.x,.int .i64 a.y] 77)).alloc (.cells #[.int .i64 b.x,.int .i64 b.y] 77)).alloc (.cells #[] 77))=w1 at *
  refine (HRC.out _).mono ?_
  rintro e w2 ⟨u,rfl,hu,hb2⟩
  obtain ⟨aL,cL,rfl⟩:=ownC_slice hu
  obtain ⟨BL,rfl⟩:∃ BL,aL=some ⟨BL,0,none⟩:=by
   rcases hu.2 with ⟨h,h0⟩ | ⟨g,cap,cur,h,_⟩
   ·omega
   ·injection h with h1 h2 h3
    exact ⟨g,h1⟩
  have hBL:w1.heap.size≤BL:=ownC_ge hu BL rfl
  have hBL2:BL < w2.heap.size:=ownC_lt hu BL rfl
  have hR1:=lt_of_block HR.out
  have HI0:Hid (CNew w2 (w.heap.size+2) (.slice (some ⟨w.heap.size+2,0,none⟩) 0 0) (l.reverse.take 0)∧Below w.heap.size w w2∧CAt w2 (.slice (some ⟨BL,0,none⟩) l.length cL) l∧(BL < w2.heap.size∧w.heap.size+3≤w2.heap.size)∧∀ q,(Value.slice (some ⟨w.heap.size+2,0,none⟩) 0 0).ownBlock=some q→q ≠ BL):=by
   refine ⟨⟨rfl,.inr ⟨w.heap.size+2,0,#[],rfl,Nat.le_refl _,below_block hb2 HR.out,Nat.le_refl _,Nat.zero_le _,rfl,rfl⟩⟩,below_step HB.out hb2,hu.at,⟨hBL2,by omega⟩,fun q hq=>?_⟩
   simp only [Value.ownBlock,Option.some.injEq] at hq
   omega
  clear hu hb2 c0 c1 c2 c3 hBL hBL2 hR1
  go_wp2_with fail
  go_loopw [5,7] (fun v i wr=>∃ (k:Nat) (z:Int),k≤l.length∧z=(l.length:Int) - 1 - (k:Int)∧i=.int .i64 z∧(∃ a' c',v=.slice a' k c')∧Hid (CNew wr (w.heap.size+2) v (l.reverse.take k)∧Below w.heap.size w wr∧CAt wr (.slice (some ⟨BL,0,none⟩) l.length cL) l∧(BL < wr.heap.size∧w.heap.size+3≤wr.heap.size)∧∀ q,v.ownBlock=some q→q ≠ BL)) (fun _ i _=>(intOf i+1).toNat)
  case atStart=>exact ⟨0,_,Nat.zero_le _,by simp,rfl,⟨_,_,rfl⟩,HI0⟩
  case round =>
   clear HI0
   obtain ⟨k,z,hk,hz,rfl,⟨a',c',rfl⟩,HI⟩:=hrel
   by_cases hlt:k < l.length
   ·obtain ⟨j,rfl⟩:∃ j:Nat,z=j:=⟨l.length - 1 - k,by omega⟩
    have hj:j=l.length - 1 - k:=by omega
    have HJ:Hid (l.reverse.take (k+1)=l.reverse.take k ++ [tat l j]):=by show _=_; rw [hj]; exact rev_take l k hlt
    obtain ⟨d0,d1⟩:=HI.out.2.2.1.cells j (by omega)
    have hj0:(0:Int)≤(j:Int):=by omega
    have hj1:(j:Int) < (l.length:Int):=by omega
    have HTL:Hid ((l.reverse.take k).length=k):=by show _=_; rw [List.length_take,List.length_reverse]; omega
    have hid:=HI.out.1
    unfold CNew at hid
    rw [HTL.out] at hid
    have hsz:=HI.out.2.1.size
    have hbw:w.heap.size+3≤wr.heap.size:=HI.out.2.2.2.1.2
    have HJJ:Hid (j+1+k=l.length):=by show _=_; omega
    clear hj hz
    generalize tat l j=tc at *
    go_wp2_with (at_builtin; refine wpList_append_any _ rfl _ _ 73 rfl (w.heap.size+2) 77 i0 _ 2 16 Tryz.underlying73 hi0 hz0 hz1 hz2 rfl (by decide) _ k _ rfl (ownC_keep hid ((Below.refl _ _).alloc (Nat.le_refl _) _)) _ 1 1 [.int .i64 tc.x,.int .i64 tc.y] rfl (.inr ⟨_,rfl,World.news_of_block (heap_newW wr (.cells #[.int .i64 tc.x,.int .i64 tc.y] 77))⟩) rfl (fun u hu=>by simp at hu; rcases hu with rfl | rfl <;> rfl) (by unfold maxLen; omega) (by omega) (by simp; omega) ?_; intro vq wx hown hgrow hat)
    have hal:Below wr.heap.size wr (wr.alloc (.cells #[.int .i64 tc.x,.int .i64 tc.y] 77)):=(Below.refl _ _).alloc (Nat.le_refl _) _
    have HN:Hid (CNew wx (w.heap.size+2) vq (l.reverse.take (k+1))∧Below w.heap.size w wx∧CAt wx (.slice (some ⟨BL,0,none⟩) l.length cL) l∧(BL < wx.heap.size∧w.heap.size+3≤wx.heap.size)∧∀ q,vq.ownBlock=some q→q ≠ BL):=by
     have hz3:=hgrow.size
     rw [World.size_alloc] at hz3
     have hBB:=HI.out.2.2.2.1.1
     have hne:some BL ≠ (Value.slice a' k c').ownBlock:=fun e=>HI.out.2.2.2.2 BL e.symm rfl
     refine ⟨?_,(below_step HI.out.2.1 hal).grown hgrow (below_step HI.out.2.1 hal).size (fun q hq=>by have:=ownC_ge hid q hq; omega),?_,⟨by omega,by omega⟩,fun q hq=>?_⟩
     ·rw [HJ.out]
      exact CNew.snoc HTL.out hown
     ·obtain ⟨a9,c9,h1,h2,h3,h4⟩:=HI.out.2.2.1.keep hal
      refine ⟨a9,c9,h1,h2,h3,fun i t ht=>?_⟩
      obtain ⟨g9,e9,e0,e1⟩:=h4 i t ht
      have hgg:g9=BL:=by rw [e9] at h1; injection h1 with h1; injection h1 with h1; injection h1 with h1; exact h1.symm
      subst hgg
      have hblk:=hgrow.block g9 (lt_of_cell e0) hne
      exact ⟨g9,e9,(World.cell?_of_block hblk).trans e0,(World.cell?_of_block hblk).trans e1⟩
     ·rcases hat with e | e
      ·rw [e] at hq
       exact HI.out.2.2.2.2 q hq
      ·rw [e,World.size_alloc] at hq
       injection hq with hq
       omega
    obtain ⟨qa,qc,rfl⟩:=ownC_slice hown
    exact ⟨⟨k+1,(j:Int) - 1,by omega,by have:=HJJ.out; omega,by first | rfl | go_num,⟨_,_,rfl⟩,HN⟩,by first | (simp [intOf]; done) | (simp [intOf]; omega)⟩
   ·have HF:Hid (l.reverse.take k=l.reverse):=List.take_of_length_le (by rw [List.length_reverse]; omega)
    have hz2:z < 0:=by omega
    go_wp2
    go_ret
    exact ⟨.slice a' k c',rfl,by have h:=HI.out.1; rw [HF.out] at h; exact ownC_mono h (by omega),HI.out.2.1⟩
open Go.RowKit
def cellsL (ps:List Tri) (ws:List ByteArray):List Cel:=alongTo (tat (turns ps ws)) ws.length
def cellsOkB (ks ps:List Tri) (ws:List ByteArray):Bool:=((kindsB ks && pointsB ps) && routeB ps ws) && decide ((cellsL ps ws).length≤40)
def cellsR (ks ps:List Tri) (ws:List ByteArray):List Cel:=bif cellsOkB ks ps ws then cellsL ps ws else []
theorem points_in {ps:List Tri} (h:pointsB ps=true):∀ i,i < ps.length→insideB (at' ps i)=true:=fun i hi=>by
 unfold pointsB at h
 rw [Bool.and_eq_true] at h
 have:=allB_get h.2 i hi
 rw [Bool.and_eq_true] at this
 exact this.1
theorem celOf_in {ps:List Tri} {x:ByteArray} (h:pointsB ps=true) (hx:hasB ps x=true):(celOf ps x).In:=by
 unfold hasB at hx
 rw [Bool.and_eq_true] at hx
 have h1:=points_in h _ (of_decide_eq_true hx.1)
 unfold insideB inB at h1
 simp at h1
 exact ⟨⟨h1.1.1,h1.1.2⟩,h1.2.1,h1.2.2⟩
theorem route_all {ps:List Tri} {ws:List ByteArray} (h:routeB ps ws=true):(2≤ws.length∧ws.length≤8)∧∀ i,i < ws.length→hasB ps (wat ws i)=true:=by
 unfold routeB at h
 rw [Bool.and_eq_true] at h
 refine ⟨by have:=h.1; unfold inB at this; simp at this; omega,fun i hi=>?_⟩
 have:=allB_get h.2 i hi
 unfold stepB at this
 rw [Bool.and_eq_true] at this
 exact this.1
theorem turns_in {ps:List Tri} {ws:List ByteArray} (hp:pointsB ps=true) (h:routeB ps ws=true):∀ c ∈ turns ps ws,c.In:=fun c hc=>by
 obtain ⟨x,hx,rfl⟩:=List.mem_map.1 hc
 obtain ⟨i,hi,rfl⟩:=List.getElem_of_mem hx
 have:=(route_all h).2 i hi
 have e:wat ws i=ws[i]:=by simp [wat,hi]
 rw [e] at this
 exact celOf_in hp this
theorem cellsL_len {ps:List Tri} {ws:List ByteArray} (hp:pointsB ps=true) (h:routeB ps ws=true):(cellsL ps ws).length≤121:=by
 have h1:=alongTo_len (turns_in hp h) ws.length (by unfold turns; rw [List.length_map]; exact Nat.le_refl _)
 have h2:=(route_all h).1
 unfold cellsL
 omega
set_option maxRecDepth 100000 in
set_option maxHeartbeats 3200000 in
theorem planCells_any (vk vp v:Value) (ks ps:List Tri) (ws:List ByteArray) (w:World) (hk:TrisAt w vk ks) (hp:TrisAt w vp ps) (nk:Names ks) (np:Names ps) (hst:StrsAt w v ws) :
  Calls Tryz.prog 27 #[.agg #[vk,vp],v] w fun e w'=>∃ u,e=.returned (.tuple #[u,.bool (cellsOkB ks ps ws)])∧CNew w' w.heap.size u (cellsR ks ps ws)∧Below w.heap.size w w':=by
 have HB1:Hid (Below w.heap.size w (w.alloc (.cells #[vk,vp] 26))):=(Below.refl _ _).alloc (Nat.le_refl _) _
 have GB:Hid (∀ wx:World,Below w.heap.size w wx→Calls Tryz.prog 44 #[.agg #[vk,vp]] wx fun e w'=>e=.returned (.bool (kindsB ks && pointsB ps))∧Below wx.heap.size wx w'):=fun wx hx=>baseOk_any vk vp ks ps wx (hk.keep hx) (hp.keep hx) nk np
 have GR:Hid (∀ wx:World,Below w.heap.size w wx→Calls Tryz.prog 68 #[.agg #[vk,vp],v] wx fun e w'=>e=.returned (.bool (routeB ps ws))∧Below wx.heap.size wx w'):=fun wx hx=>routeFits_any vk vp v ps ws wx (hp.keep hx) (hst.keep hx)
 have GT:Hid (routeB ps ws=true→∀ wx:World,Below w.heap.size w wx→Calls Tryz.prog 70 #[.agg #[vk,vp],v] wx fun e w'=>∃ u,e=.returned u∧CNew w' wx.heap.size u (turns ps ws)∧Below wx.heap.size wx w'):=fun hr wx hx=>cellsOfPoints_any vk vp v ps ws wx (hp.keep hx) (hst.keep hx) (route_all hr).1.2 (route_all hr).2
 have p0:(w.alloc (.cells #[vk,vp] 26)).cell? ⟨w.heap.size,0,none⟩=some vk:=by simp [go_sem]
 have p1:(w.alloc (.cells #[vk,vp] 26)).cell? ⟨w.heap.size,1,none⟩=some vp:=by simp [go_sem]
 obtain ⟨g,off,cap,rfl,hlc,hcm,-⟩:=hst
 clear hk hp
 go_enter Tryz.func27,Tryz.ntmps27
 go_wp2_with fail
 generalize (w.alloc (.cells #[vk,vp] 26))=w1 at *
 have Q0:Hid (∀ wx:World,Below w1.heap.size w1 wx→wx.cell? ⟨w.heap.size,0,none⟩=some vk∧wx.cell? ⟨w.heap.size,1,none⟩=some vp):=fun wx hx=>⟨cell_keep hx (Nat.le_refl _) p0,cell_keep hx (Nat.le_refl _) p1⟩
 refine (GB.out _ HB1.out).mono ?_
 rintro e w2 ⟨rfl,hb2⟩
 have B2:Hid (Below w1.heap.size w1 w2):=hb2
 clear hb2 p0 p1
 obtain ⟨p0,p1⟩:=Q0.out _ B2.out
 cases hbb:(kindsB ks && pointsB ps)
 ·have HE:Hid (cellsOkB ks ps ws=false∧cellsR ks ps ws=[]):=by
   have h:cellsOkB ks ps ws=false:=by unfold cellsOkB; rw [hbb]; rfl
   exact ⟨h,by unfold cellsR; rw [h]; rfl⟩
  clear hbb
  go_wp2
  go_ret2
  exact ⟨.slice none 0 0,by rw [HE.out.1]; rfl,by rw [HE.out.2]; exact ⟨rfl,.inl ⟨rfl,rfl⟩⟩,below_step HB1.out B2.out⟩
 ·have HBB:Hid ((kindsB ks && pointsB ps)=true):=hbb
  clear hbb
  go_wp2_with fail
  refine (GR.out _ (below_step HB1.out B2.out)).mono ?_
  rintro e w3 ⟨rfl,hb3⟩
  have B3:Hid (Below w1.heap.size w1 w3):=below_step B2.out hb3
  clear hb3 p0 p1 B2
  obtain ⟨p0,p1⟩:=Q0.out _ B3.out
  cases hrr:routeB ps ws
  ·have HE:Hid (cellsOkB ks ps ws=false∧cellsR ks ps ws=[]):=by
    have h:cellsOkB ks ps ws=false:=by unfold cellsOkB; rw [HBB.out,hrr]; rfl
    exact ⟨h,by unfold cellsR; rw [h]; rfl⟩
   clear hrr
   go_wp2
   go_ret2
   exact ⟨.slice none 0 0,by rw [HE.out.1]; rfl,by rw [HE.out.2]; exact ⟨rfl,.inl ⟨rfl,rfl⟩⟩,below_step HB1.out B3.out⟩
  ·have HRR:Hid (routeB ps ws=true):=hrr
   clear hrr
   have hpp:pointsB ps=true:=by have:=HBB.out; rw [Bool.and_eq_true] at this; exact this.2
   have HIN:Hid (∀ c ∈ turns ps ws,c.In):=turns_in hpp HRR.out
   have hlen:=cellsL_len hpp HRR.out
   have HTL:Hid ((turns ps ws).length=ws.length):=by show _=_; unfold turns; rw [List.length_map]
   have HW8:Hid (ws.length≤8):=(route_all HRR.out).1.2
   go_wp2_with fail
   refine (GT.out HRR.out _ (below_step HB1.out B3.out)).mono ?_
   rintro e w4 ⟨u,rfl,hu,hb4⟩
   obtain ⟨a4,c4,rfl⟩:=ownC_slice hu
   have U4:Hid (CAt w4 (.slice a4 (turns ps ws).length c4) (turns ps ws)):=hu.at
   have B4:Hid (Below w1.heap.size w1 w4):=below_step B3.out hb4
   clear hb4 p0 p1 B3 hu
   go_wp2_with fail
   refine (cellsAlong_any _ (turns ps ws) _ U4.out (by rw [HTL.out]; exact HW8.out) HIN.out).mono ?_
   rw [HTL.out]
   rintro e w5 ⟨u,rfl,hu,hb5⟩
   have hu':CNew w5 w4.heap.size u (cellsL ps ws):=hu
   obtain ⟨a5,c5,rfl⟩:=ownC_slice hu'
   have U5:Hid (CNew w5 w.heap.size (.slice a5 (cellsL ps ws).length c5) (cellsL ps ws)):=ownC_mono hu' (below_step HB1.out B4.out).size
   have B5:Hid (Below w1.heap.size w1 w5):=below_step B4.out hb5
   clear hb5 B4 hu hu' U4
   by_cases h40:(cellsL ps ws).length≤40
   ·have HE:Hid (cellsOkB ks ps ws=true∧cellsR ks ps ws=cellsL ps ws):=by
     have h:cellsOkB ks ps ws=true:=by unfold cellsOkB; rw [HBB.out,HRR.out,decide_eq_true h40]; rfl
     exact ⟨h,by unfold cellsR; rw [h]; rfl⟩
    go_wp2
    go_ret2
    exact ⟨.slice a5 (cellsL ps ws).length c5,by rw [HE.out.1]; rfl,by rw [HE.out.2]; exact U5.out,below_step HB1.out B5.out⟩
   ·have HE:Hid (cellsOkB ks ps ws=false∧cellsR ks ps ws=[]):=by
     have h:cellsOkB ks ps ws=false:=by unfold cellsOkB; rw [decide_eq_false h40]; simp
     exact ⟨h,by unfold cellsR; rw [h]; rfl⟩
    go_wp2
    go_ret2
    exact ⟨.slice none 0 0,by rw [HE.out.1]; rfl,by rw [HE.out.2]; exact ⟨rfl,.inl ⟨rfl,rfl⟩⟩,below_step HB1.out B5.out⟩
open Go.RowKit
theorem l7Leg_any (a b:Cel) (w:World) (ha:a.In) (hb:b.In) :
  Calls Tryz.prog 73 #[cv a,cv b] w fun e w'=>∃ u,e=.returned u∧CNew w' w.heap.size u (legS a b)∧Below w.heap.size w w':=by
 cases h:lesser b a
 ·rw [legS_no h]; exact l7LegU_any a b w ha hb h
 ·rw [legS_yes h]; exact l7LegR_any a b w ha hb h
theorem atI_plc {l:List Tri} {v:ByteArray} (h:∀ i,i < l.length→ascB l i=true) (hv:hasB l v=true):atI l v=((plc l v:Nat):Int):=by
 have hv':=hv
 unfold hasB at hv'
 rw [Bool.and_eq_true] at hv'
 have h1:=of_decide_eq_true hv'.1
 have h2:=of_decide_eq_true hv'.2
 refine atI_some h1 h2 fun j hj e=>?_
 have h3:=asc_lt h j (plc l v) hj h1
 rw [e,h2,blS_irrefl] at h3
 cases h3
set_option maxRecDepth 100000 in
set_option maxHeartbeats 6400000 in
theorem l7At_any (vk vp:Value) (ps:List Tri) (x:ByteArray) (w:World) (hp:TrisAt w vp ps) (hpp:pointsB ps=true) (hx:hasB ps x=true) :
  Calls Tryz.prog 72 #[.agg #[vk,vp],.string x] w fun e w'=>e=.returned (cv (celOf ps x))∧Below w.heap.size w w':=by
 have hpl:plc ps x < ps.length:=by
  unfold hasB at hx
  rw [Bool.and_eq_true] at hx
  exact of_decide_eq_true hx.1
 have HAT:Hid (∀ wx:World,Below w.heap.size w wx→Calls Tryz.prog 61 #[.agg #[vk,vp],.string x] wx fun e w'=>e=.returned (.int .i64 ((plc ps x:Nat):Int))∧Below wx.heap.size wx w'):=fun wx hwx=>by
  have h:=l1Point_any vk vp ps x wx (hp.keep hwx)
  rw [atI_plc (points_asc hpp) hx] at h
  exact h
 obtain ⟨ap,cp,rfl,hp1,hp2,hpc⟩:=hp
 unfold maxLen at hp2
 obtain ⟨bP,oP,rfl,d0,d1,d2⟩:=hpc _ _ (at_get hpl)
 clear hpc
 have HC:Hid (celOf ps x=⟨(at' ps (plc ps x)).x,(at' ps (plc ps x)).y⟩):=rfl
 have HD:Hid (w.cell? ⟨bP,oP+plc ps x * 3,none⟩=some (.string (at' ps (plc ps x)).s)∧w.cell? ⟨bP,oP+plc ps x * 3+1,none⟩=some (.int .i64 (at' ps (plc ps x)).x)∧w.cell? ⟨bP,oP+plc ps x * 3+2,none⟩=some (.int .i64 (at' ps (plc ps x)).y)):=⟨d0,d1,d2⟩
 clear d0 d1 d2
 have hj0:(0:Int)≤((plc ps x:Nat):Int):=by omega
 have hj1:((plc ps x:Nat):Int) < (ps.length:Int):=by omega
 generalize at' ps (plc ps x)=tr at *
 generalize plc ps x=j at *
 have HB:Hid (Below w.heap.size w ((w.alloc (.cells #[vk,.slice (some ⟨bP,oP,none⟩) ps.length cp] 26)).alloc (.cells #[.int .i64 0,.int .i64 0] 77))):=((Below.refl _ _).alloc (Nat.le_refl _) _).alloc (by simp) _
 have HS:Hid ((((w.alloc (.cells #[vk,.slice (some ⟨bP,oP,none⟩) ps.length cp] 26)).alloc (.cells #[.int .i64 0,.int .i64 0] 77)).cell? ⟨w.heap.size,0,none⟩=some vk∧((w.alloc (.cells #[vk,.slice (some ⟨bP,oP,none⟩) ps.length cp] 26)).alloc (.cells #[.int .i64 0,.int .i64 0] 77)).cell? ⟨w.heap.size,1,none⟩=some (.slice (some ⟨bP,oP,none⟩) ps.length cp))∧((w.alloc (.cells #[vk,.slice (some ⟨bP,oP,none⟩) ps.length cp] 26)).alloc (.cells #[.int .i64 0,.int .i64 0] 77)).cell? ⟨bP,oP+j * 3,none⟩=some (.string tr.s)∧((w.alloc (.cells #[vk,.slice (some ⟨bP,oP,none⟩) ps.length cp] 26)).alloc (.cells #[.int .i64 0,.int .i64 0] 77)).cell? ⟨bP,oP+j * 3+1,none⟩=some (.int .i64 tr.x)∧((w.alloc (.cells #[vk,.slice (some ⟨bP,oP,none⟩) ps.length cp] 26)).alloc (.cells #[.int .i64 0,.int .i64 0] 77)).cell? ⟨bP,oP+j * 3+2,none⟩=some (.int .i64 tr.y)):=by
  have hb:=HB.out
  exact ⟨⟨by simp [go_sem],by simp [go_sem]⟩,cell_keep hb (Nat.le_refl _) HD.out.1,cell_keep hb (Nat.le_refl _) HD.out.2.1,cell_keep hb (Nat.le_refl _) HD.out.2.2⟩
 have HR:Hid (((w.alloc (.cells #[vk,.slice (some ⟨bP,oP,none⟩) ps.length cp] 26)).alloc (.cells #[.int .i64 0,.int .i64 0] 77)).heap[w.heap.size+1]?=some (.cells #[.int .i64 0,.int .i64 0] 77 (0,0))):=by
  have h:=heap_newW (w.alloc (.cells #[vk,.slice (some ⟨bP,oP,none⟩) ps.length cp] 26)) (.cells #[.int .i64 0,.int .i64 0] 77)
  rw [show (w.alloc (.cells #[vk,.slice (some ⟨bP,oP,none⟩) ps.length cp] 26)).heap.size=w.heap.size+1 by simp] at h
  exact h
 go_enter Tryz.func72,Tryz.ntmps72
 go_wp2_with fail
 generalize ((w.alloc (.cells #[vk,.slice (some ⟨bP,oP,none⟩) ps.length cp] 26)).alloc (.cells #[.int .i64 0,.int .i64 0] 77))=w1 at *
 refine wp_region_noPanic ?_
 refine wp_region_held_drew (S:=fun w'=>(w'.cell? ⟨w.heap.size,0,none⟩=some vk∧w'.cell? ⟨w.heap.size,1,none⟩=some (.slice (some ⟨bP,oP,none⟩) ps.length cp))∧w'.cell? ⟨bP,oP+j * 3,none⟩=some (.string tr.s)∧w'.cell? ⟨bP,oP+j * 3+1,none⟩=some (.int .i64 tr.x)∧w'.cell? ⟨bP,oP+j * 3+2,none⟩=some (.int .i64 tr.y)) (by kernel_rfl) ?_ (fun hHeld=>?_)
 ·exact ⟨⟨cell_keep (Below.refl _ _).drew (Nat.le_refl _) HS.out.1.1,cell_keep (Below.refl _ _).drew (Nat.le_refl _) HS.out.1.2⟩,cell_keep (Below.refl _ _).drew (Nat.le_refl _) HS.out.2.1,cell_keep (Below.refl _ _).drew (Nat.le_refl _) HS.out.2.2.1,cell_keep (Below.refl _ _).drew (Nat.le_refl _) HS.out.2.2.2⟩
 have I0:Hid (Below w.heap.size w w1.drew∧((w1.drew.cell? ⟨w.heap.size,0,none⟩=some vk∧w1.drew.cell? ⟨w.heap.size,1,none⟩=some (.slice (some ⟨bP,oP,none⟩) ps.length cp))∧w1.drew.cell? ⟨bP,oP+j * 3,none⟩=some (.string tr.s)∧w1.drew.cell? ⟨bP,oP+j * 3+1,none⟩=some (.int .i64 tr.x)∧w1.drew.cell? ⟨bP,oP+j * 3+2,none⟩=some (.int .i64 tr.y))∧w1.drew.heap[w.heap.size+1]?=some (.cells #[.int .i64 0,.int .i64 0] 77 (0,0))):=⟨below_step HB.out (Below.refl _ _).drew,hHeld,HR.out⟩
 generalize w1.drew=W at *
 refine tkH 0 ?_ rfl ?_ (tkH 1 ?_ rfl ?_ (tkH 2 ?_ rfl ?_ (tkH 3 ?_ rfl ?_ ?_)))
 iterate 4 (rotate_left; focus (intro w hSw; (try dsimp only at hSw); simp only [Act.put,tkS]; go_simp; try with_reducible rfl))
 simp only [Act.put,tkS]
 clear hHeld
 refine rdH2 4 7 rfl rfl (fun K hK=>?_) (fun K hK=>?_)
 focus
  go_simp
  refine (HAT.out _ I0.out.1).mono ?_
  rintro e W2 ⟨rfl,hbz⟩
  have I2:Hid (Below w.heap.size w W2∧((W2.cell? ⟨w.heap.size,0,none⟩=some vk∧W2.cell? ⟨w.heap.size,1,none⟩=some (.slice (some ⟨bP,oP,none⟩) ps.length cp))∧W2.cell? ⟨bP,oP+j * 3,none⟩=some (.string tr.s)∧W2.cell? ⟨bP,oP+j * 3+1,none⟩=some (.int .i64 tr.x)∧W2.cell? ⟨bP,oP+j * 3+2,none⟩=some (.int .i64 tr.y))∧W2.heap[w.heap.size+1]?=some (.cells #[.int .i64 0,.int .i64 0] 77 (0,0))):=⟨below_step I0.out.1 hbz,⟨⟨cell_keep hbz (Nat.le_refl _) I0.out.2.1.1.1,cell_keep hbz (Nat.le_refl _) I0.out.2.1.1.2⟩,cell_keep hbz (Nat.le_refl _) I0.out.2.1.2.1,cell_keep hbz (Nat.le_refl _) I0.out.2.1.2.2.1,cell_keep hbz (Nat.le_refl _) I0.out.2.1.2.2.2⟩,below_block hbz I0.out.2.2⟩
  refine hK.out _ _ I2.out.2.1 (fun _=>?_)
  clear hK K hbz I0
  have hHeld:=I2.out.2.1
  refine tkH 5 ?_ rfl ?_ (tkH 6 ?_ rfl ?_ ?_)
  iterate 2 (rotate_left; focus (intro w hSw; (try dsimp only at hSw); simp only [Act.put,tkS]; go_simp; try with_reducible rfl))
  simp only [Act.put,tkS]
  clear hHeld
  refine rdH 7 rfl (fun K hK=>?_)
  go_simp
  have hbz:Below W2.heap.size W2 (W2.alloc (.cells #[.string ⟨#[]⟩,.int .i64 0,.int .i64 0] 110)):=(Below.refl _ _).alloc (Nat.le_refl _) _
  have I3:Hid (Below w.heap.size w (W2.alloc (.cells #[.string ⟨#[]⟩,.int .i64 0,.int .i64 0] 110))∧(((W2.alloc (.cells #[.string ⟨#[]⟩,.int .i64 0,.int .i64 0] 110)).cell? ⟨w.heap.size,0,none⟩=some vk∧(W2.alloc (.cells #[.string ⟨#[]⟩,.int .i64 0,.int .i64 0] 110)).cell? ⟨w.heap.size,1,none⟩=some (.slice (some ⟨bP,oP,none⟩) ps.length cp))∧(W2.alloc (.cells #[.string ⟨#[]⟩,.int .i64 0,.int .i64 0] 110)).cell? ⟨bP,oP+j * 3,none⟩=some (.string tr.s)∧(W2.alloc (.cells #[.string ⟨#[]⟩,.int .i64 0,.int .i64 0] 110)).cell? ⟨bP,oP+j * 3+1,none⟩=some (.int .i64 tr.x)∧(W2.alloc (.cells #[.string ⟨#[]⟩,.int .i64 0,.int .i64 0] 110)).cell? ⟨bP,oP+j * 3+2,none⟩=some (.int .i64 tr.y))∧(W2.alloc (.cells #[.string ⟨#[]⟩,.int .i64 0,.int .i64 0] 110)).heap[w.heap.size+1]?=some (.cells #[.int .i64 0,.int .i64 0] 77 (0,0))):=⟨below_step I2.out.1 hbz,⟨⟨cell_keep hbz (Nat.le_refl _) I2.out.2.1.1.1,cell_keep hbz (Nat.le_refl _) I2.out.2.1.1.2⟩,cell_keep hbz (Nat.le_refl _) I2.out.2.1.2.1,cell_keep hbz (Nat.le_refl _) I2.out.2.1.2.2.1,cell_keep hbz (Nat.le_refl _) I2.out.2.1.2.2.2⟩,below_block hbz I2.out.2.2⟩
  have XZ:Hid ((W2.alloc (.cells #[.string ⟨#[]⟩,.int .i64 0,.int .i64 0] 110)).heap[W2.heap.size]?=some (.cells #[.string ⟨#[]⟩,.int .i64 0,.int .i64 0] 110 (0,0))):=heap_newW W2 _
  have HXW:Hid (w.heap.size+1 < W2.heap.size∧bP < W2.heap.size):=⟨lt_of_block I2.out.2.2,lt_of_cell I2.out.2.1.2.1⟩
  refine hK.out _ _ I3.out.2.1 (fun _=>?_)
  clear hK K hbz I2
  generalize (W2.alloc (.cells #[.string ⟨#[]⟩,.int .i64 0,.int .i64 0] 110))=W3 at *
  generalize W2.heap.size=X at *
 rotate_left
 focus
  go_simp
  have hbz:Below W.heap.size W (W.alloc (.cells #[.string ⟨#[]⟩,.int .i64 0,.int .i64 0] 110)):=(Below.refl _ _).alloc (Nat.le_refl _) _
  have I2:Hid (Below w.heap.size w (W.alloc (.cells #[.string ⟨#[]⟩,.int .i64 0,.int .i64 0] 110))∧(((W.alloc (.cells #[.string ⟨#[]⟩,.int .i64 0,.int .i64 0] 110)).cell? ⟨w.heap.size,0,none⟩=some vk∧(W.alloc (.cells #[.string ⟨#[]⟩,.int .i64 0,.int .i64 0] 110)).cell? ⟨w.heap.size,1,none⟩=some (.slice (some ⟨bP,oP,none⟩) ps.length cp))∧(W.alloc (.cells #[.string ⟨#[]⟩,.int .i64 0,.int .i64 0] 110)).cell? ⟨bP,oP+j * 3,none⟩=some (.string tr.s)∧(W.alloc (.cells #[.string ⟨#[]⟩,.int .i64 0,.int .i64 0] 110)).cell? ⟨bP,oP+j * 3+1,none⟩=some (.int .i64 tr.x)∧(W.alloc (.cells #[.string ⟨#[]⟩,.int .i64 0,.int .i64 0] 110)).cell? ⟨bP,oP+j * 3+2,none⟩=some (.int .i64 tr.y))∧(W.alloc (.cells #[.string ⟨#[]⟩,.int .i64 0,.int .i64 0] 110)).heap[w.heap.size+1]?=some (.cells #[.int .i64 0,.int .i64 0] 77 (0,0))):=⟨below_step I0.out.1 hbz,⟨⟨cell_keep hbz (Nat.le_refl _) I0.out.2.1.1.1,cell_keep hbz (Nat.le_refl _) I0.out.2.1.1.2⟩,cell_keep hbz (Nat.le_refl _) I0.out.2.1.2.1,cell_keep hbz (Nat.le_refl _) I0.out.2.1.2.2.1,cell_keep hbz (Nat.le_refl _) I0.out.2.1.2.2.2⟩,below_block hbz I0.out.2.2⟩
  have XZ:Hid ((W.alloc (.cells #[.string ⟨#[]⟩,.int .i64 0,.int .i64 0] 110)).heap[W.heap.size]?=some (.cells #[.string ⟨#[]⟩,.int .i64 0,.int .i64 0] 110 (0,0))):=heap_newW W _
  have HXW:Hid (w.heap.size+1 < W.heap.size∧bP < W.heap.size):=⟨lt_of_block I0.out.2.2,lt_of_cell I0.out.2.1.2.1⟩
  refine hK.out _ _ I2.out.2.1 (fun _=>?_)
  clear hK K hbz I0
  generalize (W.alloc (.cells #[.string ⟨#[]⟩,.int .i64 0,.int .i64 0] 110))=W2 at *
  generalize W.heap.size=X at *
  refine rdH 4 rfl (fun K hK=>?_)
  go_simp
  refine (HAT.out _ I2.out.1).mono ?_
  rintro e W3 ⟨rfl,hbz⟩
  have I3:Hid (Below w.heap.size w W3∧((W3.cell? ⟨w.heap.size,0,none⟩=some vk∧W3.cell? ⟨w.heap.size,1,none⟩=some (.slice (some ⟨bP,oP,none⟩) ps.length cp))∧W3.cell? ⟨bP,oP+j * 3,none⟩=some (.string tr.s)∧W3.cell? ⟨bP,oP+j * 3+1,none⟩=some (.int .i64 tr.x)∧W3.cell? ⟨bP,oP+j * 3+2,none⟩=some (.int .i64 tr.y))∧W3.heap[w.heap.size+1]?=some (.cells #[.int .i64 0,.int .i64 0] 77 (0,0))):=⟨below_step I2.out.1 hbz,⟨⟨cell_keep hbz (Nat.le_refl _) I2.out.2.1.1.1,cell_keep hbz (Nat.le_refl _) I2.out.2.1.1.2⟩,cell_keep hbz (Nat.le_refl _) I2.out.2.1.2.1,cell_keep hbz (Nat.le_refl _) I2.out.2.1.2.2.1,cell_keep hbz (Nat.le_refl _) I2.out.2.1.2.2.2⟩,below_block hbz I2.out.2.2⟩
  have XZ2:Hid (W3.heap[X]?=some (.cells #[.string ⟨#[]⟩,.int .i64 0,.int .i64 0] 110 (0,0))):=below_block hbz XZ.out
  refine hK.out _ _ I3.out.2.1 (fun _=>?_)
  clear hK K hbz I2
  clear XZ
  have XZ:=XZ2
  clear XZ2
  have hHeld:=I3.out.2.1
  refine tkH 5 ?_ rfl ?_ (tkH 6 ?_ rfl ?_ ?_)
  iterate 2 (rotate_left; focus (intro w hSw; (try dsimp only at hSw); simp only [Act.put,tkS]; go_simp; try with_reducible rfl))
  simp only [Act.put,tkS]
  clear hHeld
 rotate_left
 all_goals
  refine rdH 8 rfl (fun K hK=>?_)
  refine step_store_rowC rfl 110 _ _ rfl X #[.string tr.s,.int .i64 tr.x,.int .i64 tr.y] rfl rfl 110 _ XZ.out (by kernel_rfl) rfl (by simp [Value.oneCell']) ?_
  have HO:Hid (∀ q:Nat,q ≠ X→(W3.setRow X #[.string tr.s,.int .i64 tr.x,.int .i64 tr.y]).heap[q]?=W3.heap[q]?):=fun q hq=>setRow_other _ _ _ _ hq
  have HXP:Hid ((W3.setRow X #[.string tr.s,.int .i64 tr.x,.int .i64 tr.y]).heap[X]?=some (.cells #[.string tr.s,.int .i64 tr.x,.int .i64 tr.y] 110 (0,0))):=setRow_heap _ _ _ _ _ _ XZ.out
  have HBF:Hid (Below w.heap.size w (W3.setRow X #[.string tr.s,.int .i64 tr.x,.int .i64 tr.y])):=below_setRow I3.out.1 (by have:=HXW.out; omega) _
  generalize (W3.setRow X #[.string tr.s,.int .i64 tr.x,.int .i64 tr.y])=wf at *
  have hHeld:(wf.cell? ⟨w.heap.size,0,none⟩=some vk∧wf.cell? ⟨w.heap.size,1,none⟩=some (.slice (some ⟨bP,oP,none⟩) ps.length cp))∧wf.cell? ⟨bP,oP+j * 3,none⟩=some (.string tr.s)∧wf.cell? ⟨bP,oP+j * 3+1,none⟩=some (.int .i64 tr.x)∧wf.cell? ⟨bP,oP+j * 3+2,none⟩=some (.int .i64 tr.y):=⟨⟨(World.cell?_of_block (HO.out w.heap.size (by have:=HXW.out; omega))).trans I3.out.2.1.1.1,(World.cell?_of_block (HO.out w.heap.size (by have:=HXW.out; omega))).trans I3.out.2.1.1.2⟩,(World.cell?_of_block (HO.out bP (by have:=HXW.out; omega))).trans I3.out.2.1.2.1,(World.cell?_of_block (HO.out bP (by have:=HXW.out; omega))).trans I3.out.2.1.2.2.1,(World.cell?_of_block (HO.out bP (by have:=HXW.out; omega))).trans I3.out.2.1.2.2.2⟩
  refine hK.out _ _ hHeld (fun _=>?_)
  clear hK K hHeld
  have hR:wf.heap[w.heap.size+1]?=some (.cells #[.int .i64 0,.int .i64 0] 77 (0,0)):=(HO.out _ (by have:=HXW.out; omega)).trans I3.out.2.2
  have hxp:=HXP.out
  have y1:wf.cell? ⟨X,1,none⟩=some (.int .i64 tr.x):=by simp [World.cell?,hxp]
  have y2:wf.cell? ⟨X,2,none⟩=some (.int .i64 tr.y):=by simp [World.cell?,hxp]
  clear hxp I3
  refine wpAnyH_done (by kernel_rfl) ?_ _
  refine NoPanic.normal ?_
  go_wp2_with (refine wpList_store_row rfl 77 _ _ rfl (w.heap.size+1) #[.int .i64 tr.x,.int .i64 tr.y] rfl rfl 77 _ hR (by kernel_rfl) rfl (by simp [Value.oneCell']) ?_)
  exact bodyPost_ret (v:=.agg #[.int .i64 tr.x,.int .i64 tr.y]) (by simp [results,Tryz.results72,go_sem,cell_setRow_same _ _ _ _ _ _ _ hR]) rfl ⟨by rw [HC.out],below_setRow HBF.out (by omega) _⟩
end Go.Proofs.YtbjmgglpiakgdaaGreatDoor
