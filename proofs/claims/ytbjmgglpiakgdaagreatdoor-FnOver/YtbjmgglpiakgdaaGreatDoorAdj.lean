import Derived.Test.YtbjmgglpiakgdaaGreatDoorWay9
set_option linter.unusedSimpArgs false
set_option linter.unusedVariables false
namespace Go.Proofs.YtbjmgglpiakgdaaGreatDoor
open Go.RowKit
theorem tat_turns {ps:List Tri} {ws:List ByteArray} {i:Nat} (h:i < ws.length):tat (turns ps ws) i=celOf ps (wat ws i):=by
 simp [tat,turns,wat,h]
theorem addr_two (g j:Nat):(⟨g,2,none⟩:Addr).add j=⟨g,2+j,none⟩:=by simp [Addr.add]
theorem CNew.tail {w:World} {B n cap g:Nat} {l:List Cel} (h:CNew w B (.slice (some ⟨g,0,none⟩) n cap) l):∀ j u,(celRows (l.drop 1))[j]?=some u→w.cell? ((⟨g,2,none⟩:Addr).add j)=some u:=by
 intro j u hu
 obtain ⟨a,cap',e,_,_,hc⟩:=h.at
 cases e
 have hj:=(List.getElem?_eq_some_iff.1 hu).1
 rw [celRows_len,List.length_drop] at hj
 have hi:j / 2+1 < l.length:=by omega
 obtain ⟨g',e9,e0,e1⟩:=hc (j / 2+1) _ (tat_get hi)
 cases e9
 have hd:(l.drop 1)[j / 2]?=some (tat l (j / 2+1)):=by rw [List.getElem?_drop,Nat.add_comm 1]; exact tat_get hi
 obtain ⟨f0,f1⟩:=celRows_get (l.drop 1) (j / 2) _ hd
 rcases (show j % 2=0 ∨ j % 2=1 by omega) with h2 | h2
 ·rw [show j / 2 * 2=j by omega,hu] at f0
  injection f0 with f0
  subst f0
  have ea:(⟨g,2,none⟩:Addr).add j=⟨g,(j / 2+1) * 2,none⟩:=by
   rw [addr_two]
   congr 1
   omega
  rw [ea]
  exact e0
 ·rw [show j / 2 * 2+1=j by omega,hu] at f1
  injection f1 with f1
  subst f1
  have ea:(⟨g,2,none⟩:Addr).add j=⟨g,(j / 2+1) * 2+1,none⟩:=by
   rw [addr_two]
   congr 1
   omega
  rw [ea]
  exact e1
theorem CNew.app {w:World} {B n m:Nat} {v:Value} {l r:List Cel} (hn:l.length=n) (hm:r.length=m) (h:w.ownsRow B 77 2 v (n+m) (celRows l ++ celRows r)):CNew w B v (l ++ r):=by
 unfold CNew
 rw [List.length_append]
 have e:celRows (l ++ r)=celRows l ++ celRows r:=by simp [celRows]
 rw [e,hn,hm]
 exact h
theorem cel_one (l:List Cel):∀ u ∈ celRows l,u.oneCell'=true:=fun u hu=>by
 obtain ⟨c,_,hc⟩:=List.mem_flatMap.1 hu
 simp [celRow] at hc
 rcases hc with rfl | rfl <;> rfl
set_option maxRecDepth 100000 in
set_option maxHeartbeats 12800000 in
theorem specCells_any (vk vp v:Value) (ks ps:List Tri) (ws:List ByteArray) (w:World) (hk:TrisAt w vk ks) (hp:TrisAt w vp ps) (nk:Names ks) (np:Names ps) (hst:StrsAt w v ws) :
  Calls Tryz.prog 28 #[.agg #[vk,vp],v] w fun e w'=>∃ u,e=.returned (.tuple #[u,.bool (cellsOkB ks ps ws)])∧CNew w' w.heap.size u (cellsR ks ps ws)∧Below w.heap.size w w':=by
 obtain ⟨i0,hi0,hz0,hz1,hz2⟩:=info_parts infoCell
 have HA:Hid (Below w.heap.size w (w.alloc (.cells #[vk,vp] 26))):=(Below.refl _ _).alloc (Nat.le_refl _) _
 have HZ:Hid ((w.alloc (.cells #[vk,vp] 26)).heap.size=w.heap.size+1):=by show _=_; simp
 have Q0:Hid (∀ wx:World,Below (w.alloc (.cells #[vk,vp] 26)).heap.size (w.alloc (.cells #[vk,vp] 26)) wx→(wx.cell? ⟨w.heap.size,0,none⟩=some vk∧wx.cell? ⟨w.heap.size,1,none⟩=some vp)):=fun wx hx=>⟨cell_keep hx (Nat.le_refl _) (by simp [go_sem]),cell_keep hx (Nat.le_refl _) (by simp [go_sem])⟩
 have GB:Hid (∀ wx:World,Below w.heap.size w wx→Calls Tryz.prog 42 #[.agg #[vk,vp]] wx fun e w'=>e=.returned (.bool (kindsB ks && pointsB ps))∧Below wx.heap.size wx w'):=fun wx hx=>specBase_any vk vp ks ps wx (hk.keep hx) (hp.keep hx) nk np
 have GR:Hid (pointsB ps=true→∀ wx:World,Below w.heap.size w wx→Calls Tryz.prog 71 #[.agg #[vk,vp],v] wx fun e w'=>e=.returned (.bool (routeB ps ws))∧Below wx.heap.size wx w'):=fun hpp wx hx=>l2RouteOk_any vk vp v ps ws wx (hp.keep hx) (hst.keep hx) (fun x=>(has_mem (points_asc hpp)).symm)
 have GA:Hid (pointsB ps=true→∀ x,hasB ps x=true→∀ wx:World,Below w.heap.size w wx→Calls Tryz.prog 72 #[.agg #[vk,vp],.string x] wx fun e w'=>e=.returned (cv (celOf ps x))∧Below wx.heap.size wx w'):=fun hpp x hx wx hwx=>l7At_any vk vp ps x wx (hp.keep hwx) hpp hx
 have HST:Hid (∀ wx:World,Below w.heap.size w wx→StrsAt wx v ws):=fun wx hx=>hst.keep hx
 obtain ⟨g,off,cap,rfl,hlc,hcm,-⟩:=hst
 unfold maxLen at hcm
 clear hk hp
 have W1B:Hid (Below (w.alloc (.cells #[vk,vp] 26)).heap.size (w.alloc (.cells #[vk,vp] 26)) ((w.alloc (.cells #[vk,vp] 26)).alloc (.cells #[] 77))):=(Below.refl _ _).alloc (Nat.le_refl _) _
 have HR:Hid (((w.alloc (.cells #[vk,vp] 26)).alloc (.cells #[] 77)).heap[w.heap.size+1]?=some (.cells #[] 77 (0,0))):=by
  have h:=heap_newW (w.alloc (.cells #[vk,vp] 26)) (.cells #[] 77)
  rw [show (w.alloc (.cells #[vk,vp] 26)).heap.size=w.heap.size+1 by simp] at h
  exact h
 have p0:((w.alloc (.cells #[vk,vp] 26)).alloc (.cells #[] 77)).cell? ⟨w.heap.size,0,none⟩=some vk:=by simp [go_sem]
 have p1:((w.alloc (.cells #[vk,vp] 26)).alloc (.cells #[] 77)).cell? ⟨w.heap.size,1,none⟩=some vp:=by simp [go_sem]
 go_enter Tryz.func28,Tryz.ntmps28
 go_wp2_with fail
 generalize ((w.alloc (.cells #[vk,vp] 26)).alloc (.cells #[] 77))=w1 at *
 generalize (w.alloc (.cells #[vk,vp] 26))=wA at *
 have J1:Hid (w1.ownsRow (w.heap.size+1) 77 2 (.slice (some ⟨w.heap.size+1,0,none⟩) 0 0) 0 []):=⟨rfl,.inr ⟨w.heap.size+1,0,#[],rfl,Nat.le_refl _,HR.out,Nat.le_refl _,Nat.zero_le _,rfl,rfl⟩⟩
 refine (GB.out _ (below_step HA.out W1B.out)).mono ?_
 rintro e w2 ⟨rfl,hb2⟩
 have B2:Hid (Below wA.heap.size wA w2):=below_step W1B.out hb2
 have J2:Hid (w2.ownsRow (w.heap.size+1) 77 2 (.slice (some ⟨w.heap.size+1,0,none⟩) 0 0) 0 []):=ownC_keep J1.out hb2
 clear hb2 p0 p1 W1B HR J1
 obtain ⟨p0,p1⟩:=Q0.out _ B2.out
 cases hbb:(kindsB ks && pointsB ps)
 ·have HE:Hid (cellsOkB ks ps ws=false∧cellsR ks ps ws=[]):=by
   have h:cellsOkB ks ps ws=false:=by unfold cellsOkB; rw [hbb]; rfl
   exact ⟨h,by unfold cellsR; rw [h]; rfl⟩
  clear hbb
  go_wp2
  go_ret2
  exact ⟨.slice (some ⟨w.heap.size+1,0,none⟩) 0 0,by rw [HE.out.1]; rfl,by rw [HE.out.2]; exact ownC_mono J2.out (by omega),below_step HA.out B2.out⟩
 have HBB:Hid ((kindsB ks && pointsB ps)=true):=hbb
 have HPP:Hid (pointsB ps=true):=by have h:=hbb; rw [Bool.and_eq_true] at h; exact h.2
 clear hbb
 go_wp2_with fail
 refine (GR.out HPP.out _ (below_step HA.out B2.out)).mono ?_
 rintro e w3 ⟨rfl,hb3⟩
 have B3:Hid (Below wA.heap.size wA w3):=below_step B2.out hb3
 have J3:Hid (w3.ownsRow (w.heap.size+1) 77 2 (.slice (some ⟨w.heap.size+1,0,none⟩) 0 0) 0 []):=ownC_keep J2.out hb3
 clear hb3 p0 p1 B2 J2
 obtain ⟨p0,p1⟩:=Q0.out _ B3.out
 cases hrr:routeB ps ws
 ·have HE:Hid (cellsOkB ks ps ws=false∧cellsR ks ps ws=[]):=by
   have h:cellsOkB ks ps ws=false:=by unfold cellsOkB; rw [HBB.out,hrr]; rfl
   exact ⟨h,by unfold cellsR; rw [h]; rfl⟩
  clear hrr
  go_wp2
  go_ret2
  exact ⟨.slice (some ⟨w.heap.size+1,0,none⟩) 0 0,by rw [HE.out.1]; rfl,by rw [HE.out.2]; exact ownC_mono J3.out (by omega),below_step HA.out B3.out⟩
 have HRR:Hid (routeB ps ws=true):=hrr
 clear hrr
 have HIN:Hid (∀ c ∈ turns ps ws,c.In):=turns_in HPP.out HRR.out
 have HTL:Hid ((turns ps ws).length=ws.length):=by show _=_; unfold turns; rw [List.length_map]
 obtain ⟨hw2,hw8⟩:=(route_all HRR.out).1
 have HHS:Hid (∀ i,i < ws.length→hasB ps (wat ws i)=true):=(route_all HRR.out).2
 have HCI:Hid (∀ i,i < ws.length→(celOf ps (wat ws i)).In):=fun i hi=>celOf_in HPP.out (HHS.out i hi)
 have HAL:Hid (∀ k,k≤ws.length→(alongTo (tat (turns ps ws)) k).length≤121):=fun k hk=>by
  have h:=alongTo_len HIN.out k (by rw [HTL.out]; exact hk)
  omega
 have r0:w3.cell? ⟨g,off,none⟩=some (.string (wat ws 0)):=by simpa using (HST.out _ (below_step HA.out B3.out)).cell 0 (by omega)
 have hj0:(0:Int) < (ws.length:Int):=by omega
 have hj1:0 < ws.length:=by omega
 go_wp2_with fail
 refine wp_region_noPanic ?_
 refine wp_region_held_drew (S:=fun w'=>(w'.cell? ⟨w.heap.size,0,none⟩=some vk∧w'.cell? ⟨w.heap.size,1,none⟩=some vp)∧w'.cell? ⟨g,off,none⟩=some (.string (wat ws 0))) (by kernel_rfl) ?_ (fun hHeld=>?_)
 ·exact ⟨⟨cell_keep (Below.refl _ _).drew (Nat.le_refl _) p0,cell_keep (Below.refl _ _).drew (Nat.le_refl _) p1⟩,cell_keep (Below.refl _ _).drew (Nat.le_refl _) r0⟩
 have I0:Hid (Below wA.heap.size wA w3.drew∧w3.drew.ownsRow (w.heap.size+1) 77 2 (.slice (some ⟨w.heap.size+1,0,none⟩) 0 0) 0 []):=⟨below_step B3.out (Below.refl _ _).drew,ownC_keep J3.out (Below.refl _ _).drew⟩
 clear B3 J3 p0 p1 r0
 have QS:Hid (∀ wx:World,Below wA.heap.size wA wx→(wx.cell? ⟨w.heap.size,0,none⟩=some vk∧wx.cell? ⟨w.heap.size,1,none⟩=some vp)∧wx.cell? ⟨g,off,none⟩=some (.string (wat ws 0))):=fun wx hx=>⟨Q0.out _ hx,by simpa using (HST.out _ (below_step HA.out hx)).cell 0 (by omega)⟩
 generalize w3.drew=W at *
 refine tkH 0 ?_ rfl ?_ (tkH 1 ?_ rfl ?_ (tkH 2 ?_ rfl ?_ (tkH 3 ?_ rfl ?_ (tkH 4 ?_ rfl ?_ ?_))))
 iterate 5 (rotate_left; focus (intro w hSw; (try dsimp only at hSw); simp only [Act.put,tkS]; go_simp; try with_reducible rfl))
 simp only [Act.put,tkS]
 clear hHeld
 refine rdH 5 rfl (fun K hK=>?_)
 go_simp
 refine (GA.out HPP.out _ (HHS.out 0 (by omega)) _ (below_step HA.out I0.out.1)).mono ?_
 rintro e W2 ⟨rfl,hbz⟩
 have I2:Hid (Below wA.heap.size wA W2∧W2.ownsRow (w.heap.size+1) 77 2 (.slice (some ⟨w.heap.size+1,0,none⟩) 0 0) 0 []):=⟨below_step I0.out.1 hbz,ownC_keep I0.out.2 hbz⟩
 refine hK.out _ _ (QS.out _ I2.out.1) (fun _=>?_)
 clear hK K hbz I0
 have HT0:Hid (tat (turns ps ws) 0=celOf ps (wat ws 0)):=tat_turns (by omega)
 generalize celOf ps (wat ws 0)=c0 at *
 have hAl:Below W2.heap.size W2 (W2.alloc (.cells #[.int .i64 c0.x,.int .i64 c0.y] 77)):=(Below.refl _ _).alloc (Nat.le_refl _) _
 have I3:Hid (Below wA.heap.size wA (W2.alloc (.cells #[.int .i64 c0.x,.int .i64 c0.y] 77))∧(W2.alloc (.cells #[.int .i64 c0.x,.int .i64 c0.y] 77)).ownsRow (w.heap.size+1) 77 2 (.slice (some ⟨w.heap.size+1,0,none⟩) 0 0) 0 []):=⟨below_step I2.out.1 hAl,ownC_keep I2.out.2 hAl⟩
 have HNB:Hid ((W2.alloc (.cells #[.int .i64 c0.x,.int .i64 c0.y] 77)).heap[W2.heap.size]?=some (.cells #[.int .i64 c0.x,.int .i64 c0.y] 77 (0,0))):=heap_newW W2 _
 clear hAl I2
 refine rdH 6 rfl (fun K hK=>?_)
 go_simp
 refine hK.out _ _ (QS.out _ I3.out.1) (fun _=>?_)
 clear hK K
 generalize (W2.alloc (.cells #[.int .i64 c0.x,.int .i64 c0.y] 77))=W3 at *
 generalize W2.heap.size=XN at *
 refine rdH 7 rfl (fun K hK=>?_)
 refine step_append_any _ rfl _ _ 73 rfl (w.heap.size+1) 77 i0 _ 2 16 Tryz.underlying73 hi0 hz0 hz1 hz2 rfl (by decide) _ 0 _ rfl I3.out.2 _ 1 1 [.int .i64 c0.x,.int .i64 c0.y] rfl (.inr ⟨_,rfl,World.news_of_block HNB.out⟩) rfl (fun u hu=>by simp at hu; rcases hu with rfl | rfl <;> rfl) (by unfold maxLen; omega) (by omega) (by have h1:=I3.out.1.size; have h2:=HZ.out; omega) ?_
 intro vq wx hown hgrow hat
 have I4:Hid (CNew wx (w.heap.size+1) vq (alongTo (tat (turns ps ws)) 1)∧Below wA.heap.size wA wx):=by
  refine ⟨?_,I3.out.1.grown hgrow I3.out.1.size (fun q hq=>by have h1:=ownC_ge I3.out.2 q hq; have h2:=HZ.out; omega)⟩
  show CNew wx (w.heap.size+1) vq [tat (turns ps ws) 0]
  rw [HT0.out]
  exact hown
 obtain ⟨qa,qc,rfl⟩:=ownC_slice hown
 have hHeld:=QS.out _ I4.out.2
 refine hK.out _ _ hHeld (fun _=>?_)
 clear hK K hown hgrow hat I3 HNB
 refine tkH 8 ?_ rfl ?_ ?_; rotate_left
 ·intro w hSw; (try dsimp only at hSw); go_simp; try with_reducible rfl
 simp only [Act.put,tkS]
 clear hHeld QS
 refine wpAnyH_done (by kernel_rfl) ?_ _
 refine NoPanic.normal ?_
 go_wp2_with fail
 go_loopw [6,7] (fun v i wr=>∃ k:Nat,1≤k∧k≤ws.length∧i=.int .i64 k∧(∃ a' c',v=.slice a' (alongTo (tat (turns ps ws)) k).length c')∧Hid (CNew wr (w.heap.size+1) v (alongTo (tat (turns ps ws)) k)∧Below wA.heap.size wA wr)) (fun _ i _=>ws.length - (intOf i).toNat)
 case atStart=>exact ⟨1,Nat.le_refl _,by omega,rfl,⟨_,_,rfl⟩,I4⟩
 case round =>
  clear I4
  obtain ⟨k,hk0,hk,rfl,⟨a',c',rfl⟩,HI⟩:=hrel
  by_cases hlt:k < ws.length
  ·have HTA:Hid (tat (turns ps ws) (k - 1)=celOf ps (wat ws (k - 1))):=tat_turns (by omega)
   have HTB:Hid (tat (turns ps ws) k=celOf ps (wat ws k)):=tat_turns hlt
   have HSt:Hid (alongTo (tat (turns ps ws)) (k+1)=alongTo (tat (turns ps ws)) k ++ legI (celOf ps (wat ws (k - 1))) (celOf ps (wat ws k))):=by
    show _=_
    rw [alongTo_step _ _ (by omega),HTA.out,HTB.out]
   have hAk:=HAL.out k hk
   have hAk2:=HAL.out (k+1) (by omega)
   rw [HSt.out,List.length_append] at hAk2
   have QS:Hid (∀ wx:World,Below wA.heap.size wA wx→(wx.cell? ⟨w.heap.size,0,none⟩=some vk∧wx.cell? ⟨w.heap.size,1,none⟩=some vp)∧wx.cell? ⟨g,off+(k - 1),none⟩=some (.string (wat ws (k - 1)))∧wx.cell? ⟨g,off+k,none⟩=some (.string (wat ws k))):=fun wx hx=>⟨Q0.out _ hx,(HST.out _ (below_step HA.out hx)).cell (k - 1) (by omega),(HST.out _ (below_step HA.out hx)).cell k hlt⟩
   have HIA:=HCI.out (k - 1) (by omega)
   have HIB:=HCI.out k hlt
   have HHA:Hid (hasB ps (wat ws (k - 1))=true∧hasB ps (wat ws k)=true):=⟨HHS.out _ (by omega),HHS.out _ hlt⟩
   have hwr:IntKind.i64.wrap ((k:Int) - 1)=((k - 1:Nat):Int):=by rw [IntKind.wrap_i64]; omega
   have hj2:(0:Int)≤((k - 1:Nat):Int):=by omega
   have hj3:((k - 1:Nat):Int) < (ws.length:Int):=by omega
   have hj4:(0:Int)≤(k:Int):=by omega
   have hj5:(k:Int) < (ws.length:Int):=by omega
   have hj6:k - 1 < ws.length:=by omega
   generalize alongTo (tat (turns ps ws)) k=P at *
   have I0:Hid (Below wA.heap.size wA wr.drew∧CNew wr.drew (w.heap.size+1) (.slice a' P.length c') P):=⟨below_step HI.out.2 (Below.refl _ _).drew,ownC_keep HI.out.1 (Below.refl _ _).drew⟩
   go_wp2_with fail
   refine wp_region_noPanic ?_
   refine wp_region_held_drew (S:=fun w'=>(w'.cell? ⟨w.heap.size,0,none⟩=some vk∧w'.cell? ⟨w.heap.size,1,none⟩=some vp)∧w'.cell? ⟨g,off+(k - 1),none⟩=some (.string (wat ws (k - 1)))∧w'.cell? ⟨g,off+k,none⟩=some (.string (wat ws k))) (by kernel_rfl) ?_ (fun hHeld=>?_)
   ·exact QS.out _ I0.out.1
   clear HI
   generalize wr.drew=W at *
   refine tkH 0 ?_ rfl ?_ (tkH 1 ?_ rfl ?_ (tkH 2 ?_ rfl ?_ (tkH 3 ?_ rfl ?_ (tkH 4 ?_ rfl ?_ (tkH 5 ?_ rfl ?_ (tkH 6 ?_ rfl ?_ (tkH 8 ?_ rfl ?_ (tkH 9 ?_ rfl ?_ (tkH 10 ?_ rfl ?_ (tkH 11 ?_ rfl ?_ (tkH 12 ?_ rfl ?_ ?_)))))))))))
   iterate 12 (rotate_left; focus (intro w hSw; (try dsimp only at hSw); simp only [Act.put,tkS]; go_simp; try with_reducible rfl))
   simp only [Act.put,tkS]
   clear hHeld
   refine rdH 7 rfl (fun K hK=>?_)
   go_simp
   refine (GA.out HPP.out _ HHA.out.1 _ (below_step HA.out I0.out.1)).mono ?_
   rintro e W2 ⟨rfl,hbz⟩
   have I2:Hid (Below wA.heap.size wA W2∧CNew W2 (w.heap.size+1) (.slice a' P.length c') P):=⟨below_step I0.out.1 hbz,ownC_keep I0.out.2 hbz⟩
   refine hK.out _ _ (QS.out _ I2.out.1) (fun _=>?_)
   clear hK K hbz I0
   refine rdH 13 rfl (fun K hK=>?_)
   go_simp
   refine (GA.out HPP.out _ HHA.out.2 _ (below_step HA.out I2.out.1)).mono ?_
   rintro e W3 ⟨rfl,hbz⟩
   have I3:Hid (Below wA.heap.size wA W3∧CNew W3 (w.heap.size+1) (.slice a' P.length c') P):=⟨below_step I2.out.1 hbz,ownC_keep I2.out.2 hbz⟩
   refine hK.out _ _ (QS.out _ I3.out.1) (fun _=>?_)
   clear hK K hbz I2
   generalize celOf ps (wat ws (k - 1))=ca at *
   generalize celOf ps (wat ws k)=cb at *
   refine rdH 14 rfl (fun K hK=>?_)
   go_simp
   refine (l7Leg_any ca cb _ HIA HIB).mono ?_
   rintro e W4 ⟨u,rfl,hu,hbz⟩
   have I4:Hid (Below wA.heap.size wA W4∧CNew W4 (w.heap.size+1) (.slice a' P.length c') P):=⟨below_step I3.out.1 hbz,ownC_keep I3.out.2 hbz⟩
   obtain ⟨aL,cL,rfl⟩:=ownC_slice hu
   have hll:(legS ca cb).length=NNat ca cb+1:=legS_len ca cb
   obtain ⟨BL,rfl⟩:∃ BL,aL=some ⟨BL,0,none⟩:=by
    rcases hu.2 with ⟨h,h0⟩ | ⟨g,cap,cur,h,_⟩
    ·omega
    ·injection h with h1 h2 h3
     exact ⟨g,h1⟩
   have hcL:(legS ca cb).length≤cL:=by
    obtain ⟨x1,x2,x3,x4,_⟩:=hu.at
    injection x3 with _ _ x5
    omega
   have U4:Hid (CNew W4 W3.heap.size (.slice (some ⟨BL,0,none⟩) (NNat ca cb+1) cL) (legS ca cb)):=by
    have h:=hu
    rw [hll] at h
    exact h
   have HLL:Hid ((legI ca cb).length=NNat ca cb):=legI_len ca cb
   have HSM:Hid ((legS ca cb).drop 1=legI ca cb):=leg_same ca cb
   rw [hll] at hcL
   rw [hll]
   have hHeld:=QS.out _ I4.out.1
   refine hK.out _ _ hHeld (fun _=>?_)
   clear hK K hbz I3 hu hll
   rw [HLL.out] at hAk2
   generalize NNat ca cb=m at *
   have hm1:(1:Int)≤(m:Int)+1:=by omega
   refine tkH 15 ?_ rfl ?_ ?_; rotate_left
   ·intro w hSw; (try dsimp only at hSw); go_simp; try with_reducible rfl
   simp only [Act.put,tkS]
   clear hHeld
   refine rdH 16 rfl (fun K hK=>?_)
   have hid:=I4.out.2
   refine step_append_any _ rfl _ _ 73 rfl (w.heap.size+1) 77 i0 _ 2 16 Tryz.underlying73 hi0 hz0 hz1 hz2 rfl (by decide) _ P.length _ rfl hid _ m (cL - 1) (celRows (legI ca cb)) rfl (by
    by_cases hc1:cL=1
    ·left; omega
    ·right
     rw [if_neg hc1]
     exact ⟨_,rfl,fun j u hju=>U4.out.tail j u (by rw [HSM.out]; exact hju)⟩) (by rw [celRows_len,HLL.out]) (cel_one _) (by unfold maxLen; omega) (by omega) (by have h1:=I4.out.1.size; have h2:=HZ.out; omega) ?_
   intro vq wx hown hgrow hat
   have I5:Hid (CNew wx (w.heap.size+1) vq (alongTo (tat (turns ps ws)) (k+1))∧Below wA.heap.size wA wx):=by
    refine ⟨?_,I4.out.1.grown hgrow I4.out.1.size (fun q hq=>by have h1:=ownC_ge hid q hq; have h2:=HZ.out; omega)⟩
    rw [HSt.out]
    exact CNew.app rfl HLL.out hown
   obtain ⟨qa,qc,rfl⟩:=ownC_slice hown
   have hHeld:=QS.out _ I5.out.2
   refine hK.out _ _ hHeld (fun _=>?_)
   clear hK K hown hgrow hat I4 U4
   refine tkH 17 ?_ rfl ?_ ?_; rotate_left
   ·intro w hSw; (try dsimp only at hSw); go_simp; try with_reducible rfl
   simp only [Act.put,tkS]
   clear hHeld QS
   refine wpAnyH_done (by kernel_rfl) ?_ _
   refine NoPanic.normal ?_
   have HLN:Hid ((alongTo (tat (turns ps ws)) (k+1)).length=P.length+m):=by show _=_; rw [HSt.out,List.length_append,HLL.out]
   go_wp2
   all_goals exact ⟨⟨k+1,by omega,by omega,by omega,HLN.out.symm,I5⟩,by simp [intOf]; omega⟩
  ·have HKN:Hid (alongTo (tat (turns ps ws)) k=cellsL ps ws):=by
    show _=_
    unfold cellsL
    rw [show k=ws.length by omega]
   have hAk:=HAL.out k hk
   rw [HKN.out] at hAk HI
   rw [HKN.out]
   have hz9:=HI.out.2.size
   by_cases h40:(cellsL ps ws).length≤40
   ·have HE:Hid (cellsOkB ks ps ws=true∧cellsR ks ps ws=cellsL ps ws):=by
     have h:cellsOkB ks ps ws=true:=by unfold cellsOkB; rw [HBB.out,HRR.out,decide_eq_true h40]; rfl
     exact ⟨h,by unfold cellsR; rw [h]; rfl⟩
    go_wp2
    go_ret2
    exact ⟨.slice a' (cellsL ps ws).length c',by rw [HE.out.1]; rfl,by rw [HE.out.2]; exact ownC_mono HI.out.1 (by omega),below_step HA.out HI.out.2⟩
   ·have HE:Hid (cellsOkB ks ps ws=false∧cellsR ks ps ws=[]):=by
     have h:cellsOkB ks ps ws=false:=by unfold cellsOkB; rw [decide_eq_false h40]; simp
     exact ⟨h,by unfold cellsR; rw [h]; rfl⟩
    have HZ9:Hid (CNew (wr.alloc (.cells #[] 77)) w.heap.size (.slice (some ⟨wr.heap.size,0,none⟩) 0 0) []∧Below w.heap.size w (wr.alloc (.cells #[] 77))):=⟨⟨rfl,.inr ⟨wr.heap.size,0,#[],rfl,(below_step HA.out HI.out.2).size,heap_newW wr _,Nat.le_refl _,Nat.zero_le _,rfl,rfl⟩⟩,below_step (below_step HA.out HI.out.2) ((Below.refl _ _).alloc (Nat.le_refl _) _)⟩
    go_wp2
    go_ret2
    exact ⟨.slice (some ⟨wr.heap.size,0,none⟩) 0 0,by rw [HE.out.1]; rfl,by rw [HE.out.2]; exact HZ9.out.1,HZ9.out.2⟩
open Go.RowKit
def nxt (a b:Cel):Prop:=-1≤a.x - b.x∧a.x - b.x≤1∧-1≤a.y - b.y∧a.y - b.y≤1∧(a.x ≠ b.x ∨ a.y ≠ b.y)
theorem nxt_symm {a b:Cel} (h:nxt a b):nxt b a:=by
 unfold nxt at *
 omega
theorem partS_step (d k n:Int) (hn:0 < n) (h1:-n≤d) (h2:d≤n):-1≤partS d (k+1) n - partS d k n∧partS d (k+1) n - partS d k n≤1:=by
 unfold partS
 have e:2 * (k+1) * d+n=2 * k * d+n+2 * d:=by
  rw [Int.mul_add,Int.add_mul]
  omega
 rw [e]
 generalize 2 * k * d+n=A
 have hN:0 < 2 * n:=by omega
 have q1:=Int.emod_add_mul_ediv A (2 * n)
 have q2:=Int.emod_add_mul_ediv (A+2 * d) (2 * n)
 have r1:=Int.emod_nonneg A (show (2 * n) ≠ 0 by omega)
 have r2:=Int.emod_lt_of_pos A hN
 have r3:=Int.emod_nonneg (A+2 * d) (show (2 * n) ≠ 0 by omega)
 have r4:=Int.emod_lt_of_pos (A+2 * d) hN
 generalize A / (2 * n)=u at *
 generalize (A+2 * d) / (2 * n)=v at *
 generalize A % (2 * n)=r at *
 generalize (A+2 * d) % (2 * n)=s at *
 have e2:2 * n * (v - u)=2 * d+r - s:=by
  rw [Int.mul_sub]
  omega
 constructor
 ·apply Int.not_lt.1
  intro hlt
  have h:=Int.mul_le_mul_of_nonneg_left (show v - u≤-2 by omega) (show (0:Int)≤2 * n by omega)
  omega
 ·apply Int.not_lt.1
  intro hlt
  have h:=Int.mul_le_mul_of_nonneg_left (show 2≤v - u by omega) (show (0:Int)≤2 * n by omega)
  omega
theorem partS_full (k n:Int) (hn:0 < n):partS n k n=k:=by
 unfold partS
 rw [show 2 * k * n+n=n+(2 * n) * k by rw [Int.mul_comm 2 k,Int.mul_assoc,Int.mul_comm k]; omega,Int.add_mul_ediv_left _ _ (by omega),Int.ediv_eq_zero_of_lt (by omega) (by omega)]
 omega
theorem partS_fullN (k n:Int) (hn:0 < n):partS (-n) k n=-k:=by
 unfold partS
 rw [show 2 * k * -n+n=n+(2 * n) * -k by rw [Int.mul_comm 2 k,Int.mul_assoc,Int.mul_comm k,Int.mul_neg,Int.neg_mul,Int.mul_neg]; omega,Int.add_mul_ediv_left _ _ (by omega),Int.ediv_eq_zero_of_lt (by omega) (by omega)]
 omega
theorem partS_end (d n:Int) (hn:0 < n):partS d n n=d:=by
 unfold partS
 rw [show 2 * n * d+n=n+(2 * n) * d by omega,Int.add_mul_ediv_left _ _ (by omega),Int.ediv_eq_zero_of_lt (by omega) (by omega)]
 omega
theorem legN_bounds (a b:Cel):(-legN a b≤b.x - a.x∧b.x - a.x≤legN a b)∧(-legN a b≤b.y - a.y∧b.y - a.y≤legN a b)∧(b.x - a.x=legN a b ∨ b.x - a.x=-legN a b ∨ b.y - a.y=legN a b ∨ b.y - a.y=-legN a b):=by
 unfold legN maxI absI
 split <;> split <;> split <;> omega
theorem nxt_celS (a b:Cel) (k:Int) (h:0 < legN a b):nxt (celS a b k) (celS a b (k+1)):=by
 obtain ⟨⟨x1,x2⟩,⟨y1,y2⟩,hc⟩:=legN_bounds a b
 have sx:=partS_step (b.x - a.x) k _ h x1 x2
 have sy:=partS_step (b.y - a.y) k _ h y1 y2
 unfold nxt celS
 dsimp only
 refine ⟨by omega,by omega,by omega,by omega,?_⟩
 rcases hc with e | e | e | e
 ·left
  rw [e,partS_full _ _ h,partS_full _ _ h]
  omega
 ·left
  rw [e,partS_fullN _ _ h,partS_fullN _ _ h]
  omega
 ·right
  rw [e,partS_full _ _ h,partS_full _ _ h]
  omega
 ·right
  rw [e,partS_fullN _ _ h,partS_fullN _ _ h]
  omega
theorem celS_end (a b:Cel) (h:0 < legN a b):celS a b (legN a b)=b:=by
 unfold celS
 rw [partS_end _ _ h,partS_end _ _ h]
 cases b
 simp
 omega
theorem legN_zero {a b:Cel} (h:¬ 0 < legN a b):a=b:=by
 obtain ⟨⟨x1,x2⟩,⟨y1,y2⟩,-⟩:=legN_bounds a b
 have:=legN_nonneg a b
 cases a
 cases b
 dsimp only at *
 rw [show (0:Int)=0 from rfl] at this
 congr 1 <;> omega
theorem celI_S (a b:Cel) (g:Nat) (h:0 < legN a b):celI a b g=bif lesser a b then celS a b ((g:Int)+1) else celS b a (legN b a - ((g:Int)+1)):=by
 unfold celI
 rw [celW_eq a b _ h,celW_eq b a _ (by rw [legN_comm]; exact h),legN_comm a b]
theorem celI_first (a b:Cel) (h:0 < legN a b):nxt a (celI a b 0):=by
 have h':0 < legN b a:=by rw [legN_comm]; exact h
 rw [celI_S a b 0 h]
 cases lesser a b
 ·have e:=nxt_celS b a (legN b a - 1) h'
  rw [show legN b a - 1+1=legN b a by omega,celS_end b a h'] at e
  exact nxt_symm e
 ·have e:=nxt_celS a b 0 h
  rw [celS_zero a b h] at e
  exact e
theorem celI_next (a b:Cel) (g:Nat) (h:0 < legN a b):nxt (celI a b g) (celI a b (g+1)):=by
 have h':0 < legN b a:=by rw [legN_comm]; exact h
 rw [celI_S a b g h,celI_S a b (g+1) h]
 cases lesser a b
 ·have e:=nxt_celS b a (legN b a - ((g:Int)+1+1)) h'
  rw [show legN b a - ((g:Int)+1+1)+1=legN b a - ((g:Int)+1) by omega] at e
  have e2:=nxt_symm e
  simpa using e2
 ·have e:=nxt_celS a b ((g:Int)+1) h
  simpa using e
theorem celI_last (a b:Cel) (h:0 < legN a b):celI a b ((legN a b).toNat - 1)=b:=by
 have h':0 < legN b a:=by rw [legN_comm]; exact h
 rw [celI_S a b _ h]
 have e:(((legN a b).toNat - 1:Nat):Int)+1=legN a b:=by omega
 rw [e]
 cases lesser a b
 ·rw [legN_comm a b,Int.sub_self]
  exact celS_zero b a h'
 ·exact celS_end a b h
def Ch (l:List Cel):Prop:=∀ k,k+1 < l.length→nxt (tat l k) (tat l (k+1))
theorem tat_left {l m:List Cel} {k:Nat} (h:k < l.length):tat (l ++ m) k=tat l k:=by
 simp [tat,List.getD,List.getElem?_append_left h]
theorem tat_right {l m:List Cel} {k:Nat} (h:l.length≤k):tat (l ++ m) k=tat m (k - l.length):=by
 simp [tat,List.getD,List.getElem?_append_right h]
theorem Ch.app {l m:List Cel} (hl:Ch l) (hm:Ch m) (h0:1≤l.length) (hj:1≤m.length→nxt (tat l (l.length - 1)) (tat m 0)):Ch (l ++ m):=fun k hk=>by
 rw [List.length_append] at hk
 by_cases h1:k+1 < l.length
 ·rw [tat_left (by omega),tat_left h1]
  exact hl k h1
 ·by_cases h2:k < l.length
  ·have e:k=l.length - 1:=by omega
   rw [tat_left h2,tat_right (by omega),show k+1 - l.length=0 by omega,e]
   exact hj (by omega)
  ·rw [tat_right (by omega),tat_right (by omega),show k+1 - l.length=(k - l.length)+1 by omega]
   exact hm _ (by omega)
theorem legI_tat (a b:Cel) (k:Nat) (hk:k < (legN a b).toNat):tat (legI a b) k=celI a b k:=by
 simp [tat,legI,hk]
theorem legI_ch (a b:Cel):Ch (legI a b):=fun k hk=>by
 rw [legI_len] at hk
 rw [legI_tat a b k (by omega),legI_tat a b (k+1) hk]
 exact celI_next a b k (by omega)
theorem along_ch (t:Nat→Cel):∀ n,Ch (alongTo t (n+1))∧1≤(alongTo t (n+1)).length∧tat (alongTo t (n+1)) ((alongTo t (n+1)).length - 1)=t n
 | 0=>⟨fun k hk=>by simp [alongTo] at hk,by simp [alongTo],by simp [alongTo,tat]⟩
 | n+1=>by
  obtain ⟨h1,h2,h3⟩:=along_ch t n
  rw [alongTo]
  by_cases h:0 < legN (t n) (t (n+1))
  ·have hl:=legI_len (t n) (t (n+1))
   refine ⟨h1.app (legI_ch _ _) h2 (fun _=>?_),by rw [List.length_append]; omega,?_⟩
   ·rw [h3,legI_tat _ _ 0 (by omega)]
    exact celI_first _ _ h
   ·rw [List.length_append,tat_right (by omega),hl,show (alongTo t (n+1)).length+(legN (t n) (t (n+1))).toNat - 1 - (alongTo t (n+1)).length=(legN (t n) (t (n+1))).toNat - 1 by omega,legI_tat _ _ _ (by omega)]
    exact celI_last _ _ h
  ·have e:=legN_zero h
   have hl:legI (t n) (t (n+1))=[]:=by
    apply List.length_eq_zero_iff.1
    rw [legI_len]
    omega
   rw [hl,List.append_nil]
   exact ⟨h1,h2,by rw [h3]; exact e⟩
end Go.Proofs.YtbjmgglpiakgdaaGreatDoor
