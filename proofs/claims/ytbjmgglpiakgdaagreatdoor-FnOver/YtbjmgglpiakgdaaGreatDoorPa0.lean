import Derived.Test.YtbjmgglpiakgdaaGreatDoorSt13
import Derived.Test.YtbjmgglpiakgdaaGreatDoorAdj
set_option linter.unusedSimpArgs false
set_option linter.unusedVariables false
namespace Go.Proofs.YtbjmgglpiakgdaaGreatDoor.Sd
open Go.RowKit Go.Proofs.YtbjmgglpiakgdaaGreatDoor
theorem book_kindsB {ks ps:List Tri} {es:List Ent} (h:bookB ks ps es=true):kindsB ks=true:=by
 unfold bookB baseB at h
 simp only [Bool.and_eq_true] at h
 exact h.1.1
set_option maxRecDepth 100000 in
set_option maxHeartbeats 12800000 in
theorem planStandsS_any (vk vp ve:Value) (ks ps:List Tri) (es:List Ent) (nm:ByteArray) (w:World) (hB:BookAt w vk vp ve ks ps es) (nB:BNames ks ps es) (sB:BSmall ks ps es) :
  Calls Tryz.prog 25 #[.agg #[vk,vp,ve],.string nm] w fun e w'=>∃ rt,e=.returned (.tuple #[.agg (standC ks (standR ks ps es nm) rt),.bool (standR ks ps es nm).isSome])∧(∀ x,standR ks ps es nm=some x→RtIs w' w.heap.size rt (lastV x.fs 4))∧Below w.heap.size w w':=by
 have HB:Hid (∀ wx:World,Below w.heap.size w wx→BookAt wx vk vp ve ks ps es):=fun wx hx=>hB.keep hx
 obtain ⟨⟨ak,ck,rfl,-,-,-⟩,⟨ap,cp,rfl,-,-,-⟩,⟨ae,ce,rfl,he1,he2,-⟩⟩:=hB
 unfold maxLen at he2
 have A1:Hid (Below w.heap.size w ((w.alloc (.cells #[.slice ak ks.length ck,.slice ap ps.length cp,.slice ae es.length ce] 29)).alloc (.cells #[.string ⟨#[]⟩,.string ⟨#[]⟩,.int .i64 0,.int .i64 0,.int .i64 0,.int .i64 0,.int .i64 0,.slice none 0 0] 47))):=((Below.refl _ _).alloc (Nat.le_refl _) _).alloc (by simp) _
 have R1:Hid (((w.alloc (.cells #[.slice ak ks.length ck,.slice ap ps.length cp,.slice ae es.length ce] 29)).alloc (.cells #[.string ⟨#[]⟩,.string ⟨#[]⟩,.int .i64 0,.int .i64 0,.int .i64 0,.int .i64 0,.int .i64 0,.slice none 0 0] 47)).heap[w.heap.size+1]?=some (.cells #[.string ⟨#[]⟩,.string ⟨#[]⟩,.int .i64 0,.int .i64 0,.int .i64 0,.int .i64 0,.int .i64 0,.slice none 0 0] 47 (0,0))):=by
  have h:=Lv.heap_newF (w.alloc (.cells #[.slice ak ks.length ck,.slice ap ps.length cp,.slice ae es.length ce] 29)) (.cells #[.string ⟨#[]⟩,.string ⟨#[]⟩,.int .i64 0,.int .i64 0,.int .i64 0,.int .i64 0,.int .i64 0,.slice none 0 0] 47)
  rw [show (w.alloc (.cells #[.slice ak ks.length ck,.slice ap ps.length cp,.slice ae es.length ce] 29)).heap.size=w.heap.size+1 by simp] at h
  exact h
 have Q0:Hid (∀ wx:World,Below ((w.alloc (.cells #[.slice ak ks.length ck,.slice ap ps.length cp,.slice ae es.length ce] 29)).alloc (.cells #[.string ⟨#[]⟩,.string ⟨#[]⟩,.int .i64 0,.int .i64 0,.int .i64 0,.int .i64 0,.int .i64 0,.slice none 0 0] 47)).heap.size ((w.alloc (.cells #[.slice ak ks.length ck,.slice ap ps.length cp,.slice ae es.length ce] 29)).alloc (.cells #[.string ⟨#[]⟩,.string ⟨#[]⟩,.int .i64 0,.int .i64 0,.int .i64 0,.int .i64 0,.int .i64 0,.slice none 0 0] 47)) wx→(wx.cell? ⟨w.heap.size,0,none⟩=some (.slice ak ks.length ck)∧wx.cell? ⟨w.heap.size,1,none⟩=some (.slice ap ps.length cp)∧wx.cell? ⟨w.heap.size,2,none⟩=some (.slice ae es.length ce))):=fun wx hx=>⟨cell_keep hx (Nat.le_refl _) (by simp [go_sem]),cell_keep hx (Nat.le_refl _) (by simp [go_sem]),cell_keep hx (Nat.le_refl _) (by simp [go_sem])⟩
 obtain ⟨p0,p1,p2⟩:=Q0.out _ (Below.refl _ _)
 go_enter Tryz.func25,Tryz.ntmps25
 go_wp2_with fail
 generalize ((w.alloc (.cells #[.slice ak ks.length ck,.slice ap ps.length cp,.slice ae es.length ce] 29)).alloc (.cells #[.string ⟨#[]⟩,.string ⟨#[]⟩,.int .i64 0,.int .i64 0,.int .i64 0,.int .i64 0,.int .i64 0,.slice none 0 0] 47))=w1 at *
 refine (l3At_any _ _ _ es nm _ (HB.out _ A1.out).e).mono ?_
 rintro e w2 ⟨r,rfl,HAT,hb2⟩
 have HAT:=Lv.toHid HAT
 have B2:Hid (Below w1.heap.size w1 w2):=hb2
 clear hb2 p0 p1 p2
 obtain ⟨p0,p1,p2⟩:=Q0.out _ B2.out
 go_wp2_with fail
 refine (specBookOk_any _ _ _ ks ps es _ (HB.out _ (below_step A1.out B2.out)) nB sB).mono ?_
 rintro e w3 ⟨rfl,hb3⟩
 have B3:Hid (Below w1.heap.size w1 w3):=below_step B2.out hb3
 clear hb3 p0 p1 p2 B2
 obtain ⟨p0,p1,p2⟩:=Q0.out _ B3.out
 have hR:=below_block B3.out R1.out
 cases hbb:bookB ks ps es
 ·have HE:Hid (standR ks ps es nm=none):=by show _=_; unfold standR; rw [hbb]; rfl
  clear hbb
  go_wp2_with (refine wpList_store_row rfl 47 _ _ rfl (w.heap.size+1) #[.string ⟨#[]⟩,.string ⟨#[]⟩,.int .i64 0,.int .i64 0,.int .i64 0,.int .i64 0,.int .i64 0,.slice none 0 0] rfl rfl 47 _ hR (by kernel_rfl) rfl (by simp [Value.oneCell']) ?_)
  exact bodyPost_ret (v:=.tuple #[.agg #[.string ⟨#[]⟩,.string ⟨#[]⟩,.int .i64 0,.int .i64 0,.int .i64 0,.int .i64 0,.int .i64 0,.slice none 0 0],.bool false]) (by simp [results,Tryz.results25,go_sem,cell_setRow_same _ _ _ _ _ _ _ hR]) rfl ⟨.slice none 0 0,by rw [HE.out]; rfl,(fun x h=>by rw [HE.out] at h; cases h),below_setRow (below_step A1.out B3.out) (by omega) _⟩
 have HBB:Hid (bookB ks ps es=true):=hbb
 clear hbb
 obtain ⟨rfl,hfind⟩ | ⟨j,hpl,rfl,hfind⟩:=HAT.out
 ·have HE:Hid (standR ks ps es nm=none):=by show _=_; unfold standR; rw [HBB.out,hfind]; rfl
  clear hfind HAT
  go_wp2_with (refine wpList_store_row rfl 47 _ _ rfl (w.heap.size+1) #[.string ⟨#[]⟩,.string ⟨#[]⟩,.int .i64 0,.int .i64 0,.int .i64 0,.int .i64 0,.int .i64 0,.slice none 0 0] rfl rfl 47 _ hR (by kernel_rfl) rfl (by simp [Value.oneCell']) ?_)
  exact bodyPost_ret (v:=.tuple #[.agg #[.string ⟨#[]⟩,.string ⟨#[]⟩,.int .i64 0,.int .i64 0,.int .i64 0,.int .i64 0,.int .i64 0,.slice none 0 0],.bool false]) (by simp [results,Tryz.results25,go_sem,cell_setRow_same _ _ _ _ _ _ _ hR]) rfl ⟨.slice none 0 0,by rw [HE.out]; rfl,(fun x h=>by rw [HE.out] at h; cases h),below_setRow (below_step A1.out B3.out) (by omega) _⟩
 have hmem:eat es j ∈ es:=List.mem_of_getElem? (eat_get hpl)
 have HFI:Hid (standR ks ps es nm=bif stB (eat es j).fs then some (eat es j) else none):=by show _=_; unfold standR; rw [HBB.out,hfind]; rfl
 have HFT:Hid (∀ f ∈ (eat es j).fs,valB2 ks ps f.what f.v=true∧f.v.size≤1048576):=fun f hf=>⟨book_fits HBB.out _ hmem f hf,sB.v _ hmem f hf⟩
 have HFA:Hid (AscF (eat es j).fs):=book_ascF HBB.out _ hmem
 have HKB:Hid (kindsB ks=true):=book_kindsB HBB.out
 have HEA:Hid (∀ wx:World,Below w.heap.size w wx→∃ b off,ae=some ⟨b,off,none⟩∧EntAt wx b (off+j * 2) (eat es j)):=fun wx hx=>by
  obtain ⟨a9,c9,e9,-,-,h9⟩:=(HB.out _ hx).e
  obtain ⟨b,off,ha,hc⟩:=h9 _ _ (eat_get hpl)
  cases e9
  exact ⟨b,off,ha,hc⟩
 clear hfind hmem HAT
 have hj0:(0:Int)≤(j:Int):=by omega
 have hj1:(j:Int) < (es.length:Int):=by omega
 have hjn:¬ (j:Int) < 0:=by omega
 obtain ⟨⟨en,fs⟩,hen⟩:∃ e,eat es j=e:=⟨_,rfl⟩
 rw [hen] at HFI HFT HFA HEA
 clear hen
 dsimp only at HFI HFT HFA
 obtain ⟨b,off,rfl,fv,d0,d1,hfl⟩:=HEA.out _ (below_step A1.out B3.out)
 dsimp only at d0 d1 hfl
 obtain ⟨af,cf,rfl,-,-,-⟩:=hfl
 have GS:Hid (∀ wx:World,Below w1.heap.size w1 wx→∀ fv,FldsAt wx fv fs→Calls Tryz.prog 63 #[.agg #[.slice ak ks.length ck,.slice ap ps.length cp,.slice (some ⟨b,off,none⟩) es.length ce],.agg #[.string en,fv]] wx fun e w'=>∃ rt,e=.returned (.tuple #[.agg (stC ks en fs rt),.bool (stB fs)])∧(stB fs=true→RtIs w' wx.heap.size rt (lastV fs 4))∧Below wx.heap.size wx w'):=fun wx hx fv hfv=>l6Stands_any _ _ _ fv ks ps en fs wx (HB.out _ (below_step A1.out hx)).k hfv HKB.out HFT.out HFA.out ⟨_,_,_,rfl⟩ ⟨_,_,_,rfl⟩
 have QS:Hid (∀ wx:World,Below w3.heap.size w3 wx→((wx.cell? ⟨w.heap.size,0,none⟩=some (.slice ak ks.length ck)∧wx.cell? ⟨w.heap.size,1,none⟩=some (.slice ap ps.length cp)∧wx.cell? ⟨w.heap.size,2,none⟩=some (.slice (some ⟨b,off,none⟩) es.length ce))∧wx.cell? ⟨b,off+j * 2,none⟩=some (.string en)∧wx.cell? ⟨b,off+j * 2+1,none⟩=some (.slice af fs.length cf))∧FldsAt wx (.slice af fs.length cf) fs):=fun wx hx=>by
  refine ⟨⟨⟨(Q0.out _ (below_step B3.out hx)).1,(Q0.out _ (below_step B3.out hx)).2.1,(Q0.out _ (below_step B3.out hx)).2.2⟩,cell_keep hx (Nat.le_refl _) d0,cell_keep hx (Nat.le_refl _) d1⟩,?_⟩
  obtain ⟨b',off',hbo,fv',e0,e1,hfl'⟩:=HEA.out _ (below_step A1.out B3.out)
  cases hbo
  dsimp only at e1 hfl'
  rw [d1] at e1
  injection e1 with e1
  subst e1
  exact hfl'.keep hx
 go_wp2_with fail
 refine wp_region_noPanic ?_
 refine wp_region_held_drew (S:=fun wx=>(wx.cell? ⟨w.heap.size,0,none⟩=some (.slice ak ks.length ck)∧wx.cell? ⟨w.heap.size,1,none⟩=some (.slice ap ps.length cp)∧wx.cell? ⟨w.heap.size,2,none⟩=some (.slice (some ⟨b,off,none⟩) es.length ce))∧wx.cell? ⟨b,off+j * 2,none⟩=some (.string en)∧wx.cell? ⟨b,off+j * 2+1,none⟩=some (.slice af fs.length cf)) (by kernel_rfl) ?_ (fun hHeld=>?_)
 ·exact (QS.out _ (Below.refl _ _).drew).1
 have I4:Hid (Below w3.heap.size w3 w3.drew):=(Below.refl _ _).drew
 clear d0 d1 p0 p1 p2 hR
 generalize w3.drew=W at *
 refine tkH 0 ?_ rfl ?_ (tkH 1 ?_ rfl ?_ (tkH 2 ?_ rfl ?_ (tkH 3 ?_ rfl ?_ (tkH 4 ?_ rfl ?_ (tkH 5 ?_ rfl ?_ ?_)))))
 iterate 6 (rotate_left; focus (intro w hSw; (try dsimp only at hSw); simp only [Act.put,tkS]; go_simp; try with_reducible rfl))
 simp only [Act.put,tkS]
 clear hHeld
 refine rdH 6 rfl (fun K hK=>?_)
 go_simp
 refine (GS.out _ (below_step B3.out I4.out) _ (QS.out _ I4.out).2).mono ?_
 rintro e W2 ⟨rt,rfl,hrt,hbz⟩
 have I5:Hid (Below w3.heap.size w3 W2∧Below w.heap.size w W2):=⟨below_step I4.out hbz,below_step (below_step A1.out B3.out) (below_step I4.out hbz)⟩
 have HRT:Hid (stB fs=true→RtIs W2 w.heap.size rt (lastV fs 4)):=fun h=>(hrt h).mono (below_step (below_step A1.out B3.out) I4.out).size
 have hHeld:=(QS.out _ I5.out.1).1
 refine hK.out _ _ hHeld (fun _=>?_)
 clear hK K hbz hrt I4
 have hRW:W2.heap[w.heap.size+1]?=some (.cells #[.string ⟨#[]⟩,.string ⟨#[]⟩,.int .i64 0,.int .i64 0,.int .i64 0,.int .i64 0,.int .i64 0,.slice none 0 0] 47 (0,0)):=below_block (below_step B3.out I5.out.1) R1.out
 have HRW:=Lv.toHid hRW
 clear hRW
 have hbw3:w.heap.size+1 < w3.heap.size:=lt_of_block (below_block B3.out R1.out)
 have hbl:b < w3.heap.size:=by
  obtain ⟨b',off',hbo,fv',e0,e1,hfl'⟩:=HEA.out _ (below_step A1.out B3.out)
  cases hbo
  exact lt_of_cell e0
 have HNB:Hid (b ≠ w.heap.size+1):=by
  obtain ⟨b',off',hbo,fv',e0,-⟩:=HEA.out w (Below.refl _ _)
  cases hbo
  have:=lt_of_cell e0
  show b ≠ w.heap.size+1
  omega
 cases hst:stB fs
 ·have HE:Hid (standR ks ps es nm=none):=by show _=_; rw [HFI.out,hst]; rfl
  have HS:Hid (stC ks en fs rt=#[.string ⟨#[]⟩,.string ⟨#[]⟩,.int .i64 0,.int .i64 0,.int .i64 0,.int .i64 0,.int .i64 0,.slice none 0 0]):=by show _=_; unfold stC; rw [hst]; rfl
  rw [HS.out]
  clear hst
  refine tkH 7 ?_ rfl ?_ (tkH 8 ?_ rfl ?_ ?_)
  iterate 2 (rotate_left; focus (intro w hSw; (try dsimp only at hSw); simp only [Act.put,tkS]; go_simp; try with_reducible rfl))
  simp only [Act.put,tkS]
  clear hHeld
  refine rdH 9 rfl (fun K hK=>?_)
  refine step_store_rowC rfl 47 _ _ rfl (w.heap.size+1) #[.string ⟨#[]⟩,.string ⟨#[]⟩,.int .i64 0,.int .i64 0,.int .i64 0,.int .i64 0,.int .i64 0,.slice none 0 0] rfl rfl 47 _ HRW.out (by kernel_rfl) rfl (by simp [Value.oneCell']) ?_
  have HO:Hid (∀ q:Nat,q ≠ w.heap.size+1→(W2.setRow (w.heap.size+1) #[.string ⟨#[]⟩,.string ⟨#[]⟩,.int .i64 0,.int .i64 0,.int .i64 0,.int .i64 0,.int .i64 0,.slice none 0 0]).heap[q]?=W2.heap[q]?):=fun q hq=>setRow_other _ _ _ _ hq
  have HF:Hid ((W2.setRow (w.heap.size+1) #[.string ⟨#[]⟩,.string ⟨#[]⟩,.int .i64 0,.int .i64 0,.int .i64 0,.int .i64 0,.int .i64 0,.slice none 0 0]).heap[w.heap.size+1]?=some (.cells #[.string ⟨#[]⟩,.string ⟨#[]⟩,.int .i64 0,.int .i64 0,.int .i64 0,.int .i64 0,.int .i64 0,.slice none 0 0] 47 (0,0))):=setRow_heap _ _ _ _ _ _ HRW.out
  have HBF:Hid (Below w.heap.size w (W2.setRow (w.heap.size+1) #[.string ⟨#[]⟩,.string ⟨#[]⟩,.int .i64 0,.int .i64 0,.int .i64 0,.int .i64 0,.int .i64 0,.slice none 0 0])):=below_setRow I5.out.2 (by omega) _
  have hS:=(QS.out _ I5.out.1).1
  generalize (W2.setRow (w.heap.size+1) #[.string ⟨#[]⟩,.string ⟨#[]⟩,.int .i64 0,.int .i64 0,.int .i64 0,.int .i64 0,.int .i64 0,.slice none 0 0])=wf at *
  have hHeld:(wf.cell? ⟨w.heap.size,0,none⟩=some (.slice ak ks.length ck)∧wf.cell? ⟨w.heap.size,1,none⟩=some (.slice ap ps.length cp)∧wf.cell? ⟨w.heap.size,2,none⟩=some (.slice (some ⟨b,off,none⟩) es.length ce))∧wf.cell? ⟨b,off+j * 2,none⟩=some (.string en)∧wf.cell? ⟨b,off+j * 2+1,none⟩=some (.slice af fs.length cf):=⟨⟨(World.cell?_of_block (HO.out w.heap.size (by omega))).trans hS.1.1,(World.cell?_of_block (HO.out w.heap.size (by omega))).trans hS.1.2.1,(World.cell?_of_block (HO.out w.heap.size (by omega))).trans hS.1.2.2⟩,(World.cell?_of_block (HO.out b (fun e=>HNB.out e))).trans hS.2.1,(World.cell?_of_block (HO.out b (fun e=>HNB.out e))).trans hS.2.2⟩
  refine hK.out _ _ hHeld (fun _=>?_)
  clear hK K hS
  refine tkH 10 ?_ rfl ?_ ?_; rotate_left
  ·intro w hSw; (try dsimp only at hSw); go_simp; try with_reducible rfl
  simp only [Act.put,tkS]
  clear hHeld
  have hf:=HF.out
  refine wpAnyH_done (by kernel_rfl) ?_ _
  refine NoPanic.normal ?_
  go_wp2
  have y0:wf.cell? ⟨w.heap.size+1,0,none⟩=some (.string ⟨#[]⟩):=by simp [World.cell?,hf]
  have y1:wf.cell? ⟨w.heap.size+1,1,none⟩=some (.string ⟨#[]⟩):=by simp [World.cell?,hf]
  have y2:wf.cell? ⟨w.heap.size+1,2,none⟩=some (.int .i64 0):=by simp [World.cell?,hf]
  have y3:wf.cell? ⟨w.heap.size+1,3,none⟩=some (.int .i64 0):=by simp [World.cell?,hf]
  have y4:wf.cell? ⟨w.heap.size+1,4,none⟩=some (.int .i64 0):=by simp [World.cell?,hf]
  have y5:wf.cell? ⟨w.heap.size+1,5,none⟩=some (.int .i64 0):=by simp [World.cell?,hf]
  have y6:wf.cell? ⟨w.heap.size+1,6,none⟩=some (.int .i64 0):=by simp [World.cell?,hf]
  have y7:wf.cell? ⟨w.heap.size+1,7,none⟩=some (.slice none 0 0):=by simp [World.cell?,hf]
  exact bodyPost_ret (v:=.tuple #[.agg #[.string ⟨#[]⟩,.string ⟨#[]⟩,.int .i64 0,.int .i64 0,.int .i64 0,.int .i64 0,.int .i64 0,.slice none 0 0],.bool false]) (by simp [results,Tryz.results25,go_sem,y0,y1,y2,y3,y4,y5,y6,y7]) rfl ⟨.slice none 0 0,by rw [HE.out]; rfl,(fun x h=>by rw [HE.out] at h; cases h),HBF.out⟩
 ·have hrt:=HRT.out hst
  obtain ⟨ra,rn,rc,hra⟩:=hrt.slice
  subst hra
  have HR2:Hid (RtIs W2 w.heap.size (.slice ra rn rc) (lastV fs 4)):=hrt
  have HE:Hid (standR ks ps es nm=some ⟨en,fs⟩):=by show _=_; rw [HFI.out,hst]; rfl
  have HS:Hid (stC ks en fs (.slice ra rn rc)=flO ks en fs (.slice ra rn rc)):=by show _=_; unfold stC; rw [hst]; rfl
  rw [HS.out]
  clear hst hrt HRT
  obtain ⟨k1,e1⟩:∃ t,kdOf ks (lastV fs 1)=t:=⟨_,rfl⟩
  obtain ⟨k2,e2⟩:∃ t,frOf (lastV fs 2)=t:=⟨_,rfl⟩
  obtain ⟨k3,e3⟩:∃ t,byOf (lastV fs 2)=t:=⟨_,rfl⟩
  obtain ⟨k4,e4⟩:∃ t,lvOf (lastV fs 3)=t:=⟨_,rfl⟩
  have HOO:Hid (flO ks en fs (.slice ra rn rc)=#[.string en,.string k1.s,.int .i64 k1.x,.int .i64 k1.y,.int .i64 k2,.int .i64 k3,.int .i64 k4,.slice ra rn rc]):=by show _=_; unfold flO flC; rw [e1,e2,e3,e4]
  rw [HOO.out]
  clear e1 e2 e3 e4
  refine tkH 7 ?_ rfl ?_ (tkH 8 ?_ rfl ?_ ?_)
  iterate 2 (rotate_left; focus (intro w hSw; (try dsimp only at hSw); simp only [Act.put,tkS]; go_simp; try with_reducible rfl))
  simp only [Act.put,tkS]
  clear hHeld
  refine rdH 9 rfl (fun K hK=>?_)
  refine step_store_rowC rfl 47 _ _ rfl (w.heap.size+1) #[.string en,.string k1.s,.int .i64 k1.x,.int .i64 k1.y,.int .i64 k2,.int .i64 k3,.int .i64 k4,.slice ra rn rc] rfl rfl 47 _ HRW.out (by kernel_rfl) rfl (by simp [Value.oneCell']) ?_
  have HO:Hid (∀ q:Nat,q ≠ w.heap.size+1→(W2.setRow (w.heap.size+1) #[.string en,.string k1.s,.int .i64 k1.x,.int .i64 k1.y,.int .i64 k2,.int .i64 k3,.int .i64 k4,.slice ra rn rc]).heap[q]?=W2.heap[q]?):=fun q hq=>setRow_other _ _ _ _ hq
  have HF:Hid ((W2.setRow (w.heap.size+1) #[.string en,.string k1.s,.int .i64 k1.x,.int .i64 k1.y,.int .i64 k2,.int .i64 k3,.int .i64 k4,.slice ra rn rc]).heap[w.heap.size+1]?=some (.cells #[.string en,.string k1.s,.int .i64 k1.x,.int .i64 k1.y,.int .i64 k2,.int .i64 k3,.int .i64 k4,.slice ra rn rc] 47 (0,0))):=setRow_heap _ _ _ _ _ _ HRW.out
  have HBF:Hid (Below w.heap.size w (W2.setRow (w.heap.size+1) #[.string en,.string k1.s,.int .i64 k1.x,.int .i64 k1.y,.int .i64 k2,.int .i64 k3,.int .i64 k4,.slice ra rn rc])):=below_setRow I5.out.2 (by omega) _
  have HRF:Hid (RtIs (W2.setRow (w.heap.size+1) #[.string en,.string k1.s,.int .i64 k1.x,.int .i64 k1.y,.int .i64 k2,.int .i64 k3,.int .i64 k4,.slice ra rn rc]) w.heap.size (.slice ra rn rc) (lastV fs 4)):=RtIs.row HR2.out HRW.out
  have hS:=(QS.out _ I5.out.1).1
  generalize (W2.setRow (w.heap.size+1) #[.string en,.string k1.s,.int .i64 k1.x,.int .i64 k1.y,.int .i64 k2,.int .i64 k3,.int .i64 k4,.slice ra rn rc])=wf at *
  have hHeld:(wf.cell? ⟨w.heap.size,0,none⟩=some (.slice ak ks.length ck)∧wf.cell? ⟨w.heap.size,1,none⟩=some (.slice ap ps.length cp)∧wf.cell? ⟨w.heap.size,2,none⟩=some (.slice (some ⟨b,off,none⟩) es.length ce))∧wf.cell? ⟨b,off+j * 2,none⟩=some (.string en)∧wf.cell? ⟨b,off+j * 2+1,none⟩=some (.slice af fs.length cf):=⟨⟨(World.cell?_of_block (HO.out w.heap.size (by omega))).trans hS.1.1,(World.cell?_of_block (HO.out w.heap.size (by omega))).trans hS.1.2.1,(World.cell?_of_block (HO.out w.heap.size (by omega))).trans hS.1.2.2⟩,(World.cell?_of_block (HO.out b (fun e=>HNB.out e))).trans hS.2.1,(World.cell?_of_block (HO.out b (fun e=>HNB.out e))).trans hS.2.2⟩
  refine hK.out _ _ hHeld (fun _=>?_)
  clear hK K hS
  refine tkH 10 ?_ rfl ?_ ?_; rotate_left
  ·intro w hSw; (try dsimp only at hSw); go_simp; try with_reducible rfl
  simp only [Act.put,tkS]
  clear hHeld
  have hf:=HF.out
  refine wpAnyH_done (by kernel_rfl) ?_ _
  refine NoPanic.normal ?_
  go_wp2
  have y0:wf.cell? ⟨w.heap.size+1,0,none⟩=some (.string en):=by simp [World.cell?,hf]
  have y1:wf.cell? ⟨w.heap.size+1,1,none⟩=some (.string k1.s):=by simp [World.cell?,hf]
  have y2:wf.cell? ⟨w.heap.size+1,2,none⟩=some (.int .i64 k1.x):=by simp [World.cell?,hf]
  have y3:wf.cell? ⟨w.heap.size+1,3,none⟩=some (.int .i64 k1.y):=by simp [World.cell?,hf]
  have y4:wf.cell? ⟨w.heap.size+1,4,none⟩=some (.int .i64 k2):=by simp [World.cell?,hf]
  have y5:wf.cell? ⟨w.heap.size+1,5,none⟩=some (.int .i64 k3):=by simp [World.cell?,hf]
  have y6:wf.cell? ⟨w.heap.size+1,6,none⟩=some (.int .i64 k4):=by simp [World.cell?,hf]
  have y7:wf.cell? ⟨w.heap.size+1,7,none⟩=some (.slice ra rn rc):=by simp [World.cell?,hf]
  exact bodyPost_ret (v:=.tuple #[.agg #[.string en,.string k1.s,.int .i64 k1.x,.int .i64 k1.y,.int .i64 k2,.int .i64 k3,.int .i64 k4,.slice ra rn rc],.bool true]) (by simp [results,Tryz.results25,go_sem,y0,y1,y2,y3,y4,y5,y6,y7]) rfl ⟨.slice ra rn rc,by rw [HE.out]; show _=Ending.returned (.tuple #[.agg (flO ks en fs (.slice ra rn rc)),.bool true]); rw [HOO.out],(fun x h=>by rw [HE.out] at h; injection h with h; subst h; exact HRF.out),HBF.out⟩
end Go.Proofs.YtbjmgglpiakgdaaGreatDoor.Sd
namespace Go.Proofs.YtbjmgglpiakgdaaGreatDoor.Pa
open Go.RowKit Go.Proofs.YtbjmgglpiakgdaaGreatDoor Go.Proofs.YtbjmgglpiakgdaaGreatDoor.Sd
structure Stp where
 x:Int
 y:Int
 lo:Int
 hi:Int
 fr:Int
 b:Int
deriving DecidableEq
def lvA (N:Nat) (l:Int) (k:Nat):Int:=minI l (minI (k:Int) ((N:Int) - 1 - (k:Int)))
def stpA (cs:List Cel) (l fr b q s:Int) (k:Nat):Stp :=
 ⟨(tat cs k).x,(tat cs k).y,minI (lvA cs.length l (k - 1)) (lvA cs.length l k),maxI (lvA cs.length l (k - 1)) (lvA cs.length l k),fr+(k:Int) * q,b+(k:Int) * s⟩
def stpTo (cs:List Cel) (l fr b q s:Int) (k:Nat):List Stp:=(List.range k).map (stpA cs l fr b q s)
theorem stpTo_succ (cs:List Cel) (l fr b q s:Int) (k:Nat):stpTo cs l fr b q s (k+1)=stpTo cs l fr b q s k ++ [stpA cs l fr b q s k]:=by
 simp [stpTo,List.range_succ]
theorem stpTo_len (cs:List Cel) (l fr b q s:Int) (k:Nat):(stpTo cs l fr b q s k).length=k:=by simp [stpTo]
theorem levels_get {N:Nat} {l:Int} (hN:1≤N∧N≤40) (hl:1≤l∧l≤6) (k:Nat) (hk:k < N):(levelsL (N:Int) l)[k]?=some (lvA N l k):=by
 unfold levelsL
 rw [decide_eq_true (by omega)]
 simp [lvA,hk]
theorem levels_len {N:Nat} {l:Int} (hN:1≤N∧N≤40) (hl:1≤l∧l≤6):(levelsL (N:Int) l).length=N:=by
 unfold levelsL
 rw [decide_eq_true (by omega)]
 simp
structure FlOk (t:Tri) (x y z:Int):Prop where
 q:1≤t.x
 qs:t.x≤t.y
 s:t.y≤50
 fr:0≤x
 fb:x≤y
 b:y≤10000
 l:1≤z
 lm:z≤6
theorem rdN_nonneg (x:ByteArray):0≤rdN x:=by
 unfold rdN
 cases decB x <;> simp
theorem st_said {fs:List Fld} (h:stB fs=true) (k:Nat) (hk:1≤k∧k≤4) (ha:AscF fs):∃ f,lastV fs (k:Int)=some f∧f ∈ fs∧f.what=(k:Int):=by
 cases hs:saidB fs (k:Int) with
 | false=>rw [need_some hk hs] at h; cases h
 | true =>
  rw [said_find] at hs
  obtain ⟨f,hf⟩:=Option.isSome_iff_exists.1 hs
  exact ⟨f,by rw [last_find (x:=(k:Int)) fs (asc_wlt ha)]; exact hf,fnd_mem hf⟩
theorem kind_pace {ks:List Tri} (h:kindsB ks=true) {v:ByteArray} (hv:hasB ks v=true):paceB (at' ks (plc ks v))=true:=by
 unfold kindsB at h
 rw [Bool.and_eq_true] at h
 unfold hasB at hv
 rw [Bool.and_eq_true] at hv
 exact allB_get h.2 _ (of_decide_eq_true hv.1)
theorem stand_ok {ks ps:List Tri} {es:List Ent} {nm:ByteArray} {e:Ent} (h:standR ks ps es nm=some e) :
  bookB ks ps es=true∧e ∈ es∧(∃ f,lastV e.fs 4=some f∧rtW e=cutW f.v)∧routeB ps (rtW e)=true∧FlOk (kdOf ks (lastV e.fs 1)) (frOf (lastV e.fs 2)) (byOf (lastV e.fs 2)) (lvOf (lastV e.fs 3)):=by
 have hb:bookB ks ps es=true:=by
  unfold standR at h
  cases hb:bookB ks ps es with
  | true=>rfl
  | false=>rw [hb] at h; cases h
 obtain ⟨he,hst⟩:e ∈ es∧stB e.fs=true:=by
  unfold standR at h
  rw [hb] at h
  simp only [cond_true] at h
  cases hf:es.find? (fun e=>decide (e.name=nm)) with
  | none=>rw [hf] at h; cases h
  | some e' =>
   rw [hf] at h
   dsimp only at h
   cases hs:stB e'.fs with
   | false=>rw [hs] at h; cases h
   | true =>
    rw [hs] at h
    injection h with h
    subst h
    exact ⟨List.mem_of_find?_eq_some hf,hs⟩
 have ha:=book_ascF hb e he
 obtain ⟨f1,l1,m1,w1⟩:=st_said hst 1 (by omega) ha
 obtain ⟨f2,l2,m2,w2⟩:=st_said hst 2 (by omega) ha
 obtain ⟨f3,l3,m3,w3⟩:=st_said hst 3 (by omega) ha
 obtain ⟨f4,l4,m4,w4⟩:=st_said hst 4 (by omega) ha
 have v1:=book_fits hb e he f1 m1
 have v2:=book_fits hb e he f2 m2
 have v3:=book_fits hb e he f3 m3
 have v4:=book_fits hb e he f4 m4
 rw [w1] at v1
 rw [w2] at v2
 rw [w3] at v3
 rw [w4] at v4
 have v1':hasB ks f1.v=true:=by simpa [valB2] using v1
 have v2':timeB (cutW f2.v)=true:=by simpa [valB2] using v2
 have v3':levelB f3.v=true:=by simpa [valB2] using v3
 have v4':routeB ps (cutW f4.v)=true:=by simpa [valB2] using v4
 have l1':lastV e.fs 1=some f1:=l1
 have l2':lastV e.fs 2=some f2:=l2
 have l3':lastV e.fs 3=some f3:=l3
 have l4':lastV e.fs 4=some f4:=l4
 have hr:rtW e=cutW f4.v:=by unfold rtW; rw [l4']
 refine ⟨hb,he,⟨f4,l4',hr⟩,by rw [hr]; exact v4',?_⟩
 rw [l1',l2',l3']
 have p:=kind_pace (book_kindsB hb) v1'
 unfold paceB at p
 simp at p
 rw [timeB_tm] at v2'
 simp at v2'
 have h0:0≤tmF (cutW f2.v):=by
  unfold tmF
  cases decide ((cutW f2.v).length=2)
  ·simp
  ·exact rdN_nonneg _
 unfold levelB inB at v3'
 simp at v3'
 have hl:rdN f3.v=(numV f3.v:Int):=by unfold rdN; rw [v3'.1]; rfl
 exact ⟨p.1,p.2.1,p.2.2,h0,v2'.2.1,v2'.2.2,by show 1≤rdN f3.v; rw [hl]; omega,by show rdN f3.v≤6; rw [hl]; omega⟩
theorem cellsL_pos {ps:List Tri} {ws:List ByteArray} (h:2≤ws.length):1≤(cellsL ps ws).length:=by
 have:∀ n,1≤(alongTo (tat (turns ps ws)) (n+1)).length:=fun n=>by
  induction n with
  | zero=>simp [alongTo]
  | succ n ih=>rw [alongTo,List.length_append]; omega
 unfold cellsL
 obtain ⟨n,hn⟩:∃ n,ws.length=n+1:=⟨ws.length - 1,by omega⟩
 rw [hn]
 exact this n
structure Pth where
 c:Int
 st:List Stp
 fr:Int
 b:Int
def pathE (ks ps:List Tri) (e:Ent):Pth :=
 bif cellsOkB ks ps (rtW e) then
  (bif decide (10000 < byOf (lastV e.fs 2)+((cellsL ps (rtW e)).length:Int) * (kdOf ks (lastV e.fs 1)).y) then ⟨4,[],0,0⟩ else
   ⟨0,stpTo (cellsL ps (rtW e)) (lvOf (lastV e.fs 3)) (frOf (lastV e.fs 2)) (byOf (lastV e.fs 2)) (kdOf ks (lastV e.fs 1)).x (kdOf ks (lastV e.fs 1)).y (cellsL ps (rtW e)).length,
    frOf (lastV e.fs 2)+((cellsL ps (rtW e)).length:Int) * (kdOf ks (lastV e.fs 1)).x,byOf (lastV e.fs 2)+((cellsL ps (rtW e)).length:Int) * (kdOf ks (lastV e.fs 1)).y⟩)
 else ⟨3,[],0,0⟩
def pathR (ks ps:List Tri) (es:List Ent) (nm:ByteArray):Pth:=bif bookB ks ps es then (match standR ks ps es nm with
 | some e=>pathE ks ps e
 | none=>⟨2,[],0,0⟩) else ⟨1,[],0,0⟩
def stpRow (s:Stp):List Value:=[.int .i64 s.x,.int .i64 s.y,.int .i64 s.lo,.int .i64 s.hi,.int .i64 s.fr,.int .i64 s.b]
def stpRows (l:List Stp):List Value:=l.flatMap stpRow
theorem stpRows_get:∀ (l:List Stp) (i:Nat) (c:Stp),l[i]?=some c→(stpRows l)[i * 6]?=some (.int .i64 c.x)∧(stpRows l)[i * 6+1]?=some (.int .i64 c.y)∧(stpRows l)[i * 6+2]?=some (.int .i64 c.lo)∧(stpRows l)[i * 6+3]?=some (.int .i64 c.hi)∧(stpRows l)[i * 6+4]?=some (.int .i64 c.fr)∧(stpRows l)[i * 6+5]?=some (.int .i64 c.b)
 | [],i,c,h=>by simp at h
 | a :: l,0,c,h=>by simp at h; subst h; simp [stpRows,stpRow]
 | a :: l,i+1,c,h=>by
  have:=stpRows_get l i c (by simpa using h)
  rw [show (i+1) * 6=i * 6+6 by omega]
  simpa [stpRows,stpRow] using this
def StNew (w:World) (B:Nat) (v:Value) (l:List Stp):Prop:=w.ownsRow B 65 6 v l.length (stpRows l)
def StAt (w:World) (v:Value) (l:List Stp):Prop:=∃ a cap,v=.slice a l.length cap∧l.length≤cap∧cap≤maxLen∧∀ i c,l[i]?=some c→∃ g,a=some ⟨g,0,none⟩∧(w.cell? ⟨g,i * 6,none⟩=some (.int .i64 c.x)∧w.cell? ⟨g,i * 6+1,none⟩=some (.int .i64 c.y)∧w.cell? ⟨g,i * 6+2,none⟩=some (.int .i64 c.lo))∧w.cell? ⟨g,i * 6+3,none⟩=some (.int .i64 c.hi)∧w.cell? ⟨g,i * 6+4,none⟩=some (.int .i64 c.fr)∧w.cell? ⟨g,i * 6+5,none⟩=some (.int .i64 c.b)
theorem StNew.at {w:World} {B:Nat} {v:Value} {l:List Stp} (h:StNew w B v l):StAt w v l:=by
 obtain ⟨h1,h2⟩:=h
 rcases h2 with ⟨rfl,h0⟩ | ⟨g,cap,cur,rfl,hB,hb,hn,hc,hs,ht⟩
 ·refine ⟨none,0,by rw [h0],by omega,Nat.zero_le _,fun i t hi=>?_⟩
  have:=(List.getElem?_eq_some_iff.1 hi).1
  omega
 ·refine ⟨_,cap,rfl,hn,hc,fun i t hi=>⟨g,rfl,?_⟩⟩
  have hil:=(List.getElem?_eq_some_iff.1 hi).1
  obtain ⟨e0,e1,e2,e3,e4,e5⟩:=stpRows_get l i t hi
  rw [← ht] at e0 e1 e2 e3 e4 e5
  rw [List.getElem?_take,if_pos (by omega)] at e0 e1 e2 e3 e4 e5
  simp only [World.cell?,hb,Option.isSome_none,Bool.false_eq_true,if_false]
  exact ⟨⟨by simpa using e0,by simpa using e1,by simpa using e2⟩,by simpa using e3,by simpa using e4,by simpa using e5⟩
theorem StAt.keep {w w':World} {v:Value} {l:List Stp} (h:StAt w v l) (hb:Below w.heap.size w w'):StAt w' v l:=by
 obtain ⟨a,cap,h1,h2,h3,h4⟩:=h
 refine ⟨a,cap,h1,h2,h3,fun i t ht=>?_⟩
 obtain ⟨g,ha,⟨c0,c1,c2⟩,c3,c4,c5⟩:=h4 i t ht
 exact ⟨g,ha,⟨cell_keep hb (Nat.le_refl _) c0,cell_keep hb (Nat.le_refl _) c1,cell_keep hb (Nat.le_refl _) c2⟩,cell_keep hb (Nat.le_refl _) c3,cell_keep hb (Nat.le_refl _) c4,cell_keep hb (Nat.le_refl _) c5⟩
theorem StNew.nil (w:World) (B:Nat):StNew w B (.slice none 0 0) []:=⟨rfl,.inl ⟨rfl,rfl⟩⟩
theorem StNew.snoc {w:World} {B n:Nat} {v:Value} {l:List Stp} {c:Stp} (hn:l.length=n) (h:w.ownsRow B 65 6 v (n+1) (stpRows l ++ stpRow c)):StNew w B v (l ++ [c]):=by
 unfold StNew
 rw [List.length_append]
 have e:stpRows (l ++ [c])=stpRows l ++ stpRow c:=by simp [stpRows]
 rw [e]
 subst hn
 exact h
theorem infoStep:(Tryz.prog.info? 65).map (fun i=>(i.zero,i.size,i.bytes))=some (some (.agg #[.int .i64 0,.int .i64 0,.int .i64 0,.int .i64 0,.int .i64 0,.int .i64 0]),6,48):=by kernel_rfl
def sat (l:List Stp) (i:Nat):Stp:=l.getD i ⟨0,0,0,0,0,0⟩
theorem sat_get {l:List Stp} {i:Nat} (h:i < l.length):l[i]?=some (sat l i):=by simp [sat,h]
end Go.Proofs.YtbjmgglpiakgdaaGreatDoor.Pa
