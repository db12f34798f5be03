import Derived.Test.YtbjmgglpiakgdaaGreatDoorPa1
namespace Go.Proofs.YtbjmgglpiakgdaaGreatDoor.Pa
open Go.RowKit Go.Proofs.YtbjmgglpiakgdaaGreatDoor Go.Proofs.YtbjmgglpiakgdaaGreatDoor.Sd
set_option linter.unusedSimpArgs false
set_option linter.unusedVariables false
structure SL (w w7 wr:World) (P:Nat) (fx fy:Int) (sv:Value) (l:List Stp):Prop where
 below:Below w.heap.size w wr
 size:w7.heap.size≤wr.heap.size
 keep:∀ b,b < w7.heap.size→b ≠ P→wr.heap[b]?=w7.heap[b]?
 p:wr.heap[P]?=some (.cells #[sv,.int .i64 fx,.int .i64 fy] 55 (0,0))
 s:StNew wr w7.heap.size sv l
theorem SL.call {w w7 wr wx:World} {P:Nat} {fx fy:Int} {sv:Value} {l:List Stp} (h:SL w w7 wr P fx fy sv l) (hb:Below wr.heap.size wr wx):SL w w7 wx P fx fy sv l :=
 ⟨below_step h.below hb,Nat.le_trans h.size hb.size,fun b hl h1=>(hb.block b (Nat.lt_of_lt_of_le hl h.size)).trans (h.keep b hl h1),below_block hb h.p,ownC_keep h.s hb⟩
theorem SL.drew {w w7 wr:World} {P:Nat} {fx fy:Int} {sv:Value} {l:List Stp} (h:SL w w7 wr P fx fy sv l):SL w w7 wr.drew P fx fy sv l:=⟨h.below.drew,h.size,h.keep,h.p,h.s⟩
theorem SL.cell {w w7 wr:World} {P:Nat} {fx fy:Int} {sv:Value} {l:List Stp} (h:SL w w7 wr P fx fy sv l) {b o:Nat} {u:Value} (hb:b < w7.heap.size) (h1:b ≠ P) (hc:w7.cell? ⟨b,o,none⟩=some u):wr.cell? ⟨b,o,none⟩=some u:=by
 rw [World.cell?_of_block (w:=w7) (h.keep b hb h1)]
 exact hc
theorem SL.inP {w w7 wr:World} {P:Nat} {fx fy:Int} {sv:Value} {l:List Stp} (h:SL w w7 wr P fx fy sv l):wr.cell? ⟨P,0,none⟩=some sv:=cell_blk h.p rfl
theorem SL.other {w w7 wr:World} {P:Nat} {fx fy:Int} {sv:Value} {l:List Stp} (h:SL w w7 wr P fx fy sv l) (B i:Nat) (u:Value) (hB:sv.ownBlock ≠ some B) (hw:w.heap.size≤B∧w7.heap.size≤B∧P < w7.heap.size):SL w w7 (wr.setCell ⟨B,i,none⟩ u) P fx fy sv l:=by
 have ho:∀ b,b ≠ B→(wr.setCell ⟨B,i,none⟩ u).heap[b]?=wr.heap[b]?:=fun b hb=>Below.heap_setCell wr ⟨B,i,none⟩ u b hb
 refine ⟨h.below.setCell (p:=⟨B,i,none⟩) hw.1 _,by simpa using h.size,fun b hl h1=>(ho b (by omega)).trans (h.keep b hl h1),(ho P (by omega)).trans h.p,ownC_far h.s (grown_setI wr B i u) (fun k hk e=>hB (by rw [hk,e]))⟩
theorem SL.rowO {w w7 wr:World} {P:Nat} {fx fy:Int} {sv:Value} {l:List Stp} (h:SL w w7 wr P fx fy sv l) (B:Nat) (C:Array Value) (hB:sv.ownBlock ≠ some B) (hw:w.heap.size≤B∧w7.heap.size≤B∧P < w7.heap.size):SL w w7 (wr.setRow B C) P fx fy sv l:=by
 have ho:∀ b,b ≠ B→(wr.setRow B C).heap[b]?=wr.heap[b]?:=fun b hb=>setRow_other _ _ _ _ hb
 refine ⟨below_setRow h.below hw.1 _,by simpa using h.size,fun b hl h1=>(ho b (by omega)).trans (h.keep b hl h1),(ho P (by omega)).trans h.p,ownC_far h.s (grown_rowS wr B C) (fun k hk e=>hB (by rw [hk,e]))⟩
theorem SL.add {w w7 wr wx:World} {P:Nat} {fx fy:Int} {sv sv':Value} {l l':List Stp} (h:SL w w7 wr P fx fy sv l) (hw:w.heap.size≤w7.heap.size) (hP:P < w7.heap.size) (hPw:w.heap.size≤P) (hg:wr.grownBy wx sv.ownBlock) (hs:StNew wx w7.heap.size sv' l'):SL w w7 (wx.setCell ⟨P,0,none⟩ sv') P fx fy sv' l':=by
 have hsz:=h.size
 have hge:∀ k,sv.ownBlock=some k→w7.heap.size≤k:=fun k hk=>ownC_ge h.s k hk
 have h1:∀ b,b < w7.heap.size→wx.heap[b]?=wr.heap[b]?:=fun b hb=>hg.block b (by omega) (fun e=>by have:=hge b e.symm; omega)
 have h2:∀ b,b ≠ P→(wx.setCell ⟨P,0,none⟩ sv').heap[b]?=wx.heap[b]?:=fun b hb=>Below.heap_setCell wx ⟨P,0,none⟩ sv' b hb
 have hp:=(h1 P hP).trans h.p
 refine ⟨(h.below.grown hg h.below.size (fun k e=>by have:=hge k e; omega)).setCell (p:=⟨P,0,none⟩) hPw _,by simpa using Nat.le_trans hsz hg.size,fun b hb e2=>((h2 b e2).trans (h1 b hb)).trans (h.keep b hb e2),row_setCell hp,ownC_far hs (grown_setI wx P 0 sv') (fun k hk e=>?_)⟩
 have h3:=ownC_ge hs k hk
 injection e with e
 omega
set_option maxRecDepth 100000 in
set_option maxHeartbeats 12800000 in
theorem specPathOf_any (vk vp ve:Value) (ks ps:List Tri) (es:List Ent) (nm:ByteArray) (w:World) (hB:BookAt w vk vp ve ks ps es) (nB:BNames ks ps es) (sB:BSmall ks ps es) :
  Calls Tryz.prog 19 #[.agg #[vk,vp,ve],.string nm] w fun e w'=>∃ v,e=.returned (.tuple #[.agg #[v,.int .i64 (pathR ks ps es nm).fr,.int .i64 (pathR ks ps es nm).b],.int .i64 (pathR ks ps es nm).c])∧StNew w' w.heap.size v (pathR ks ps es nm).st∧Below w.heap.size w w':=by
 obtain ⟨i0,hi0,hz0,hzs,hz2⟩:=info_parts infoStep
 have HB:Hid (∀ wx:World,Below w.heap.size w wx→BookAt wx vk vp ve ks ps es):=fun wx hx=>hB.keep hx
 obtain ⟨⟨ak,ck,rfl,-,-,-⟩,⟨ap,cp,rfl,-,-,-⟩,⟨ae,ce,rfl,he1,he2,-⟩⟩:=hB
 unfold maxLen at he2
 have A1:Hid (Below w.heap.size w ((w.alloc (.cells #[.slice ak ks.length ck,.slice ap ps.length cp,.slice ae es.length ce] 29)).alloc (.cells #[.slice none 0 0,.int .i64 0,.int .i64 0] 55))):=((Below.refl _ _).alloc (Nat.le_refl _) _).alloc (by simp) _
 have R1:Hid (((w.alloc (.cells #[.slice ak ks.length ck,.slice ap ps.length cp,.slice ae es.length ce] 29)).alloc (.cells #[.slice none 0 0,.int .i64 0,.int .i64 0] 55)).heap[w.heap.size+1]?=some (.cells #[.slice none 0 0,.int .i64 0,.int .i64 0] 55 (0,0))):=by
  have h:=Lv.heap_newF (w.alloc (.cells #[.slice ak ks.length ck,.slice ap ps.length cp,.slice ae es.length ce] 29)) (.cells #[.slice none 0 0,.int .i64 0,.int .i64 0] 55)
  rw [show (w.alloc (.cells #[.slice ak ks.length ck,.slice ap ps.length cp,.slice ae es.length ce] 29)).heap.size=w.heap.size+1 by simp] at h
  exact h
 have Q0:Hid (∀ wx:World,Below ((w.alloc (.cells #[.slice ak ks.length ck,.slice ap ps.length cp,.slice ae es.length ce] 29)).alloc (.cells #[.slice none 0 0,.int .i64 0,.int .i64 0] 55)).heap.size ((w.alloc (.cells #[.slice ak ks.length ck,.slice ap ps.length cp,.slice ae es.length ce] 29)).alloc (.cells #[.slice none 0 0,.int .i64 0,.int .i64 0] 55)) wx→(wx.cell? ⟨w.heap.size,0,none⟩=some (.slice ak ks.length ck)∧wx.cell? ⟨w.heap.size,1,none⟩=some (.slice ap ps.length cp)∧wx.cell? ⟨w.heap.size,2,none⟩=some (.slice ae es.length ce))):=fun wx hx=>⟨cell_keep hx (Nat.le_refl _) (by simp [go_sem]),cell_keep hx (Nat.le_refl _) (by simp [go_sem]),cell_keep hx (Nat.le_refl _) (by simp [go_sem])⟩
 obtain ⟨p0,p1,p2⟩:=Q0.out _ (Below.refl _ _)
 go_enter Tryz.func19,Tryz.ntmps19
 go_wp2_with fail
 generalize ((w.alloc (.cells #[.slice ak ks.length ck,.slice ap ps.length cp,.slice ae es.length ce] 29)).alloc (.cells #[.slice none 0 0,.int .i64 0,.int .i64 0] 55))=w1 at *
 refine (specBookOk_any _ _ _ ks ps es _ (HB.out _ A1.out) nB sB).mono ?_
 rintro e w2 ⟨rfl,hb2⟩
 have B2:Hid (Below w1.heap.size w1 w2):=hb2
 clear hb2 p0 p1 p2
 obtain ⟨p0,p1,p2⟩:=Q0.out _ B2.out
 have hR:=below_block B2.out R1.out
 cases hbb:bookB ks ps es
 ·have HE:Hid (pathR ks ps es nm=⟨1,[],0,0⟩):=by show _=_; unfold pathR; rw [hbb]; rfl
  clear hbb
  go_wp2_with (refine wpList_store_row rfl 55 _ _ rfl (w.heap.size+1) #[.slice none 0 0,.int .i64 0,.int .i64 0] rfl rfl 55 _ hR (by kernel_rfl) rfl (by simp [Value.oneCell']) ?_)
  exact bodyPost_ret (v:=.tuple #[.agg #[.slice none 0 0,.int .i64 0,.int .i64 0],.int .i64 1]) (by simp [results,Tryz.results19,go_sem,cell_setRow_same _ _ _ _ _ _ _ hR]) rfl ⟨.slice none 0 0,by rw [HE.out],by rw [HE.out]; exact StNew.nil _ _,below_setRow (below_step A1.out B2.out) (by omega) _⟩
 have HBB:Hid (bookB ks ps es=true):=hbb
 clear hbb hR
 go_wp2_with fail
 refine (planStandsS_any _ _ _ ks ps es nm _ (HB.out _ (below_step A1.out B2.out)) nB sB).mono ?_
 rintro e w3 ⟨rt,rfl,hrt,hb3⟩
 have B3:Hid (Below w1.heap.size w1 w3):=below_step B2.out hb3
 clear hb3 p0 p1 p2
 obtain ⟨p0,p1,p2⟩:=Q0.out _ B3.out
 cases hst:standR ks ps es nm with
 | none =>
  have HE:Hid (pathR ks ps es nm=⟨2,[],0,0⟩):=by show _=_; unfold pathR; rw [HBB.out,hst]; rfl
  clear hst hrt
  have B4:Hid (Below w1.heap.size w1 (w3.alloc (.cells #[.string ⟨#[]⟩,.string ⟨#[]⟩,.int .i64 0,.int .i64 0,.int .i64 0,.int .i64 0,.int .i64 0,.slice none 0 0] 47))):=below_step B3.out ((Below.refl _ _).alloc (Nat.le_refl _) _)
  have hR:=below_block B4.out R1.out
  unfold standC zero8
  go_wp2_with (refine wpList_store_row rfl 55 _ _ rfl (w.heap.size+1) #[.slice none 0 0,.int .i64 0,.int .i64 0] rfl rfl 55 _ hR (by kernel_rfl) rfl (by simp [Value.oneCell']) ?_)
  exact bodyPost_ret (v:=.tuple #[.agg #[.slice none 0 0,.int .i64 0,.int .i64 0],.int .i64 2]) (by simp [results,Tryz.results19,go_sem,cell_setRow_same _ _ _ _ _ _ _ hR]) rfl ⟨.slice none 0 0,by rw [HE.out],by rw [HE.out]; exact StNew.nil _ _,below_setRow (below_step A1.out B4.out) (by omega) _⟩
 | some e =>
  have HST:Hid (standR ks ps es nm=some e):=hst
  obtain ⟨-,-,⟨f4,hl4,hrw⟩,hro,hok⟩:=stand_ok hst
  have HPE:Hid (pathR ks ps es nm=pathE ks ps e):=by show _=_; unfold pathR; rw [HBB.out,hst]; rfl
  have hrt3:SNew w3 w2.heap.size rt (rtW e):=by
   have h:=hrt e hst
   rw [hl4] at h
   rw [hrw]
   exact h
  have hlen:=(route_all hro).1
  have SA3:Hid (StrsAt w3 rt (rtW e)):=strs_of_own hrt3 (fun h0=>by rw [h0] at hlen; simp at hlen)
  obtain ⟨ra,rc,rfl⟩:=Lv.own_slice hrt3
  clear hrt hrt3 hl4 hrw hst
  generalize hrn:(rtW e).length=rn at *
  have hsc:standC ks (some e) (.slice ra rn rc)=#[.string e.name,.string (kdOf ks (lastV e.fs 1)).s,.int .i64 (kdOf ks (lastV e.fs 1)).x,.int .i64 (kdOf ks (lastV e.fs 1)).y,.int .i64 (frOf (lastV e.fs 2)),.int .i64 (byOf (lastV e.fs 2)),.int .i64 (lvOf (lastV e.fs 3)),.slice ra rn rc]:=rfl
  rw [hsc]
  clear hsc
  unfold pathE at HPE
  generalize e.name=q at *
  generalize kdOf ks (lastV e.fs 1)=t at *
  generalize frOf (lastV e.fs 2)=x at *
  generalize byOf (lastV e.fs 2)=y at *
  generalize lvOf (lastV e.fs 3)=z at *
  generalize hws:rtW e=ws at *
  have B4:Hid (Below w3.heap.size w3 (w3.alloc (.cells #[.string q,.string t.s,.int .i64 t.x,.int .i64 t.y,.int .i64 x,.int .i64 y,.int .i64 z,.slice ra rn rc] 47))):=(Below.refl _ _).alloc (Nat.le_refl _) _
  have F4:Hid ((w3.alloc (.cells #[.string q,.string t.s,.int .i64 t.x,.int .i64 t.y,.int .i64 x,.int .i64 y,.int .i64 z,.slice ra rn rc] 47)).heap[w3.heap.size]?=some (.cells #[.string q,.string t.s,.int .i64 t.x,.int .i64 t.y,.int .i64 x,.int .i64 y,.int .i64 z,.slice ra rn rc] 47 (0,0))):=Lv.heap_newF w3 _
  have B14:Hid (Below w1.heap.size w1 (w3.alloc (.cells #[.string q,.string t.s,.int .i64 t.x,.int .i64 t.y,.int .i64 x,.int .i64 y,.int .i64 z,.slice ra rn rc] 47))):=below_step B3.out B4.out
  obtain ⟨p0',p1',p2'⟩:=Q0.out _ B14.out
  have zw:=lt_of_cell p0
  have c7:(w3.alloc (.cells #[.string q,.string t.s,.int .i64 t.x,.int .i64 t.y,.int .i64 x,.int .i64 y,.int .i64 z,.slice ra rn rc] 47)).cell? ⟨w3.heap.size,7,none⟩=some (.slice ra rn rc):=cell_blk F4.out rfl
  go_wp2_with fail
  generalize (w3.alloc (.cells #[.string q,.string t.s,.int .i64 t.x,.int .i64 t.y,.int .i64 x,.int .i64 y,.int .i64 z,.slice ra rn rc] 47))=w4 at *
  refine (specCells_any _ _ _ ks ps ws _ (HB.out _ (below_step A1.out B14.out)).k (HB.out _ (below_step A1.out B14.out)).p nB.k nB.p (SA3.out.keep B4.out)).mono ?_
  rintro e5 w5 ⟨u,rfl,hu,hb5⟩
  have B5:Hid (Below w1.heap.size w1 w5):=below_step B14.out hb5
  have F5:Hid (w5.heap[w3.heap.size]?=some (.cells #[.string q,.string t.s,.int .i64 t.x,.int .i64 t.y,.int .i64 x,.int .i64 y,.int .i64 z,.slice ra rn rc] 47 (0,0))):=below_block hb5 F4.out
  clear p0 p1 p2 p0' p1' p2' c7 F4
  cases hcc:cellsOkB ks ps ws
  ·have HE:Hid (pathR ks ps es nm=⟨3,[],0,0⟩):=by show _=_; rw [HPE.out,hcc]; rfl
   obtain ⟨ua,uc,rfl⟩:=ownC_slice hu
   clear hcc
   have hR:=below_block B5.out R1.out
   go_wp2_with (refine wpList_store_row rfl 55 _ _ rfl (w.heap.size+1) #[.slice none 0 0,.int .i64 0,.int .i64 0] rfl rfl 55 _ hR (by kernel_rfl) rfl (by simp [Value.oneCell']) ?_)
   exact bodyPost_ret (v:=.tuple #[.agg #[.slice none 0 0,.int .i64 0,.int .i64 0],.int .i64 3]) (by simp [results,Tryz.results19,go_sem,cell_setRow_same _ _ _ _ _ _ _ hR]) rfl ⟨.slice none 0 0,by rw [HE.out],by rw [HE.out]; exact StNew.nil _ _,below_setRow (below_step A1.out B5.out) (by omega) _⟩
  have hcr:cellsR ks ps ws=cellsL ps ws:=by unfold cellsR; rw [hcc]; rfl
  rw [hcr] at hu
  have hcl:1≤(cellsL ps ws).length∧(cellsL ps ws).length≤40:=⟨cellsL_pos (by omega),by
   unfold cellsOkB at hcc
   rw [Bool.and_eq_true] at hcc
   exact of_decide_eq_true hcc.2⟩
  rw [hcc] at HPE
  simp only [cond_true] at HPE
  clear hcr hcc
  generalize cellsL ps ws=cs at *
  obtain ⟨ua,uc,rfl⟩:=ownC_slice hu
  have U5:Hid (CAt w5 (.slice ua cs.length uc) cs):=hu.at
  clear hu hb5
  -- the specification's path
  obtain ⟨f1,f2,f3,f4,f5,f6,f7,f8⟩:=hok
  obtain ⟨hN1,hN2⟩:=hcl
  have HLL:Hid ((levelsL (cs.length:Int) z).length=cs.length):=levels_len ⟨hN1,hN2⟩ ⟨f7,f8⟩
  have HLG:Hid (∀ k,k < cs.length→(levelsL (cs.length:Int) z)[k]?=some (lvA cs.length z k)):=fun k hk=>levels_get ⟨hN1,hN2⟩ ⟨f7,f8⟩ k hk
  have hf2:=cell_blk F5.out (i:=2) rfl
  have hf3:=cell_blk F5.out (i:=3) rfl
  have hf4:=cell_blk F5.out (i:=4) rfl
  have hf5:=cell_blk F5.out (i:=5) rfl
  have hf6:=cell_blk F5.out (i:=6) rfl
  have hnx:0≤(cs.length:Int) * t.x∧(cs.length:Int) * t.x≤2000:=⟨Int.mul_nonneg (by omega) (by omega),by
   have h1:=Int.mul_le_mul (show (cs.length:Int)≤40 by omega) (show t.x≤50 by omega) (by omega) (by omega)
   omega⟩
  have hny:0≤(cs.length:Int) * t.y∧(cs.length:Int) * t.y≤2000:=⟨Int.mul_nonneg (by omega) (by omega),by
   have h1:=Int.mul_le_mul (show (cs.length:Int)≤40 by omega) (show t.y≤50 by omega) (by omega) (by omega)
   omega⟩
  obtain ⟨hnx0,hnx1⟩:=hnx
  obtain ⟨hny0,hny1⟩:=hny
  by_cases hlate:10000 < y+(cs.length:Int) * t.y
  ·have HE:Hid (pathR ks ps es nm=⟨4,[],0,0⟩):=by show _=_; rw [HPE.out,decide_eq_true hlate]; rfl
   have hR:=below_block B5.out R1.out
   go_wp2_with (refine wpList_store_row rfl 55 _ _ rfl (w.heap.size+1) #[.slice none 0 0,.int .i64 0,.int .i64 0] rfl rfl 55 _ hR (by kernel_rfl) rfl (by simp [Value.oneCell']) ?_)
   exact bodyPost_ret (v:=.tuple #[.agg #[.slice none 0 0,.int .i64 0,.int .i64 0],.int .i64 4]) (by simp [results,Tryz.results19,go_sem,cell_setRow_same _ _ _ _ _ _ _ hR]) rfl ⟨.slice none 0 0,by rw [HE.out],by rw [HE.out]; exact StNew.nil _ _,below_setRow (below_step A1.out B5.out) (by omega) _⟩
  have HE:Hid (pathR ks ps es nm=⟨0,stpTo cs z x y t.x t.y cs.length,x+(cs.length:Int) * t.x,y+(cs.length:Int) * t.y⟩):=by show _=_; rw [HPE.out,decide_eq_false hlate]; rfl
  go_wp2_with fail
  refine (Lv.specLevels_any _ _ _).mono ?_
  rintro e6 w6 ⟨lv,rfl,hl,hb6⟩
  obtain ⟨la,lc,rfl⟩:=Lv.own_slice hl
  have L6:Hid (Lv.IAt w6 (.slice la (levelsL (cs.length:Int) z).length lc) (levelsL (cs.length:Int) z)):=Lv.INew.at hl
  rw [HLL.out] at L6 ⊢
  have F6:Hid (w6.heap[w3.heap.size]?=some (.cells #[.string q,.string t.s,.int .i64 t.x,.int .i64 t.y,.int .i64 x,.int .i64 y,.int .i64 z,.slice ra rn rc] 47 (0,0))):=below_block hb6 F5.out
  have B6:Hid (Below w1.heap.size w1 w6):=below_step B5.out hb6
  have U6:Hid (CAt w6 (.slice ua cs.length uc) cs):=U5.out.keep hb6
  clear hl hb6 hf2 hf3 hf4 hf5 hf6 F5 U5 B5
  have hf2:=cell_blk F6.out (i:=2) rfl
  have hf3:=cell_blk F6.out (i:=3) rfl
  have hf4:=cell_blk F6.out (i:=4) rfl
  have hf5:=cell_blk F6.out (i:=5) rfl
  have B7:Hid (Below w6.heap.size w6 (w6.alloc (.cells #[.slice none 0 0,.int .i64 (x+(cs.length:Int) * t.x),.int .i64 (y+(cs.length:Int) * t.y)] 55))):=(Below.refl _ _).alloc (Nat.le_refl _) _
  have P7:Hid ((w6.alloc (.cells #[.slice none 0 0,.int .i64 (x+(cs.length:Int) * t.x),.int .i64 (y+(cs.length:Int) * t.y)] 55)).heap[w6.heap.size]?=some (.cells #[.slice none 0 0,.int .i64 (x+(cs.length:Int) * t.x),.int .i64 (y+(cs.length:Int) * t.y)] 55 (0,0))):=Lv.heap_newF w6 _
  have Z7:Hid ((w6.alloc (.cells #[.slice none 0 0,.int .i64 (x+(cs.length:Int) * t.x),.int .i64 (y+(cs.length:Int) * t.y)] 55)).heap.size=w6.heap.size+1):=by show _=_; simp
  go_wp2_with fail
  generalize (w6.alloc (.cells #[.slice none 0 0,.int .i64 (x+(cs.length:Int) * t.x),.int .i64 (y+(cs.length:Int) * t.y)] 55))=w7 at *
  generalize x+(cs.length:Int) * t.x=fx at *
  generalize y+(cs.length:Int) * t.y=fy at *
  clear hf2 hf3 hf4 hf5
  have hzw:w.heap.size+2≤w6.heap.size:=by
   have h1:=lt_of_block (below_block B6.out R1.out)
   omega
  have SL0:Hid (SL w w7 w7 w6.heap.size fx fy (.slice none 0 0) (stpTo cs z x y t.x t.y 0)):=⟨below_step (below_step A1.out B6.out) B7.out,Nat.le_refl _,fun _ _ _=>rfl,P7.out,StNew.nil _ _⟩
  obtain ⟨ca',cc',hce,-,hcm,hcc⟩:=U6.out
  obtain ⟨cg,hcg,hcg0,-⟩:=hcc 0 _ (tat_get (by omega))
  cases hce
  subst hcg
  have hcgz:=lt_of_cell hcg0
  unfold maxLen at hcm
  have HCC:Hid (∀ (wx:World) (sv:Value) (l:List Stp),SL w w7 wx w6.heap.size fx fy sv l→∀ k,k < cs.length→wx.cell? ⟨cg,k * 2,none⟩=some (.int .i64 (tat cs k).x)∧wx.cell? ⟨cg,k * 2+1,none⟩=some (.int .i64 (tat cs k).y)):=fun wx sv l hp k hk=>by
   obtain ⟨g,hg,d0,d1⟩:=hcc k _ (tat_get hk)
   cases hg
   have hz7:=Z7.out
   exact ⟨hp.cell (by omega) (by omega) (cell_keep B7.out (Nat.le_refl _) d0),hp.cell (by omega) (by omega) (cell_keep B7.out (Nat.le_refl _) d1)⟩
  obtain ⟨la',lc',hle,hll1,hll2,hlc⟩:=L6.out
  obtain ⟨lg,hlg,hlg0⟩:=hlc 0 _ (HLG.out 0 (by omega))
  rw [HLL.out] at hle hll1
  cases hle
  subst hlg
  have hlgz:=lt_of_cell hlg0
  unfold maxLen at hll2
  have HLV:Hid (∀ (wx:World) (sv:Value) (l:List Stp),SL w w7 wx w6.heap.size fx fy sv l→∀ k,k < cs.length→wx.cell? ⟨lg,k,none⟩=some (.int .i64 (lvA cs.length z k))):=fun wx sv l hp k hk=>by
   obtain ⟨g,hg,d0⟩:=hlc k _ (HLG.out k hk)
   cases hg
   have hz7:=Z7.out
   exact hp.cell (by omega) (by omega) (cell_keep B7.out (Nat.le_refl _) d0)
  have hz3w:=lt_of_block F6.out
  have HFV:Hid (∀ (wx:World) (sv:Value) (l:List Stp),SL w w7 wx w6.heap.size fx fy sv l→wx.heap[w3.heap.size]?=some (.cells #[.string q,.string t.s,.int .i64 t.x,.int .i64 t.y,.int .i64 x,.int .i64 y,.int .i64 z,.slice ra rn rc] 47 (0,0))∧wx.heap[w.heap.size+1]?=some (.cells #[.slice none 0 0,.int .i64 0,.int .i64 0] 55 (0,0))):=fun wx sv l hp=>by
   have hz7:=Z7.out
   exact ⟨(hp.keep _ (by omega) (by omega)).trans (below_block B7.out F6.out),(hp.keep _ (by omega) (by omega)).trans (below_block B7.out (below_block B6.out R1.out))⟩
  clear hcc hlc hlg0 hcg0 U6 L6 HLL HLG F6
  have hz7:=Z7.out
  go_loopw [13] (fun i wr=>∃ k:Nat,k≤cs.length∧i=.int .i64 k∧∃ a c,Hid (SL w w7 wr w6.heap.size fx fy (.slice a k c) (stpTo cs z x y t.x t.y k))) (fun i _=>cs.length - (intOf i).toNat)
  case atStart=>exact ⟨0,Nat.zero_le _,rfl,none,0,SL0⟩
  case round =>
   obtain ⟨k,hk,rfl,a,c,HI⟩:=hrel
   by_cases hlt:k < cs.length
   ·obtain ⟨c0,c1⟩:=HCC.out _ _ _ HI.out k hlt
    have l0:=HLV.out _ _ _ HI.out k hlt
    obtain ⟨hF,-⟩:=HFV.out _ _ _ HI.out
    have hf2:=cell_blk hF (i:=2) rfl
    have hf3:=cell_blk hF (i:=3) rfl
    have hf4:=cell_blk hF (i:=4) rfl
    have hf5:=cell_blk hF (i:=5) rfl
    have hk0:(0:Int)≤(k:Int):=by omega
    have hk1:(k:Int) < (cs.length:Int):=by omega
    obtain ⟨hxk0,hxk1⟩:0≤(k:Int) * t.x∧(k:Int) * t.x≤2000:=⟨Int.mul_nonneg (by omega) (by omega),by
     have h1:=Int.mul_le_mul (show (k:Int)≤40 by omega) (show t.x≤50 by omega) (by omega) (by omega)
     omega⟩
    obtain ⟨hyk0,hyk1⟩:0≤(k:Int) * t.y∧(k:Int) * t.y≤2000:=⟨Int.mul_nonneg (by omega) (by omega),by
     have h1:=Int.mul_le_mul (show (k:Int)≤40 by omega) (show t.y≤50 by omega) (by omega) (by omega)
     omega⟩
    have HSTP:Hid (stpA cs z x y t.x t.y k=⟨(tat cs k).x,(tat cs k).y,minI (lvA cs.length z (k - 1)) (lvA cs.length z k),maxI (lvA cs.length z (k - 1)) (lvA cs.length z k),x+(k:Int) * t.x,y+(k:Int) * t.y⟩):=rfl
    generalize hcx:(tat cs k).x=cx at *
    generalize hcy:(tat cs k).y=cy at *
    have HCX:Hid ((tat cs k).x=cx∧(tat cs k).y=cy):=⟨hcx,hcy⟩
    clear hF hcx hcy
    have HSS:Hid (∀ (wx:World) (sv:Value) (l:List Stp),SL w w7 wx w6.heap.size fx fy sv l→(wx.cell? ⟨cg,k * 2,none⟩=some (.int .i64 cx)∧wx.cell? ⟨cg,k * 2+1,none⟩=some (.int .i64 cy)∧wx.cell? ⟨lg,k,none⟩=some (.int .i64 (lvA cs.length z k)))∧(wx.cell? ⟨w3.heap.size,2,none⟩=some (.int .i64 t.x)∧wx.cell? ⟨w3.heap.size,3,none⟩=some (.int .i64 t.y))∧wx.cell? ⟨w3.heap.size,4,none⟩=some (.int .i64 x)∧wx.cell? ⟨w3.heap.size,5,none⟩=some (.int .i64 y)):=fun wx sv l hp=>by
     obtain ⟨h0,h1⟩:=HCC.out _ _ _ hp k hlt
     rw [HCX.out.1] at h0
     rw [HCX.out.2] at h1
     obtain ⟨hF,-⟩:=HFV.out _ _ _ hp
     exact ⟨⟨h0,h1,HLV.out _ _ _ hp k hlt⟩,⟨cell_blk hF rfl,cell_blk hF rfl⟩,cell_blk hF rfl,cell_blk hF rfl⟩
    have HLK:Hid (∀ (wx:World) (sv:Value) (l:List Stp),SL w w7 wx w6.heap.size fx fy sv l→wx.cell? ⟨lg,k,none⟩=some (.int .i64 (lvA cs.length z k))∧wx.cell? ⟨lg,k - 1,none⟩=some (.int .i64 (lvA cs.length z (k - 1)))):=fun wx sv l hp=>⟨HLV.out _ _ _ hp k hlt,HLV.out _ _ _ hp (k - 1) (by omega)⟩
    generalize hLB:lvA cs.length z k=LB at *
    generalize hLA:lvA cs.length z (k - 1)=LA at *
    have HLL:Hid (lvA cs.length z k=LB∧lvA cs.length z (k - 1)=LA):=⟨hLB,hLA⟩
    clear hLB hLA
    have hw1:IntKind.i64.wrap ((k:Int) * t.x)=(k:Int) * t.x:=by rw [IntKind.wrap_i64]; omega
    have hw2:IntKind.i64.wrap (x+(k:Int) * t.x)=x+(k:Int) * t.x:=by rw [IntKind.wrap_i64]; omega
    have hw3:IntKind.i64.wrap ((k:Int) * t.y)=(k:Int) * t.y:=by rw [IntKind.wrap_i64]; omega
    have hw4:IntKind.i64.wrap (y+(k:Int) * t.y)=y+(k:Int) * t.y:=by rw [IntKind.wrap_i64]; omega
    obtain ⟨j,hj⟩:∃ j,k - 1=j:=⟨_,rfl⟩
    have HJ:Hid (k - 1=j):=hj
    rw [hj] at HLK
    clear hj
    go_wp2
    refine wp_region_noPanic ?_
    refine wp_region_held_drew (S:=fun w'=>(w'.cell? ⟨cg,k * 2,none⟩=some (.int .i64 cx)∧w'.cell? ⟨cg,k * 2+1,none⟩=some (.int .i64 cy)∧w'.cell? ⟨lg,k,none⟩=some (.int .i64 LB))∧(w'.cell? ⟨w3.heap.size,2,none⟩=some (.int .i64 t.x)∧w'.cell? ⟨w3.heap.size,3,none⟩=some (.int .i64 t.y))∧w'.cell? ⟨w3.heap.size,4,none⟩=some (.int .i64 x)∧w'.cell? ⟨w3.heap.size,5,none⟩=some (.int .i64 y)) (by kernel_rfl) ?_ (fun hHeld=>?_)
    ·exact HSS.out _ _ _ HI.out.drew
    have ID:=Lv.toHid HI.out.drew
    generalize wr.drew=W0 at *
    clear HI c0 c1 l0 hf2 hf3 hf4 hf5
    refine tkH 0 ?_ rfl ?_ (tkH 1 ?_ rfl ?_ (tkH 2 ?_ rfl ?_ (tkH 3 ?_ rfl ?_ (tkH 4 ?_ rfl ?_ (tkH 5 ?_ rfl ?_ (tkH 6 ?_ rfl ?_ (tkH 7 ?_ rfl ?_ (tkH 8 ?_ rfl ?_ (tkH 9 ?_ rfl ?_ (tkH 10 ?_ rfl ?_ (tkH 11 ?_ rfl ?_ (tkH 12 ?_ rfl ?_ (tkH 13 ?_ rfl ?_ (tkH 14 ?_ rfl ?_ (tkH 15 ?_ rfl ?_ (tkH 16 ?_ rfl ?_ (tkH 17 ?_ rfl ?_ (tkH 18 ?_ rfl ?_ (tkH 19 ?_ rfl ?_ (tkH 20 ?_ rfl ?_ (tkH 21 ?_ rfl ?_ (tkH 22 ?_ rfl ?_ (tkH 23 ?_ rfl ?_ (tkH 24 ?_ rfl ?_ (tkH 25 ?_ rfl ?_ (tkH 26 ?_ rfl ?_ (tkH 27 ?_ rfl ?_ (tkH 28 ?_ rfl ?_ (tkH 29 ?_ rfl ?_ (tkH 30 ?_ rfl ?_ (tkH 31 ?_ rfl ?_ (tkH 32 ?_ rfl ?_ (tkH 33 ?_ rfl ?_ (tkH 34 ?_ rfl ?_ ?_))))))))))))))))))))))))))))))))))
    iterate 35 (rotate_left; focus (intro w hSw; (try dsimp only at hSw); simp only [Act.put,tkS]; go_simp; try with_reducible rfl))
    simp only [Act.put,tkS]
    clear hHeld
    try simp only [hw1,hw2,hw3,hw4]
    clear hw1 hw2 hw3 hw4
    generalize x+(k:Int) * t.x=ex at *
    generalize y+(k:Int) * t.y=ey at *
    have hz0':=ID.out.size
    have IA:=Lv.toHid (ID.out.call ((Below.refl W0.heap.size W0).alloc (Nat.le_refl _) (.cells #[.int .i64 0,.int .i64 0,.int .i64 0,.int .i64 0,.int .i64 0,.int .i64 0] 65)))
    have BA:Hid ((W0.alloc (.cells #[.int .i64 0,.int .i64 0,.int .i64 0,.int .i64 0,.int .i64 0,.int .i64 0] 65)).heap[W0.heap.size]?=some (.cells #[.int .i64 0,.int .i64 0,.int .i64 0,.int .i64 0,.int .i64 0,.int .i64 0] 65 (0,0))):=Lv.heap_newF W0 _
    have hSBn:(Value.slice a k c).ownBlock ≠ some W0.heap.size:=fun e=>by have:=ownC_lt ID.out.s _ e; omega
    refine rdH 35 rfl (fun K hK=>?_)
    go_simp
    refine hK.out _ _ (HSS.out _ _ _ IA.out) (fun _=>?_)
    clear hK K
    generalize (W0.alloc (.cells #[.int .i64 0,.int .i64 0,.int .i64 0,.int .i64 0,.int .i64 0,.int .i64 0] 65))=W1 at *
    generalize W0.heap.size=SB at *
    have hSBw:w.heap.size≤SB∧w7.heap.size≤SB∧w6.heap.size < w7.heap.size:=by omega
    have IR:=Lv.toHid (IA.out.rowO SB #[.int .i64 cx,.int .i64 cy,.int .i64 LB,.int .i64 LB,.int .i64 ex,.int .i64 ey] hSBn hSBw)
    have BR:Hid ((W1.setRow SB #[.int .i64 cx,.int .i64 cy,.int .i64 LB,.int .i64 LB,.int .i64 ex,.int .i64 ey]).heap[SB]?=some (.cells #[.int .i64 cx,.int .i64 cy,.int .i64 LB,.int .i64 LB,.int .i64 ex,.int .i64 ey] 65 (0,0))):=setRow_heap _ _ _ _ _ _ BA.out
    refine rdH 36 rfl (fun K hK=>?_)
    refine step_store_rowC rfl 65 _ _ rfl SB #[.int .i64 cx,.int .i64 cy,.int .i64 LB,.int .i64 LB,.int .i64 ex,.int .i64 ey] rfl rfl 65 _ BA.out (by kernel_rfl) rfl (by simp [Value.oneCell']) ?_
    refine hK.out _ _ (HSS.out _ _ _ IR.out) (fun _=>?_)
    clear hK K IA BA ID
    refine wpAnyH_done (by kernel_rfl) ?_ _
    refine NoPanic.normal ?_
    generalize (W1.setRow SB #[.int .i64 cx,.int .i64 cy,.int .i64 LB,.int .i64 LB,.int .i64 ex,.int .i64 ey])=WX at *
    have SLX:=IR
    have SBX:=BR
    clear IR BR
    by_cases hkz:(0:Int) < (k:Int)
    focus
     have LVX:=Lv.toHid (HLK.out _ _ _ SLX.out)
     have hjk:(k:Int) - 1=(j:Int):=by have:=HJ.out; omega
     have hwk:IntKind.i64.wrap ((k:Int) - 1)=(j:Int):=by have:=HJ.out; rw [IntKind.wrap_i64]; omega
     have hwj:IntKind.i64.wrap (j:Int)=(j:Int):=by rw [IntKind.wrap_i64]; omega
     have hj0:(0:Int)≤(j:Int):=by omega
     have hj1:(j:Int) < (cs.length:Int):=by omega
     obtain ⟨l0',l1'⟩:WX.cell? ⟨lg,k,none⟩=some (.int .i64 LB)∧WX.cell? ⟨lg,j,none⟩=some (.int .i64 LA):=LVX.out
     go_wp2
     refine wp_region_noPanic ?_
     refine wp_region_held_drew (S:=fun w'=>w'.cell? ⟨lg,k,none⟩=some (.int .i64 LB)∧w'.cell? ⟨lg,j,none⟩=some (.int .i64 LA)) (by kernel_rfl) ?_ (fun hHeld=>?_)
     ·exact ⟨l0',l1'⟩
     have SLD:=Lv.toHid SLX.out.drew
     have SBD:Hid (WX.drew.heap[SB]?=some (.cells #[.int .i64 cx,.int .i64 cy,.int .i64 LB,.int .i64 LB,.int .i64 ex,.int .i64 ey] 65 (0,0))):=SBX.out
     have LVD:Hid (WX.drew.cell? ⟨lg,k,none⟩=some (.int .i64 LB)∧WX.drew.cell? ⟨lg,j,none⟩=some (.int .i64 LA)):=LVX.out
     clear SLX SBX LVX l0' l1'
     generalize WX.drew=WD at *
     refine tkH 0 ?_ rfl ?_ (tkH 1 ?_ rfl ?_ (tkH 2 ?_ rfl ?_ (tkH 3 ?_ rfl ?_ (tkH 4 ?_ rfl ?_ (tkH 5 ?_ rfl ?_ (tkH 6 ?_ rfl ?_ (tkH 7 ?_ rfl ?_ (tkH 8 ?_ rfl ?_ ?_))))))))
     iterate 9 (rotate_left; focus (intro w hSw; (try dsimp only at hSw); simp only [Act.put,tkS]; go_simp; try with_reducible rfl))
     simp only [Act.put,tkS]
     clear hHeld
     refine rdH 9 rfl (fun K hK=>?_)
     go_simp
     refine (Lv.l7Min_any _ _ _).mono ?_
     rintro e w9 ⟨rfl,rfl⟩
     refine hK.out _ _ LVD.out (fun hHeld=>?_)
     clear hK K
     refine tkH 10 ?_ rfl ?_ ?_; rotate_left
     ·intro w hSw; (try dsimp only at hSw); go_simp; try with_reducible rfl
     simp only [Act.put,tkS]
     clear hHeld
     have hSB:=SBD.out
     have lz:=cell_blk hSB (i:=2) rfl
     have lfz:w9.frozen? ⟨SB,2,none⟩=false:=by simp [World.frozen?,hSB]
     have hzd:=SLD.out.size
     have SB2:Hid ((w9.setCell ⟨SB,2,none⟩ (.int .i64 (minI LA LB))).heap[SB]?=some (.cells #[.int .i64 cx,.int .i64 cy,.int .i64 (minI LA LB),.int .i64 LB,.int .i64 ex,.int .i64 ey] 65 (0,0))):=row_setCell hSB
     have SL2:=Lv.toHid (SLD.out.other SB 2 (.int .i64 (minI LA LB)) hSBn hSBw)
     have LV2:Hid ((w9.setCell ⟨SB,2,none⟩ (.int .i64 (minI LA LB))).cell? ⟨lg,k,none⟩=some (.int .i64 LB)∧(w9.setCell ⟨SB,2,none⟩ (.int .i64 (minI LA LB))).cell? ⟨lg,j,none⟩=some (.int .i64 LA)):=by
      have h:(w9.setCell ⟨SB,2,none⟩ (.int .i64 (minI LA LB))).heap[lg]?=w9.heap[lg]?:=Below.heap_setCell w9 ⟨SB,2,none⟩ _ lg (by show lg ≠ SB; omega)
      exact ⟨by rw [World.cell?_of_block (w:=w9) h]; exact LVD.out.1,by rw [World.cell?_of_block (w:=w9) h]; exact LVD.out.2⟩
     clear hSB
     refine rdH 11 rfl (fun K hK=>?_)
     go_simp
     refine hK.out _ _ LV2.out (fun _=>?_)
     clear hK K lz lfz SLD SBD LVD
     refine wpAnyH_done (by kernel_rfl) ?_ _
     refine NoPanic.normal ?_
     generalize (w9.setCell ⟨SB,2,none⟩ (.int .i64 (minI LA LB)))=WX at *
     have SLX:=SL2
     have SBX:=SB2
     have LVX:=LV2
     clear SL2 SB2 LV2
     obtain ⟨l0',l1'⟩:WX.cell? ⟨lg,k,none⟩=some (.int .i64 LB)∧WX.cell? ⟨lg,j,none⟩=some (.int .i64 LA):=LVX.out
     go_wp2
     refine wp_region_noPanic ?_
     refine wp_region_held_drew (S:=fun w'=>w'.cell? ⟨lg,k,none⟩=some (.int .i64 LB)∧w'.cell? ⟨lg,j,none⟩=some (.int .i64 LA)) (by kernel_rfl) ?_ (fun hHeld=>?_)
     ·exact ⟨l0',l1'⟩
     have SLD:=Lv.toHid SLX.out.drew
     have SBD:Hid (WX.drew.heap[SB]?=some (.cells #[.int .i64 cx,.int .i64 cy,.int .i64 (minI LA LB),.int .i64 LB,.int .i64 ex,.int .i64 ey] 65 (0,0))):=SBX.out
     have LVD:Hid (WX.drew.cell? ⟨lg,k,none⟩=some (.int .i64 LB)∧WX.drew.cell? ⟨lg,j,none⟩=some (.int .i64 LA)):=LVX.out
     clear SLX SBX LVX l0' l1'
     generalize WX.drew=WD at *
     refine tkH 0 ?_ rfl ?_ (tkH 1 ?_ rfl ?_ (tkH 2 ?_ rfl ?_ (tkH 3 ?_ rfl ?_ (tkH 4 ?_ rfl ?_ (tkH 5 ?_ rfl ?_ (tkH 6 ?_ rfl ?_ (tkH 7 ?_ rfl ?_ (tkH 8 ?_ rfl ?_ ?_))))))))
     iterate 9 (rotate_left; focus (intro w hSw; (try dsimp only at hSw); simp only [Act.put,tkS]; go_simp; try with_reducible rfl))
     simp only [Act.put,tkS]
     clear hHeld
     refine rdH 9 rfl (fun K hK=>?_)
     go_simp
     refine (l7Max_any _ _ _).mono ?_
     rintro e w9 ⟨rfl,rfl⟩
     refine hK.out _ _ LVD.out (fun hHeld=>?_)
     clear hK K
     refine tkH 10 ?_ rfl ?_ ?_; rotate_left
     ·intro w hSw; (try dsimp only at hSw); go_simp; try with_reducible rfl
     simp only [Act.put,tkS]
     clear hHeld
     have hSB:=SBD.out
     have lz:=cell_blk hSB (i:=3) rfl
     have lfz:w9.frozen? ⟨SB,3,none⟩=false:=by simp [World.frozen?,hSB]
     have hzd:=SLD.out.size
     have SB2:Hid ((w9.setCell ⟨SB,3,none⟩ (.int .i64 (maxI LA LB))).heap[SB]?=some (.cells #[.int .i64 cx,.int .i64 cy,.int .i64 (minI LA LB),.int .i64 (maxI LA LB),.int .i64 ex,.int .i64 ey] 65 (0,0))):=row_setCell hSB
     have SL2:=Lv.toHid (SLD.out.other SB 3 (.int .i64 (maxI LA LB)) hSBn hSBw)
     have LV2:Hid ((w9.setCell ⟨SB,3,none⟩ (.int .i64 (maxI LA LB))).cell? ⟨lg,k,none⟩=some (.int .i64 LB)∧(w9.setCell ⟨SB,3,none⟩ (.int .i64 (maxI LA LB))).cell? ⟨lg,j,none⟩=some (.int .i64 LA)):=by
      have h:(w9.setCell ⟨SB,3,none⟩ (.int .i64 (maxI LA LB))).heap[lg]?=w9.heap[lg]?:=Below.heap_setCell w9 ⟨SB,3,none⟩ _ lg (by show lg ≠ SB; omega)
      exact ⟨by rw [World.cell?_of_block (w:=w9) h]; exact LVD.out.1,by rw [World.cell?_of_block (w:=w9) h]; exact LVD.out.2⟩
     clear hSB
     refine rdH 11 rfl (fun K hK=>?_)
     go_simp
     refine hK.out _ _ LV2.out (fun _=>?_)
     clear hK K lz lfz SLD SBD LVD
     refine wpAnyH_done (by kernel_rfl) ?_ _
     refine NoPanic.normal ?_
     generalize (w9.setCell ⟨SB,3,none⟩ (.int .i64 (maxI LA LB)))=WX at *
     have SLX:=SL2
     have SBX:=SB2
     have LVX:=LV2
     clear SL2 SB2 LV2
     have hSB:=SBX.out
     have b0:=cell_blk hSB (i:=0) rfl
     have b1:=cell_blk hSB (i:=1) rfl
     have b2:=cell_blk hSB (i:=2) rfl
     have b3:=cell_blk hSB (i:=3) rfl
     have b4:=cell_blk hSB (i:=4) rfl
     have b5:=cell_blk hSB (i:=5) rfl
     have hp0:=SLX.out.inP
     have hown0:WX.ownsRow w7.heap.size 65 6 (.slice a k c) k (stpRows (stpTo cs z x y t.x t.y k)):=by
      have h:WX.ownsRow w7.heap.size 65 6 (.slice a k c) (stpTo cs z x y t.x t.y k).length (stpRows (stpTo cs z x y t.x t.y k)):=SLX.out.s
      rw [stpTo_len] at h
      exact h
     have hzx:=SLX.out.size
     have hP2:=SLX.out.p
     go_wp2_with (at_builtin; refine wpList_append_any _ rfl _ _ 53 rfl w7.heap.size 65 i0 _ 6 48 Tryz.underlying53 hi0 hz0 hzs hz2 rfl (by decide) _ k _ rfl (ownC_keep hown0 ((Below.refl _ _).alloc (Nat.le_refl _) _)) _ 1 1 [.int .i64 cx,.int .i64 cy,.int .i64 (minI LA LB),.int .i64 (maxI LA LB),.int .i64 ex,.int .i64 ey] rfl (.inr ⟨_,rfl,World.news_of_block (Lv.heap_newF WX (.cells #[.int .i64 cx,.int .i64 cy,.int .i64 (minI LA LB),.int .i64 (maxI LA LB),.int .i64 ex,.int .i64 ey] 65))⟩) rfl (fun u hu=>by simp at hu; rcases hu with rfl | rfl | rfl | rfl | rfl | rfl <;> rfl) (by unfold maxLen; omega) (by omega) (by simp; omega) ?_; intro va W2 hown hgrow hat; have HOWN:=Lv.toHid hown; have HGR:=Lv.toHid hgrow; obtain ⟨pa,pc,rfl⟩:=ownC_slice hown; clear hown; have hg2:W2.heap[w6.heap.size]?=some (.cells #[.slice a k c,.int .i64 fx,.int .i64 fy] 55 (0,0)):=((HGR.out.block _ (by simp; omega) (fun e=>by have:=ownC_ge hown0 _ e.symm; omega)).trans (((Below.refl _ _).alloc (Nat.le_refl _) _).block _ (by omega))).trans hP2; have lz:W2.cell? ⟨w6.heap.size,0,none⟩=some (.slice a k c):=cell_blk hg2 rfl; have lfz:W2.frozen? ⟨w6.heap.size,0,none⟩=false:=(by simp [World.frozen?,hg2]); clear hg2 hgrow hat)
     have SN:Hid (StNew W2 w7.heap.size (.slice pa (k+1) pc) (stpTo cs z x y t.x t.y (k+1))):=by
      show StNew _ _ _ _
      rw [stpTo_succ]
      refine StNew.snoc (stpTo_len _ _ _ _ _ _ _) ?_
      rw [HSTP.out]
      exact HOWN.out
     have SLA:=Lv.toHid (SLX.out.call ((Below.refl WX.heap.size WX).alloc (Nat.le_refl _) (.cells #[.int .i64 cx,.int .i64 cy,.int .i64 (minI LA LB),.int .i64 (maxI LA LB),.int .i64 ex,.int .i64 ey] 65)))
    rotate_left
    focus
     have HLE:Hid (LA=LB):=by
      show LA=LB
      rw [← HLL.out.1,← HLL.out.2,show k - 1=k by omega]
     have hSB:=SBX.out
     have b0:=cell_blk hSB (i:=0) rfl
     have b1:=cell_blk hSB (i:=1) rfl
     have b2:=cell_blk hSB (i:=2) rfl
     have b3:=cell_blk hSB (i:=3) rfl
     have b4:=cell_blk hSB (i:=4) rfl
     have b5:=cell_blk hSB (i:=5) rfl
     have hp0:=SLX.out.inP
     have hown0:WX.ownsRow w7.heap.size 65 6 (.slice a k c) k (stpRows (stpTo cs z x y t.x t.y k)):=by
      have h:WX.ownsRow w7.heap.size 65 6 (.slice a k c) (stpTo cs z x y t.x t.y k).length (stpRows (stpTo cs z x y t.x t.y k)):=SLX.out.s
      rw [stpTo_len] at h
      exact h
     have hzx:=SLX.out.size
     have hP2:=SLX.out.p
     go_wp2_with (at_builtin; refine wpList_append_any _ rfl _ _ 53 rfl w7.heap.size 65 i0 _ 6 48 Tryz.underlying53 hi0 hz0 hzs hz2 rfl (by decide) _ k _ rfl (ownC_keep hown0 ((Below.refl _ _).alloc (Nat.le_refl _) _)) _ 1 1 [.int .i64 cx,.int .i64 cy,.int .i64 LB,.int .i64 LB,.int .i64 ex,.int .i64 ey] rfl (.inr ⟨_,rfl,World.news_of_block (Lv.heap_newF WX (.cells #[.int .i64 cx,.int .i64 cy,.int .i64 LB,.int .i64 LB,.int .i64 ex,.int .i64 ey] 65))⟩) rfl (fun u hu=>by simp at hu; rcases hu with rfl | rfl | rfl | rfl | rfl | rfl <;> rfl) (by unfold maxLen; omega) (by omega) (by simp; omega) ?_; intro va W2 hown hgrow hat; have HOWN:=Lv.toHid hown; have HGR:=Lv.toHid hgrow; obtain ⟨pa,pc,rfl⟩:=ownC_slice hown; clear hown; have hg2:W2.heap[w6.heap.size]?=some (.cells #[.slice a k c,.int .i64 fx,.int .i64 fy] 55 (0,0)):=((HGR.out.block _ (by simp; omega) (fun e=>by have:=ownC_ge hown0 _ e.symm; omega)).trans (((Below.refl _ _).alloc (Nat.le_refl _) _).block _ (by omega))).trans hP2; have lz:W2.cell? ⟨w6.heap.size,0,none⟩=some (.slice a k c):=cell_blk hg2 rfl; have lfz:W2.frozen? ⟨w6.heap.size,0,none⟩=false:=(by simp [World.frozen?,hg2]); clear hg2 hgrow hat)
     have SN:Hid (StNew W2 w7.heap.size (.slice pa (k+1) pc) (stpTo cs z x y t.x t.y (k+1))):=by
      show StNew _ _ _ _
      rw [stpTo_succ]
      refine StNew.snoc (stpTo_len _ _ _ _ _ _ _) ?_
      rw [HSTP.out,HLE.out,show minI LB LB=LB by unfold minI; split <;> rfl,show maxI LB LB=LB by unfold maxI; split <;> rfl]
      exact HOWN.out
     have SLA:=Lv.toHid (SLX.out.call ((Below.refl WX.heap.size WX).alloc (Nat.le_refl _) (.cells #[.int .i64 cx,.int .i64 cy,.int .i64 LB,.int .i64 LB,.int .i64 ex,.int .i64 ey] 65)))
    rotate_left
    all_goals
     have SLN:=Lv.toHid (SLA.out.add (by omega) (by omega) (by omega) HGR.out SN.out)
     exact ⟨⟨k+1,by omega,by go_num,pa,pc,SLN⟩,by simp [intOf]; omega⟩
   ·have HF:Hid (k=cs.length):=by show k=cs.length; omega
    have hP:=HI.out.p
    have p0:=cell_blk hP (i:=0) rfl
    have p1:=cell_blk hP (i:=1) rfl
    have p2:=cell_blk hP (i:=2) rfl
    obtain ⟨-,hR⟩:=HFV.out _ _ _ HI.out
    clear hP
    go_wp2_with (refine wpList_store_row rfl 55 _ _ rfl (w.heap.size+1) #[.slice a k c,.int .i64 fx,.int .i64 fy] rfl rfl 55 _ hR (by kernel_rfl) rfl (by simp [Value.oneCell']) ?_)
    exact bodyPost_ret (v:=.tuple #[.agg #[.slice a k c,.int .i64 fx,.int .i64 fy],.int .i64 0]) (by simp [results,Tryz.results19,go_sem,cell_setRow_same _ _ _ _ _ _ _ hR]) rfl ⟨.slice a k c,by rw [HE.out],by
     rw [HE.out]
     show StNew _ _ _ (stpTo cs z x y t.x t.y cs.length)
     rw [← HF.out]
     exact ownC_mono (ownC_far HI.out.s (grown_rowS _ _ _) (fun q hq e=>by have:=ownC_ge HI.out.s q hq; injection e with e; omega)) (by omega),below_setRow HI.out.below (by omega) _⟩
end Go.Proofs.YtbjmgglpiakgdaaGreatDoor.Pa
