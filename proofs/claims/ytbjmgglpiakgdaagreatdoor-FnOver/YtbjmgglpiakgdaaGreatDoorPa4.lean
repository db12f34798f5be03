import Derived.Test.YtbjmgglpiakgdaaGreatDoorPa1
set_option linter.unusedSimpArgs false
set_option linter.unusedVariables false
namespace Go.Proofs.YtbjmgglpiakgdaaGreatDoor.Pa
open Go.RowKit Go.Proofs.YtbjmgglpiakgdaaGreatDoor Go.Proofs.YtbjmgglpiakgdaaGreatDoor.Sd
set_option maxRecDepth 100000 in
set_option maxHeartbeats 12800000 in
theorem planPathOf_any (vk vp ve:Value) (ks ps:List Tri) (es:List Ent) (nm:ByteArray) (w:World) (hB:BookAt w vk vp ve ks ps es) (nB:BNames ks ps es) (sB:BSmall ks ps es) (hN:NeedIn w) :
  Calls Tryz.prog 15 #[.agg #[vk,vp,ve],.string nm] w fun e w'=>∃ v,e=.returned (.tuple #[.agg #[v,.int .i64 (pathR ks ps es nm).fr,.int .i64 (pathR ks ps es nm).b],.int .i64 (pathR ks ps es nm).c])∧StNew w' w.heap.size v (pathR ks ps es nm).st∧Below w.heap.size w w':=by
 have HB:Hid (∀ wx:World,Below w.heap.size w wx→BookAt wx vk vp ve ks ps es):=fun wx hx=>hB.keep hx
 have HN:Hid (∀ wx:World,Below w.heap.size w wx→NeedIn wx):=fun wx hx=>hN.keep hx
 obtain ⟨⟨ak,ck,rfl,-,-,-⟩,⟨ap,cp,rfl,-,-,-⟩,⟨ae,ce,rfl,he1,he2,-⟩⟩:=hB
 unfold maxLen at he2
 have A1:Hid (Below w.heap.size w ((w.alloc (.cells #[.slice ak ks.length ck,.slice ap ps.length cp,.slice ae es.length ce] 29)).alloc (.cells #[.slice none 0 0,.int .i64 0,.int .i64 0] 55))):=((Below.refl _ _).alloc (Nat.le_refl _) _).alloc (by simp) _
 have R1:Hid (((w.alloc (.cells #[.slice ak ks.length ck,.slice ap ps.length cp,.slice ae es.length ce] 29)).alloc (.cells #[.slice none 0 0,.int .i64 0,.int .i64 0] 55)).heap[w.heap.size+1]?=some (.cells #[.slice none 0 0,.int .i64 0,.int .i64 0] 55 (0,0))):=by
  have h:=Lv.heap_newF (w.alloc (.cells #[.slice ak ks.length ck,.slice ap ps.length cp,.slice ae es.length ce] 29)) (.cells #[.slice none 0 0,.int .i64 0,.int .i64 0] 55)
  rw [show (w.alloc (.cells #[.slice ak ks.length ck,.slice ap ps.length cp,.slice ae es.length ce] 29)).heap.size=w.heap.size+1 by simp] at h
  exact h
 have Q0:Hid (∀ wx:World,Below ((w.alloc (.cells #[.slice ak ks.length ck,.slice ap ps.length cp,.slice ae es.length ce] 29)).alloc (.cells #[.slice none 0 0,.int .i64 0,.int .i64 0] 55)).heap.size ((w.alloc (.cells #[.slice ak ks.length ck,.slice ap ps.length cp,.slice ae es.length ce] 29)).alloc (.cells #[.slice none 0 0,.int .i64 0,.int .i64 0] 55)) wx→(wx.cell? ⟨w.heap.size,0,none⟩=some (.slice ak ks.length ck)∧wx.cell? ⟨w.heap.size,1,none⟩=some (.slice ap ps.length cp)∧wx.cell? ⟨w.heap.size,2,none⟩=some (.slice ae es.length ce))):=fun wx hx=>⟨cell_keep hx (Nat.le_refl _) (by simp [go_sem]),cell_keep hx (Nat.le_refl _) (by simp [go_sem]),cell_keep hx (Nat.le_refl _) (by simp [go_sem])⟩
 obtain ⟨p0,p1,p2⟩:=Q0.out _ (Below.refl _ _)
 go_enter Tryz.func15,Tryz.ntmps15
 go_wp2_with fail
 generalize ((w.alloc (.cells #[.slice ak ks.length ck,.slice ap ps.length cp,.slice ae es.length ce] 29)).alloc (.cells #[.slice none 0 0,.int .i64 0,.int .i64 0] 55))=w1 at *
 refine (bookOk_any _ _ _ ks ps es _ (HB.out _ A1.out) nB sB).mono ?_
 rintro e w2 ⟨rfl,hb2⟩
 have B2:Hid (Below w1.heap.size w1 w2):=hb2
 clear hb2 p0 p1 p2
 obtain ⟨p0,p1,p2⟩:=Q0.out _ B2.out
 have hR:=below_block B2.out R1.out
 cases hbb:bookB ks ps es
 ·have HE:Hid (pathR ks ps es nm=⟨1,[],0,0⟩):=by show _=_; unfold pathR; rw [hbb]; rfl
  clear hbb
  go_wp2_with (refine wpList_store_row rfl 55 _ _ rfl (w.heap.size+1) #[.slice none 0 0,.int .i64 0,.int .i64 0] rfl rfl 55 _ hR (by kernel_rfl) rfl (by simp [Value.oneCell']) ?_)
  exact bodyPost_ret (v:=.tuple #[.agg #[.slice none 0 0,.int .i64 0,.int .i64 0],.int .i64 1]) (by simp [results,Tryz.results15,go_sem,cell_setRow_same _ _ _ _ _ _ _ hR]) rfl ⟨.slice none 0 0,by rw [HE.out],by rw [HE.out]; exact StNew.nil _ _,below_setRow (below_step A1.out B2.out) (by omega) _⟩
 have HBB:Hid (bookB ks ps es=true):=hbb
 clear hbb hR
 go_wp2_with fail
 refine (planStands_any _ _ _ ks ps es nm _ (HB.out _ (below_step A1.out B2.out)) nB sB (HN.out _ (below_step A1.out B2.out))).mono ?_
 rintro e w3 ⟨rt,rfl,hrt,hb3⟩
 have B3:Hid (Below w1.heap.size w1 w3):=below_step B2.out hb3
 clear hb3 p0 p1 p2
 obtain ⟨p0,p1,p2⟩:=Q0.out _ B3.out
 cases hst:standR ks ps es nm with
 | none =>
  have HE:Hid (pathR ks ps es nm=⟨2,[],0,0⟩):=by show _=_; unfold pathR; rw [HBB.out,hst]; rfl
  clear hst hrt
  have B4:Hid (Below w1.heap.size w1 (w3.alloc (.cells #[.string ⟨#[]⟩,.string ⟨#[]⟩,.int .i64 0,.int .i64 0,.int .i64 0,.int .i64 0,.int .i64 0,.slice none 0 0] 47))):=below_step B3.out ((Below.refl _ _).alloc (Nat.le_refl _) _)
  have hR:=below_block B4.out R1.out
  unfold standC zero8
  go_wp2_with (refine wpList_store_row rfl 55 _ _ rfl (w.heap.size+1) #[.slice none 0 0,.int .i64 0,.int .i64 0] rfl rfl 55 _ hR (by kernel_rfl) rfl (by simp [Value.oneCell']) ?_)
  exact bodyPost_ret (v:=.tuple #[.agg #[.slice none 0 0,.int .i64 0,.int .i64 0],.int .i64 2]) (by simp [results,Tryz.results15,go_sem,cell_setRow_same _ _ _ _ _ _ _ hR]) rfl ⟨.slice none 0 0,by rw [HE.out],by rw [HE.out]; exact StNew.nil _ _,below_setRow (below_step A1.out B4.out) (by omega) _⟩
 | some e =>
  have HST:Hid (standR ks ps es nm=some e):=hst
  obtain ⟨-,-,⟨f4,hl4,hrw⟩,hro,hok⟩:=stand_ok hst
  have HPE:Hid (pathR ks ps es nm=pathE ks ps e):=by show _=_; unfold pathR; rw [HBB.out,hst]; rfl
  have hrt3:SNew w3 w2.heap.size rt (rtW e):=by
   have h:=hrt e hst
   rw [hl4] at h
   rw [hrw]
   exact h
  have hlen:=(route_all hro).1
  have SA3:Hid (StrsAt w3 rt (rtW e)):=strs_of_own hrt3 (fun h0=>by rw [h0] at hlen; simp at hlen)
  obtain ⟨ra,rc,rfl⟩:=Lv.own_slice hrt3
  clear hrt hrt3 hl4 hrw hst
  generalize hrn:(rtW e).length=rn at *
  have hsc:standC ks (some e) (.slice ra rn rc)=#[.string e.name,.string (kdOf ks (lastV e.fs 1)).s,.int .i64 (kdOf ks (lastV e.fs 1)).x,.int .i64 (kdOf ks (lastV e.fs 1)).y,.int .i64 (frOf (lastV e.fs 2)),.int .i64 (byOf (lastV e.fs 2)),.int .i64 (lvOf (lastV e.fs 3)),.slice ra rn rc]:=rfl
  rw [hsc]
  clear hsc
  unfold pathE at HPE
  generalize e.name=q at *
  generalize kdOf ks (lastV e.fs 1)=t at *
  generalize frOf (lastV e.fs 2)=x at *
  generalize byOf (lastV e.fs 2)=y at *
  generalize lvOf (lastV e.fs 3)=z at *
  generalize hws:rtW e=ws at *
  have B4:Hid (Below w3.heap.size w3 (w3.alloc (.cells #[.string q,.string t.s,.int .i64 t.x,.int .i64 t.y,.int .i64 x,.int .i64 y,.int .i64 z,.slice ra rn rc] 47))):=(Below.refl _ _).alloc (Nat.le_refl _) _
  have F4:Hid ((w3.alloc (.cells #[.string q,.string t.s,.int .i64 t.x,.int .i64 t.y,.int .i64 x,.int .i64 y,.int .i64 z,.slice ra rn rc] 47)).heap[w3.heap.size]?=some (.cells #[.string q,.string t.s,.int .i64 t.x,.int .i64 t.y,.int .i64 x,.int .i64 y,.int .i64 z,.slice ra rn rc] 47 (0,0))):=Lv.heap_newF w3 _
  have B14:Hid (Below w1.heap.size w1 (w3.alloc (.cells #[.string q,.string t.s,.int .i64 t.x,.int .i64 t.y,.int .i64 x,.int .i64 y,.int .i64 z,.slice ra rn rc] 47))):=below_step B3.out B4.out
  obtain ⟨p0',p1',p2'⟩:=Q0.out _ B14.out
  have zw:=lt_of_cell p0
  have c7:(w3.alloc (.cells #[.string q,.string t.s,.int .i64 t.x,.int .i64 t.y,.int .i64 x,.int .i64 y,.int .i64 z,.slice ra rn rc] 47)).cell? ⟨w3.heap.size,7,none⟩=some (.slice ra rn rc):=cell_blk F4.out rfl
  go_wp2_with fail
  generalize (w3.alloc (.cells #[.string q,.string t.s,.int .i64 t.x,.int .i64 t.y,.int .i64 x,.int .i64 y,.int .i64 z,.slice ra rn rc] 47))=w4 at *
  refine (planCells_any _ _ _ ks ps ws _ (HB.out _ (below_step A1.out B14.out)).k (HB.out _ (below_step A1.out B14.out)).p nB.k nB.p (SA3.out.keep B4.out)).mono ?_
  rintro e5 w5 ⟨u,rfl,hu,hb5⟩
  have B5:Hid (Below w1.heap.size w1 w5):=below_step B14.out hb5
  have F5:Hid (w5.heap[w3.heap.size]?=some (.cells #[.string q,.string t.s,.int .i64 t.x,.int .i64 t.y,.int .i64 x,.int .i64 y,.int .i64 z,.slice ra rn rc] 47 (0,0))):=below_block hb5 F4.out
  clear p0 p1 p2 p0' p1' p2' c7 F4
  cases hcc:cellsOkB ks ps ws
  ·have HE:Hid (pathR ks ps es nm=⟨3,[],0,0⟩):=by show _=_; rw [HPE.out,hcc]; rfl
   obtain ⟨ua,uc,rfl⟩:=ownC_slice hu
   clear hcc
   have hR:=below_block B5.out R1.out
   go_wp2_with (refine wpList_store_row rfl 55 _ _ rfl (w.heap.size+1) #[.slice none 0 0,.int .i64 0,.int .i64 0] rfl rfl 55 _ hR (by kernel_rfl) rfl (by simp [Value.oneCell']) ?_)
   exact bodyPost_ret (v:=.tuple #[.agg #[.slice none 0 0,.int .i64 0,.int .i64 0],.int .i64 3]) (by simp [results,Tryz.results15,go_sem,cell_setRow_same _ _ _ _ _ _ _ hR]) rfl ⟨.slice none 0 0,by rw [HE.out],by rw [HE.out]; exact StNew.nil _ _,below_setRow (below_step A1.out B5.out) (by omega) _⟩
  have hcr:cellsR ks ps ws=cellsL ps ws:=by unfold cellsR; rw [hcc]; rfl
  rw [hcr] at hu
  have hcl:1≤(cellsL ps ws).length∧(cellsL ps ws).length≤40:=⟨cellsL_pos (by omega),by
   unfold cellsOkB at hcc
   rw [Bool.and_eq_true] at hcc
   exact of_decide_eq_true hcc.2⟩
  rw [hcc] at HPE
  simp only [cond_true] at HPE
  clear hcr hcc
  generalize cellsL ps ws=cs at *
  obtain ⟨ua,uc,rfl⟩:=ownC_slice hu
  have U5:Hid (CAt w5 (.slice ua cs.length uc) cs):=hu.at
  clear hu hb5
  -- the program's path
  have hf0:w5.cell? ⟨w3.heap.size,0,none⟩=some (.string q):=by simp [World.cell?,F5.out]
  have hf1:w5.cell? ⟨w3.heap.size,1,none⟩=some (.string t.s):=by simp [World.cell?,F5.out]
  have hf2:w5.cell? ⟨w3.heap.size,2,none⟩=some (.int .i64 t.x):=by simp [World.cell?,F5.out]
  have hf3:w5.cell? ⟨w3.heap.size,3,none⟩=some (.int .i64 t.y):=by simp [World.cell?,F5.out]
  have hf4:w5.cell? ⟨w3.heap.size,4,none⟩=some (.int .i64 x):=by simp [World.cell?,F5.out]
  have hf5:w5.cell? ⟨w3.heap.size,5,none⟩=some (.int .i64 y):=by simp [World.cell?,F5.out]
  have hf6:w5.cell? ⟨w3.heap.size,6,none⟩=some (.int .i64 z):=by simp [World.cell?,F5.out]
  have hf7:w5.cell? ⟨w3.heap.size,7,none⟩=some (.slice ra rn rc):=by simp [World.cell?,F5.out]
  go_wp2_with fail
  refine (pathAlong_any _ cs q t x y z ra rn rc _ U5.out hcl hok).mono ?_
  rintro e6 w6 ⟨u6,rfl,hu6,hb6⟩
  have B6:Hid (Below w1.heap.size w1 w6):=below_step B5.out hb6
  obtain ⟨sa,sc,rfl⟩:=ownC_slice hu6
  have U6:Hid (StNew w6 w.heap.size (.slice sa (stpTo cs z x y t.x t.y cs.length).length sc) (stpTo cs z x y t.x t.y cs.length)):=ownC_mono hu6 (below_step A1.out B5.out).size
  rw [stpTo_len] at U6 ⊢
  clear hu6 hb6 hf0 hf1 hf2 hf3 hf4 hf5 hf6 hf7
  have hnx:0≤(cs.length:Int) * t.x∧(cs.length:Int) * t.x≤2000:=⟨Int.mul_nonneg (by omega) (by have:=hok.q; omega),by
   have h1:=Int.mul_le_mul (show (cs.length:Int)≤40 by omega) (show t.x≤50 by have:=hok.qs; have:=hok.s; omega) (by have:=hok.q; omega) (by omega)
   omega⟩
  have hny:0≤(cs.length:Int) * t.y∧(cs.length:Int) * t.y≤2000:=⟨Int.mul_nonneg (by omega) (by have:=hok.q; have:=hok.qs; omega),by
   have h1:=Int.mul_le_mul (show (cs.length:Int)≤40 by omega) (show t.y≤50 by have:=hok.s; omega) (by have:=hok.q; have:=hok.qs; omega) (by omega)
   omega⟩
  generalize hFX:x+(cs.length:Int) * t.x=fx at *
  generalize hFY:y+(cs.length:Int) * t.y=fy at *
  have B7:Hid (Below w6.heap.size w6 (w6.alloc (.cells #[.slice sa cs.length sc,.int .i64 fx,.int .i64 fy] 55))):=(Below.refl _ _).alloc (Nat.le_refl _) _
  have P7:Hid ((w6.alloc (.cells #[.slice sa cs.length sc,.int .i64 fx,.int .i64 fy] 55)).heap[w6.heap.size]?=some (.cells #[.slice sa cs.length sc,.int .i64 fx,.int .i64 fy] 55 (0,0))):=Lv.heap_newF w6 _
  have R7:=below_block (below_step B6.out B7.out) R1.out
  have HR7:=Lv.toHid R7
  by_cases hlate:10000 < fy
  ·have HE:Hid (pathR ks ps es nm=⟨4,[],0,0⟩):=by show _=_; rw [HPE.out,decide_eq_true hlate]; rfl
   go_wp2_with (refine wpList_store_row rfl 55 _ _ rfl (w.heap.size+1) #[.slice none 0 0,.int .i64 0,.int .i64 0] rfl rfl 55 _ R7 (by kernel_rfl) rfl (by simp [Value.oneCell']) ?_)
   exact bodyPost_ret (v:=.tuple #[.agg #[.slice none 0 0,.int .i64 0,.int .i64 0],.int .i64 4]) (by simp [results,Tryz.results15,go_sem,cell_setRow_same _ _ _ _ _ _ _ R7]) rfl ⟨.slice none 0 0,by rw [HE.out],by rw [HE.out]; exact StNew.nil _ _,below_setRow (below_step A1.out (below_step B6.out B7.out)) (by omega) _⟩
  ·have HE:Hid (pathR ks ps es nm=⟨0,stpTo cs z x y t.x t.y cs.length,fx,fy⟩):=by show _=_; rw [HPE.out,decide_eq_false hlate]; rfl
   go_wp2_with (refine wpList_store_row rfl 55 _ _ rfl (w.heap.size+1) #[.slice sa cs.length sc,.int .i64 fx,.int .i64 fy] rfl rfl 55 _ R7 (by kernel_rfl) rfl (by simp [Value.oneCell']) ?_)
   exact bodyPost_ret (v:=.tuple #[.agg #[.slice sa cs.length sc,.int .i64 fx,.int .i64 fy],.int .i64 0]) (by simp [results,Tryz.results15,go_sem,cell_setRow_same _ _ _ _ _ _ _ R7]) rfl ⟨.slice sa cs.length sc,by rw [HE.out],by rw [HE.out]; exact ownC_far (ownC_keep U6.out B7.out) (grown_rowS _ _ _) (fun k hk e=>Sd.own_type (ownC_keep U6.out B7.out) R7 (by decide) (by rw [hk,e])),below_setRow (below_step A1.out (below_step B6.out B7.out)) (by omega) _⟩
open Go.RowKit Go.Proofs.YtbjmgglpiakgdaaGreatDoor Go.Proofs.YtbjmgglpiakgdaaGreatDoor.Sd
def atC (x y:Int) (s:Stp):Bool:=decide (s.x=x) && decide (s.y=y)
def leaveA (l:List Stp) (b:Int) (k:Nat):Int:=if k+1 < l.length then (sat l (k+1)).b else b
def overL (l:List Stp) (b x y:Int):Int × Int × Bool:=bif decide (l.findIdx (atC x y) < l.length) then ((sat l (l.findIdx (atC x y))).fr,leaveA l b (l.findIdx (atC x y)) - 1,true) else (0,0,false)
theorem overL_at {l:List Stp} {b x y:Int} {k:Nat} (hk:k < l.length) (h:atC x y (sat l k)=true) (hn:∀ j,j < k→atC x y (sat l j)=false):overL l b x y=((sat l k).fr,leaveA l b k - 1,true):=by
 have e:l.findIdx (atC x y)=k:=by
  rw [List.findIdx_eq hk]
  have es:∀ i (hi:i < l.length),sat l i=l[i]:=fun i hi=>by simp [sat,hi]
  exact ⟨by rw [← es k hk]; exact h,fun j hj=>by rw [← es j (by omega)]; exact hn j hj⟩
 unfold overL
 rw [e,decide_eq_true hk]
 rfl
theorem overL_no {l:List Stp} {b x y:Int} (hn:∀ j,j < l.length→atC x y (sat l j)=false):overL l b x y=(0,0,false):=by
 have e:¬ l.findIdx (atC x y) < l.length:=by
  intro h
  have h1:=List.findIdx_getElem (w:=h)
  have h2:=hn _ h
  have es:sat l (l.findIdx (atC x y))=l[l.findIdx (atC x y)]:=by simp [sat,h]
  rw [es,h1] at h2
  cases h2
 unfold overL
 rw [decide_eq_false e]
 rfl
def overR (ks ps:List Tri) (es:List Ent) (nm pt:ByteArray):Int × Int × Bool :=
 bif decide ((pathR ks ps es nm).c=0) && hasB ps pt then overL (pathR ks ps es nm).st (pathR ks ps es nm).b (celOf ps pt).x (celOf ps pt).y else (0,0,false)
set_option maxHeartbeats 1600000 in
theorem leavingBy_any (v:Value) (l:List Stp) (fr b:Int) (k:Nat) (w:World) (hv:StAt w v l) (hk:k < l.length) :
  Calls Tryz.prog 100 #[.agg #[v,.int .i64 fr,.int .i64 b],.int .i64 k] w fun e w'=>e=.returned (.int .i64 (leaveA l b k))∧Below w.heap.size w w':=by
 obtain ⟨a,cap,rfl,hlc,hcm,hc⟩:=hv
 unfold maxLen at hcm
 have HB:Hid (Below w.heap.size w (w.alloc (.cells #[.slice a l.length cap,.int .i64 fr,.int .i64 b] 55))):=(Below.refl _ _).alloc (Nat.le_refl _) _
 by_cases hl:k+1 < l.length
 ·have HE:Hid (leaveA l b k=(sat l (k+1)).b):=by show _=_; unfold leaveA; rw [if_pos hl]
  obtain ⟨g,rfl,-,-,-,c5⟩:=hc (k+1) _ (sat_get hl)
  have z0:=lt_of_cell c5
  have hk0:(0:Int)≤(k:Int)+1:=by omega
  have hk1:(k:Int)+1 < (l.length:Int):=by omega
  have e5:((k:Int)+1).toNat=k+1:=by omega
  generalize (sat l (k+1)).b=u at *
  clear hc
  go_enter Tryz.func100,Tryz.ntmps100
  go_wp2
  go_ret
  exact ⟨ret_int HE.out.symm,HB.out⟩
 ·have HE:Hid (leaveA l b k=b):=by show _=_; unfold leaveA; rw [if_neg hl]
  have hk1:¬ (k:Int)+1 < (l.length:Int):=by omega
  go_enter Tryz.func100,Tryz.ntmps100
  go_wp2
  go_ret
  exact ⟨ret_int HE.out.symm,HB.out⟩
set_option maxRecDepth 100000 in
set_option maxHeartbeats 3200000 in
theorem over_any (v:Value) (l:List Stp) (fr b x y:Int) (w:World) (hv:StAt w v l) (hb1:∀ k,k < l.length→-1000000≤leaveA l b k∧leaveA l b k≤1000000) :
  Calls Tryz.prog 59 #[.agg #[v,.int .i64 fr,.int .i64 b],.agg #[.int .i64 x,.int .i64 y]] w fun e w'=>e=.returned (.tuple #[.int .i64 (overL l b x y).1,.int .i64 (overL l b x y).2.1,.bool (overL l b x y).2.2])∧Below w.heap.size w w':=by
 have HV:Hid (∀ wx:World,Below w.heap.size w wx→StAt wx v l):=fun wx hx=>hv.keep hx
 obtain ⟨a,cap,rfl,hlc,hcm,-⟩:=hv
 unfold maxLen at hcm
 have HLB:Hid (∀ k,k < l.length→-1000000≤leaveA l b k∧leaveA l b k≤1000000):=hb1
 have A1:Hid (Below w.heap.size w ((w.alloc (.cells #[.slice a l.length cap,.int .i64 fr,.int .i64 b] 55)).alloc (.cells #[.int .i64 x,.int .i64 y] 77))):=((Below.refl _ _).alloc (Nat.le_refl _) _).alloc (by simp) _
 have Q0:Hid (∀ wx:World,Below ((w.alloc (.cells #[.slice a l.length cap,.int .i64 fr,.int .i64 b] 55)).alloc (.cells #[.int .i64 x,.int .i64 y] 77)).heap.size ((w.alloc (.cells #[.slice a l.length cap,.int .i64 fr,.int .i64 b] 55)).alloc (.cells #[.int .i64 x,.int .i64 y] 77)) wx→(wx.cell? ⟨w.heap.size,0,none⟩=some (.slice a l.length cap)∧wx.cell? ⟨w.heap.size,1,none⟩=some (.int .i64 fr)∧wx.cell? ⟨w.heap.size,2,none⟩=some (.int .i64 b))∧wx.cell? ⟨w.heap.size+1,0,none⟩=some (.int .i64 x)∧wx.cell? ⟨w.heap.size+1,1,none⟩=some (.int .i64 y)):=fun wx hx=>⟨⟨cell_keep hx (Nat.le_refl _) (by simp [go_sem]),cell_keep hx (Nat.le_refl _) (by simp [go_sem]),cell_keep hx (Nat.le_refl _) (by simp [go_sem])⟩,cell_keep hx (Nat.le_refl _) (by simp [go_sem]),cell_keep hx (Nat.le_refl _) (by simp [go_sem])⟩
 go_enter Tryz.func59,Tryz.ntmps59
 go_wp2_with fail
 generalize ((w.alloc (.cells #[.slice a l.length cap,.int .i64 fr,.int .i64 b] 55)).alloc (.cells #[.int .i64 x,.int .i64 y] 77))=w1 at *
 go_loopw [12] (fun i wr=>∃ k:Nat,k≤l.length∧i=.int .i64 k∧Hid (Below w1.heap.size w1 wr∧∀ j,j < k→atC x y (sat l j)=false)) (fun i _=>l.length - (intOf i).toNat)
 case atStart=>exact ⟨0,Nat.zero_le _,rfl,Below.refl _ _,fun j hj=>absurd hj (Nat.not_lt_zero _)⟩
 case round =>
  obtain ⟨k,hk,rfl,HI⟩:=hrel
  by_cases hlt:k < l.length
  ·obtain ⟨a',cap',he,-,-,hc⟩:=HV.out _ (below_step A1.out HI.out.1)
   obtain ⟨g,hg,⟨c0,c1,c2⟩,c3,c4,c5⟩:=hc k _ (sat_get hlt)
   cases he
   subst hg
   clear hc
   have z0:=lt_of_cell c0
   have hk0:(0:Int)≤(k:Int):=by omega
   have hk1:(k:Int) < (l.length:Int):=by omega
   obtain ⟨⟨p0,p1,p2⟩,q0,q1⟩:=Q0.out _ HI.out.1
   have zp:=lt_of_cell p0
   have zq:=lt_of_cell q0
   obtain ⟨hl0,hl1⟩:=HLB.out k hlt
   have GLV:Hid (∀ wx:World,Below w.heap.size w wx→Calls Tryz.prog 100 #[.agg #[.slice (some ⟨g,0,none⟩) l.length cap,.int .i64 fr,.int .i64 b],.int .i64 k] wx fun e w'=>e=.returned (.int .i64 (leaveA l b k))∧Below wx.heap.size wx w'):=fun wx hx=>leavingBy_any _ l fr b k wx (HV.out _ hx) hlt
   have HAT:Hid (atC x y (sat l k)=(decide ((sat l k).x=x) && decide ((sat l k).y=y))):=rfl
   have HOV:Hid (atC x y (sat l k)=true→overL l b x y=((sat l k).fr,leaveA l b k - 1,true)):=fun h=>overL_at hlt h HI.out.2
   generalize hsk:sat l k=s at *
   have HSK:Hid (sat l k=s):=hsk
   clear hsk
   generalize leaveA l b k=lv at *
   have BA:Hid (Below wr.heap.size wr (wr.alloc (.cells #[.int .i64 s.x,.int .i64 s.y,.int .i64 s.lo,.int .i64 s.hi,.int .i64 s.fr,.int .i64 s.b] 65))):=(Below.refl _ _).alloc (Nat.le_refl _) _
   by_cases hx:s.x=x
   ·have hxe:(s.x == x)=true:=by simp [hx]
    by_cases hy:s.y=y
    ·have HYES:=Lv.toHid (HOV.out (by rw [HAT.out]; simp [hx,hy]))
     have hye:(s.y == y)=true:=by simp [hy]
     clear hx hy
     have hw1:IntKind.i64.wrap (lv - 1)=lv - 1:=by rw [IntKind.wrap_i64]; omega
     have S4:Hid ((wr.alloc (.cells #[.int .i64 s.x,.int .i64 s.y,.int .i64 s.lo,.int .i64 s.hi,.int .i64 s.fr,.int .i64 s.b] 65)).heap[wr.heap.size]?=some (.cells #[.int .i64 s.x,.int .i64 s.y,.int .i64 s.lo,.int .i64 s.hi,.int .i64 s.fr,.int .i64 s.b] 65 (0,0))):=Lv.heap_newF wr _
     have B4:Hid (Below w1.heap.size w1 (wr.alloc (.cells #[.int .i64 s.x,.int .i64 s.y,.int .i64 s.lo,.int .i64 s.hi,.int .i64 s.fr,.int .i64 s.b] 65))):=below_step HI.out.1 BA.out
     go_wp2
     clear HI c0 c1 c2 c3 c4 c5
     generalize (wr.alloc (.cells #[.int .i64 s.x,.int .i64 s.y,.int .i64 s.lo,.int .i64 s.hi,.int .i64 s.fr,.int .i64 s.b] 65))=wq at *
     refine wp_region_noPanic ?_
     have HSS:Hid (∀ wx:World,Below wq.heap.size wq wx→wx.cell? ⟨wr.heap.size,4,none⟩=some (.int .i64 s.fr)∧wx.cell? ⟨w.heap.size,0,none⟩=some (.slice (some ⟨g,0,none⟩) l.length cap)∧wx.cell? ⟨w.heap.size,1,none⟩=some (.int .i64 fr)∧wx.cell? ⟨w.heap.size,2,none⟩=some (.int .i64 b)):=fun wx hx=>by
      obtain ⟨⟨h0,h1,h2⟩,-,-⟩:=Q0.out _ (below_step B4.out hx)
      exact ⟨cell_blk (below_block hx S4.out) rfl,h0,h1,h2⟩
     refine wp_region_held_drew (S:=fun w'=>w'.cell? ⟨wr.heap.size,4,none⟩=some (.int .i64 s.fr)∧w'.cell? ⟨w.heap.size,0,none⟩=some (.slice (some ⟨g,0,none⟩) l.length cap)∧w'.cell? ⟨w.heap.size,1,none⟩=some (.int .i64 fr)∧w'.cell? ⟨w.heap.size,2,none⟩=some (.int .i64 b)) (by kernel_rfl) ?_ (fun hHeld=>?_)
     ·exact HSS.out _ (Below.refl _ _).drew
     have BD:Hid (Below wq.heap.size wq wq.drew):=(Below.refl _ _).drew
     clear p0 p1 p2 q0 q1
     generalize wq.drew=W0 at *
     refine tkH 0 ?_ rfl ?_ (tkH 1 ?_ rfl ?_ (tkH 2 ?_ rfl ?_ (tkH 3 ?_ rfl ?_ ?_)))
     iterate 4 (rotate_left; focus (intro w hSw; (try dsimp only at hSw); simp only [Act.put,tkS]; go_simp; try with_reducible rfl))
     simp only [Act.put,tkS]
     clear hHeld
     refine rdH 4 rfl (fun K hK=>?_)
     go_simp
     refine (GLV.out _ (below_step A1.out (below_step B4.out BD.out))).mono ?_
     rintro e W1 ⟨rfl,hbl⟩
     have BD1:Hid (Below wq.heap.size wq W1):=below_step BD.out hbl
     refine hK.out _ _ (HSS.out _ BD1.out) (fun hHeld=>?_)
     clear hK K hbl BD
     refine tkH 5 ?_ rfl ?_ (tkH 6 ?_ rfl ?_ (tkH 7 ?_ rfl ?_ (tkH 8 ?_ rfl ?_ ?_)))
     iterate 4 (rotate_left; focus (intro w hSw; (try dsimp only at hSw); simp only [Act.put,tkS]; go_simp; try with_reducible rfl))
     simp only [Act.put,tkS]
     clear hHeld
     refine wpAnyH_done (by kernel_rfl) ?_ _
     refine NoPanic.normal ?_
     go_wp2
     go_ret3
     exact ⟨by rw [HYES.out]; rfl,below_step A1.out (below_step B4.out BD1.out)⟩
    ·have HNO:Hid (atC x y s=false):=by show _=_; rw [HAT.out]; simp [hy]
     have hye:(s.y == y)=false:=by simp [hy]
     clear hx hy
     have HN:Hid (Below w1.heap.size w1 (wr.alloc (.cells #[.int .i64 s.x,.int .i64 s.y,.int .i64 s.lo,.int .i64 s.hi,.int .i64 s.fr,.int .i64 s.b] 65))∧∀ j,j < k+1→atC x y (sat l j)=false):=⟨below_step HI.out.1 BA.out,fun j hj=>by
      by_cases e:j=k
      ·subst e; rw [HSK.out]; exact HNO.out
      ·exact HI.out.2 j (by omega)⟩
     go_wp2
     exact ⟨⟨k+1,by omega,by go_num,HN⟩,by simp [intOf]; omega⟩
   ·have HNO:Hid (atC x y s=false):=by show _=_; rw [HAT.out]; simp [hx]
    have hxe:(s.x == x)=false:=by simp [hx]
    clear hx
    have HN:Hid (Below w1.heap.size w1 (wr.alloc (.cells #[.int .i64 s.x,.int .i64 s.y,.int .i64 s.lo,.int .i64 s.hi,.int .i64 s.fr,.int .i64 s.b] 65))∧∀ j,j < k+1→atC x y (sat l j)=false):=⟨below_step HI.out.1 BA.out,fun j hj=>by
     by_cases e:j=k
     ·subst e; rw [HSK.out]; exact HNO.out
     ·exact HI.out.2 j (by omega)⟩
    go_wp2
    exact ⟨⟨k+1,by omega,by go_num,HN⟩,by simp [intOf]; omega⟩
  ·have HNO:Hid (overL l b x y=(0,0,false)):=overL_no (fun j hj=>HI.out.2 j (by omega))
   go_wp2
   go_ret3
   exact ⟨by rw [HNO.out]; rfl,below_step A1.out HI.out.1⟩
theorem stpTo_at (cs:List Cel) (l fr b q s:Int) (n k:Nat) (hk:k < n):sat (stpTo cs l fr b q s n) k=stpA cs l fr b q s k:=by
 simp [sat,stpTo,hk]
theorem path_leave {ks ps:List Tri} {es:List Ent} {nm:ByteArray} (h:(pathR ks ps es nm).c=0):∀ k,k < (pathR ks ps es nm).st.length→-1000000≤leaveA (pathR ks ps es nm).st (pathR ks ps es nm).b k∧leaveA (pathR ks ps es nm).st (pathR ks ps es nm).b k≤1000000:=by
 cases hb:bookB ks ps es with
 | false=>unfold pathR at h; rw [hb] at h; simp at h
 | true =>
  cases hs:standR ks ps es nm with
  | none=>unfold pathR at h; rw [hb,hs] at h; simp at h
  | some e =>
   have hP:pathR ks ps es nm=pathE ks ps e:=by unfold pathR; rw [hb,hs]; rfl
   obtain ⟨-,-,-,hro,hok⟩:=stand_ok hs
   obtain ⟨f1,f2,f3,f4,f5,f6,f7,f8⟩:=hok
   rw [hP] at h ⊢
   unfold pathE at h ⊢
   cases hc:cellsOkB ks ps (rtW e) with
   | false=>rw [hc] at h; simp at h
   | true =>
    rw [hc] at h
    simp only [cond_true] at h ⊢
    have hcl:(cellsL ps (rtW e)).length≤40:=by
     unfold cellsOkB at hc
     rw [Bool.and_eq_true] at hc
     exact of_decide_eq_true hc.2
    generalize cellsL ps (rtW e)=cs at *
    generalize kdOf ks (lastV e.fs 1)=t at *
    generalize frOf (lastV e.fs 2)=x at *
    generalize byOf (lastV e.fs 2)=y at *
    generalize lvOf (lastV e.fs 3)=z at *
    cases hl:decide (10000 < y+(cs.length:Int) * t.y) with
    | true=>rw [hl] at h; simp at h
    | false =>
     simp only [cond_false]
     have hm:∀ k:Nat,k≤40→0≤(k:Int) * t.y∧(k:Int) * t.y≤2000:=fun k hk=>⟨Int.mul_nonneg (by omega) (by omega),by
      have h1:=Int.mul_le_mul (show (k:Int)≤40 by omega) (show t.y≤50 by omega) (by omega) (by omega)
      omega⟩
     intro k hk
     rw [stpTo_len] at hk
     unfold leaveA
     rw [stpTo_len]
     split
     ·rw [stpTo_at _ _ _ _ _ _ _ _ (by assumption)]
      show -1000000≤y+((k+1:Nat):Int) * t.y∧y+((k+1:Nat):Int) * t.y≤1000000
      have:=hm (k+1) (by omega)
      omega
     ·have:=hm cs.length hcl
      omega
set_option maxRecDepth 100000 in
set_option maxHeartbeats 6400000 in
theorem planOver_any (vk vp ve:Value) (ks ps:List Tri) (es:List Ent) (nm pt:ByteArray) (w:World) (hB:BookAt w vk vp ve ks ps es) (nB:BNames ks ps es) (sB:BSmall ks ps es) (hN:NeedIn w) :
  Calls Tryz.prog 23 #[.agg #[vk,vp,ve],.string nm,.string pt] w fun e w'=>e=.returned (.tuple #[.int .i64 (overR ks ps es nm pt).1,.int .i64 (overR ks ps es nm pt).2.1,.bool (overR ks ps es nm pt).2.2])∧Below w.heap.size w w':=by
 have HB:Hid (∀ wx:World,Below w.heap.size w wx→BookAt wx vk vp ve ks ps es):=fun wx hx=>hB.keep hx
 have HN:Hid (∀ wx:World,Below w.heap.size w wx→NeedIn wx):=fun wx hx=>hN.keep hx
 have GPT:Hid (∀ wx:World,Below w.heap.size w wx→Calls Tryz.prog 57 #[vp,.string pt,.func (.func 58) #[] #[]] wx fun e w'=>e=.returned (.tuple #[.int .i64 (plc ps pt:Nat),.bool (hasB ps pt)])∧Below wx.heap.size wx w'):=fun wx hx=>placePoint_any vp ps pt wx (hB.p.keep hx)
 obtain ⟨⟨ak,ck,rfl,-,-,-⟩,⟨ap,cp,rfl,hp1,hp2,-⟩,⟨ae,ce,rfl,he1,he2,-⟩⟩:=hB
 unfold maxLen at he2 hp2
 have A1:Hid (Below w.heap.size w (w.alloc (.cells #[.slice ak ks.length ck,.slice ap ps.length cp,.slice ae es.length ce] 29))):=(Below.refl _ _).alloc (Nat.le_refl _) _
 have Q0:Hid (∀ wx:World,Below (w.alloc (.cells #[.slice ak ks.length ck,.slice ap ps.length cp,.slice ae es.length ce] 29)).heap.size (w.alloc (.cells #[.slice ak ks.length ck,.slice ap ps.length cp,.slice ae es.length ce] 29)) wx→(wx.cell? ⟨w.heap.size,0,none⟩=some (.slice ak ks.length ck)∧wx.cell? ⟨w.heap.size,1,none⟩=some (.slice ap ps.length cp)∧wx.cell? ⟨w.heap.size,2,none⟩=some (.slice ae es.length ce))):=fun wx hx=>⟨cell_keep hx (Nat.le_refl _) (by simp [go_sem]),cell_keep hx (Nat.le_refl _) (by simp [go_sem]),cell_keep hx (Nat.le_refl _) (by simp [go_sem])⟩
 obtain ⟨p0,p1,p2⟩:=Q0.out _ (Below.refl _ _)
 have HLV:Hid ((pathR ks ps es nm).c=0→∀ k,k < (pathR ks ps es nm).st.length→-1000000≤leaveA (pathR ks ps es nm).st (pathR ks ps es nm).b k∧leaveA (pathR ks ps es nm).st (pathR ks ps es nm).b k≤1000000):=path_leave
 have HOV:Hid (overR ks ps es nm pt=bif decide ((pathR ks ps es nm).c=0) && hasB ps pt then overL (pathR ks ps es nm).st (pathR ks ps es nm).b (celOf ps pt).x (celOf ps pt).y else (0,0,false)):=rfl
 go_enter Tryz.func23,Tryz.ntmps23
 go_wp2_with fail
 generalize (w.alloc (.cells #[.slice ak ks.length ck,.slice ap ps.length cp,.slice ae es.length ce] 29))=w1 at *
 refine (planPathOf_any _ _ _ ks ps es nm _ (HB.out _ A1.out) nB sB (HN.out _ A1.out)).mono ?_
 rintro e w2 ⟨v,rfl,hv,hb2⟩
 have B2:Hid (Below w1.heap.size w1 w2):=hb2
 generalize pathR ks ps es nm=pr at *
 obtain ⟨pc,st,pf,pb⟩:=pr
 dsimp only at hv HLV HOV ⊢
 obtain ⟨sa,sc,rfl⟩:=ownC_slice hv
 have V2:Hid (StAt w2 (.slice sa st.length sc) st):=hv.at
 clear hv hb2
 have B3:Hid (Below w2.heap.size w2 (w2.alloc (.cells #[.slice sa st.length sc,.int .i64 pf,.int .i64 pb] 55))):=(Below.refl _ _).alloc (Nat.le_refl _) _
 have P3:Hid ((w2.alloc (.cells #[.slice sa st.length sc,.int .i64 pf,.int .i64 pb] 55)).heap[w2.heap.size]?=some (.cells #[.slice sa st.length sc,.int .i64 pf,.int .i64 pb] 55 (0,0))):=Lv.heap_newF w2 _
 have B13:Hid (Below w1.heap.size w1 (w2.alloc (.cells #[.slice sa st.length sc,.int .i64 pf,.int .i64 pb] 55))):=below_step B2.out B3.out
 by_cases hc0:pc=0
 ·subst hc0
  clear p0 p1 p2
  obtain ⟨p0,p1,p2⟩:=Q0.out _ B13.out
  obtain ⟨p0',p1',p2'⟩:=Q0.out _ B2.out
  have zw:=lt_of_cell p0'
  go_wp2_with fail
  generalize (w2.alloc (.cells #[.slice sa st.length sc,.int .i64 pf,.int .i64 pb] 55))=w3 at *
  refine (GPT.out _ (below_step A1.out B13.out)).mono ?_
  rintro e w4 ⟨rfl,hb4⟩
  have B4:Hid (Below w3.heap.size w3 w4):=hb4
  clear hb4 p0 p1 p2 p0' p1' p2'
  cases hh:hasB ps pt
  ·have HE:Hid (overR ks ps es nm pt=(0,0,false)):=by show _=_; rw [HOV.out,hh]; simp
   clear hh
   go_wp2
   go_ret3
   exact ⟨by rw [HE.out]; rfl,below_step A1.out (below_step B13.out B4.out)⟩
  ·have hpl:plc ps pt < ps.length:=by
    unfold hasB at hh
    rw [Bool.and_eq_true] at hh
    exact of_decide_eq_true hh.1
   have HE:Hid (overR ks ps es nm pt=overL st pb (celOf ps pt).x (celOf ps pt).y):=by show _=_; rw [HOV.out,hh]; rfl
   have HCE:Hid (celOf ps pt=⟨(at' ps (plc ps pt)).x,(at' ps (plc ps pt)).y⟩):=rfl
   have HLE:=Lv.toHid (HLV.out (by trivial))
   clear hh HLV HOV
   obtain ⟨ap',cp',hea,-,-,hpc⟩:=(HB.out _ (Below.refl _ _)).p
   obtain ⟨bP,oP,hap,-⟩:=hpc (plc ps pt) _ (at_get hpl)
   cases hea
   subst hap
   have HPT:Hid (∀ wx:World,Below w.heap.size w wx→wx.cell? ⟨bP,oP+plc ps pt * 3,none⟩=some (.string (at' ps (plc ps pt)).s)∧wx.cell? ⟨bP,oP+plc ps pt * 3+1,none⟩=some (.int .i64 (at' ps (plc ps pt)).x)∧wx.cell? ⟨bP,oP+plc ps pt * 3+2,none⟩=some (.int .i64 (at' ps (plc ps pt)).y)):=fun wx hx=>by
    obtain ⟨b',o',hap',d0,d1,d2⟩:=hpc (plc ps pt) _ (at_get hpl)
    cases hap'
    exact ⟨cell_keep hx (Nat.le_refl _) d0,cell_keep hx (Nat.le_refl _) d1,cell_keep hx (Nat.le_refl _) d2⟩
   clear hpc
   have hj0:(0:Int)≤((plc ps pt:Nat):Int):=by omega
   have hj1:((plc ps pt:Nat):Int) < (ps.length:Int):=by omega
   generalize at' ps (plc ps pt)=tr at *
   generalize plc ps pt=j at *
   have HSS:Hid (∀ wx:World,Below w3.heap.size w3 wx→(wx.cell? ⟨w2.heap.size,0,none⟩=some (.slice sa st.length sc)∧wx.cell? ⟨w2.heap.size,1,none⟩=some (.int .i64 pf)∧wx.cell? ⟨w2.heap.size,2,none⟩=some (.int .i64 pb))∧wx.cell? ⟨w.heap.size,1,none⟩=some (.slice (some ⟨bP,oP,none⟩) ps.length cp)∧wx.cell? ⟨bP,oP+j * 3,none⟩=some (.string tr.s)∧wx.cell? ⟨bP,oP+j * 3+1,none⟩=some (.int .i64 tr.x)∧wx.cell? ⟨bP,oP+j * 3+2,none⟩=some (.int .i64 tr.y)):=fun wx hx=>by
    have h:=below_block hx P3.out
    exact ⟨⟨cell_blk h rfl,cell_blk h rfl,cell_blk h rfl⟩,(Q0.out _ (below_step B13.out hx)).2.1,HPT.out _ (below_step A1.out (below_step B13.out hx))⟩
   go_wp2
   refine wp_region_noPanic ?_
   refine wp_region_held_drew (S:=fun wx=>(wx.cell? ⟨w2.heap.size,0,none⟩=some (.slice sa st.length sc)∧wx.cell? ⟨w2.heap.size,1,none⟩=some (.int .i64 pf)∧wx.cell? ⟨w2.heap.size,2,none⟩=some (.int .i64 pb))∧wx.cell? ⟨w.heap.size,1,none⟩=some (.slice (some ⟨bP,oP,none⟩) ps.length cp)∧wx.cell? ⟨bP,oP+j * 3,none⟩=some (.string tr.s)∧wx.cell? ⟨bP,oP+j * 3+1,none⟩=some (.int .i64 tr.x)∧wx.cell? ⟨bP,oP+j * 3+2,none⟩=some (.int .i64 tr.y)) (by kernel_rfl) ?_ (fun hHeld=>?_)
   ·exact HSS.out _ B4.out.drew
   have BD:Hid (Below w3.heap.size w3 w4.drew):=B4.out.drew
   generalize w4.drew=W0 at *
   clear B4
   refine tkH 0 ?_ rfl ?_ (tkH 1 ?_ rfl ?_ (tkH 2 ?_ rfl ?_ (tkH 3 ?_ rfl ?_ (tkH 4 ?_ rfl ?_ (tkH 5 ?_ rfl ?_ (tkH 6 ?_ rfl ?_ ?_))))))
   iterate 7 (rotate_left; focus (intro w hSw; (try dsimp only at hSw); simp only [Act.put,tkS]; go_simp; try with_reducible rfl))
   simp only [Act.put,tkS]
   clear hHeld
   refine rdH 7 rfl (fun K hK=>?_)
   go_simp
   refine (cellOf_any _ _ _ _).mono ?_
   rintro e W1 ⟨rfl,hbl⟩
   have BD1:Hid (Below w3.heap.size w3 W1):=below_step BD.out hbl
   refine hK.out _ _ (HSS.out _ BD1.out) (fun hHeld=>?_)
   clear hK K hbl BD hHeld
   refine rdH 8 rfl (fun K hK=>?_)
   go_simp
   refine (over_any _ st pf pb tr.x tr.y _ (V2.out.keep (below_step B3.out BD1.out)) HLE.out).mono ?_
   rintro e W2 ⟨rfl,hbl⟩
   have BD2:Hid (Below w3.heap.size w3 W2):=below_step BD1.out hbl
   refine hK.out _ _ (HSS.out _ BD2.out) (fun hHeld=>?_)
   clear hK K hbl BD1
   have HFI:Hid (overR ks ps es nm pt=overL st pb tr.x tr.y):=by show _=_; rw [HE.out,HCE.out]
   generalize overL st pb tr.x tr.y=ov at *
   obtain ⟨o1,o2,o3⟩:=ov
   dsimp only
   refine tkH 9 ?_ rfl ?_ (tkH 10 ?_ rfl ?_ (tkH 11 ?_ rfl ?_ (tkH 12 ?_ rfl ?_ (tkH 13 ?_ rfl ?_ (tkH 14 ?_ rfl ?_ ?_)))))
   iterate 6 (rotate_left; focus (intro w hSw; (try dsimp only at hSw); simp only [Act.put,tkS]; go_simp; try with_reducible rfl))
   simp only [Act.put,tkS]
   clear hHeld
   refine wpAnyH_done (by kernel_rfl) ?_ _
   refine NoPanic.normal ?_
   go_wp2
   go_ret3
   exact ⟨by rw [HFI.out]; rfl,below_step A1.out (below_step B13.out BD2.out)⟩
 ·have HE:Hid (overR ks ps es nm pt=(0,0,false)):=by show _=_; rw [HOV.out,decide_eq_false hc0]; rfl
  have hne:(pc != 0)=true:=by simp [hc0]
  clear p0 p1 p2
  go_wp2
  go_ret3
  exact ⟨by rw [HE.out]; rfl,below_step A1.out B13.out⟩
end Go.Proofs.YtbjmgglpiakgdaaGreatDoor.Pa
