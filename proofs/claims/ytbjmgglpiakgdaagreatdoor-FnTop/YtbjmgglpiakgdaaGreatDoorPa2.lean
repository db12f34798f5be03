import Derived.Test.YtbjmgglpiakgdaaGreatDoorPa1
set_option maxRecDepth 100000
set_option maxHeartbeats 12800000
set_option linter.unusedSimpArgs false
set_option linter.unusedVariables false
namespace Go.Proofs.YtbjmgglpiakgdaaGreatDoor.Fa
open Go.RowKit Sd Pa
theorem planAll_any (vk vp ve:Value) (ks ps:List Tri) (es:List Ent) (w:World) (hB:BookAt w vk vp ve ks ps es) (nB:BNames ks ps es) (sB:BSmall ks ps es) (hN:NeedIn w) (hes:es.length≤1048576) :
  Calls Tryz.prog 13 #[.agg #[vk,vp,ve]] w fun e w'=>∃ v,e=.returned v∧FlsNew w' w.heap.size v (allR ks ps es)∧Below w.heap.size w w':=by
 obtain ⟨i0,hi0,hz0,hz1,hz2⟩:=info_parts infoFl;have HB:Hid (∀ wx:World,Below w.heap.size w wx→BookAt wx vk vp ve ks ps es):=fun wx hx=>hB.keep hx;have HN:Hid (∀ wx:World,Below w.heap.size w wx→NeedIn wx):=fun wx hx=>hN.keep hx;obtain ⟨⟨ak,ck,rfl,-,-,-⟩,⟨ap,cp,rfl,-,-,-⟩,⟨ae,ce,rfl,he1,he2,-⟩⟩:=hB;unfold maxLen at he2;have A1:Hid (Below w.heap.size w (w.alloc (.cells #[.slice ak ks.length ck,.slice ap ps.length cp,.slice ae es.length ce] 29))):=(bal)
 have Q0:Hid (∀ wx:World,Below (w.alloc (.cells #[.slice ak ks.length ck,.slice ap ps.length cp,.slice ae es.length ce] 29)).heap.size (w.alloc (.cells #[.slice ak ks.length ck,.slice ap ps.length cp,.slice ae es.length ce] 29)) wx→(wx.cell? ⟨w.heap.size,0,none⟩=some (.slice ak ks.length ck)∧wx.cell? ⟨w.heap.size,1,none⟩=some (.slice ap ps.length cp)∧wx.cell? ⟨w.heap.size,2,none⟩=some (.slice ae es.length ce))):=fun wx hx=>⟨cell_keep hx nlr (by simp [go_sem]),cell_keep hx nlr (by simp [go_sem]),cell_keep hx nlr (by simp [go_sem])⟩
 obtain ⟨p0,p1,p2⟩:=Q0.out _ (Below.refl _ _)
 go_enter Tryz.func13,Tryz.ntmps13
 go_wp2_with fail;generalize (w.alloc (.cells #[.slice ak ks.length ck,.slice ap ps.length cp,.slice ae es.length ce] 29))=w1 at *;refine (bookOk_any _ _ _ ks ps es _ (HB.out _ A1.out) nB sB).mono ?_;rintro e w2 ⟨rfl,hb2⟩;have B2:Hid (Below w1.heap.size w1 w2):=hb2;clear hb2 p0 p1 p2;obtain ⟨p0,p1,p2⟩:=Q0.out _ B2.out
 cases hbb:bookB ks ps es
 ·have HE:Hid (allR ks ps es=[]):=by show _=_;unfold allR;rw [hbb];rfl
  clear hbb;go_wp2;go_ret
  exact ⟨.slice none 0 0,rfl,by rw [HE.out];exact FlsNew.nil _ _,below_step A1.out B2.out⟩
 have HBB:Hid (bookB ks ps es=true):=hbb
 have HE:Hid (allR ks ps es=(allE es).map (flV ks)):=by show _=_;unfold allR;rw [hbb];rfl
 have HKN:Hid (∀ t∈ks,t.s.size≤1048576):=book_kinds HBB.out;clear hbb;go_wp2_with fail;clear p0 p1 p2
 go_loopw [3,14] (fun v i wr=>∃ k:Nat,k≤es.length∧i=.int .i64 k∧(∃ a c,v=.slice a (allE (es.take k)).length c)∧Hid (FlsNew wr w2.heap.size v ((allE (es.take k)).map (flV ks))∧Below w1.heap.size w1 wr∧w2.heap.size≤wr.heap.size)) (fun _ i _=>es.length-(intOf i).toNat)
 case atStart=>exact ⟨0,Nat.zero_le _,rfl,⟨none,0,rfl⟩,FlsNew.nil _ _,B2.out,Nat.le_refl _⟩
 case round =>
  obtain ⟨k,hk,rfl,⟨a,c,rfl⟩,HI⟩:=hrel
  by_cases hlt:k<es.length
  ·have hmem:eat es k∈es:=List.mem_of_getElem? (eat_get hlt)
   have HTK:=Lv.toHid (allE_take hlt);have HFT:Hid (∀ f∈(eat es k).fs,valB2 ks ps f.what f.v=true∧f.v.size≤1048576):=fun f hf=>⟨book_fits HBB.out _ hmem f hf,sB.v _ hmem f hf⟩;have HFL:Hid ((eat es k).fs.length≤1048576∧(eat es k).name.size≤1048576):=⟨sB.f _ hmem,sB.n _ hmem⟩;obtain ⟨a9,c9,e9,-,-,h9⟩:=(HB.out _ (below_step A1.out HI.out.2.1)).e;obtain ⟨b,off,ha,fv,d0,d1,hfl⟩:=h9 _ _ (eat_get hlt)
   cases e9
   subst ha;clear h9 hmem;obtain ⟨⟨en,fs⟩,hen⟩:∃ e,eat es k=e:=⟨_,rfl⟩;rw [hen] at HTK HFT HFL d0 hfl;have HFF:=Lv.toHid hfl;dsimp only at HTK HFT HFL d0 hfl HFF;obtain ⟨af,cf,rfl,-,-,-⟩:=hfl;clear hen;have zd:=lt_of_cell d0;obtain ⟨p0,p1,p2⟩:=Q0.out _ HI.out.2.1;have zp:=lt_of_cell p0
   have hk0:(0:Int)≤(k:Int):=by omega
   have hk1:(k:Int)<(es.length:Int):=by omega
   have BA:Hid (Below wr.heap.size wr (wr.alloc (.cells #[.string en,.slice af fs.length cf] 52))):=(bal);have GS:Hid (Calls Tryz.prog 48 #[.agg #[.slice ak ks.length ck,.slice ap ps.length cp],.agg #[.string en,.slice af fs.length cf]] (wr.alloc (.cells #[.string en,.slice af fs.length cf] 52)) fun e w'=>∃ rt,e=.returned (.tuple #[.agg (stC ks en fs rt),.bool (stB fs)])∧(stB fs=true→RtIs w' (wr.alloc (.cells #[.string en,.slice af fs.length cf] 52)).heap.size rt (lastV fs 4))∧Below (wr.alloc (.cells #[.string en,.slice af fs.length cf] 52)).heap.size (wr.alloc (.cells #[.string en,.slice af fs.length cf] 52)) w'):=standing_any _ _ _ ks ps en fs _ (HB.out _ (below_step A1.out (below_step HI.out.2.1 BA.out))).k (HFF.out.keep BA.out) HFT.out HKN.out HFL.out.1 HFL.out.2 (HN.out _ (below_step A1.out (below_step HI.out.2.1 BA.out)));have ZA:Hid (wr.heap.size≤(wr.alloc (.cells #[.string en,.slice af fs.length cf] 52)).heap.size):=BA.out.size;obtain ⟨qs,hqs,hQ0⟩:=HI.out.1;have HQ0:=Lv.toHid hQ0;have HQS:=Lv.toHid hqs;clear hQ0 hqs;go_wp2_with fail;generalize (wr.alloc (.cells #[.string en,.slice af fs.length cf] 52))=w3 at *;refine GS.out.mono ?_;rintro e w4 ⟨rt,rfl,hrt,hb4⟩
   have I4:Hid (FlsNew w4 w2.heap.size (.slice a (allE (es.take k)).length c) ((allE (es.take k)).map (flV ks))∧Below w1.heap.size w1 w4∧w2.heap.size≤w4.heap.size):=⟨(HI.out.1.keep BA.out).keep hb4,below_step (below_step HI.out.2.1 BA.out) hb4,by have:=HI.out.2.2;have:=ZA.out;have:=hb4.size;omega⟩
   have HQ4:=Lv.toHid ((HQ0.out.keep BA.out).keep hb4);have HI0:=HI;have Z34:Hid (wr.heap.size≤w3.heap.size):=ZA.out;clear hb4 p0 p1 p2 d0 d1 zd zp GS BA ZA HI
   cases hst:stB fs
   ·have HTN:Hid (allE (es.take (k+1))=allE (es.take k)):=by show _=_;rw [HTK.out,hst];simp
    have hsc:stC ks en fs rt=#[.string ⟨#[]⟩,.string ⟨#[]⟩,.int .i64 0,.int .i64 0,.int .i64 0,.int .i64 0,.int .i64 0,.slice none 0 0]:=by unfold stC;rw [hst];rfl
    rw [hsc]
    have I5:Hid (FlsNew (w4.alloc (.cells #[.string ⟨#[]⟩,.string ⟨#[]⟩,.int .i64 0,.int .i64 0,.int .i64 0,.int .i64 0,.int .i64 0,.slice none 0 0] 47)) w2.heap.size (.slice a (allE (es.take k)).length c) ((allE (es.take k)).map (flV ks))∧Below w1.heap.size w1 (w4.alloc (.cells #[.string ⟨#[]⟩,.string ⟨#[]⟩,.int .i64 0,.int .i64 0,.int .i64 0,.int .i64 0,.int .i64 0,.slice none 0 0] 47))∧w2.heap.size≤(w4.alloc (.cells #[.string ⟨#[]⟩,.string ⟨#[]⟩,.int .i64 0,.int .i64 0,.int .i64 0,.int .i64 0,.int .i64 0,.slice none 0 0] 47)).heap.size):=by
     have hb:Below w4.heap.size w4 (w4.alloc (.cells #[.string ⟨#[]⟩,.string ⟨#[]⟩,.int .i64 0,.int .i64 0,.int .i64 0,.int .i64 0,.int .i64 0,.slice none 0 0] 47)):=(bal);exact ⟨I4.out.1.keep hb,below_step I4.out.2.1 hb,Nat.le_trans I4.out.2.2 hb.size⟩
    clear hst hsc hrt;go_wp2
    exact ⟨⟨k+1,by omega,by go_num,by rw [HTN.out];exact ⟨a,c,rfl⟩,by rw [HTN.out];exact I5⟩,by simp [intOf];omega⟩
   ·have HTN:Hid (allE (es.take (k+1))=allE (es.take k)++[⟨en,fs⟩]):=by show _=_;rw [HTK.out,hst];rfl
    have hrt':=rt_new (e:=⟨en,fs⟩) (hrt hst);obtain ⟨ra,rc,rfl⟩:=ownF_slice hrt'
    have hsc:stC ks en fs (.slice ra (rtW ⟨en,fs⟩).length rc)=#[.string en,.string (kdOf ks (lastV fs 1)).s,.int .i64 (kdOf ks (lastV fs 1)).x,.int .i64 (kdOf ks (lastV fs 1)).y,.int .i64 (frOf (lastV fs 2)),.int .i64 (byOf (lastV fs 2)),.int .i64 (lvOf (lastV fs 3)),.slice ra (rtW ⟨en,fs⟩).length rc]:=by unfold stC;rw [hst];rfl
    rw [hsc];have HFV:Hid (flV ks ⟨en,fs⟩=⟨en,kdOf ks (lastV fs 1),frOf (lastV fs 2),byOf (lastV fs 2),lvOf (lastV fs 3),rtW ⟨en,fs⟩⟩):=rfl;have HRT:=Lv.toHid hrt';clear hsc hst hrt hrt';generalize kdOf ks (lastV fs 1)=kt at *;generalize frOf (lastV fs 2)=kx at *;generalize byOf (lastV fs 2)=ky at *;generalize lvOf (lastV fs 3)=kz at *;generalize hrw:rtW ⟨en,fs⟩=RW at *;generalize hrn:RW.length=rn at *
    have hnn:(allE (es.take k)).length≤1048576:=by
     have h1:=allE_len (es.take k);rw [List.length_take] at h1
     omega
    have hqs:=HQS.out;have hQ:=HQ4.out
    have hql:qs.length=(allE (es.take k)).length:=by have:=congrArg List.length hqs;simpa using this
    have hown0:w4.ownsRow w2.heap.size 47 8 (.slice a (allE (es.take k)).length c) (allE (es.take k)).length (flRows qs):=by
     have h:=hQ.row;rw [hql] at h;exact h
    have h24:=I4.out.2.2;have BB:Hid (Below w4.heap.size w4 (w4.alloc (.cells #[.string en,.string kt.s,.int .i64 kt.x,.int .i64 kt.y,.int .i64 kx,.int .i64 ky,.int .i64 kz,.slice ra rn rc] 47))):=(bal);have BC:Hid (Below (w4.alloc (.cells #[.string en,.string kt.s,.int .i64 kt.x,.int .i64 kt.y,.int .i64 kx,.int .i64 ky,.int .i64 kz,.slice ra rn rc] 47)).heap.size (w4.alloc (.cells #[.string en,.string kt.s,.int .i64 kt.x,.int .i64 kt.y,.int .i64 kx,.int .i64 ky,.int .i64 kz,.slice ra rn rc] 47)) ((w4.alloc (.cells #[.string en,.string kt.s,.int .i64 kt.x,.int .i64 kt.y,.int .i64 kx,.int .i64 ky,.int .i64 kz,.slice ra rn rc] 47)).alloc (.cells #[.string en,.string kt.s,.int .i64 kt.x,.int .i64 kt.y,.int .i64 kx,.int .i64 ky,.int .i64 kz,.slice ra rn rc] 47))):=(bal)
    have SRC:((w4.alloc (.cells #[.string en,.string kt.s,.int .i64 kt.x,.int .i64 kt.y,.int .i64 kx,.int .i64 ky,.int .i64 kz,.slice ra rn rc] 47)).alloc (.cells #[.string en,.string kt.s,.int .i64 kt.x,.int .i64 kt.y,.int .i64 kx,.int .i64 ky,.int .i64 kz,.slice ra rn rc] 47)).heap[w4.heap.size+1]?=some (.cells #[.string en,.string kt.s,.int .i64 kt.x,.int .i64 kt.y,.int .i64 kx,.int .i64 ky,.int .i64 kz,.slice ra rn rc] 47 (0,0)):=by
     have h:=Lv.heap_newF (w4.alloc (.cells #[.string en,.string kt.s,.int .i64 kt.x,.int .i64 kt.y,.int .i64 kx,.int .i64 ky,.int .i64 kz,.slice ra rn rc] 47)) (.cells #[.string en,.string kt.s,.int .i64 kt.x,.int .i64 kt.y,.int .i64 kx,.int .i64 ky,.int .i64 kz,.slice ra rn rc] 47)
     rw [show (w4.alloc (.cells #[.string en,.string kt.s,.int .i64 kt.x,.int .i64 kt.y,.int .i64 kx,.int .i64 ky,.int .i64 kz,.slice ra rn rc] 47)).heap.size=w4.heap.size+1 by simp] at h
     exact h
    have HSRC:=Lv.toHid SRC;clear SRC
    go_wp2_with (at_builtin;refine wpList_append_any _ rfl _ _ 41 rfl w2.heap.size 47 i0 _ 8 96 Tryz.underlying41 hi0 hz0 hz1 hz2 rfl (by decide) _ (allE (es.take k)).length _ rfl (ownF_keep (ownF_keep hown0 BB.out) BC.out) _ 1 1 [.string en,.string kt.s,.int .i64 kt.x,.int .i64 kt.y,.int .i64 kx,.int .i64 ky,.int .i64 kz,.slice ra rn rc] rfl (.inr ⟨_,rfl,World.news_of_block HSRC.out⟩) rfl (fun u hu=>by simp at hu;rcases hu with rfl | rfl | rfl | rfl | rfl | rfl | rfl | rfl <;> rfl) (by unfold maxLen;omega) (by omega) (by simp;omega) ?_;intro vq wx hown hgrow hat)
    have HNW:Hid (FlsNew wx w2.heap.size vq ((allE (es.take (k+1))).map (flV ks))∧Below w1.heap.size w1 wx∧w2.heap.size≤wx.heap.size):=by
     refine ⟨⟨qs++[(⟨en,kt,kx,ky,kz,RW⟩,.slice ra rn rc)],?_,?_⟩,?_,?_⟩
     ·rw [HTN.out,List.map_append,List.map_append,hqs]
      simp [HFV.out]
     ·refine ((hQ.keep BB.out).keep BC.out).push (ownF_keep (ownF_keep (ownF_mono HRT.out (by have:=Z34.out;have:=HI0.out.2.2;omega)) BB.out) BC.out) (fun p hp=>?_) hgrow (by rw [hql];exact hown)
      intro q hq e;have h1:=ownF_lt (HQ0.out.rt p hp) q hq;have h2:=ownF_ge HRT.out q e;have h3:=Z34.out
      omega
     ·exact (below_step (below_step I4.out.2.1 BB.out) BC.out).grown hgrow (below_step (below_step I4.out.2.1 BB.out) BC.out).size (fun q hq=>by have h1:=ownF_ge hown0 q hq;have h2:=B2.out.size;omega)
     ·have h1:=hgrow.size;have h2:=BC.out.size;have h3:=BB.out.size;omega
    obtain ⟨qa,qc,rfl⟩:=ownF_slice hown
    have HTL:Hid ((allE (es.take (k+1))).length=(allE (es.take k)).length+1):=by show _=_;rw [HTN.out];simp
    exact ⟨⟨k+1,by omega,by go_num,by rw [HTL.out];exact ⟨_,_,rfl⟩,HNW⟩,by simp [intOf];omega⟩
  ·have HF:Hid (es.take k=es):=List.take_of_length_le (by omega)
   go_wp2;go_ret
   exact ⟨_,rfl,by rw [HE.out,← HF.out];rw [HF.out];have h:=HI.out.1;rw [HF.out] at h ⊢;exact h.mono (Nat.le_trans A1.out.size B2.out.size),below_step A1.out HI.out.2.1⟩
end Go.Proofs.YtbjmgglpiakgdaaGreatDoor.Fa
namespace Go.Proofs.YtbjmgglpiakgdaaGreatDoor.Pa
open Go.RowKit Sd
theorem planPathOf_any (vk vp ve:Value) (ks ps:List Tri) (es:List Ent) (nm:ByteArray) (w:World) (hB:BookAt w vk vp ve ks ps es) (nB:BNames ks ps es) (sB:BSmall ks ps es) (hN:NeedIn w) :
  Calls Tryz.prog 15 #[.agg #[vk,vp,ve],.string nm] w fun e w'=>∃ v,e=.returned (.tuple #[.agg #[v,.int .i64 (pathR ks ps es nm).fr,.int .i64 (pathR ks ps es nm).b],.int .i64 (pathR ks ps es nm).c])∧StNew w' w.heap.size v (pathR ks ps es nm).st∧Below w.heap.size w w':=by
 have HB:Hid (∀ wx:World,Below w.heap.size w wx→BookAt wx vk vp ve ks ps es):=fun wx hx=>hB.keep hx;have HN:Hid (∀ wx:World,Below w.heap.size w wx→NeedIn wx):=fun wx hx=>hN.keep hx;obtain ⟨⟨ak,ck,rfl,-,-,-⟩,⟨ap,cp,rfl,-,-,-⟩,⟨ae,ce,rfl,he1,he2,-⟩⟩:=hB;unfold maxLen at he2
 have A1:Hid (Below w.heap.size w ((w.alloc (.cells #[.slice ak ks.length ck,.slice ap ps.length cp,.slice ae es.length ce] 29)).alloc (.cells #[.slice none 0 0,.int .i64 0,.int .i64 0] 55))):=(bal).alloc (by simp) _
 have R1:Hid (((w.alloc (.cells #[.slice ak ks.length ck,.slice ap ps.length cp,.slice ae es.length ce] 29)).alloc (.cells #[.slice none 0 0,.int .i64 0,.int .i64 0] 55)).heap[w.heap.size+1]?=some (.cells #[.slice none 0 0,.int .i64 0,.int .i64 0] 55 (0,0))):=by
  have h:=Lv.heap_newF (w.alloc (.cells #[.slice ak ks.length ck,.slice ap ps.length cp,.slice ae es.length ce] 29)) (.cells #[.slice none 0 0,.int .i64 0,.int .i64 0] 55)
  rw [show (w.alloc (.cells #[.slice ak ks.length ck,.slice ap ps.length cp,.slice ae es.length ce] 29)).heap.size=w.heap.size+1 by simp] at h
  exact h
 have Q0:Hid (∀ wx:World,Below ((w.alloc (.cells #[.slice ak ks.length ck,.slice ap ps.length cp,.slice ae es.length ce] 29)).alloc (.cells #[.slice none 0 0,.int .i64 0,.int .i64 0] 55)).heap.size ((w.alloc (.cells #[.slice ak ks.length ck,.slice ap ps.length cp,.slice ae es.length ce] 29)).alloc (.cells #[.slice none 0 0,.int .i64 0,.int .i64 0] 55)) wx→(wx.cell? ⟨w.heap.size,0,none⟩=some (.slice ak ks.length ck)∧wx.cell? ⟨w.heap.size,1,none⟩=some (.slice ap ps.length cp)∧wx.cell? ⟨w.heap.size,2,none⟩=some (.slice ae es.length ce))):=fun wx hx=>⟨cell_keep hx nlr (by simp [go_sem]),cell_keep hx nlr (by simp [go_sem]),cell_keep hx nlr (by simp [go_sem])⟩
 obtain ⟨p0,p1,p2⟩:=Q0.out _ (Below.refl _ _)
 go_enter Tryz.func15,Tryz.ntmps15
 go_wp2_with fail;generalize ((w.alloc (.cells #[.slice ak ks.length ck,.slice ap ps.length cp,.slice ae es.length ce] 29)).alloc (.cells #[.slice none 0 0,.int .i64 0,.int .i64 0] 55))=w1 at *;refine (bookOk_any _ _ _ ks ps es _ (HB.out _ A1.out) nB sB).mono ?_;rintro e w2 ⟨rfl,hb2⟩;have B2:Hid (Below w1.heap.size w1 w2):=hb2;clear hb2 p0 p1 p2;obtain ⟨p0,p1,p2⟩:=Q0.out _ B2.out;have hR:=below_block B2.out R1.out
 cases hbb:bookB ks ps es
 ·have HE:Hid (pathR ks ps es nm=⟨1,[],0,0⟩):=by show _=_;unfold pathR;rw [hbb];rfl
  clear hbb
  go_wp2_with (refine wpList_store_row rfl 55 _ _ rfl (w.heap.size+1) #[.slice none 0 0,.int .i64 0,.int .i64 0] rfl rfl 55 _ hR (by kernel_rfl) rfl (by simp [Value.oneCell']) ?_)
  exact bodyPost_ret (v:=.tuple #[.agg #[.slice none 0 0,.int .i64 0,.int .i64 0],.int .i64 1]) (by simp [results,Tryz.results15,go_sem,cell_setRow_same _ _ _ _ _ _ _ hR]) rfl ⟨.slice none 0 0,by rw [HE.out],by rw [HE.out];exact StNew.nil _ _,below_setRow (below_step A1.out B2.out) (by omega) _⟩
 have HBB:Hid (bookB ks ps es=true):=hbb;clear hbb hR;go_wp2_with fail;refine (planStands_any _ _ _ ks ps es nm _ (HB.out _ (below_step A1.out B2.out)) nB sB (HN.out _ (below_step A1.out B2.out))).mono ?_;rintro e w3 ⟨rt,rfl,hrt,hb3⟩;have B3:Hid (Below w1.heap.size w1 w3):=below_step B2.out hb3;clear hb3 p0 p1 p2;obtain ⟨p0,p1,p2⟩:=Q0.out _ B3.out
 cases hst:standR ks ps es nm with
 | none =>
  have HE:Hid (pathR ks ps es nm=⟨2,[],0,0⟩):=by show _=_;unfold pathR;rw [HBB.out,hst];rfl
  clear hst hrt;have B4:Hid (Below w1.heap.size w1 (w3.alloc (.cells #[.string ⟨#[]⟩,.string ⟨#[]⟩,.int .i64 0,.int .i64 0,.int .i64 0,.int .i64 0,.int .i64 0,.slice none 0 0] 47))):=below_step B3.out (bal);have hR:=below_block B4.out R1.out;unfold standC zero8
  go_wp2_with (refine wpList_store_row rfl 55 _ _ rfl (w.heap.size+1) #[.slice none 0 0,.int .i64 0,.int .i64 0] rfl rfl 55 _ hR (by kernel_rfl) rfl (by simp [Value.oneCell']) ?_)
  exact bodyPost_ret (v:=.tuple #[.agg #[.slice none 0 0,.int .i64 0,.int .i64 0],.int .i64 2]) (by simp [results,Tryz.results15,go_sem,cell_setRow_same _ _ _ _ _ _ _ hR]) rfl ⟨.slice none 0 0,by rw [HE.out],by rw [HE.out];exact StNew.nil _ _,below_setRow (below_step A1.out B4.out) (by omega) _⟩
 | some e =>
  have HST:Hid (standR ks ps es nm=some e):=hst;obtain ⟨-,-,⟨f4,hl4,hrw⟩,hro,hok⟩:=stand_ok hst
  have HPE:Hid (pathR ks ps es nm=pathE ks ps e):=by show _=_;unfold pathR;rw [HBB.out,hst];rfl
  have hrt3:SNew w3 w2.heap.size rt (rtW e):=by
   have h:=hrt e hst;rw [hl4] at h;rw [hrw];exact h
  have hlen:=(route_all hro).1
  have SA3:Hid (StrsAt w3 rt (rtW e)):=strs_of_own hrt3 (fun h0=>by rw [h0] at hlen;simp at hlen)
  obtain ⟨ra,rc,rfl⟩:=Lv.own_slice hrt3;clear hrt hrt3 hl4 hrw hst;generalize hrn:(rtW e).length=rn at *;have hsc:standC ks (some e) (.slice ra rn rc)=#[.string e.name,.string (kdOf ks (lastV e.fs 1)).s,.int .i64 (kdOf ks (lastV e.fs 1)).x,.int .i64 (kdOf ks (lastV e.fs 1)).y,.int .i64 (frOf (lastV e.fs 2)),.int .i64 (byOf (lastV e.fs 2)),.int .i64 (lvOf (lastV e.fs 3)),.slice ra rn rc]:=rfl;rw [hsc];clear hsc;unfold pathE at HPE;generalize e.name=q at *;generalize kdOf ks (lastV e.fs 1)=t at *;generalize frOf (lastV e.fs 2)=x at *;generalize byOf (lastV e.fs 2)=y at *;generalize lvOf (lastV e.fs 3)=z at *;generalize hws:rtW e=ws at *;have B4:Hid (Below w3.heap.size w3 (w3.alloc (.cells #[.string q,.string t.s,.int .i64 t.x,.int .i64 t.y,.int .i64 x,.int .i64 y,.int .i64 z,.slice ra rn rc] 47))):=(bal);have F4:Hid ((w3.alloc (.cells #[.string q,.string t.s,.int .i64 t.x,.int .i64 t.y,.int .i64 x,.int .i64 y,.int .i64 z,.slice ra rn rc] 47)).heap[w3.heap.size]?=some (.cells #[.string q,.string t.s,.int .i64 t.x,.int .i64 t.y,.int .i64 x,.int .i64 y,.int .i64 z,.slice ra rn rc] 47 (0,0))):=Lv.heap_newF w3 _;have B14:Hid (Below w1.heap.size w1 (w3.alloc (.cells #[.string q,.string t.s,.int .i64 t.x,.int .i64 t.y,.int .i64 x,.int .i64 y,.int .i64 z,.slice ra rn rc] 47))):=below_step B3.out B4.out;obtain ⟨p0',p1',p2'⟩:=Q0.out _ B14.out;have zw:=lt_of_cell p0;have c7:(w3.alloc (.cells #[.string q,.string t.s,.int .i64 t.x,.int .i64 t.y,.int .i64 x,.int .i64 y,.int .i64 z,.slice ra rn rc] 47)).cell? ⟨w3.heap.size,7,none⟩=some (.slice ra rn rc):=cell_blk F4.out rfl;go_wp2_with fail;generalize (w3.alloc (.cells #[.string q,.string t.s,.int .i64 t.x,.int .i64 t.y,.int .i64 x,.int .i64 y,.int .i64 z,.slice ra rn rc] 47))=w4 at *;refine (planCells_any _ _ _ ks ps ws _ (HB.out _ (below_step A1.out B14.out)).k (HB.out _ (below_step A1.out B14.out)).p nB.k nB.p (SA3.out.keep B4.out)).mono ?_;rintro e5 w5 ⟨u,rfl,hu,hb5⟩;have B5:Hid (Below w1.heap.size w1 w5):=below_step B14.out hb5;have F5:Hid (w5.heap[w3.heap.size]?=some (.cells #[.string q,.string t.s,.int .i64 t.x,.int .i64 t.y,.int .i64 x,.int .i64 y,.int .i64 z,.slice ra rn rc] 47 (0,0))):=below_block hb5 F4.out;clear p0 p1 p2 p0' p1' p2' c7 F4
  cases hcc:cellsOkB ks ps ws
  ·have HE:Hid (pathR ks ps es nm=⟨3,[],0,0⟩):=by show _=_;rw [HPE.out,hcc];rfl
   obtain ⟨ua,uc,rfl⟩:=ownC_slice hu;clear hcc;have hR:=below_block B5.out R1.out
   go_wp2_with (refine wpList_store_row rfl 55 _ _ rfl (w.heap.size+1) #[.slice none 0 0,.int .i64 0,.int .i64 0] rfl rfl 55 _ hR (by kernel_rfl) rfl (by simp [Value.oneCell']) ?_)
   exact bodyPost_ret (v:=.tuple #[.agg #[.slice none 0 0,.int .i64 0,.int .i64 0],.int .i64 3]) (by simp [results,Tryz.results15,go_sem,cell_setRow_same _ _ _ _ _ _ _ hR]) rfl ⟨.slice none 0 0,by rw [HE.out],by rw [HE.out];exact StNew.nil _ _,below_setRow (below_step A1.out B5.out) (by omega) _⟩
  have hcr:cellsR ks ps ws=cellsL ps ws:=by unfold cellsR;rw [hcc];rfl
  rw [hcr] at hu
  have hcl:1≤(cellsL ps ws).length∧(cellsL ps ws).length≤40:=⟨cellsL_pos (by omega),by
   unfold cellsOkB at hcc;rw [Bool.and_eq_true] at hcc
   exact of_decide_eq_true hcc.2⟩
  rw [hcc] at HPE
  simp only [cond_true] at HPE
  clear hcr hcc;generalize cellsL ps ws=cs at *;obtain ⟨ua,uc,rfl⟩:=ownC_slice hu;have U5:Hid (CAt w5 (.slice ua cs.length uc) cs):=hu.at;clear hu hb5
  -- the program's path
  have hf0:w5.cell? ⟨w3.heap.size,0,none⟩=some (.string q):=by simp [World.cell?,F5.out]
  have hf1:w5.cell? ⟨w3.heap.size,1,none⟩=some (.string t.s):=by simp [World.cell?,F5.out]
  have hf2:w5.cell? ⟨w3.heap.size,2,none⟩=some (.int .i64 t.x):=by simp [World.cell?,F5.out]
  have hf3:w5.cell? ⟨w3.heap.size,3,none⟩=some (.int .i64 t.y):=by simp [World.cell?,F5.out]
  have hf4:w5.cell? ⟨w3.heap.size,4,none⟩=some (.int .i64 x):=by simp [World.cell?,F5.out]
  have hf5:w5.cell? ⟨w3.heap.size,5,none⟩=some (.int .i64 y):=by simp [World.cell?,F5.out]
  have hf6:w5.cell? ⟨w3.heap.size,6,none⟩=some (.int .i64 z):=by simp [World.cell?,F5.out]
  have hf7:w5.cell? ⟨w3.heap.size,7,none⟩=some (.slice ra rn rc):=by simp [World.cell?,F5.out]
  go_wp2_with fail;refine (pathAlong_any _ cs q t x y z ra rn rc _ U5.out hcl hok).mono ?_;rintro e6 w6 ⟨u6,rfl,hu6,hb6⟩;have B6:Hid (Below w1.heap.size w1 w6):=below_step B5.out hb6;obtain ⟨sa,sc,rfl⟩:=ownC_slice hu6;have U6:Hid (StNew w6 w.heap.size (.slice sa (stpTo cs z x y t.x t.y cs.length).length sc) (stpTo cs z x y t.x t.y cs.length)):=ownC_mono hu6 (below_step A1.out B5.out).size;rw [stpTo_len] at U6 ⊢;clear hu6 hb6 hf0 hf1 hf2 hf3 hf4 hf5 hf6 hf7
  have hnx:0≤(cs.length:Int)*t.x∧(cs.length:Int)*t.x≤2000:=⟨Int.mul_nonneg (by omega) (by have:=hok.q;omega),by
   have h1:=Int.mul_le_mul (show (cs.length:Int)≤40 by omega) (show t.x≤50 by have:=hok.qs;have:=hok.s;omega) (by have:=hok.q;omega) (by omega)
   omega⟩
  have hny:0≤(cs.length:Int)*t.y∧(cs.length:Int)*t.y≤2000:=⟨Int.mul_nonneg (by omega) (by have:=hok.q;have:=hok.qs;omega),by
   have h1:=Int.mul_le_mul (show (cs.length:Int)≤40 by omega) (show t.y≤50 by have:=hok.s;omega) (by have:=hok.q;have:=hok.qs;omega) (by omega)
   omega⟩
  generalize hFX:x+(cs.length:Int)*t.x=fx at *;generalize hFY:y+(cs.length:Int)*t.y=fy at *;have B7:Hid (Below w6.heap.size w6 (w6.alloc (.cells #[.slice sa cs.length sc,.int .i64 fx,.int .i64 fy] 55))):=(bal);have P7:Hid ((w6.alloc (.cells #[.slice sa cs.length sc,.int .i64 fx,.int .i64 fy] 55)).heap[w6.heap.size]?=some (.cells #[.slice sa cs.length sc,.int .i64 fx,.int .i64 fy] 55 (0,0))):=Lv.heap_newF w6 _;have R7:=below_block (below_step B6.out B7.out) R1.out;have HR7:=Lv.toHid R7
  by_cases hlate:10000<fy
  ·have HE:Hid (pathR ks ps es nm=⟨4,[],0,0⟩):=by show _=_;rw [HPE.out,decide_eq_true hlate];rfl
   go_wp2_with (refine wpList_store_row rfl 55 _ _ rfl (w.heap.size+1) #[.slice none 0 0,.int .i64 0,.int .i64 0] rfl rfl 55 _ R7 (by kernel_rfl) rfl (by simp [Value.oneCell']) ?_)
   exact bodyPost_ret (v:=.tuple #[.agg #[.slice none 0 0,.int .i64 0,.int .i64 0],.int .i64 4]) (by simp [results,Tryz.results15,go_sem,cell_setRow_same _ _ _ _ _ _ _ R7]) rfl ⟨.slice none 0 0,by rw [HE.out],by rw [HE.out];exact StNew.nil _ _,below_setRow (below_step A1.out (below_step B6.out B7.out)) (by omega) _⟩
  ·have HE:Hid (pathR ks ps es nm=⟨0,stpTo cs z x y t.x t.y cs.length,fx,fy⟩):=by show _=_;rw [HPE.out,decide_eq_false hlate];rfl
   go_wp2_with (refine wpList_store_row rfl 55 _ _ rfl (w.heap.size+1) #[.slice sa cs.length sc,.int .i64 fx,.int .i64 fy] rfl rfl 55 _ R7 (by kernel_rfl) rfl (by simp [Value.oneCell']) ?_)
   exact bodyPost_ret (v:=.tuple #[.agg #[.slice sa cs.length sc,.int .i64 fx,.int .i64 fy],.int .i64 0]) (by simp [results,Tryz.results15,go_sem,cell_setRow_same _ _ _ _ _ _ _ R7]) rfl ⟨.slice sa cs.length sc,by rw [HE.out],by rw [HE.out];exact ownC_far (ownC_keep U6.out B7.out) (grown_rowS _ _ _) (fun k hk e=>Sd.own_type (ownC_keep U6.out B7.out) R7 (by decide) (by rw [hk,e])),below_setRow (below_step A1.out (below_step B6.out B7.out)) (by omega) _⟩
end Go.Proofs.YtbjmgglpiakgdaaGreatDoor.Pa
