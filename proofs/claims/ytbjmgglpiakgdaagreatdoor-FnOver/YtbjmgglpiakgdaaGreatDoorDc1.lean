import Derived.Test.YtbjmgglpiakgdaaGreatDoorSp1
import Derived.Test.YtbjmgglpiakgdaaGreatDoorSt12c
set_option linter.unusedSimpArgs false
set_option linter.unusedVariables false
namespace Go.Proofs.YtbjmgglpiakgdaaGreatDoor.Dr
open Go.RowKit Go.Proofs.YtbjmgglpiakgdaaGreatDoor
attribute [local go_sem] Later.cell Later.frozen
theorem cell_row3 {w:World} {X:Nat} {T:TypeId} {u1 u2 u3:Value} {a1 a2 a3:Option Addr} {n1 n2 n3 c1 c2 c3:Nat} (hX:w.heap[X]?=some (.cells #[.slice a1 n1 c1,.slice a2 n2 c2,.slice a3 n3 c3] T (0,0))) (C:Array Value) {b o:Nat} {s:ByteArray} (hc:w.cell? ⟨b,o,none⟩=some (.string s)):(w.setRow X C).heap[b]?=w.heap[b]?:=by
 refine setRow_other _ _ _ _ (fun e=>?_)
 subst e
 simp only [World.cell?,hX] at hc
 rcases o with - | - | - | o <;> simp at hc
theorem cell_same {w w':World} {b o:Nat} {u:Value} (hb:w'.heap[b]?=w.heap[b]?) (hc:w.cell? ⟨b,o,none⟩=some u):w'.cell? ⟨b,o,none⟩=some u:=by
 rw [World.cell?_of_block (w:=w) hb]
 exact hc
theorem TrisAt_str {w w':World} {v:Value} {l:List Tri} (h:TrisAt w v l) (hs:∀ b o s,w.cell? ⟨b,o,none⟩=some (.string s)→w'.heap[b]?=w.heap[b]?):TrisAt w' v l:=by
 obtain ⟨a,cap,rfl,h1,h2,h3⟩:=h
 refine ⟨a,cap,rfl,h1,h2,fun i t ht=>?_⟩
 obtain ⟨b,off,e,d0,d1,d2⟩:=h3 i t ht
 have hb:=hs _ _ _ d0
 exact ⟨b,off,e,cell_same hb d0,cell_same hb d1,cell_same hb d2⟩
theorem FldsAt_str {w w':World} {v:Value} {l:List Fld} (h:FldsAt w v l) (hs:∀ b o s,w.cell? ⟨b,o,none⟩=some (.string s)→w'.heap[b]?=w.heap[b]?):FldsAt w' v l:=by
 obtain ⟨a,cap,rfl,h1,h2,h3⟩:=h
 refine ⟨a,cap,rfl,h1,h2,fun i t ht=>?_⟩
 obtain ⟨b,off,e,d0,d1,d2⟩:=h3 i t ht
 have hb:=hs _ _ _ d2
 exact ⟨b,off,e,cell_same hb d0,cell_same hb d1,cell_same hb d2⟩
theorem EntsAt_str {w w':World} {v:Value} {l:List Ent} (h:EntsAt w v l) (hs:∀ b o s,w.cell? ⟨b,o,none⟩=some (.string s)→w'.heap[b]?=w.heap[b]?):EntsAt w' v l:=by
 obtain ⟨a,cap,rfl,h1,h2,h3⟩:=h
 refine ⟨a,cap,rfl,h1,h2,fun i t ht=>?_⟩
 obtain ⟨b,off,e,fv,d0,d1,hf⟩:=h3 i t ht
 have hb:=hs _ _ _ d0
 exact ⟨b,off,e,fv,cell_same hb d0,cell_same hb d1,FldsAt_str hf hs⟩
theorem BookAt_str {w w':World} {vk vp ve:Value} {ks ps:List Tri} {es:List Ent} (h:BookAt w vk vp ve ks ps es) (hs:∀ b o s,w.cell? ⟨b,o,none⟩=some (.string s)→w'.heap[b]?=w.heap[b]?):BookAt w' vk vp ve ks ps es :=
 ⟨TrisAt_str h.k hs,TrisAt_str h.p hs,EntsAt_str h.e hs⟩
theorem BookAt.slices {w:World} {vk vp ve:Value} {ks ps:List Tri} {es:List Ent} (h:BookAt w vk vp ve ks ps es):∃ a1 c1 a2 c2 a3 c3,vk=.slice a1 ks.length c1∧vp=.slice a2 ps.length c2∧ve=.slice a3 es.length c3:=by
 obtain ⟨⟨a1,c1,h1,-⟩,⟨a2,c2,h2,-⟩,⟨a3,c3,h3,-⟩⟩:=h
 exact ⟨a1,c1,a2,c2,a3,c3,h1,h2,h3⟩
theorem BookNew.toFar {lo:Nat} {w:World} {x y z:Value} {ks ps:List Tri} {es:List Ent} (h:BookNew lo w x y z ks ps es):BookFar lo w x y z ks ps es:=fun w' hw=>(BookNew.lt h hw).at
theorem sp_of {ks ps:List Tri} {es:List Ent} (hk:kindsB ks=true) (hp:pointsB ps=true) (h:SmB (ks,ps,es)):SpB ks ps es :=
 ⟨h,by have:=(points_le hp).1; omega,fun t ht=>by have:=(points_le hp).2 t ht; omega⟩
set_option maxRecDepth 100000 in
set_option maxHeartbeats 6400000 in
theorem l3Any_any (R p:Nat) (w:World) (h:Rd w R p) (hp:p≤500000) :
  Calls Tryz.prog 51 #[.pointer (some ⟨R,0,none⟩)] w fun e w'=>∃ (x y z:Value) (ks ps:List Tri) (es:List Ent),e=.returned (.agg #[x,y,z])∧BookFar w.heap.size w' x y z ks ps es∧SpB ks ps es∧Out w R p 1500 w':=by
 have hRlt:=h.lt
 have HB:Hid (Below w.heap.size w (w.alloc (.cells #[.slice none 0 0,.slice none 0 0,.slice none 0 0] 29))):=(Below.refl _ _).alloc (Nat.le_refl _) _
 have HR1:Hid (Rd (w.alloc (.cells #[.slice none 0 0,.slice none 0 0,.slice none 0 0] 29)) R p):=h.far HB.out
 have HX1:Hid ((w.alloc (.cells #[.slice none 0 0,.slice none 0 0,.slice none 0 0] 29)).heap[w.heap.size]?=some (.cells #[.slice none 0 0,.slice none 0 0,.slice none 0 0] 29 (0,0))):=heap_newD w _
 clear h
 go_enter Tryz.func51,Tryz.ntmps51
 go_wp2_with fail
 generalize (w.alloc (.cells #[.slice none 0 0,.slice none 0 0,.slice none 0 0] 29))=w1 at *
 refine (l1Base_all R p _ HR1.out (by omega)).mono ?_
 rintro e w2 ⟨kv,pv,ks,ps,rfl,htk,htp,hkb,hpb,hp1,hk1,q2,hq0,hq1,hr2,hg2⟩
 have G2:Hid (Rd w2 R q2∧w.grownBy w2 (some R)∧w2.heap[w.heap.size]?=some (.cells #[.slice none 0 0,.slice none 0 0,.slice none 0 0] 29 (0,0))):=⟨hr2,grown_on (grown_of HB.out _) hg2,box_keep hg2 (by omega) HX1.out⟩
 have HK:=toHid htk
 have HP:=toHid htp
 obtain ⟨ka,kc,rfl⟩:=own_sliceD htk
 obtain ⟨pa,pc,rfl⟩:=own_sliceD htp
 have KB:=toHid hkb
 have PB:=toHid hpb
 clear hr2 hg2 HB HX1 HR1 htk htp hkb hpb
 go_wp2_with fail
 refine (l3Book_any R q2 _ _ ks ps _ G2.out.1 (by omega) (tris_own HK.out) (tris_own HP.out) KB.out PB.out hp1).mono ?_
 rintro e w3 ⟨x,y,z,es,rfl,hbn,hok,hsm,q3,hq2,hq3,hr3,hg3⟩
 obtain ⟨a1,c1,a2,c2,a3,c3,rfl,rfl,rfl⟩:=hbn.slices
 have G3:Hid (Rd w3 R q3∧w.grownBy w3 (some R)∧w3.heap[w.heap.size]?=some (.cells #[.slice none 0 0,.slice none 0 0,.slice none 0 0] 29 (0,0))∧BookFar (w.heap.size+1) w3 (.slice a1 ks.length c1) (.slice a2 ps.length c2) (.slice a3 es.length c3) ks ps es):=⟨hr3,grown_on G2.out.2.1 hg3,box_keep hg3 (by omega) G2.out.2.2,(BookNew.toFar hbn).mono (by have:=lt_blk G2.out.2.2; omega)⟩
 have OK:=toHid hok
 have SM:=toHid hsm
 clear hr3 hg3 hbn hok hsm HK HP G2
 have B4:Hid (Below w3.heap.size w3 (w3.alloc (.cells #[.slice a1 ks.length c1,.slice a2 ps.length c2,.slice a3 es.length c3] 29))):=(Below.refl _ _).alloc (Nat.le_refl _) _
 have X4:Hid ((w3.alloc (.cells #[.slice a1 ks.length c1,.slice a2 ps.length c2,.slice a3 es.length c3] 29)).heap[w3.heap.size]?=some (.cells #[.slice a1 ks.length c1,.slice a2 ps.length c2,.slice a3 es.length c3] 29 (0,0))):=heap_newD w3 _
 have hz3:w.heap.size < w3.heap.size:=lt_blk G3.out.2.2.1
 go_wp2_with fail
 have hRB:w3.heap.size ≠ R:=by have:=G3.out.1.lt; omega
 have G4:Hid (Rd (w3.alloc (.cells #[.slice a1 ks.length c1,.slice a2 ps.length c2,.slice a3 es.length c3] 29)) R q3∧w.grownBy (w3.alloc (.cells #[.slice a1 ks.length c1,.slice a2 ps.length c2,.slice a3 es.length c3] 29)) (some R)∧(w3.alloc (.cells #[.slice a1 ks.length c1,.slice a2 ps.length c2,.slice a3 es.length c3] 29)).heap[w.heap.size]?=some (.cells #[.slice none 0 0,.slice none 0 0,.slice none 0 0] 29 (0,0))∧BookFar (w.heap.size+1) (w3.alloc (.cells #[.slice a1 ks.length c1,.slice a2 ps.length c2,.slice a3 es.length c3] 29)) (.slice a1 ks.length c1) (.slice a2 ps.length c2) (.slice a3 es.length c3) ks ps es):=⟨G3.out.1.far B4.out,grown_on G3.out.2.1 (grown_of B4.out _),(B4.out.block _ hz3).trans G3.out.2.2.1,G3.out.2.2.2.to B4.out.size (fun b _ h2=>B4.out.block b h2)⟩
 generalize (w3.alloc (.cells #[.slice a1 ks.length c1,.slice a2 ps.length c2,.slice a3 es.length c3] 29))=w4 at *
 generalize w3.heap.size=B at *
 clear B4 G3
 refine (pick_any R q3 16 _ G4.out.1 (by omega) (by omega)).mono ?_
 rintro e w5 ⟨y,rfl,hy0,hy1,-,hr5,hg5⟩
 have G5:Hid (Rd w5 R (q3+1)∧w.grownBy w5 (some R)∧w5.heap[w.heap.size]?=some (.cells #[.slice none 0 0,.slice none 0 0,.slice none 0 0] 29 (0,0))∧BookFar (w.heap.size+1) w5 (.slice a1 ks.length c1) (.slice a2 ps.length c2) (.slice a3 es.length c3) ks ps es):=⟨hr5,grown_on G4.out.2.1 hg5,box_keep hg5 (by omega) G4.out.2.2.1,G4.out.2.2.2.to hg5.size (fun b h1 h2=>hg5.block b h2 (fun e=>by injection e; omega))⟩
 have X5:=box_keep hg5 hRB X4.out
 have b0:=cell_blkD X5 (i:=0) rfl
 have b1:=cell_blkD X5 (i:=1) rfl
 have b2:=cell_blkD X5 (i:=2) rfl
 clear hr5 hg5 G4 X4 X5 hy1
 by_cases hy:y=0
 ·have hyb:(y == 0)=true:=by simp [hy]
  clear hy
  go_wp2_with fail
  refine (l3Spoil_any R (q3+1) _ _ _ ks ps es _ G5.out.1 (by omega) G5.out.2.2.2.at OK.out SM.out hk1 hp1).mono ?_
  rintro e w6 ⟨x',y',z',ks',ps',es',rfl,hat,hsp,q6,hq6,hq7,hr6,hg6⟩
  obtain ⟨d1,f1,d2,f2,d3,f3,rfl,rfl,rfl⟩:=BookAt.slices hat.at
  have G6:Hid (Rd w6 R q6∧w.grownBy w6 (some R)∧w6.heap[w.heap.size]?=some (.cells #[.slice none 0 0,.slice none 0 0,.slice none 0 0] 29 (0,0))∧BookFar (w.heap.size+1) w6 (.slice d1 ks'.length f1) (.slice d2 ps'.length f2) (.slice d3 es'.length f3) ks' ps' es'):=⟨hr6,grown_on G5.out.2.1 hg6,box_keep hg6 (by omega) G5.out.2.2.1,hat.mono (lt_blk G5.out.2.2.1)⟩
  have SP:=toHid hsp
  clear hr6 hg6 hat hsp G5 b0 b1 b2
  have hR9:=G6.out.2.2.1
  have HFI:Hid (BookFar w.heap.size (w6.setRow w.heap.size #[.slice d1 ks'.length f1,.slice d2 ps'.length f2,.slice d3 es'.length f3]) (.slice d1 ks'.length f1) (.slice d2 ps'.length f2) (.slice d3 es'.length f3) ks' ps' es'∧SpB ks' ps' es'∧Out w R p 1500 (w6.setRow w.heap.size #[.slice d1 ks'.length f1,.slice d2 ps'.length f2,.slice d3 es'.length f3])):=by
   have ho:∀ b,b ≠ w.heap.size→(w6.setRow w.heap.size #[.slice d1 ks'.length f1,.slice d2 ps'.length f2,.slice d3 es'.length f3]).heap[b]?=w6.heap[b]?:=fun b hb=>setRow_other _ _ _ _ hb
   exact ⟨(G6.out.2.2.2.to (by simp) (fun b h1 _=>ho b (by omega))).mono (by omega),SP.out,q6,by omega,by omega,G6.out.1.late (fun j hj=>ho j (by omega)),grown_row G6.out.2.1 _ (Nat.le_refl _)⟩
  go_wp2_with (refine wpList_store_row rfl 29 _ _ rfl w.heap.size #[.slice d1 ks'.length f1,.slice d2 ps'.length f2,.slice d3 es'.length f3] rfl rfl 29 _ hR9 (by kernel_rfl) rfl (by simp [Value.oneCell']) ?_)
  exact bodyPost_ret (v:=.agg #[.slice d1 ks'.length f1,.slice d2 ps'.length f2,.slice d3 es'.length f3]) (by simp [results,Tryz.results51,go_sem,cell_setRow_same _ _ _ _ _ _ _ hR9]) rfl ⟨_,_,_,ks',ps',es',rfl,HFI.out⟩
 ·have hyb:(y == 0)=false:=by simp [hy]
  clear hy
  have hR9:=G5.out.2.2.1
  have HFI:Hid (BookFar w.heap.size (w5.setRow w.heap.size #[.slice a1 ks.length c1,.slice a2 ps.length c2,.slice a3 es.length c3]) (.slice a1 ks.length c1) (.slice a2 ps.length c2) (.slice a3 es.length c3) ks ps es∧SpB ks ps es∧Out w R p 1500 (w5.setRow w.heap.size #[.slice a1 ks.length c1,.slice a2 ps.length c2,.slice a3 es.length c3])):=by
   have ho:∀ b,b ≠ w.heap.size→(w5.setRow w.heap.size #[.slice a1 ks.length c1,.slice a2 ps.length c2,.slice a3 es.length c3]).heap[b]?=w5.heap[b]?:=fun b hb=>setRow_other _ _ _ _ hb
   exact ⟨(G5.out.2.2.2.to (by simp) (fun b h1 _=>ho b (by omega))).mono (by omega),sp_of KB.out PB.out SM.out,q3+1,by omega,by omega,G5.out.1.late (fun j hj=>ho j (by omega)),grown_row G5.out.2.1 _ (Nat.le_refl _)⟩
  go_wp2_with (refine wpList_store_row rfl 29 _ _ rfl w.heap.size #[.slice a1 ks.length c1,.slice a2 ps.length c2,.slice a3 es.length c3] rfl rfl 29 _ hR9 (by kernel_rfl) rfl (by simp [Value.oneCell']) ?_)
  exact bodyPost_ret (v:=.agg #[.slice a1 ks.length c1,.slice a2 ps.length c2,.slice a3 es.length c3]) (by simp [results,Tryz.results51,go_sem,cell_setRow_same _ _ _ _ _ _ _ hR9]) rfl ⟨_,_,_,ks,ps,es,rfl,HFI.out⟩
end Go.Proofs.YtbjmgglpiakgdaaGreatDoor.Dr
namespace Go.Proofs.YtbjmgglpiakgdaaGreatDoor.Dr
open Go.RowKit Go.Proofs.YtbjmgglpiakgdaaGreatDoor
attribute [local go_sem] Later.cell Later.frozen
structure DT (w z:World) (R q bs:Nat) (x y u:Value) (ks ps:List Tri) (es:List Ent):Prop where
 rd:Rd z R q
 bl:Below w.heap.size w z
 r0:z.heap[w.heap.size]?=some (.cells #[.slice none 0 0,.slice none 0 0,.slice none 0 0] 29 (0,0))
 r1:z.heap[w.heap.size+1]?=some (.cells #[.string ⟨#[]⟩,.int .i64 0,.int .i64 0,.string ⟨#[]⟩] 40 (0,0))
 bk:BookFar bs z x y u ks ps es
theorem DT.call {w z z':World} {R q bs:Nat} {x y u:Value} {ks ps:List Tri} {es:List Ent} (h:DT w z R q bs x y u ks ps es) (hb:Below z.heap.size z z'):DT w z' R q bs x y u ks ps es :=
 ⟨h.rd.far hb,below_step h.bl hb,(hb.block _ (lt_blk h.r0)).trans h.r0,(hb.block _ (lt_blk h.r1)).trans h.r1,h.bk.to hb.size (fun b _ h2=>hb.block b h2)⟩
end Go.Proofs.YtbjmgglpiakgdaaGreatDoor.Dr
namespace Go.Proofs.YtbjmgglpiakgdaaGreatDoor.Dr
open Go.RowKit Go.Proofs.YtbjmgglpiakgdaaGreatDoor
attribute [local go_sem] Later.cell Later.frozen
def Str (w w':World):Prop:=∀ b o s,w.cell? ⟨b,o,none⟩=some (.string s)→w'.heap[b]?=w.heap[b]?
theorem Str.trans {w w' w2:World} (h:Str w w') (k:Str w' w2):Str w w2:=fun b o s hc=>by
 have h1:=h b o s hc
 rw [k b o s (cell_same h1 hc),h1]
theorem Str.below {w w':World} (h:Below w.heap.size w w'):Str w w':=fun b o s hc=>h.block b (lt_of_cell hc)
theorem Str.rd {w w':World} {R p:Nat} (hr:Rd w R p) (h:w.grownBy w' (some R)):Str w w':=fun b o s hc=>by
 obtain ⟨v,n,hn,hb,a,cap,rfl,-⟩:=hr.box
 refine h.block b (lt_of_cell hc) (fun e=>?_)
 injection e with e
 subst e
 simp only [World.cell?,hb] at hc
 rcases o with - | - | o <;> simp at hc
theorem Str.row3 {w:World} {X:Nat} {T:TypeId} {a1 a2 a3:Option Addr} {n1 n2 n3 c1 c2 c3:Nat} (hX:w.heap[X]?=some (.cells #[.slice a1 n1 c1,.slice a2 n2 c2,.slice a3 n3 c3] T (0,0))) (C:Array Value):Str w (w.setRow X C):=fun b o s hc=>cell_row3 (u1:=.slice none 0 0) (u2:=.slice none 0 0) (u3:=.slice none 0 0) hX C hc
theorem Str.book {w w':World} {vk vp ve:Value} {ks ps:List Tri} {es:List Ent} (h:Str w w') (hb:BookAt w vk vp ve ks ps es):BookAt w' vk vp ve ks ps es:=BookAt_str hb h
theorem Str.tris {w w':World} {v:Value} {l:List Tri} (h:Str w w') (hb:TrisAt w v l):TrisAt w' v l:=TrisAt_str hb h
structure DM (w z:World) (R q:Nat) (bs:List Bx):Prop where
 rd:Rd z R q
 bx:Bxs w z bs
 lo:w.heap.size≤R
 no:∀ p ∈ bs,p.1 ≠ R
theorem DM.call {w z z':World} {R q:Nat} {bs:List Bx} (h:DM w z R q bs) (hb:Below z.heap.size z z'):DM w z' R q bs:=⟨h.rd.far hb,h.bx.call hb,h.lo,h.no⟩
theorem DM.grow {w z z':World} {R q q':Nat} {bs:List Bx} (h:DM w z R q bs) (hr:Rd z' R q') (hg:z.grownBy z' (some R)):DM w z' R q' bs :=
 ⟨hr,⟨below_grown h.bx.below hg h.lo,fun p hp=>box_keep hg (h.no p hp) (h.bx.has p hp)⟩,h.lo,h.no⟩
theorem DM.push {w z:World} {R q:Nat} {bs:List Bx} (h:DM w z R q bs) (C:Array Value) (T:TypeId):DM w (z.alloc (.cells C T)) R q ((z.heap.size,C,T) :: bs):=by
 have h1:=h.call ((Below.refl _ _).alloc (Nat.le_refl _) (.cells C T))
 refine ⟨h1.rd,h1.bx.push (heap_newD z _),h1.lo,fun p hp=>?_⟩
 rcases List.mem_cons.1 hp with rfl | hp
 ·have:=h.rd.lt
  show z.heap.size ≠ R
  omega
 ·exact h1.no p hp
end Go.Proofs.YtbjmgglpiakgdaaGreatDoor.Dr
namespace Go.Proofs.YtbjmgglpiakgdaaGreatDoor.Dr
open Go.RowKit Go.Proofs.YtbjmgglpiakgdaaGreatDoor
attribute [local go_sem] Later.cell Later.frozen
def flyL:List ByteArray:=[⟨#[107,108,49]⟩,⟨#[107,108,49]⟩,⟨#[107,108,49]⟩,⟨#[98,97,45,50]⟩,⟨#[108,104,51]⟩,⟨#[120]⟩,⟨#[110,111,110,101]⟩,⟨#[]⟩]
theorem name_size:∀ s ∈ flyL,s.size≤100:=by decide
set_option maxHeartbeats 1600000 in
theorem l6Name_any (R p:Nat) (w:World) (h:Rd w R p) (hp:p≤1000000) :
  Calls Tryz.prog 52 #[.pointer (some ⟨R,0,none⟩)] w fun e w'=>∃ s:ByteArray,e=.returned (.string s)∧s.size≤100∧Rd w' R (p+1)∧w.grownBy w' (some R):=by
 have HB:Hid (Below w.heap.size w (w.alloc (.cells #[.string ⟨#[107,108,49]⟩,.string ⟨#[107,108,49]⟩,.string ⟨#[107,108,49]⟩,.string ⟨#[98,97,45,50]⟩,.string ⟨#[108,104,51]⟩,.string ⟨#[120]⟩,.string ⟨#[110,111,110,101]⟩,.string ⟨#[]⟩] 9))):=(Below.refl _ _).alloc (Nat.le_refl _) _
 have HS:Hid (StrsAt (w.alloc (.cells #[.string ⟨#[107,108,49]⟩,.string ⟨#[107,108,49]⟩,.string ⟨#[107,108,49]⟩,.string ⟨#[98,97,45,50]⟩,.string ⟨#[108,104,51]⟩,.string ⟨#[120]⟩,.string ⟨#[110,111,110,101]⟩,.string ⟨#[]⟩] 9)) (.slice (some ⟨w.heap.size,0,none⟩) 8 8) flyL):=strs_of flyL (heap_newD w _) rfl (by decide)
 have HO:Hid (Calls Tryz.prog 56 #[.pointer (some ⟨R,0,none⟩),.slice (some ⟨w.heap.size,0,none⟩) 8 8] (w.alloc (.cells #[.string ⟨#[107,108,49]⟩,.string ⟨#[107,108,49]⟩,.string ⟨#[107,108,49]⟩,.string ⟨#[98,97,45,50]⟩,.string ⟨#[108,104,51]⟩,.string ⟨#[120]⟩,.string ⟨#[110,111,110,101]⟩,.string ⟨#[]⟩] 9)) fun e w'=>∃ s,e=.returned (.string s)∧s ∈ flyL∧Rd w' R (p+1)∧(w.alloc (.cells #[.string ⟨#[107,108,49]⟩,.string ⟨#[107,108,49]⟩,.string ⟨#[107,108,49]⟩,.string ⟨#[98,97,45,50]⟩,.string ⟨#[108,104,51]⟩,.string ⟨#[120]⟩,.string ⟨#[110,111,110,101]⟩,.string ⟨#[]⟩] 9)).grownBy w' (some R)):=of_any R p _ flyL _ (h.far HB.out) hp HS.out (by decide)
 go_enter Tryz.func52,Tryz.ntmps52
 go_wp2_with fail
 refine HO.out.mono ?_
 rintro e w1 ⟨s,rfl,hs,hr,hg⟩
 have HR:Hid (s.size≤100∧Rd w1 R (p+1)∧w.grownBy w1 (some R)):=⟨name_size s hs,hr,grown_on (grown_of HB.out _) hg⟩
 clear hs hr hg
 go_wp2
 go_ret
 exact ⟨s,rfl,HR.out⟩
end Go.Proofs.YtbjmgglpiakgdaaGreatDoor.Dr
namespace Go.Proofs.YtbjmgglpiakgdaaGreatDoor.Dr
open Go.RowKit Go.Proofs.YtbjmgglpiakgdaaGreatDoor
attribute [local go_sem] Later.cell Later.frozen
def ptL:List ByteArray:=[⟨#[97,108,102,97]⟩,⟨#[98,114,97,118]⟩,⟨#[99,104,97,114]⟩,⟨#[100,45,52]⟩,⟨#[101,99,104,111]⟩,⟨#[110,111,110,101]⟩]
theorem pt_size:∀ s ∈ ptL,s.size≤100:=by decide
set_option maxRecDepth 100000 in
set_option maxHeartbeats 6400000 in
theorem drawOver_any (v:Value) (n:Nat) (w:World) (h:BysArg w v n) :
  Calls Tryz.prog 22 #[v] w fun e w'=>∃ (x y z:Value) (nm pt:ByteArray) (ks ps:List Tri) (es:List Ent),e=.returned (.tuple #[.agg #[x,y,z],.string nm,.string pt])∧BookAt w' x y z ks ps es∧SmB (ks,ps,es)∧nm.size≤100∧pt.size≤100∧Below w.heap.size w w':=by
 have HA:=toHid h
 obtain ⟨a,cap,rfl,-⟩:=h
 have HB:Hid (Bxs w (w.alloc (.cells #[.slice none 0 0,.slice none 0 0,.slice none 0 0] 29)) [(w.heap.size,#[.slice none 0 0,.slice none 0 0,.slice none 0 0],29)]):=⟨(Below.refl _ _).alloc (Nat.le_refl _) _,fun p hp=>by
  simp only [List.mem_cons,List.not_mem_nil,or_false] at hp
  subst hp
  exact heap_newD w _⟩
 go_enter Tryz.func22,Tryz.ntmps22
 go_wp2_with fail
 generalize (w.alloc (.cells #[.slice none 0 0,.slice none 0 0,.slice none 0 0] 29))=w1 at *
 refine (l1Open_any _ n _ (HA.out.keep HB.out.below)).mono ?_
 rintro e w2 ⟨R,rfl,hR,hr2,hb2⟩
 have hRw:w.heap.size < R:=by have:=HB.out.lt (p:=(w.heap.size,#[.slice none 0 0,.slice none 0 0,.slice none 0 0],29)) (by simp); dsimp only at this; omega
 have D2:Hid (DM w w2 R 0 [(w.heap.size,#[.slice none 0 0,.slice none 0 0,.slice none 0 0],29)]):=⟨hr2,HB.out.call hb2,by omega,fun p hp=>by
  simp only [List.mem_cons,List.not_mem_nil,or_false] at hp
  subst hp
  show w.heap.size ≠ R; omega⟩
 clear hr2 hb2 HB hR
 go_wp2_with fail
 refine (l3Any_any R 0 _ D2.out.rd (by omega)).mono ?_
 rintro e w3 ⟨x,y,z,ks,ps,es,rfl,hat,hsp,q3,hq0,hq1,hr3,hg3⟩
 obtain ⟨a1,c1,a2,c2,a3,c3,rfl,rfl,rfl⟩:=BookAt.slices hat.at
 have SM:Hid (SmB (ks,ps,es)):=hsp.1
 have D3:=toHid (D2.out.grow hr3 hg3)
 have B3:Hid (BookAt w3 (.slice a1 ks.length c1) (.slice a2 ps.length c2) (.slice a3 es.length c3) ks ps es):=hat.at
 clear hr3 hg3 hat hsp D2
 go_wp2_with fail
 refine (l6Name_any R q3 _ D3.out.rd (by omega)).mono ?_
 rintro e w5 ⟨nm,rfl,hnm,hr5,hg5⟩
 have D5:=toHid (D3.out.grow hr5 hg5)
 have B5:Hid (BookAt w5 (.slice a1 ks.length c1) (.slice a2 ps.length c2) (.slice a3 es.length c3) ks ps es):=(Str.rd D3.out.rd hg5).book B3.out
 clear hr5 hg5 D3 B3
 have HB6:Hid (Below w5.heap.size w5 (w5.alloc (.cells #[.string ⟨#[97,108,102,97]⟩,.string ⟨#[98,114,97,118]⟩,.string ⟨#[99,104,97,114]⟩,.string ⟨#[100,45,52]⟩,.string ⟨#[101,99,104,111]⟩,.string ⟨#[110,111,110,101]⟩] 9))):=(Below.refl _ _).alloc (Nat.le_refl _) _
 have HS6:Hid (StrsAt (w5.alloc (.cells #[.string ⟨#[97,108,102,97]⟩,.string ⟨#[98,114,97,118]⟩,.string ⟨#[99,104,97,114]⟩,.string ⟨#[100,45,52]⟩,.string ⟨#[101,99,104,111]⟩,.string ⟨#[110,111,110,101]⟩] 9)) (.slice (some ⟨w5.heap.size,0,none⟩) 6 6) ptL):=strs_of ptL (heap_newD w5 _) rfl (by decide)
 have D6:=toHid (D5.out.call HB6.out)
 have B6:=toHid ((Str.below HB6.out).book B5.out)
 clear HB6 D5 B5
 go_wp2_with fail
 generalize (w5.alloc (.cells #[.string ⟨#[97,108,102,97]⟩,.string ⟨#[98,114,97,118]⟩,.string ⟨#[99,104,97,114]⟩,.string ⟨#[100,45,52]⟩,.string ⟨#[101,99,104,111]⟩,.string ⟨#[110,111,110,101]⟩] 9))=w6 at *
 refine (of_any R (q3+1) _ ptL _ D6.out.rd (by omega) HS6.out (by decide)).mono ?_
 rintro e w7 ⟨pt,rfl,hpt,hr7,hg7⟩
 have D7:=toHid (D6.out.grow hr7 hg7)
 have B7:Hid (BookAt w7 (.slice a1 ks.length c1) (.slice a2 ps.length c2) (.slice a3 es.length c3) ks ps es):=(Str.rd D6.out.rd hg7).book B6.out
 have HPT:=toHid (pt_size pt hpt)
 clear hr7 hg7 D6 B6 HS6 hpt
 have hR0:=D7.out.bx.has (w.heap.size,#[.slice none 0 0,.slice none 0 0,.slice none 0 0],29) (by simp)
 go_wp2_with (refine wpList_store_row rfl 29 _ _ rfl w.heap.size #[.slice a1 ks.length c1,.slice a2 ps.length c2,.slice a3 es.length c3] rfl rfl 29 _ hR0 (by kernel_rfl) rfl (by simp [Value.oneCell']) ?_)
 have k0:=setRow_heap _ _ _ #[.slice a1 ks.length c1,.slice a2 ps.length c2,.slice a3 es.length c3] _ _ hR0
 have h00:=cell_blkD k0 (i:=0) rfl
 have h01:=cell_blkD k0 (i:=1) rfl
 have h02:=cell_blkD k0 (i:=2) rfl
 exact bodyPost_ret (v:=.tuple #[.agg #[.slice a1 ks.length c1,.slice a2 ps.length c2,.slice a3 es.length c3],.string nm,.string pt]) (by simp [results,Tryz.results22,go_sem,h00,h01,h02]) rfl ⟨_,_,_,_,_,_,_,_,rfl,(Str.row3 hR0 _).book B7.out,SM.out,hnm,HPT.out,below_setRow D7.out.bx.below (Nat.le_refl _) _⟩
end Go.Proofs.YtbjmgglpiakgdaaGreatDoor.Dr
namespace Go.Proofs.YtbjmgglpiakgdaaGreatDoor.Dr
open Go.RowKit Go.Proofs.YtbjmgglpiakgdaaGreatDoor Go.Proofs.YtbjmgglpiakgdaaGreatDoor.Sd
attribute [local go_sem] Later.cell Later.frozen
theorem cut_pos:∀ (l acc:List UInt8),1≤(cutA acc l).length
 | [],acc=>by simp [cutA]
 | c :: l,acc=>by
  unfold cutA
  split
  ·simp
  ·exact cut_pos l _
theorem cutW_pos (s:ByteArray):1≤(cutW s).length:=by
 unfold cutW
 rw [List.length_map]
 exact cut_pos _ _
theorem strs_own {w:World} {B:Nat} {v:Value} {l:List ByteArray} (h:SNew w B v l) (hl:1≤l.length):StrsAt w v l:=by
 rcases h.2 with ⟨hv,h0⟩ | ⟨g,cap,cur,hv,_,hg,hn,hc,hs,ht⟩
 ·omega
 ·refine ⟨g,0,cap,hv,hn,hc,fun i t hi=>?_⟩
  have hil:i < l.length:=(List.getElem?_eq_some_iff.1 hi).1
  have e:(cur.toList.take (l.length * 1))[i]?=some (.string t):=by rw [ht]; simp [hi]
  rw [List.getElem?_take,if_pos (by omega)] at e
  simp only [World.cell?,hg]
  simpa using e
theorem Str.strs {w w':World} {v:Value} {l:List ByteArray} (h:Str w w') (hb:StrsAt w v l):StrsAt w' v l:=by
 obtain ⟨g,off,cap,h1,h2,h3,h4⟩:=hb
 exact ⟨g,off,cap,h1,h2,h3,fun i x hx=>cell_same (h _ _ _ (h4 i x hx)) (h4 i x hx)⟩
theorem Str.row2 {w:World} {X:Nat} {T:TypeId} {a1 a2:Option Addr} {n1 n2 c1 c2:Nat} (hX:w.heap[X]?=some (.cells #[.slice a1 n1 c1,.slice a2 n2 c2] T (0,0))) (C:Array Value):Str w (w.setRow X C):=fun b o s hc=>by
 refine setRow_other _ _ _ _ (fun e=>?_)
 subst e
 simp only [World.cell?,hX] at hc
 rcases o with - | - | o <;> simp at hc
def CdOk (ks ps:List Tri) (ws:List ByteArray):Prop:=ks.length≤150∧ps.length≤150∧(∀ t ∈ ks,t.s.size≤100)∧(∀ t ∈ ps,t.s.size≤100)∧ws.length≤3000∧(∀ x ∈ ws,x.size≤2000)∧1≤ws.length
theorem cd_ok {ks ps:List Tri} {s:ByteArray} (hk:kindsB ks=true) (hp:pointsB ps=true) (hs:s.size≤2000):CdOk ks ps (cutW s) :=
 ⟨by have:=(kinds_le hk).1; omega,by have:=(points_le hp).1; omega,fun t ht=>by have:=(kinds_le hk).2 t ht; omega,fun t ht=>by have:=(points_le hp).2 t ht; omega,by have:=cutW_len s; omega,fun x hx=>(by have:=cutW_size s x hx; omega),cutW_pos s⟩
set_option maxRecDepth 100000 in
set_option maxHeartbeats 6400000 in
theorem drawCells_any (v:Value) (n:Nat) (w:World) (h:BysArg w v n) :
  Calls Tryz.prog 26 #[v] w fun e w'=>∃ (kv pv u:Value) (ks ps:List Tri) (ws:List ByteArray),e=.returned (.tuple #[.agg #[kv,pv],u])∧TrisAt w' kv ks∧TrisAt w' pv ps∧StrsAt w' u ws∧CdOk ks ps ws∧Below w.heap.size w w':=by
 have HA:=toHid h
 obtain ⟨a,cap,rfl,-⟩:=h
 have HB:Hid (Bxs w (w.alloc (.cells #[.slice none 0 0,.slice none 0 0] 26)) [(w.heap.size,#[.slice none 0 0,.slice none 0 0],26)]):=⟨(Below.refl _ _).alloc (Nat.le_refl _) _,fun p hp=>by
  simp only [List.mem_cons,List.not_mem_nil,or_false] at hp
  subst hp
  exact heap_newD w _⟩
 go_enter Tryz.func26,Tryz.ntmps26
 go_wp2_with fail
 generalize (w.alloc (.cells #[.slice none 0 0,.slice none 0 0] 26))=w1 at *
 refine (l1Open_any _ n _ (HA.out.keep HB.out.below)).mono ?_
 rintro e w2 ⟨R,rfl,hR,hr2,hb2⟩
 have hRw:w.heap.size < R:=by have:=HB.out.lt (p:=(w.heap.size,#[.slice none 0 0,.slice none 0 0],26)) (by simp); dsimp only at this; omega
 have D2:Hid (DM w w2 R 0 [(w.heap.size,#[.slice none 0 0,.slice none 0 0],26)]):=⟨hr2,HB.out.call hb2,by omega,fun p hp=>by
  simp only [List.mem_cons,List.not_mem_nil,or_false] at hp
  subst hp
  show w.heap.size ≠ R; omega⟩
 clear hr2 hb2 HB hR
 go_wp2_with fail
 refine (l1Base_all R 0 _ D2.out.rd (by omega)).mono ?_
 rintro e w3 ⟨kv,pv,ks,ps,rfl,htk,htp,hkb,hpb,hp1,hk1,q3,hq0,hq1,hr3,hg3⟩
 have T3:Hid (TrisAt w3 kv ks∧TrisAt w3 pv ps):=⟨tris_own htk,tris_own htp⟩
 have HOK:Hid (kindsB ks=true∧pointsB ps=true):=⟨hkb,hpb⟩
 obtain ⟨ka,kc,rfl⟩:=own_sliceD htk
 obtain ⟨pa,pc,rfl⟩:=own_sliceD htp
 have D4:=toHid ((D2.out.grow hr3 hg3).push #[.slice ka ks.length kc,.slice pa ps.length pc] 26)
 have T4:Hid (TrisAt (w3.alloc (.cells #[.slice ka ks.length kc,.slice pa ps.length pc] 26)) (.slice ka ks.length kc) ks∧TrisAt (w3.alloc (.cells #[.slice ka ks.length kc,.slice pa ps.length pc] 26)) (.slice pa ps.length pc) ps):=by
  have h1:Str w3 (w3.alloc (.cells #[.slice ka ks.length kc,.slice pa ps.length pc] 26)):=Str.below ((Below.refl _ _).alloc (Nat.le_refl _) _)
  exact ⟨h1.tris T3.out.1,h1.tris T3.out.2⟩
 have hBA:w.heap.size < w3.heap.size:=(D2.out.grow hr3 hg3).bx.lt (p:=(w.heap.size,#[.slice none 0 0,.slice none 0 0],26)) (by simp)
 have hRB:R < w3.heap.size:=(D2.out.grow hr3 hg3).rd.lt
 clear hr3 hg3 htk htp hkb hpb T3 D2
 go_wp2_with fail
 generalize (w3.alloc (.cells #[.slice ka ks.length kc,.slice pa ps.length pc] 26))=w4 at *
 generalize w3.heap.size=BA at *
 refine (l2Value_any R q3 _ _ ps 4 _ D4.out.rd (by omega) T4.out.2 ⟨hp1,by have:=(points_le HOK.out.2).1; omega⟩ (fun t ht=>by have:=(points_le HOK.out.2).2 t ht; omega)).mono ?_
 rintro e w5 ⟨s,rfl,hs,q5,hq2,hq3,hr5,hg5⟩
 have D5:=toHid (D4.out.grow hr5 hg5)
 have T5:Hid (TrisAt w5 (.slice ka ks.length kc) ks∧TrisAt w5 (.slice pa ps.length pc) ps):=⟨(Str.rd D4.out.rd hg5).tris T4.out.1,(Str.rd D4.out.rd hg5).tris T4.out.2⟩
 clear hr5 hg5 D4 T4
 go_wp2_with fail
 refine (l2Cut_new s _ (by omega)).mono ?_
 rintro e w6 ⟨rv,rfl,hrn,hb6⟩
 have D6:=toHid (D5.out.call hb6)
 have T6:Hid (TrisAt w6 (.slice ka ks.length kc) ks∧TrisAt w6 (.slice pa ps.length pc) ps∧StrsAt w6 rv (cutW s)):=⟨(Str.below hb6).tris T5.out.1,(Str.below hb6).tris T5.out.2,strs_own hrn (cutW_pos s)⟩
 obtain ⟨ra,rc,rfl⟩:=own_sliceD hrn
 clear hb6 hrn D5 T5
 go_wp2_with fail
 refine (pick_any R q5 12 _ D6.out.rd (by omega) (by omega)).mono ?_
 rintro e w7 ⟨x,rfl,hx0,hx1,-,hr7,hg7⟩
 have D7:=toHid (D6.out.grow hr7 hg7)
 have T7:Hid (TrisAt w7 (.slice ka ks.length kc) ks∧TrisAt w7 (.slice pa ps.length pc) ps∧StrsAt w7 (.slice ra (cutW s).length rc) (cutW s)):=⟨(Str.rd D6.out.rd hg7).tris T6.out.1,(Str.rd D6.out.rd hg7).tris T6.out.2.1,(Str.rd D6.out.rd hg7).strs T6.out.2.2⟩
 clear hr7 hg7 D6 T6 hx0 hx1
 by_cases hx0:x=0
 ·subst hx0
  have b0:=cell_blkD (D7.out.bx.has (BA,#[.slice ka ks.length kc,.slice pa ps.length pc],26) (by simp)) (i:=0) rfl
  have b1:=cell_blkD (D7.out.bx.has (BA,#[.slice ka ks.length kc,.slice pa ps.length pc],26) (by simp)) (i:=1) rfl
  go_wp2_with fail
  clear b0 b1
  refine (l1SpoilBase_any R _ _ _ ks ps _ D7.out.rd (by omega) T7.out.1 T7.out.2.1 ⟨hk1,by have:=(kinds_le HOK.out.1).1; omega⟩ ⟨hp1,by have:=(points_le HOK.out.2).1; omega⟩ (fun t ht=>by have:=(kinds_le HOK.out.1).2 t ht; omega) (fun t ht=>by have:=(points_le HOK.out.2).2 t ht; omega)).mono ?_
  rintro e w8 ⟨kv',pv',ks',ps',rfl,htk,htp,hsp,q8,hq4,hq5,hr8,hg8⟩
  have T8:Hid (TrisAt w8 kv' ks'∧TrisAt w8 pv' ps'∧StrsAt w8 (.slice ra (cutW s).length rc) (cutW s)):=⟨tris_own htk,tris_own htp,(Str.rd D7.out.rd hg8).strs T7.out.2.2⟩
  have D8:=toHid (D7.out.grow hr8 hg8)
  have HSP:=toHid hsp
  obtain ⟨ka',kc',rfl⟩:=own_sliceD htk
  obtain ⟨pa',pc',rfl⟩:=own_sliceD htp
  have hBX:=D8.out.bx.has (BA,#[.slice ka ks.length kc,.slice pa ps.length pc],26) (by simp)
  clear hr8 hg8 htk htp D7 T7 hsp
  have DX:Hid (DM w (w8.setRow BA #[.slice ka' ks'.length kc',.slice pa' ps'.length pc']) R q8 [(BA,#[.slice ka' ks'.length kc',.slice pa' ps'.length pc'],26),(w.heap.size,#[.slice none 0 0,.slice none 0 0],26)]):=by
   refine ⟨D8.out.rd.late fun j hj=>setRow_other _ _ _ _ (by have:=D8.out.no (BA,#[.slice ka ks.length kc,.slice pa ps.length pc],26) (by simp); dsimp only at this; omega),⟨below_setRow D8.out.bx.below (by omega) _,fun p hp=>?_⟩,D8.out.lo,fun p hp=>?_⟩
   ·simp only [List.mem_cons,List.not_mem_nil,or_false] at hp
    rcases hp with rfl | rfl
    ·exact setRow_heap _ _ _ _ _ _ hBX
    ·exact (setRow_other _ _ _ _ (by omega)).trans (D8.out.bx.has _ (by simp))
   ·simp only [List.mem_cons,List.not_mem_nil,or_false] at hp
    rcases hp with rfl | rfl
    ·exact D8.out.no (BA,#[.slice ka ks.length kc,.slice pa ps.length pc],26) (by simp)
    ·exact D8.out.no (w.heap.size,#[.slice none 0 0,.slice none 0 0],26) (by simp)
  have hstX:=Str.row2 hBX #[.slice ka' ks'.length kc',.slice pa' ps'.length pc']
  have TX:Hid (TrisAt (w8.setRow BA #[.slice ka' ks'.length kc',.slice pa' ps'.length pc']) (.slice ka' ks'.length kc') ks'∧TrisAt (w8.setRow BA #[.slice ka' ks'.length kc',.slice pa' ps'.length pc']) (.slice pa' ps'.length pc') ps'∧StrsAt (w8.setRow BA #[.slice ka' ks'.length kc',.slice pa' ps'.length pc']) (.slice ra (cutW s).length rc) (cutW s)):=⟨hstX.tris T8.out.1,hstX.tris T8.out.2.1,hstX.strs T8.out.2.2⟩
  clear hstX D8 T8
  have D9:=toHid DX.out
  have T9:Hid (TrisAt (w8.setRow BA #[.slice ka' ks'.length kc',.slice pa' ps'.length pc']) (.slice ka' ks'.length kc') ks'∧TrisAt (w8.setRow BA #[.slice ka' ks'.length kc',.slice pa' ps'.length pc']) (.slice pa' ps'.length pc') ps'∧StrsAt (w8.setRow BA #[.slice ka' ks'.length kc',.slice pa' ps'.length pc']) (.slice ra (cutW s).length rc) (cutW s)∧CdOk ks' ps' (cutW s)):=⟨TX.out.1,TX.out.2.1,TX.out.2.2,HSP.out.1,HSP.out.2.2.1,HSP.out.2.2.2.1,HSP.out.2.2.2.2,by have:=cutW_len s; omega,fun x hx=>(by have:=cutW_size s x hx; omega),cutW_pos s⟩
  have b0:=cell_blkD (D9.out.bx.has (BA,#[.slice ka' ks'.length kc',.slice pa' ps'.length pc'],26) (by simp)) (i:=0) rfl
  have b1:=cell_blkD (D9.out.bx.has (BA,#[.slice ka' ks'.length kc',.slice pa' ps'.length pc'],26) (by simp)) (i:=1) rfl
  have hR0:=D9.out.bx.has (w.heap.size,#[.slice none 0 0,.slice none 0 0],26) (by simp)
  go_wp2_with (first | refine wpList_store_row rfl 26 _ _ rfl BA #[.slice ka' ks'.length kc',.slice pa' ps'.length pc'] rfl rfl 26 _ hBX (by kernel_rfl) rfl (by simp [Value.oneCell']) ?_ | refine wpList_store_row rfl 26 _ _ rfl w.heap.size #[.slice ka' ks'.length kc',.slice pa' ps'.length pc'] rfl rfl 26 _ hR0 (by kernel_rfl) rfl (by simp [Value.oneCell']) ?_)
  have k0:=setRow_heap _ _ _ #[.slice ka' ks'.length kc',.slice pa' ps'.length pc'] _ _ hR0
  have h00:=cell_blkD k0 (i:=0) rfl
  have h01:=cell_blkD k0 (i:=1) rfl
  have hst:=Str.row2 hR0 #[.slice ka' ks'.length kc',.slice pa' ps'.length pc']
  exact bodyPost_ret (v:=.tuple #[.agg #[.slice ka' ks'.length kc',.slice pa' ps'.length pc'],.slice ra (cutW s).length rc]) (by simp [results,Tryz.results26,go_sem,h00,h01]) rfl ⟨_,_,_,ks',ps',(cutW s),rfl,hst.tris T9.out.1,hst.tris T9.out.2.1,hst.strs T9.out.2.2.1,T9.out.2.2.2,below_setRow D9.out.bx.below (Nat.le_refl _) _⟩
 ·by_cases hx1:x=1
  ·subst hx1
   go_wp2_with fail
   refine (l2BadValue_any R _ _ D7.out.rd (by omega)).mono ?_
   rintro e w8 ⟨s',rfl,hs',hr8,hg8⟩
   have D8:=toHid (D7.out.grow hr8 hg8)
   have T8:Hid (TrisAt w8 (.slice ka ks.length kc) ks∧TrisAt w8 (.slice pa ps.length pc) ps):=⟨(Str.rd D7.out.rd hg8).tris T7.out.1,(Str.rd D7.out.rd hg8).tris T7.out.2.1⟩
   clear hr8 hg8 D7 T7
   go_wp2_with fail
   refine (l2Cut_new s' _ (by omega)).mono ?_
   rintro e w9 ⟨rv',rfl,hrn,hb9⟩
   have T9:Hid (TrisAt w9 (.slice ka ks.length kc) ks∧TrisAt w9 (.slice pa ps.length pc) ps∧StrsAt w9 rv' (cutW s')):=⟨(Str.below hb9).tris T8.out.1,(Str.below hb9).tris T8.out.2,strs_own hrn (cutW_pos s')⟩
   have DX:=toHid (D8.out.call hb9)
   obtain ⟨ra',rc',rfl⟩:=own_sliceD hrn
   have TX:=T9
   clear hb9 hrn D8 T8 T9
   have D9:=toHid DX.out
   have T9:Hid (TrisAt w9 (.slice ka ks.length kc) ks∧TrisAt w9 (.slice pa ps.length pc) ps∧StrsAt w9 (.slice ra' (cutW s').length rc') (cutW s')∧CdOk ks ps (cutW s')):=⟨TX.out.1,TX.out.2.1,TX.out.2.2,cd_ok HOK.out.1 HOK.out.2 (by omega)⟩
   have b0:=cell_blkD (D9.out.bx.has (BA,#[.slice ka ks.length kc,.slice pa ps.length pc],26) (by simp)) (i:=0) rfl
   have b1:=cell_blkD (D9.out.bx.has (BA,#[.slice ka ks.length kc,.slice pa ps.length pc],26) (by simp)) (i:=1) rfl
   have hR0:=D9.out.bx.has (w.heap.size,#[.slice none 0 0,.slice none 0 0],26) (by simp)
   go_wp2_with (refine wpList_store_row rfl 26 _ _ rfl w.heap.size #[.slice ka ks.length kc,.slice pa ps.length pc] rfl rfl 26 _ hR0 (by kernel_rfl) rfl (by simp [Value.oneCell']) ?_)
   have k0:=setRow_heap _ _ _ #[.slice ka ks.length kc,.slice pa ps.length pc] _ _ hR0
   have h00:=cell_blkD k0 (i:=0) rfl
   have h01:=cell_blkD k0 (i:=1) rfl
   have hst:=Str.row2 hR0 #[.slice ka ks.length kc,.slice pa ps.length pc]
   exact bodyPost_ret (v:=.tuple #[.agg #[.slice ka ks.length kc,.slice pa ps.length pc],.slice ra' (cutW s').length rc']) (by simp [results,Tryz.results26,go_sem,h00,h01]) rfl ⟨_,_,_,ks,ps,(cutW s'),rfl,hst.tris T9.out.1,hst.tris T9.out.2.1,hst.strs T9.out.2.2.1,T9.out.2.2.2,below_setRow D9.out.bx.below (Nat.le_refl _) _⟩
  ·have hb0:(x == 0)=false:=by rw [beq_eq_false_iff_ne]; exact hx0
   have hb1:(x == 1)=false:=by rw [beq_eq_false_iff_ne]; exact hx1
   have hc0:(0 == x)=false:=by rw [beq_eq_false_iff_ne]; exact fun e=>hx0 e.symm
   have hc1:(1 == x)=false:=by rw [beq_eq_false_iff_ne]; exact fun e=>hx1 e.symm
   have D9:=toHid D7.out
   have T9:Hid (TrisAt w7 (.slice ka ks.length kc) ks∧TrisAt w7 (.slice pa ps.length pc) ps∧StrsAt w7 (.slice ra (cutW s).length rc) (cutW s)∧CdOk ks ps (cutW s)):=⟨T7.out.1,T7.out.2.1,T7.out.2.2,cd_ok HOK.out.1 HOK.out.2 hs⟩
   have b0:=cell_blkD (D9.out.bx.has (BA,#[.slice ka ks.length kc,.slice pa ps.length pc],26) (by simp)) (i:=0) rfl
   have b1:=cell_blkD (D9.out.bx.has (BA,#[.slice ka ks.length kc,.slice pa ps.length pc],26) (by simp)) (i:=1) rfl
   have hR0:=D9.out.bx.has (w.heap.size,#[.slice none 0 0,.slice none 0 0],26) (by simp)
   go_wp2_with (refine wpList_store_row rfl 26 _ _ rfl w.heap.size #[.slice ka ks.length kc,.slice pa ps.length pc] rfl rfl 26 _ hR0 (by kernel_rfl) rfl (by simp [Value.oneCell']) ?_)
   have k0:=setRow_heap _ _ _ #[.slice ka ks.length kc,.slice pa ps.length pc] _ _ hR0
   have h00:=cell_blkD k0 (i:=0) rfl
   have h01:=cell_blkD k0 (i:=1) rfl
   have hst:=Str.row2 hR0 #[.slice ka ks.length kc,.slice pa ps.length pc]
   exact bodyPost_ret (v:=.tuple #[.agg #[.slice ka ks.length kc,.slice pa ps.length pc],.slice ra (cutW s).length rc]) (by simp [results,Tryz.results26,go_sem,h00,h01]) rfl ⟨_,_,_,ks,ps,(cutW s),rfl,hst.tris T9.out.1,hst.tris T9.out.2.1,hst.strs T9.out.2.2.1,T9.out.2.2.2,below_setRow D9.out.bx.below (Nat.le_refl _) _⟩
end Go.Proofs.YtbjmgglpiakgdaaGreatDoor.Dr
