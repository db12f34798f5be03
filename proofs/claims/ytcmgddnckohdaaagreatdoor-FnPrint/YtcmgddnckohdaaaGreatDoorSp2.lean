import Derived.Test.YtcmgddnckohdaaaGreatDoorSp1
set_option maxRecDepth 100000
set_option maxHeartbeats 6400000
namespace Go.Proofs.YtcmgddnckohdaaaGreatDoor.Dr
open Go.RowKit
attribute [local go_sem] Later.cell Later.frozen
set_option linter.unusedSimpArgs false
set_option linter.unusedVariables false
theorem cell_row3 {w:World} {X:Nat} {T:TypeId} {u1 u2 u3:Value} {a1 a2 a3:Option Addr} {n1 n2 n3 c1 c2 c3:Nat} (hX:w.heap[X]?=some (.cells #[.slice a1 n1 c1,.slice a2 n2 c2,.slice a3 n3 c3] T (0,0))) (C:Array Value) {b o:Nat} {s:ByteArray} (hc:w.cell? ⟨b,o,none⟩=some (.string s)):(w.setRow X C).heap[b]?=w.heap[b]?:=by
 refine setRow_other _ _ _ _ (fun e=>?_);subst e
 simp only [World.cell?,hX] at hc
 rcases o with - | - | - | o <;> simp at hc
theorem bz {w w':World} {b o:Nat} {u:Value} (hb:w'.heap[b]?=w.heap[b]?) (hc:w.cell? ⟨b,o,none⟩=some u):w'.cell? ⟨b,o,none⟩=some u:=by
 rw [World.cell?_of_block (w:=w) hb];exact hc
theorem TrisAt_str {w w':World} {v:Value} {l:List Tri} (h:TrisAt w v l) (hs:∀ b o s,w.cell? ⟨b,o,none⟩=some (.string s)→w'.heap[b]?=w.heap[b]?):TrisAt w' v l:=by
 obtain ⟨a,cap,rfl,h1,h2,h3⟩:=h;refine ⟨a,cap,rfl,h1,h2,fun i t ht=>?_⟩;obtain ⟨b,off,e,d0,d1,d2⟩:=h3 i t ht;have hb:=hs _ _ _ d0;exact ⟨b,off,e,bz hb d0,bz hb d1,bz hb d2⟩
theorem FldsAt_str {w w':World} {v:Value} {l:List Fld} (h:FldsAt w v l) (hs:∀ b o s,w.cell? ⟨b,o,none⟩=some (.string s)→w'.heap[b]?=w.heap[b]?):FldsAt w' v l:=by
 obtain ⟨a,cap,rfl,h1,h2,h3⟩:=h;refine ⟨a,cap,rfl,h1,h2,fun i t ht=>?_⟩;obtain ⟨b,off,e,d0,d1,d2⟩:=h3 i t ht;have hb:=hs _ _ _ d2;exact ⟨b,off,e,bz hb d0,bz hb d1,bz hb d2⟩
theorem EntsAt_str {w w':World} {v:Value} {l:List Ent} (h:EntsAt w v l) (hs:∀ b o s,w.cell? ⟨b,o,none⟩=some (.string s)→w'.heap[b]?=w.heap[b]?):EntsAt w' v l:=by
 obtain ⟨a,cap,rfl,h1,h2,h3⟩:=h;refine ⟨a,cap,rfl,h1,h2,fun i t ht=>?_⟩;obtain ⟨b,off,e,fv,d0,d1,hf⟩:=h3 i t ht;have hb:=hs _ _ _ d0;exact ⟨b,off,e,fv,bz hb d0,bz hb d1,FldsAt_str hf hs⟩
theorem BookAt_str {w w':World} {vk vp ve:Value} {ks ps:List Tri} {es:List Ent} (h:BookAt w vk vp ve ks ps es) (hs:∀ b o s,w.cell? ⟨b,o,none⟩=some (.string s)→w'.heap[b]?=w.heap[b]?):BookAt w' vk vp ve ks ps es :=
 ⟨TrisAt_str h.k hs,TrisAt_str h.p hs,EntsAt_str h.e hs⟩
theorem BookAt_row3 {w:World} {X:Nat} {T:TypeId} {a1 a2 a3:Option Addr} {n1 n2 n3 c1 c2 c3:Nat} {vk vp ve:Value} {ks ps:List Tri} {es:List Ent} (h:BookAt w vk vp ve ks ps es) (hX:w.heap[X]?=some (.cells #[.slice a1 n1 c1,.slice a2 n2 c2,.slice a3 n3 c3] T (0,0))) (C:Array Value):BookAt (w.setRow X C) vk vp ve ks ps es :=
 BookAt_str h (fun b o s hc=>cell_row3 (u1:=.slice none 0 0) (u2:=.slice none 0 0) (u3:=.slice none 0 0) hX C hc)
theorem BookAt.slices {w:World} {vk vp ve:Value} {ks ps:List Tri} {es:List Ent} (h:BookAt w vk vp ve ks ps es):∃ a1 c1 a2 c2 a3 c3,vk=.slice a1 ks.length c1∧vp=.slice a2 ps.length c2∧ve=.slice a3 es.length c3:=by
 obtain ⟨⟨a1,c1,h1,-⟩,⟨a2,c2,h2,-⟩,⟨a3,c3,h3,-⟩⟩:=h;exact ⟨a1,c1,a2,c2,a3,c3,h1,h2,h3⟩
theorem BookNew.toFar {lo:Nat} {w:World} {x y z:Value} {ks ps:List Tri} {es:List Ent} (h:BookNew lo w x y z ks ps es):BookFar lo w x y z ks ps es:=fun w' hw=>(BookNew.lt h hw).at
theorem sp_of {ks ps:List Tri} {es:List Ent} (hk:kindsB ks=true) (hp:pointsB ps=true) (h:SmB (ks,ps,es)):SpB ks ps es :=
 ⟨h,by have:=(points_le hp).1;omega,fun t ht=>by have:=(points_le hp).2 t ht;omega⟩
theorem l3Any_any (R p:Nat) (w:World) (h:Rd w R p) (hp:p≤500000) :
  Calls Tryz.prog 44 #[.pointer (some ⟨R,0,none⟩)] w fun e w'=>∃ (x y z:Value) (ks ps:List Tri) (es:List Ent),e=.returned (.agg #[x,y,z])∧BookFar w.heap.size w' x y z ks ps es∧SpB ks ps es∧Out w R p 1500 w':=by
 have hRlt:=h.lt;have HB:Hid (Below w.heap.size w (w.alloc (.cells #[.slice none 0 0,.slice none 0 0,.slice none 0 0] 30))):=(aO);have HR1:Hid (Rd (w.alloc (.cells #[.slice none 0 0,.slice none 0 0,.slice none 0 0] 30)) R p):=h.far HB.out;have HX1:Hid ((w.alloc (.cells #[.slice none 0 0,.slice none 0 0,.slice none 0 0] 30)).heap[w.heap.size]?=some (.cells #[.slice none 0 0,.slice none 0 0,.slice none 0 0] 30 (0,0))):=ay w _;clear h
 go_enter Tryz.func44,Tryz.ntmps44
 go_wp2_with fail;generalize (w.alloc (.cells #[.slice none 0 0,.slice none 0 0,.slice none 0 0] 30))=w1 at *
 refine (l1Base_all R p _ HR1.out (by omega)).mono ?_
 rintro e w2 ⟨kv,pv,ks,ps,rfl,htk,htp,hkb,hpb,hp1,hk1,q2,hq0,hq1,hr2,hg2⟩
 have G2:Hid (Rd w2 R q2∧w.grownBy w2 (some R)∧w2.heap[w.heap.size]?=some (.cells #[.slice none 0 0,.slice none 0 0,.slice none 0 0] 30 (0,0))):=⟨hr2,av (az HB.out _) hg2,aL hg2 (by omega) HX1.out⟩
 have HK:=am htk;have HP:=am htp;obtain ⟨ka,kc,rfl⟩:=bD htk;obtain ⟨pa,pc,rfl⟩:=bD htp;have KB:=am hkb;have PB:=am hpb;clear hr2 hg2 HB HX1 HR1 htk htp hkb hpb;go_wp2_with fail
 refine (l3Book_any R q2 _ _ ks ps _ G2.out.1 (by omega) (cr HK.out) (cr HP.out) KB.out PB.out hp1).mono ?_
 rintro e w3 ⟨x,y,z,es,rfl,hbn,hok,hsm,q3,hq2,hq3,hr3,hg3⟩;obtain ⟨a1,c1,a2,c2,a3,c3,rfl,rfl,rfl⟩:=hbn.slices
 have G3:Hid (Rd w3 R q3∧w.grownBy w3 (some R)∧w3.heap[w.heap.size]?=some (.cells #[.slice none 0 0,.slice none 0 0,.slice none 0 0] 30 (0,0))∧BookFar (w.heap.size+1) w3 (.slice a1 ks.length c1) (.slice a2 ps.length c2) (.slice a3 es.length c3) ks ps es):=⟨hr3,av G2.out.2.1 hg3,aL hg3 (by omega) G2.out.2.2,(BookNew.toFar hbn).mono (by have:=aG G2.out.2.2;omega)⟩
 have OK:=am hok;have SM:=am hsm;clear hr3 hg3 hbn hok hsm HK HP G2;have B4:Hid (Below w3.heap.size w3 (w3.alloc (.cells #[.slice a1 ks.length c1,.slice a2 ps.length c2,.slice a3 es.length c3] 30))):=(aO);have X4:Hid ((w3.alloc (.cells #[.slice a1 ks.length c1,.slice a2 ps.length c2,.slice a3 es.length c3] 30)).heap[w3.heap.size]?=some (.cells #[.slice a1 ks.length c1,.slice a2 ps.length c2,.slice a3 es.length c3] 30 (0,0))):=ay w3 _;have hz3:w.heap.size<w3.heap.size:=aG G3.out.2.2.1;go_wp2_with fail
 have hRB:w3.heap.size≠R:=by have:=G3.out.1.lt;omega
 have G4:Hid (Rd (w3.alloc (.cells #[.slice a1 ks.length c1,.slice a2 ps.length c2,.slice a3 es.length c3] 30)) R q3∧w.grownBy (w3.alloc (.cells #[.slice a1 ks.length c1,.slice a2 ps.length c2,.slice a3 es.length c3] 30)) (some R)∧(w3.alloc (.cells #[.slice a1 ks.length c1,.slice a2 ps.length c2,.slice a3 es.length c3] 30)).heap[w.heap.size]?=some (.cells #[.slice none 0 0,.slice none 0 0,.slice none 0 0] 30 (0,0))∧BookFar (w.heap.size+1) (w3.alloc (.cells #[.slice a1 ks.length c1,.slice a2 ps.length c2,.slice a3 es.length c3] 30)) (.slice a1 ks.length c1) (.slice a2 ps.length c2) (.slice a3 es.length c3) ks ps es):=⟨G3.out.1.far B4.out,av G3.out.2.1 (az B4.out _),(B4.out.block _ hz3).trans G3.out.2.2.1,G3.out.2.2.2.to B4.out.size (fun b _ h2=>B4.out.block b h2)⟩;generalize (w3.alloc (.cells #[.slice a1 ks.length c1,.slice a2 ps.length c2,.slice a3 es.length c3] 30))=w4 at *;generalize w3.heap.size=B at *;clear B4 G3
 refine (aF R q3 16 _ G4.out.1 (by omega) (by omega)).mono ?_
 rintro e w5 ⟨y,rfl,hy0,hy1,-,hr5,hg5⟩
 have G5:Hid (Rd w5 R (q3+1)∧w.grownBy w5 (some R)∧w5.heap[w.heap.size]?=some (.cells #[.slice none 0 0,.slice none 0 0,.slice none 0 0] 30 (0,0))∧BookFar (w.heap.size+1) w5 (.slice a1 ks.length c1) (.slice a2 ps.length c2) (.slice a3 es.length c3) ks ps es):=⟨hr5,av G4.out.2.1 hg5,aL hg5 (by omega) G4.out.2.2.1,G4.out.2.2.2.to hg5.size (fun b h1 h2=>hg5.block b h2 (fun e=>by injection e;omega))⟩
 have X5:=aL hg5 hRB X4.out;have b0:=ab X5 (i:=0) rfl;have b1:=ab X5 (i:=1) rfl;have b2:=ab X5 (i:=2) rfl;clear hr5 hg5 G4 X4 X5 hy1
 by_cases hy:y=0
 ·have hyb:(y==0)=true:=by simp [hy]
  clear hy;go_wp2_with fail
  refine (l3Spoil_any R (q3+1) _ _ _ ks ps es _ G5.out.1 (by omega) G5.out.2.2.2.at OK.out SM.out hk1 hp1).mono ?_
  rintro e w6 ⟨x',y',z',ks',ps',es',rfl,hat,hsp,q6,hq6,hq7,hr6,hg6⟩;obtain ⟨d1,f1,d2,f2,d3,f3,rfl,rfl,rfl⟩:=BookAt.slices hat.at
  have G6:Hid (Rd w6 R q6∧w.grownBy w6 (some R)∧w6.heap[w.heap.size]?=some (.cells #[.slice none 0 0,.slice none 0 0,.slice none 0 0] 30 (0,0))∧BookFar (w.heap.size+1) w6 (.slice d1 ks'.length f1) (.slice d2 ps'.length f2) (.slice d3 es'.length f3) ks' ps' es'):=⟨hr6,av G5.out.2.1 hg6,aL hg6 (by omega) G5.out.2.2.1,hat.mono (aG G5.out.2.2.1)⟩
  have SP:=am hsp;clear hr6 hg6 hat hsp G5 b0 b1 b2;have hR9:=G6.out.2.2.1
  have HFI:Hid (BookFar w.heap.size (w6.setRow w.heap.size #[.slice d1 ks'.length f1,.slice d2 ps'.length f2,.slice d3 es'.length f3]) (.slice d1 ks'.length f1) (.slice d2 ps'.length f2) (.slice d3 es'.length f3) ks' ps' es'∧SpB ks' ps' es'∧Out w R p 1500 (w6.setRow w.heap.size #[.slice d1 ks'.length f1,.slice d2 ps'.length f2,.slice d3 es'.length f3])):=by
   have ho:∀ b,b≠w.heap.size→(w6.setRow w.heap.size #[.slice d1 ks'.length f1,.slice d2 ps'.length f2,.slice d3 es'.length f3]).heap[b]?=w6.heap[b]?:=fun b hb=>setRow_other _ _ _ _ hb
   exact ⟨(G6.out.2.2.2.to (by simp) (fun b h1 _=>ho b (by omega))).mono (by omega),SP.out,q6,by omega,by omega,G6.out.1.late (fun j hj=>ho j (by omega)),aW G6.out.2.1 _ aH⟩
  go_wp2_with (refine wpList_store_row rfl 30 _ _ rfl w.heap.size #[.slice d1 ks'.length f1,.slice d2 ps'.length f2,.slice d3 es'.length f3] rfl rfl 30 _ hR9 (by kernel_rfl) rfl (by simp [Value.oneCell']) ?_)
  exact bodyPost_ret (v:=.agg #[.slice d1 ks'.length f1,.slice d2 ps'.length f2,.slice d3 es'.length f3]) (by simp [results,Tryz.results44,go_sem,cell_setRow_same _ _ _ _ _ _ _ hR9]) rfl ⟨_,_,_,ks',ps',es',rfl,HFI.out⟩
 ·have hyb:(y==0)=false:=by simp [hy]
  clear hy;have hR9:=G5.out.2.2.1
  have HFI:Hid (BookFar w.heap.size (w5.setRow w.heap.size #[.slice a1 ks.length c1,.slice a2 ps.length c2,.slice a3 es.length c3]) (.slice a1 ks.length c1) (.slice a2 ps.length c2) (.slice a3 es.length c3) ks ps es∧SpB ks ps es∧Out w R p 1500 (w5.setRow w.heap.size #[.slice a1 ks.length c1,.slice a2 ps.length c2,.slice a3 es.length c3])):=by
   have ho:∀ b,b≠w.heap.size→(w5.setRow w.heap.size #[.slice a1 ks.length c1,.slice a2 ps.length c2,.slice a3 es.length c3]).heap[b]?=w5.heap[b]?:=fun b hb=>setRow_other _ _ _ _ hb
   exact ⟨(G5.out.2.2.2.to (by simp) (fun b h1 _=>ho b (by omega))).mono (by omega),sp_of KB.out PB.out SM.out,q3+1,by omega,by omega,G5.out.1.late (fun j hj=>ho j (by omega)),aW G5.out.2.1 _ aH⟩
  go_wp2_with (refine wpList_store_row rfl 30 _ _ rfl w.heap.size #[.slice a1 ks.length c1,.slice a2 ps.length c2,.slice a3 es.length c3] rfl rfl 30 _ hR9 (by kernel_rfl) rfl (by simp [Value.oneCell']) ?_)
  exact bodyPost_ret (v:=.agg #[.slice a1 ks.length c1,.slice a2 ps.length c2,.slice a3 es.length c3]) (by simp [results,Tryz.results44,go_sem,cell_setRow_same _ _ _ _ _ _ _ hR9]) rfl ⟨_,_,_,ks,ps,es,rfl,HFI.out⟩
end Go.Proofs.YtcmgddnckohdaaaGreatDoor.Dr
