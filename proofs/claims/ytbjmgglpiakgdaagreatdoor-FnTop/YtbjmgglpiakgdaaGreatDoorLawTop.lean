import Derived.Test.YtbjmgglpiakgdaaGreatDoorTp2
import Derived.Test.YtbjmgglpiakgdaaGreatDoorAllI
import Derived.Test.YtbjmgglpiakgdaaGreatDoorPa2
set_option maxRecDepth 100000
set_option maxHeartbeats 25600000
namespace Go.Proofs.YtbjmgglpiakgdaaGreatDoor.Dr
open Go.RowKit Sd
attribute [local go_sem] Later.cell Later.frozen
set_option linter.unusedSimpArgs false
set_option linter.unusedVariables false
theorem ent_at {w:World} {vk vp:Value} {a:Option Addr} {n c:Nat} {ks ps:List Tri} {es:List Ent} (h:BookAt w vk vp (.slice a n c) ks ps es) {k:Nat} (hk:k<es.length):∃ b o fa fc,a=some ⟨b,o,none⟩∧w.cell? ⟨b,o+k*2,none⟩=some (.string (eat es k).name)∧w.cell? ⟨b,o+k*2+1,none⟩=some (.slice fa (eat es k).fs.length fc)∧FldsAt w (.slice fa (eat es k).fs.length fc) (eat es k).fs:=by
 obtain ⟨a',c',e,-,-,h4⟩:=h.e
 injection e with e1 e2 e3
 subst e1;obtain ⟨b,o,ha,fv,h0,h1,h2⟩:=h4 k _ (Fa.eat_get' hk);have h3:=h2;obtain ⟨fa,fc,rfl,-⟩:=h3;exact ⟨b,o,fa,fc,ha,h0,h1,h2⟩
theorem wp_joinF {P:Program} {c:Code} {Q:Exit→Act→World→Prop} {a:Act} {w:World} (F:Nat→Option Addr→Nat→World→Prop) (a':Nat→Option Addr→Nat→Act) (h:c.wp P (fun e b z=>e=.normal∧∃ f x y,b=a' f x y∧F f x y z) a w) (k:∀ f x y z,F f x y z→Q .normal (a' f x y) z):c.wp P Q a w :=
 Code.wp_mono (fun e b z ⟨he,f,x,y,hb,hz⟩=>by subst he;subst hb;exact k f x y z hz) h
theorem int_at {w:World} {a:Option Addr} {n c:Nat} {l:List Int} (h:IntsA w (.slice a n c) l) {k:Nat} (hk:k<l.length):∃ g,a=some ⟨g,0,none⟩∧w.cell? ⟨g,k,none⟩=some (.int .i64 (iat' l k)):=by
 obtain ⟨a',c',e,-,-,h4⟩:=h
 injection e with e1 e2 e3
 subst e1;exact h4 k _ (iat_get hk)
theorem lawTop_walk (v:Value) (n:Nat) (w:World) (h:BysArg w v n) (hN:NeedIn w) :
  Calls Tryz.prog 3 #[v] w fun e w'=>e=.returned (.bool true)∧Below w.heap.size w w':=by
 obtain ⟨i0,hi0,hz0,hz1,hz2⟩:=info_parts infoChange;have HA:=toHid h;have HN:=toHid hN;obtain ⟨a,cap,rfl,-⟩:=h;clear hN
 by_cases hl1:(1048576:Int)<(n:Int)
 ·go_enter Tryz.func3,Tryz.ntmps3
  go_wp2_with fail
  exact bodyPost_ret (v:=.bool true) (by simp [results,Tryz.results3,go_sem]) rfl ⟨rfl,Below.refl _ _⟩
 go_enter Tryz.func3,Tryz.ntmps3
 go_wp2_with fail;refine (drawTakeAll_any _ n _ HA.out).mono ?_;rintro e w1 ⟨vx,vy,vz,u,ks,ps,es,L,rfl,hat,hsm,hL,hL24,hLs,hb1⟩;obtain ⟨a1,c1,a2,c2,a3,c3,rfl,rfl,rfl⟩:=BookAt.slices hat;have SM:=toHid hsm
 have HLS:Hid (∀ c∈L,c.f.size≤1048576∧c.v.size≤1048576):=fun c hc=>⟨(by have:=(hLs c hc).1;omega),(by have:=(hLs c hc).2;omega)⟩
 have HL1:=toHid hL;obtain ⟨la,lc,rfl,-⟩:=hL;have M2:=toHid (MX.start hb1 hat);have HL2:Hid (ChgsAt (w1.alloc (.cells #[.slice a1 ks.length c1,.slice a2 ps.length c2,.slice a3 es.length c3] 29)) (.slice la L.length lc) L):=HL1.out.keep (bal)
 have C1:Hid (∀ wx:World,BookAt wx (.slice a1 ks.length c1) (.slice a2 ps.length c2) (.slice a3 es.length c3) ks ps es→ChgsAt wx (.slice la L.length lc) L→Calls Tryz.prog 7 #[.agg #[.slice a1 ks.length c1,.slice a2 ps.length c2,.slice a3 es.length c3],(.slice la L.length lc)] wx fun e w'=>∃ x y z v,e=.returned (.tuple #[.agg #[x,y,z],v])∧BookNew wx.heap.size w' x y z (allR ks ps es L).1 (allR ks ps es L).2.1 (allR ks ps es L).2.2∧IntsNew w' wx.heap.size v (allC ks ps es L)∧Below wx.heap.size wx w'):=fun wx hx hl=>planTakeAll_any _ _ _ _ ks ps es L wx hx hl SM.out HLS.out (by omega)
 have C2:Hid (∀ wx:World,BookAt wx (.slice a1 ks.length c1) (.slice a2 ps.length c2) (.slice a3 es.length c3) ks ps es→ChgsAt wx (.slice la L.length lc) L→Calls Tryz.prog 8 #[.agg #[.slice a1 ks.length c1,.slice a2 ps.length c2,.slice a3 es.length c3],(.slice la L.length lc)] wx fun e w'=>∃ x y z v,e=.returned (.tuple #[.agg #[x,y,z],v])∧BookNew wx.heap.size w' x y z (allR ks ps es L).1 (allR ks ps es L).2.1 (allR ks ps es L).2.2∧IntsNew w' wx.heap.size v (allC ks ps es L)∧Below wx.heap.size wx w'):=fun wx hx hl=>specTakeAll_any _ _ _ _ ks ps es L wx hx hl SM.out HLS.out (by omega)
 have C3:Hid (∀ (wx:World) (q:Value),BookAt wx (.slice a1 ks.length c1) (.slice a2 ps.length c2) (.slice a3 es.length c3) ks ps es→ChgsAt wx q (Fa.rndL L)→Calls Tryz.prog 7 #[.agg #[.slice a1 ks.length c1,.slice a2 ps.length c2,.slice a3 es.length c3],q] wx fun e w'=>∃ x y z v,e=.returned (.tuple #[.agg #[x,y,z],v])∧BookNew wx.heap.size w' x y z (allR ks ps es (Fa.rndL L)).1 (allR ks ps es (Fa.rndL L)).2.1 (allR ks ps es (Fa.rndL L)).2.2∧IntsNew w' wx.heap.size v (allC ks ps es (Fa.rndL L))∧Below wx.heap.size wx w'):=fun wx q hx hl=>planTakeAll_any _ _ _ _ ks ps es (Fa.rndL L) wx hx hl SM.out (fun c hc=>HLS.out c (Fa.rnd_mem hc)) (by rw [Fa.rnd_len];omega)
 have FA:Hid (bookB ks ps es=false→allC ks ps es L=[]):=fun h=>Fa.top_no L h;have FB:Hid (bookB ks ps es=true→∃ ex,allR ks ps es L=(ks,ps,ex)∧bookB ks ps ex=true∧((∀ k∈allC ks ps es L,k≠3)→allR ks ps es (Fa.rndL L)=(ks,ps,ex))):=fun h=>Fa.top_book L h;have SX:=toHid (Fa.top_small hsm HLS.out);have SY:=toHid (Fa.top_small (L:=Fa.rndL L) hsm (fun c hc=>HLS.out c (Fa.rnd_mem hc)));have hCL:=Fa.top_len ks ps es L;clear hat hsm hb1 hLs HL1;generalize allC ks ps es L=CC at *;generalize allR ks ps es L=X0 at *;generalize allR ks ps es (Fa.rndL L)=Y0 at *;generalize allC ks ps es (Fa.rndL L)=CY at *;obtain ⟨kx,px,ex⟩:=X0;obtain ⟨ky,py,ey⟩:=Y0;go_wp2_with fail;generalize (w1.alloc (.cells #[.slice a1 ks.length c1,.slice a2 ps.length c2,.slice a3 es.length c3] 29))=w2 at *;generalize w1.heap.size=B at *;refine (C1.out _ (M2.out.at 0 rfl) HL2.out).mono ?_;rintro e w3 ⟨vx,vy,vz,vc,rfl,hbn,hic,hb3⟩
 try dsimp only at hbn
 obtain ⟨x1,x4,x2,x5,x3,x6,rfl,rfl,rfl⟩:=hbn.slices;have M3:=toHid ((M2.out.call hb3).push hbn.at);have A3:Below w3.heap.size w3 (w3.alloc (.cells #[.slice x1 kx.length x4,.slice x2 px.length x5,.slice x3 ex.length x6] 29)):=(bal);have HL3:=toHid ((HL2.out.keep hb3).keep A3);have I3:=toHid (hic.a.keep A3);obtain ⟨ja,jc,rfl⟩:=own_sliceD hic;clear hbn hic hb3 M2 C1 HL2 A3;obtain ⟨p0,p1,p2⟩:=bx3M M3.out.bx 1 rfl;go_wp2_with fail;clear p0 p1 p2;generalize (w3.alloc (.cells #[.slice x1 kx.length x4,.slice x2 px.length x5,.slice x3 ex.length x6] 29))=w4 at *;generalize w3.heap.size=X at *;refine (C2.out _ (M3.out.at 1 rfl) HL3.out).mono ?_;rintro e w5 ⟨vx,vy,vz,vc,rfl,hbn,hic,hb5⟩
 try dsimp only at hbn
 obtain ⟨m1,m4,m2,m5,m3,m6,rfl,rfl,rfl⟩:=hbn.slices;have M5:=toHid ((M3.out.call hb5).push hbn.at);have A5:Below w5.heap.size w5 (w5.alloc (.cells #[.slice m1 kx.length m4,.slice m2 px.length m5,.slice m3 ex.length m6] 29)):=(bal);have HL5:=toHid ((HL3.out.keep hb5).keep A5);have I5:=toHid ((I3.out.keep hb5).keep A5);have J5:=toHid (hic.a.keep A5);obtain ⟨ka,kc,rfl⟩:=own_sliceD hic;clear hbn hic hb5 M3 C2 HL3 A5 I3;obtain ⟨p0,p1,p2⟩:=bx3M M5.out.bx 1 rfl;obtain ⟨q0,q1,q2⟩:=bx3M M5.out.bx 0 rfl;go_wp2_with fail;clear p0 p1 p2 q0 q1 q2;generalize (w5.alloc (.cells #[.slice m1 kx.length m4,.slice m2 px.length m5,.slice m3 ex.length m6] 29))=w6 at *;generalize w5.heap.size=W at *;refine (wBook_same _ _ _ _ _ _ kx px ex _ (M5.out.at 1 rfl) (M5.out.at 0 rfl) SX.out.s).mono ?_;rintro e w7 ⟨rfl,hb7⟩;have M7:=toHid (M5.out.call hb7);have HL7:=toHid (HL5.out.keep hb7);have I7:=toHid (I5.out.keep hb7);have J7:=toHid (J5.out.keep hb7);clear hb7 M5 HL5 I5 J5;go_wp2_with fail
 refine (wInts_same _ _ CC _ I7.out J7.out (by omega)).mono ?_
 rintro e w8 ⟨rfl,hb8⟩;have M8:=toHid (M7.out.call hb8);have HL8:=toHid (HL7.out.keep hb8);have I8:=toHid (I7.out.keep hb8);clear hb8 M7 HL7 I7 J7;obtain ⟨bo,hbo⟩:∃ b,bookB ks ps es=b:=⟨_,rfl⟩
 have C4:Hid (∀ wx:World,BookAt wx (.slice a1 ks.length c1) (.slice a2 ps.length c2) (.slice a3 es.length c3) ks ps es→Calls Tryz.prog 11 #[.agg #[.slice a1 ks.length c1,.slice a2 ps.length c2,.slice a3 es.length c3]] wx fun e w'=>e=.returned (.bool bo)∧Below wx.heap.size wx w'):=fun wx hx=>by
  have h1:=specBookOk_any _ _ _ ks ps es wx hx SM.out.n SM.out.s;rw [hbo] at h1;exact h1
 obtain ⟨p0,p1,p2⟩:=bx3M M8.out.bx 2 rfl;go_wp2_with fail;clear p0 p1 p2;refine (C4.out _ (M8.out.at 2 rfl)).mono ?_;rintro e w9 ⟨rfl,hb9⟩;have M9:=toHid (M8.out.call hb9);have HL9:=toHid (HL8.out.keep hb9);have I9:=toHid (I8.out.keep hb9);clear hb9 M8 HL8 I8 C4
 cases bo with
 | false =>
  have hc0:=FA.out hbo;subst hc0;have HBL:=toHid M9.out.bx.below;clear M9 HL9 I9 FA FB C3 hbo;go_wp2_with fail
  exact bodyPost_ret (v:=.bool true) (by simp [results,Tryz.results3,go_sem]) rfl ⟨rfl,HBL.out⟩
 | true =>
  obtain ⟨ex',hX,hbx,hrd⟩:=FB.out hbo
  injection hX with hX1 hX2
  injection hX2 with hX2 hX3
  subst hX1;subst hX2;subst hX3;have HBX:=toHid hbx;have HRD:=toHid hrd;clear FA FB hbo hbx hrd;generalize (Value.agg #[.slice a1 kx.length c1,.slice a2 px.length c2,.slice a3 es.length c3])=G1;generalize (Value.agg #[.slice x1 kx.length x4,.slice x2 px.length x5,.slice x3 ex.length x6])=G2;generalize (Value.agg #[.slice m1 kx.length m4,.slice m2 px.length m5,.slice m3 ex.length m6])=G3;generalize (Value.tuple #[G1,(.slice la L.length lc)])=G4;generalize (Value.tuple #[G2,.slice ja CC.length jc])=G5;generalize (Value.tuple #[G3,.slice ka CC.length kc])=G6;have R9:Hid (ChgsNew (w9.alloc (.cells #[] 40)) w9.heap.size (.slice (some ⟨w9.heap.size,0,none⟩) 0 0) []):=⟨rfl,.inr ⟨w9.heap.size,0,#[],rfl,Nat.le_refl _,heap_newD w9 _,Nat.le_refl _,Nat.zero_le _,rfl,rfl⟩⟩;have B9:Hid (Below w9.heap.size w9 (w9.alloc (.cells #[] 40))):=(bal)
  have hw0:IntKind.i64.wrap ((L.length:Int)-1)=(L.length:Int)-1:=by rw [IntKind.wrap_i64];omega
  go_wp2_with fail;clear hw0;generalize (w9.alloc (.cells #[] 40))=wa at *
  go_loopw [9,10] (fun rv iv wr=>∃ (k j:Nat) (l:List Chg) (a:Option Addr) (c:Nat),rv=.slice a l.length c∧iv=.int .i64 ((j:Int)-1)∧Hid (k+j=L.length∧l=(L.reverse.take k).flatMap fun c=>[c,c])∧Hid (ChgsNew wr w9.heap.size (.slice a l.length c) l∧Below w9.heap.size w9 wr)) (fun _ iv _=>(intOf iv+1).toNat)
  case atStart=>exact ⟨0,L.length,[],_,_,rfl,rfl,⟨by omega,rfl⟩,R9.out,B9.out⟩
  case round =>
   clear R9 B9;obtain ⟨k,j,l,a9,c9,rfl,rfl,HKJ,HS9⟩:=hrel;have hkj:=HKJ.out.1
   by_cases hj:j=0
   ·subst hj
    obtain rfl:k=L.length:=by omega
    have hl2:l=Fa.rndL L:=by rw [HKJ.out.2,List.take_of_length_le (by simp)];rfl
    subst hl2;have Ma:=toHid (M9.out.call HS9.out.2);have Ia:=toHid (I9.out.keep HS9.out.2);have Ra:=toHid (ChgsNew.at HS9.out.1);clear HS9 HKJ hkj M9 I9 HL9;obtain ⟨p0,p1,p2⟩:=bx3M Ma.out.bx 2 rfl;go_wp2_with fail;clear p0 p1 p2;refine (C3.out _ _ (Ma.out.at 2 rfl) Ra.out).mono ?_;rintro e wb ⟨vx,vy,vz,vc,rfl,hbn,hic,hbb⟩
    try dsimp only at hbn
    obtain ⟨y1,y4,y2,y5,y3,y6,rfl,rfl,rfl⟩:=hbn.slices;have Mb:=toHid ((Ma.out.call hbb).push hbn.at);have Ib:=toHid ((Ia.out.keep hbb).keep ((Below.refl _ _).alloc nlr (.cells #[.slice y1 ky.length y4,.slice y2 py.length y5,.slice y3 ey.length y6] 29)));obtain ⟨ia,ic,rfl⟩:=own_sliceD hic;clear hbn hic hbb Ma Ia Ra C3;go_wp2_with fail;generalize (wb.alloc (.cells #[.slice y1 ky.length y4,.slice y2 py.length y5,.slice y3 ey.length y6] 29))=wc at *;generalize wb.heap.size=Y at *
    have CBX:Hid (∀ wx:World,BookAt wx (.slice x1 kx.length x4) (.slice x2 px.length x5) (.slice x3 ex.length x6) kx px ex→Calls Tryz.prog 12 #[.agg #[.slice x1 kx.length x4,.slice x2 px.length x5,.slice x3 ex.length x6]] wx fun e w'=>e=.returned (.bool true)∧Below wx.heap.size wx w'):=fun wx hx=>by
     have h1:=bookOk_any _ _ _ kx px ex wx hx SX.out.n SX.out.s;rw [HBX.out] at h1;exact h1
    go_loopw [13] (fun iv wr=>∃ k:Nat,k≤CC.length∧iv=.int .i64 k∧Hid (∀ j,j<k→iat' CC j≠3)∧Hid (Below wc.heap.size wc wr)) (fun iv _=>CC.length-(intOf iv).toNat)
    case atStart=>exact ⟨0,Nat.zero_le _,rfl,(fun j hj=>absurd hj (Nat.not_lt_zero _)),Below.refl _ _⟩
    case round =>
     obtain ⟨k,hk,rfl,HN3,HX⟩:=hrel;have Mc:=toHid (Mb.out.call HX.out)
     by_cases hlt:k<CC.length
     ·obtain ⟨cg,rfl,hcc⟩:=int_at Ib.out hlt
      have s0:=cell_keep HX.out nlr hcc;have z0:=lt_of_cell s0;clear hcc
      have hk0:(0:Int)≤(k:Int):=by omega
      have hk1:(k:Int)<(CC.length:Int):=by omega
      by_cases h3:iat' CC k=3
      ·rw [h3] at s0
       obtain ⟨p0,p1,p2⟩:=bx3M Mc.out.bx 2 rfl;go_wp2_with fail;clear p0 p1 p2;refine (CBX.out _ (Mc.out.at 2 rfl)).mono ?_;rintro e wd ⟨rfl,hbd⟩;have HBL:=toHid (Mc.out.call hbd).bx.below;clear hbd Mc Mb Ib;go_wp2_with fail
       exact bodyPost_ret (v:=.bool true) (by simp [results,Tryz.results3,go_sem]) rfl ⟨rfl,HBL.out⟩
      ·have hb3:(iat' CC k==3)=false:=by rw [beq_eq_false_iff_ne];exact h3
       have HN4:Hid (∀ j,j<k+1→iat' CC j≠3):=fun j hj=>if e:j=k then (by rw [e];exact h3) else HN3.out j (by omega)
       clear Mc h3;go_wp2_with fail
       exact ⟨⟨k+1,by omega,by go_num,HN4,HX⟩,by simp [intOf] <;> omega⟩
     ·obtain rfl:k=CC.length:=by omega
      have hY:=HRD.out fun c hc=>(by
       obtain ⟨i,hi,e⟩:=List.getElem_of_mem hc;have h4:=HN3.out i hi;unfold iat' at h4;rw [List.getD_eq_getElem?_getD,List.getElem?_eq_getElem hi] at h4;rw [← e]
       exact h4)
      injection hY with hY1 hY2
      injection hY2 with hY2 hY3
      subst hY1;subst hY2;subst hY3;clear HRD HN3 HX Mb Ib;obtain ⟨p0,p1,p2⟩:=bx3M Mc.out.bx 2 rfl;obtain ⟨q0,q1,q2⟩:=bx3M Mc.out.bx 0 rfl;go_wp2_with fail;clear p0 p1 p2 q0 q1 q2;refine (wBook_same _ _ _ _ _ _ ky py ey _ (Mc.out.at 2 rfl) (Mc.out.at 0 rfl) SX.out.s).mono ?_;rintro e wd ⟨rfl,hbd⟩;have Md:=toHid (Mc.out.call hbd);clear hbd Mc;obtain ⟨p0,p1,p2⟩:=bx3M Md.out.bx 2 rfl;go_wp2_with fail;clear p0 p1 p2;refine (CBX.out _ (Md.out.at 2 rfl)).mono ?_;rintro e we ⟨rfl,hbe⟩;have Me:=toHid (Md.out.call hbe);clear hbe Md CBX;obtain ⟨p0,p1,p2⟩:=bx3M Me.out.bx 2 rfl;go_wp2_with fail;clear p0 p1 p2;refine (Fa.planAll_any _ _ _ ky py ey _ (Me.out.at 2 rfl) SX.out.n SX.out.s (HN.out.keep Me.out.bx.below) SX.out.s.e).mono ?_;rintro e wf ⟨av,rfl,hfl,hbf⟩
      have hfe:Fa.allR ky py ey=(Fa.allE ey).map (Fa.flV ky):=by unfold Fa.allR;rw [HBX.out];rfl
      rw [hfe] at hfl;obtain ⟨aa,ac,hav,hcl⟩:=hfl.cells;rw [List.length_map] at hav;subst hav;have HF:Hid (∀ i p,((Fa.allE ey).map (Fa.flV ky))[i]?=some p→∃ g rt,aa=some ⟨g,0,none⟩∧Fa.fat8 wf g (i*8) p rt∧SNew wf we.heap.size rt p.L):=hcl;have Mf:=toHid (Me.out.call hbf);have HAL:=toHid (Fa.allE_len ey);have HEL:Hid (ey.length≤1048576):=SX.out.s.e;clear hbf Me hfl hcl hfe;go_wp2_with fail;generalize (Value.agg #[.slice a1 ky.length c1,.slice a2 py.length c2,.slice a3 es.length c3])=G7;generalize (Value.agg #[.slice x1 ky.length x4,.slice x2 py.length x5,.slice x3 ey.length x6])=G8;generalize (Value.agg #[.slice y1 ky.length y4,.slice y2 py.length y5,.slice y3 ey.length y6])=G9;generalize (Value.tuple #[G9,.slice ia CY.length ic])=G10;generalize (Value.slice ia CY.length ic)=G11;generalize (Value.slice a9 (Fa.rndL L).length c9)=G12;generalize (Value.slice ja CC.length jc)=G13;generalize (Value.slice ka CC.length kc)=G14;generalize (Value.slice la L.length lc)=G15;generalize (Value.slice a n cap)=G16
      go_loopw [15,16] (fun nv iv wr=>∃ k:Nat,k≤ey.length∧nv=.int .i64 ((Fa.allE (ey.take k)).length:Nat)∧iv=.int .i64 k∧Hid (Below wf.heap.size wf wr)) (fun _ iv _=>ey.length-(intOf iv).toNat)
      case atStart=>exact ⟨0,Nat.zero_le _,rfl,rfl,Below.refl _ _⟩
      case round =>
       obtain ⟨k,hk,rfl,rfl,HX⟩:=hrel;have Mg:=toHid (Mf.out.call HX.out)
       by_cases hlt:k<ey.length
       ·obtain ⟨eb,eo,fa1,fc1,rfl,n0,f0,hfl⟩:=ent_at (Mg.out.at 2 rfl) hlt
        have HFL:=toHid hfl;have hse:=Fa.stand_eat HBX.out k hlt;have hws:=Fa.ws_stB HBX.out k hlt;have hp2:=Fa.path_two (ks:=ky) (ps:=py) (eat ey k).name HBX.out;have hfs:(eat ey k).fs.length≤1048576:=SX.out.s.f _ (List.mem_of_getElem? (Fa.eat_get' hlt));have hal:=fun h=>Fa.all_at hlt h;have htk:=Fa.allE_take hlt;clear hfl;obtain ⟨p0,p1,p2⟩:=bx3M Mg.out.bx 2 rfl
        have hk0:(0:Int)≤(k:Int):=by omega
        have hk1:(k:Int)<(ey.length:Int):=by omega
        have hel:=HEL.out
        cases hst:stB (eat ey k).fs
        ·rw [hst] at hse hws htk
         simp only [cond_false] at hse htk
         rw [hse] at hp2;rw [List.append_nil] at htk;have HTK:=toHid htk
         have HS0:Hid (∀ wx:World,Below wr.heap.size wr wx→Calls Tryz.prog 14 #[.agg #[.slice x1 ky.length x4,.slice x2 py.length x5,.slice (some ⟨eb,eo,none⟩) ey.length x6],.string (eat ey k).name] wx fun e' w'=>e'=.returned (.tuple #[.agg #[.string ⟨#[]⟩,.string ⟨#[]⟩,.int .i64 0,.int .i64 0,.int .i64 0,.int .i64 0,.int .i64 0,.slice none 0 0],.bool false])∧Below wx.heap.size wx w'):=fun wx hx=>(planStands_any _ _ _ ky py ey (eat ey k).name wx ((Mg.out.at 2 rfl).keep hx) SX.out.n SX.out.s (HN.out.keep (below_step Mg.out.bx.below hx))).mono fun e' w' ⟨rt,he,_,hb⟩=>⟨by rw [he,hse];rfl,hb⟩
         have HP0:Hid (∀ wx:World,Below wr.heap.size wr wx→Calls Tryz.prog 15 #[.agg #[.slice x1 ky.length x4,.slice x2 py.length x5,.slice (some ⟨eb,eo,none⟩) ey.length x6],.string (eat ey k).name] wx fun e' w'=>∃ pa pc,e'=.returned (.tuple #[.agg #[.slice pa (Pa.pathR ky py ey (eat ey k).name).st.length pc,.int .i64 (Pa.pathR ky py ey (eat ey k).name).fr,.int .i64 (Pa.pathR ky py ey (eat ey k).name).b],.int .i64 (Pa.pathR ky py ey (eat ey k).name).c])∧Below wx.heap.size wx w'):=fun wx hx=>(Pa.planPathOf_any _ _ _ ky py ey (eat ey k).name wx ((Mg.out.at 2 rfl).keep hx) SX.out.n SX.out.s (HN.out.keep (below_step Mg.out.bx.below hx))).mono fun e' w' ⟨pv,he,hs,hb⟩=>by
          obtain ⟨pa,pc,e1⟩:=own_sliceD hs
          exact ⟨pa,pc,by rw [he,e1],hb⟩
         have HW0:Hid (∀ wx:World,Below wr.heap.size wr wx→Calls Tryz.prog 16 #[.agg #[.string (eat ey k).name,.slice fa1 (eat ey k).fs.length fc1]] wx fun e' w'=>e'=.returned (.bool false)∧Below wx.heap.size wx w'):=fun wx hx=>by
          have h1:=wStands_any (eat ey k).name _ (eat ey k).fs wx (HFL.out.keep hx) hfs;rw [hws] at h1;exact h1
         have HC2:Hid (((Pa.pathR ky py ey (eat ey k).name).c==2)=true):=hp2;clear hse hws hp2 hal htk hfs HFL hst;generalize Pa.pathR ky py ey (eat ey k).name=PR at *;generalize (eat ey k).name=fq at *;generalize (eat ey k).fs.length=fl at *;obtain ⟨PC,PS,PFr,PBy⟩:=PR;dsimp only at HP0 HC2;have HSC:Hid (∀ wx:World,Below wr.heap.size wr wx→(wx.cell? ⟨X,0,none⟩=some (.slice x1 ky.length x4)∧wx.cell? ⟨X,1,none⟩=some (.slice x2 py.length x5)∧wx.cell? ⟨X,2,none⟩=some (.slice (some ⟨eb,eo,none⟩) ey.length x6))∧wx.cell? ⟨eb,eo+k*2,none⟩=some (.string fq)∧wx.cell? ⟨eb,eo+k*2+1,none⟩=some (.slice fa1 fl fc1)):=fun wx hx=>⟨⟨cell_keep hx nlr p0,cell_keep hx nlr p1,cell_keep hx nlr p2⟩,cell_keep hx nlr n0,cell_keep hx nlr f0⟩;go_wp2_with fail;clear p0 p1 p2 n0 f0
         apply wp_joinF (F:=fun f ra rc z=>Below wr.heap.size wr z∧z.heap[f]?=some (.cells #[.string ⟨#[]⟩,.string ⟨#[]⟩,.int .i64 0,.int .i64 0,.int .i64 0,.int .i64 0,.int .i64 0,.slice none 0 0] 47 (0,0)))
         ·refine wp_region_noPanic ?_
          refine wp_region_held_drew (S:=fun z=>(z.cell? ⟨X,0,none⟩=some (.slice x1 ky.length x4)∧z.cell? ⟨X,1,none⟩=some (.slice x2 py.length x5)∧z.cell? ⟨X,2,none⟩=some (.slice (some ⟨eb,eo,none⟩) ey.length x6))∧z.cell? ⟨eb,eo+k*2,none⟩=some (.string fq)∧z.cell? ⟨eb,eo+k*2+1,none⟩=some (.slice fa1 fl fc1)) (by kernel_rfl) ?_ (fun hHeld=>?_)
          ·exact HSC.out _ ((Below.refl _ _).drew)
          have BD:Hid (Below wr.heap.size wr wr.drew):=(Below.refl _ _).drew;generalize wr.drew=W0 at *;refine tkH 0 ?_ rfl ?_ (tkH 1 ?_ rfl ?_ (tkH 2 ?_ rfl ?_ (tkH 3 ?_ rfl ?_ (tkH 4 ?_ rfl ?_ (tkH 5 ?_ rfl ?_ (tkH 6 ?_ rfl ?_ ?_))))))
          iterate 7 (rotate_left;focus (intro w hSw;(try dsimp only at hSw);simp only [Act.put,tkS];go_simp;try with_reducible rfl))
          simp only [Act.put,tkS]
          obtain ⟨ra,hra⟩:∃ r:Option Addr,r=none:=⟨_,rfl⟩;obtain ⟨rc,hrc⟩:∃ r:Nat,r=0:=⟨_,rfl⟩;clear hHeld;refine rdH2 7 11 rfl rfl (fun K hK=>?_) (fun K hK=>?_)
          focus
           go_simp;refine (HS0.out _ (BD.out)).mono ?_;rintro e V1 ⟨rfl,hbv⟩;have B1:=toHid (below_step BD.out hbv);have hHeld:=HSC.out _ (B1.out);refine hK.out _ _ hHeld (fun _=>?_);clear hK K hbv;refine tkH 8 ?_ rfl ?_ (tkH 9 ?_ rfl ?_ (tkH 10 ?_ rfl ?_ ?_))
           iterate 3 (rotate_left;focus (intro w hSw;(try dsimp only at hSw);simp only [Act.put,tkS];go_simp;try with_reducible rfl))
           simp only [Act.put,tkS]
           clear hHeld;refine rdH 11 rfl (fun K hK=>?_);go_simp;have B2:Hid (Below wr.heap.size wr (V1.alloc (.cells #[.string ⟨#[]⟩,.string ⟨#[]⟩,.int .i64 0,.int .i64 0,.int .i64 0,.int .i64 0,.int .i64 0,.slice none 0 0] 47))):=below_step B1.out (bal);have FX:Hid ((V1.alloc (.cells #[.string ⟨#[]⟩,.string ⟨#[]⟩,.int .i64 0,.int .i64 0,.int .i64 0,.int .i64 0,.int .i64 0,.slice none 0 0] 47)).heap[V1.heap.size]?=some (.cells #[.string ⟨#[]⟩,.string ⟨#[]⟩,.int .i64 0,.int .i64 0,.int .i64 0,.int .i64 0,.int .i64 0,.slice none 0 0] 47 (0,0))):=heap_newD V1 _;have hFw:wr.heap.size≤V1.heap.size:=B1.out.size;have hHeld:=HSC.out _ (B2.out);refine hK.out _ _ hHeld (fun _=>?_);clear hK K hHeld;generalize (V1.alloc (.cells #[.string ⟨#[]⟩,.string ⟨#[]⟩,.int .i64 0,.int .i64 0,.int .i64 0,.int .i64 0,.int .i64 0,.slice none 0 0] 47))=V2 at *;generalize V1.heap.size=FB at *
          rotate_left
          focus
           go_simp;have B1:Hid (Below wr.heap.size wr (W0.alloc (.cells #[.string ⟨#[]⟩,.string ⟨#[]⟩,.int .i64 0,.int .i64 0,.int .i64 0,.int .i64 0,.int .i64 0,.slice none 0 0] 47))):=below_step BD.out (bal);have FX:Hid ((W0.alloc (.cells #[.string ⟨#[]⟩,.string ⟨#[]⟩,.int .i64 0,.int .i64 0,.int .i64 0,.int .i64 0,.int .i64 0,.slice none 0 0] 47)).heap[W0.heap.size]?=some (.cells #[.string ⟨#[]⟩,.string ⟨#[]⟩,.int .i64 0,.int .i64 0,.int .i64 0,.int .i64 0,.int .i64 0,.slice none 0 0] 47 (0,0))):=heap_newD W0 _;have hFw:wr.heap.size≤W0.heap.size:=BD.out.size;have hHeld:=HSC.out _ (B1.out);refine hK.out _ _ hHeld (fun _=>?_);clear hK K hHeld;generalize (W0.alloc (.cells #[.string ⟨#[]⟩,.string ⟨#[]⟩,.int .i64 0,.int .i64 0,.int .i64 0,.int .i64 0,.int .i64 0,.slice none 0 0] 47))=V1 at *;generalize W0.heap.size=FB at *;refine rdH 7 rfl (fun K hK=>?_);go_simp;refine (HS0.out _ (B1.out)).mono ?_;rintro e V2 ⟨rfl,hbv⟩;have B2:=toHid (below_step B1.out hbv);have hHeld:=HSC.out _ (B2.out);refine hK.out _ _ hHeld (fun _=>?_)
           replace FX:=toHid ((hbv.block _ (lt_blk FX.out)).trans FX.out)
           clear hK K hbv;refine tkH 8 ?_ rfl ?_ (tkH 9 ?_ rfl ?_ (tkH 10 ?_ rfl ?_ ?_))
           iterate 3 (rotate_left;focus (intro w hSw;(try dsimp only at hSw);simp only [Act.put,tkS];go_simp;try with_reducible rfl))
           simp only [Act.put,tkS]
           clear hHeld
          rotate_left
          all_goals
           have B9:Below wr.heap.size wr (V2.setRow FB #[.string ⟨#[]⟩,.string ⟨#[]⟩,.int .i64 0,.int .i64 0,.int .i64 0,.int .i64 0,.int .i64 0,.slice none 0 0]):=below_setRow B2.out hFw _;have F9:(V2.setRow FB #[.string ⟨#[]⟩,.string ⟨#[]⟩,.int .i64 0,.int .i64 0,.int .i64 0,.int .i64 0,.int .i64 0,.slice none 0 0]).heap[FB]?=some (.cells #[.string ⟨#[]⟩,.string ⟨#[]⟩,.int .i64 0,.int .i64 0,.int .i64 0,.int .i64 0,.int .i64 0,.slice none 0 0] 47 (0,0)):=setRow_heap _ _ _ _ _ _ FX.out;refine rdH 12 rfl (fun K hK=>?_)
           refine step_store_rowC rfl 47 _ _ rfl FB #[.string ⟨#[]⟩,.string ⟨#[]⟩,.int .i64 0,.int .i64 0,.int .i64 0,.int .i64 0,.int .i64 0,.slice none 0 0] rfl rfl 47 _ FX.out (by kernel_rfl) rfl (by simp [Value.oneCell']) ?_
           have hHeld:=HSC.out _ (B9);refine hK.out _ _ hHeld (fun _=>?_);clear hK K;refine tkH 13 ?_ rfl ?_ ?_;rotate_left
           ·intro w hSw;(try dsimp only at hSw);go_simp;try with_reducible rfl
           simp only [Act.put,tkS]
           refine wpAnyH_done (by kernel_rfl) ?_ _
           refine NoPanic.normal ?_;exact ⟨rfl,FB,ra,rc,rfl,B9,F9⟩
         ·rintro FB ra rc w10 ⟨b10,f10⟩
          have B10:=toHid b10;have F10:=toHid f10;clear b10 f10;go_wp2_with fail
          apply wp_joinF (F:=fun f ra rc z=>Below w10.heap.size w10 z∧z.heap[f]?=some (.cells #[.slice ra PS.length rc,.int .i64 PFr,.int .i64 PBy] 55 (0,0)))
          ·refine wp_region_noPanic ?_
           refine wp_region_held_drew (S:=fun z=>(z.cell? ⟨X,0,none⟩=some (.slice x1 ky.length x4)∧z.cell? ⟨X,1,none⟩=some (.slice x2 py.length x5)∧z.cell? ⟨X,2,none⟩=some (.slice (some ⟨eb,eo,none⟩) ey.length x6))∧z.cell? ⟨eb,eo+k*2,none⟩=some (.string fq)∧z.cell? ⟨eb,eo+k*2+1,none⟩=some (.slice fa1 fl fc1)) (by kernel_rfl) ?_ (fun hHeld=>?_)
           ·exact HSC.out _ (below_step B10.out ((Below.refl _ _).drew))
           have BD:Hid (Below w10.heap.size w10 w10.drew):=(Below.refl _ _).drew;generalize w10.drew=W0 at *;refine tkH 0 ?_ rfl ?_ (tkH 1 ?_ rfl ?_ (tkH 2 ?_ rfl ?_ (tkH 3 ?_ rfl ?_ (tkH 4 ?_ rfl ?_ (tkH 5 ?_ rfl ?_ (tkH 6 ?_ rfl ?_ ?_))))))
           iterate 7 (rotate_left;focus (intro w hSw;(try dsimp only at hSw);simp only [Act.put,tkS];go_simp;try with_reducible rfl))
           simp only [Act.put,tkS]
           clear hHeld;refine rdH2 7 11 rfl rfl (fun K hK=>?_) (fun K hK=>?_)
           focus
            go_simp;refine (HP0.out _ (below_step B10.out (BD.out))).mono ?_;rintro e V1 ⟨ra,rc,rfl,hbv⟩;have B1:=toHid (below_step BD.out hbv);have hHeld:=HSC.out _ (below_step B10.out (B1.out));refine hK.out _ _ hHeld (fun _=>?_);clear hK K hbv;refine tkH 8 ?_ rfl ?_ (tkH 9 ?_ rfl ?_ (tkH 10 ?_ rfl ?_ ?_))
            iterate 3 (rotate_left;focus (intro w hSw;(try dsimp only at hSw);simp only [Act.put,tkS];go_simp;try with_reducible rfl))
            simp only [Act.put,tkS]
            clear hHeld;refine rdH 11 rfl (fun K hK=>?_);go_simp;have B2:Hid (Below w10.heap.size w10 (V1.alloc (.cells #[.slice none 0 0,.int .i64 0,.int .i64 0] 55))):=below_step B1.out (bal);have FX:Hid ((V1.alloc (.cells #[.slice none 0 0,.int .i64 0,.int .i64 0] 55)).heap[V1.heap.size]?=some (.cells #[.slice none 0 0,.int .i64 0,.int .i64 0] 55 (0,0))):=heap_newD V1 _;have hFw:w10.heap.size≤V1.heap.size:=B1.out.size;have hHeld:=HSC.out _ (below_step B10.out (B2.out));refine hK.out _ _ hHeld (fun _=>?_);clear hK K hHeld;generalize (V1.alloc (.cells #[.slice none 0 0,.int .i64 0,.int .i64 0] 55))=V2 at *;generalize V1.heap.size=FB at *
           rotate_left
           focus
            go_simp;have B1:Hid (Below w10.heap.size w10 (W0.alloc (.cells #[.slice none 0 0,.int .i64 0,.int .i64 0] 55))):=below_step BD.out (bal);have FX:Hid ((W0.alloc (.cells #[.slice none 0 0,.int .i64 0,.int .i64 0] 55)).heap[W0.heap.size]?=some (.cells #[.slice none 0 0,.int .i64 0,.int .i64 0] 55 (0,0))):=heap_newD W0 _;have hFw:w10.heap.size≤W0.heap.size:=BD.out.size;have hHeld:=HSC.out _ (below_step B10.out (B1.out));refine hK.out _ _ hHeld (fun _=>?_);clear hK K hHeld;generalize (W0.alloc (.cells #[.slice none 0 0,.int .i64 0,.int .i64 0] 55))=V1 at *;generalize W0.heap.size=FB at *;refine rdH 7 rfl (fun K hK=>?_);go_simp;refine (HP0.out _ (below_step B10.out (B1.out))).mono ?_;rintro e V2 ⟨ra,rc,rfl,hbv⟩;have B2:=toHid (below_step B1.out hbv);have hHeld:=HSC.out _ (below_step B10.out (B2.out));refine hK.out _ _ hHeld (fun _=>?_)
            replace FX:=toHid ((hbv.block _ (lt_blk FX.out)).trans FX.out)
            clear hK K hbv;refine tkH 8 ?_ rfl ?_ (tkH 9 ?_ rfl ?_ (tkH 10 ?_ rfl ?_ ?_))
            iterate 3 (rotate_left;focus (intro w hSw;(try dsimp only at hSw);simp only [Act.put,tkS];go_simp;try with_reducible rfl))
            simp only [Act.put,tkS]
            clear hHeld
           rotate_left
           all_goals
            have B9:Below w10.heap.size w10 (V2.setRow FB #[.slice ra PS.length rc,.int .i64 PFr,.int .i64 PBy]):=below_setRow B2.out hFw _;have F9:(V2.setRow FB #[.slice ra PS.length rc,.int .i64 PFr,.int .i64 PBy]).heap[FB]?=some (.cells #[.slice ra PS.length rc,.int .i64 PFr,.int .i64 PBy] 55 (0,0)):=setRow_heap _ _ _ _ _ _ FX.out;refine rdH 12 rfl (fun K hK=>?_)
            refine step_store_rowC rfl 55 _ _ rfl FB #[.slice ra PS.length rc,.int .i64 PFr,.int .i64 PBy] rfl rfl 55 _ FX.out (by kernel_rfl) rfl (by simp [Value.oneCell']) ?_
            have hHeld:=HSC.out _ (below_step B10.out (B9));refine hK.out _ _ hHeld (fun _=>?_);clear hK K;refine tkH 13 ?_ rfl ?_ ?_;rotate_left
            ·intro w hSw;(try dsimp only at hSw);go_simp;try with_reducible rfl
            simp only [Act.put,tkS]
            refine wpAnyH_done (by kernel_rfl) ?_ _
            refine NoPanic.normal ?_;exact ⟨rfl,FB,ra,rc,rfl,B9,F9⟩
          ·rintro FB2 ra2 rc2 w11 ⟨b11,-⟩
           have B11:=toHid b11;clear b11;have hc2:=HC2.out;have BZ:=toHid (below_step B10.out B11.out);obtain ⟨⟨p0,p1,p2⟩,n0,f0⟩:=HSC.out _ BZ.out;have GB:Hid (∀ y:Later w11,Calls Tryz.prog 16 #[.agg #[.string fq,.slice fa1 fl fc1]] y.val fun e w''=>e=.returned (.bool false)∧∃ z:Later w11,w''=z.val):=fun y=>Calls.later (HW0.out y.val (below_step BZ.out y.below));have hne:=Later.some w11;have zX:=lt_of_cell p0;have zE:=lt_of_cell n0;go_wp2_with fail
           refine wp_region_later (by kernel_rfl) (by kernel_rfl) ?_
           repeat (go_big_quiet_step (first | (go_at_call 16;exact GB.out _)))
           refine wpQuiet_nil ?_;rintro _ ⟨x,rfl⟩;have HB2:Hid (Below wf.heap.size wf x.val):=below_step (below_step HX.out BZ.out) x.below;clear p0 p1 p2 n0 f0 zX zE hne GB;go_wp2_with fail
           exact ⟨⟨k+1,by omega,by rw [HTK.out],by go_num,HB2⟩,by simp [intOf] <;> omega⟩
        ·rw [hst] at hse hws htk
         simp only [cond_true] at hse htk
         rw [hse] at hp2
         have HTK:Hid ((Fa.allE (ey.take (k+1))).length=(Fa.allE (ey.take k)).length+1):=by
          show _=_
          rw [htk,List.length_append]
          rfl
         have hal2:=hal hst;have hnl:(Fa.allE (ey.take k)).length<(Fa.allE ey).length:=(List.getElem?_eq_some_iff.1 hal2).1
         obtain ⟨ag,art,rfl,h8,hsn8⟩:=HF.out (Fa.allE (ey.take k)).length (Fa.flV ky (eat ey k)) (by rw [List.getElem?_map,hal2];rfl)
         have hrw:=Fa.rt_words hse;have hr8:(Pa.rtW (eat ey k)).length≤8:=(route_all (Pa.stand_ok hse).2.2.2.1).1.2
         have HS0:Hid (∀ wx:World,Below wr.heap.size wr wx→Calls Tryz.prog 14 #[.agg #[.slice x1 ky.length x4,.slice x2 py.length x5,.slice (some ⟨eb,eo,none⟩) ey.length x6],.string (eat ey k).name] wx fun e' w'=>∃ ra rc,e'=.returned (.tuple #[.agg #[.string (eat ey k).name,.string (kdOf ky (lastV (eat ey k).fs 1)).s,.int .i64 (kdOf ky (lastV (eat ey k).fs 1)).x,.int .i64 (kdOf ky (lastV (eat ey k).fs 1)).y,.int .i64 (frOf (lastV (eat ey k).fs 2)),.int .i64 (byOf (lastV (eat ey k).fs 2)),.int .i64 (lvOf (lastV (eat ey k).fs 3)),.slice ra (Pa.rtW (eat ey k)).length rc],.bool true])∧SNew w' wx.heap.size (.slice ra (Pa.rtW (eat ey k)).length rc) (Pa.rtW (eat ey k))∧Below wx.heap.size wx w'):=fun wx hx=>(planStands_any _ _ _ ky py ey (eat ey k).name wx ((Mg.out.at 2 rfl).keep hx) SX.out.n SX.out.s (HN.out.keep (below_step Mg.out.bx.below hx))).mono fun e' w' ⟨rt,he,hrt,hb⟩=>by
          have h1:=Fa.rt_new (hrt _ hse);obtain ⟨ra,rc,e1⟩:=own_sliceD h1;subst e1
          exact ⟨ra,rc,by rw [he,hse];rfl,h1,hb⟩
         have HP0:Hid (∀ wx:World,Below wr.heap.size wr wx→Calls Tryz.prog 15 #[.agg #[.slice x1 ky.length x4,.slice x2 py.length x5,.slice (some ⟨eb,eo,none⟩) ey.length x6],.string (eat ey k).name] wx fun e' w'=>∃ pa pc,e'=.returned (.tuple #[.agg #[.slice pa (Pa.pathR ky py ey (eat ey k).name).st.length pc,.int .i64 (Pa.pathR ky py ey (eat ey k).name).fr,.int .i64 (Pa.pathR ky py ey (eat ey k).name).b],.int .i64 (Pa.pathR ky py ey (eat ey k).name).c])∧Below wx.heap.size wx w'):=fun wx hx=>(Pa.planPathOf_any _ _ _ ky py ey (eat ey k).name wx ((Mg.out.at 2 rfl).keep hx) SX.out.n SX.out.s (HN.out.keep (below_step Mg.out.bx.below hx))).mono fun e' w' ⟨pv,he,hs,hb⟩=>by
          obtain ⟨pa,pc,e1⟩:=own_sliceD hs
          exact ⟨pa,pc,by rw [he,e1],hb⟩
         have HW0:Hid (∀ wx:World,Below wr.heap.size wr wx→Calls Tryz.prog 16 #[.agg #[.string (eat ey k).name,.slice fa1 (eat ey k).fs.length fc1]] wx fun e' w'=>e'=.returned (.bool true)∧Below wx.heap.size wx w'):=fun wx hx=>by
          have h1:=wStands_any (eat ey k).name _ (eat ey k).fs wx (HFL.out.keep hx) hfs;rw [hws] at h1;exact h1
         have HC2:Hid (((Pa.pathR ky py ey (eat ey k).name).c==2)=false):=hp2;have H8:=toHid h8;have HS8:=toHid hsn8;unfold Fa.flV at H8 HS8;clear hse hws hp2 hal hal2 htk hfs HFL hst h8 hsn8;generalize Pa.pathR ky py ey (eat ey k).name=PR at *;generalize kdOf ky (lastV (eat ey k).fs 1)=kd at *;generalize frOf (lastV (eat ey k).fs 2)=fa at *;generalize byOf (lastV (eat ey k).fs 2)=fb at *;generalize lvOf (lastV (eat ey k).fs 3)=fc at *;generalize Pa.rtW (eat ey k)=rw at *;generalize (eat ey k).name=fq at *;generalize (eat ey k).fs.length=fl at *;generalize (Fa.allE (ey.take k)).length=nn at *;generalize (Fa.allE ey).length=an at *;obtain ⟨PC,PS,PFr,PBy⟩:=PR;obtain ⟨ft,fx,fy⟩:=kd;dsimp only at HP0 HC2 HS0 H8 HS8;unfold Fa.fat8 at H8;dsimp only at H8;have HT8:=toHid (strs_own HS8.out hrw);obtain ⟨ta,tc,rfl⟩:=own_sliceD HS8.out;clear HS8
         have hn0:(0:Int)≤(nn:Int):=by omega
         have hn1:(nn:Int)<(an:Int):=by omega
         have hal3:=HAL.out;have HSC:Hid (∀ wx:World,Below wr.heap.size wr wx→(wx.cell? ⟨X,0,none⟩=some (.slice x1 ky.length x4)∧wx.cell? ⟨X,1,none⟩=some (.slice x2 py.length x5)∧wx.cell? ⟨X,2,none⟩=some (.slice (some ⟨eb,eo,none⟩) ey.length x6))∧wx.cell? ⟨eb,eo+k*2,none⟩=some (.string fq)∧wx.cell? ⟨eb,eo+k*2+1,none⟩=some (.slice fa1 fl fc1)):=fun wx hx=>⟨⟨cell_keep hx nlr p0,cell_keep hx nlr p1,cell_keep hx nlr p2⟩,cell_keep hx nlr n0,cell_keep hx nlr f0⟩;go_wp2_with fail;clear p0 p1 p2 n0 f0
         apply wp_joinF (F:=fun f ra rc z=>Below wr.heap.size wr z∧z.heap[f]?=some (.cells #[.string fq,.string ft,.int .i64 fx,.int .i64 fy,.int .i64 fa,.int .i64 fb,.int .i64 fc,.slice ra rw.length rc] 47 (0,0))∧SNew z wr.heap.size (.slice ra rw.length rc) rw)
         ·refine wp_region_noPanic ?_
          refine wp_region_held_drew (S:=fun z=>(z.cell? ⟨X,0,none⟩=some (.slice x1 ky.length x4)∧z.cell? ⟨X,1,none⟩=some (.slice x2 py.length x5)∧z.cell? ⟨X,2,none⟩=some (.slice (some ⟨eb,eo,none⟩) ey.length x6))∧z.cell? ⟨eb,eo+k*2,none⟩=some (.string fq)∧z.cell? ⟨eb,eo+k*2+1,none⟩=some (.slice fa1 fl fc1)) (by kernel_rfl) ?_ (fun hHeld=>?_)
          ·exact HSC.out _ ((Below.refl _ _).drew)
          have BD:Hid (Below wr.heap.size wr wr.drew):=(Below.refl _ _).drew;generalize wr.drew=W0 at *;refine tkH 0 ?_ rfl ?_ (tkH 1 ?_ rfl ?_ (tkH 2 ?_ rfl ?_ (tkH 3 ?_ rfl ?_ (tkH 4 ?_ rfl ?_ (tkH 5 ?_ rfl ?_ (tkH 6 ?_ rfl ?_ ?_))))))
          iterate 7 (rotate_left;focus (intro w hSw;(try dsimp only at hSw);simp only [Act.put,tkS];go_simp;try with_reducible rfl))
          simp only [Act.put,tkS]
          clear hHeld;refine rdH2 7 11 rfl rfl (fun K hK=>?_) (fun K hK=>?_)
          focus
           go_simp;refine (HS0.out _ (BD.out)).mono ?_;rintro e V1 ⟨ra,rc,rfl,hsn,hbv⟩;have B1:=toHid (below_step BD.out hbv);have SN:=toHid (SNew.mono hsn BD.out.size);have hHeld:=HSC.out _ (B1.out);refine hK.out _ _ hHeld (fun _=>?_);clear hK K hbv hsn;refine tkH 8 ?_ rfl ?_ (tkH 9 ?_ rfl ?_ (tkH 10 ?_ rfl ?_ ?_))
           iterate 3 (rotate_left;focus (intro w hSw;(try dsimp only at hSw);simp only [Act.put,tkS];go_simp;try with_reducible rfl))
           simp only [Act.put,tkS]
           clear hHeld;refine rdH 11 rfl (fun K hK=>?_);go_simp;have B2:Hid (Below wr.heap.size wr (V1.alloc (.cells #[.string ⟨#[]⟩,.string ⟨#[]⟩,.int .i64 0,.int .i64 0,.int .i64 0,.int .i64 0,.int .i64 0,.slice none 0 0] 47))):=below_step B1.out (bal);have FX:Hid ((V1.alloc (.cells #[.string ⟨#[]⟩,.string ⟨#[]⟩,.int .i64 0,.int .i64 0,.int .i64 0,.int .i64 0,.int .i64 0,.slice none 0 0] 47)).heap[V1.heap.size]?=some (.cells #[.string ⟨#[]⟩,.string ⟨#[]⟩,.int .i64 0,.int .i64 0,.int .i64 0,.int .i64 0,.int .i64 0,.slice none 0 0] 47 (0,0))):=heap_newD V1 _;have hFw:wr.heap.size≤V1.heap.size:=B1.out.size;have SN2:=toHid (own_keepD SN.out ((Below.refl V1.heap.size V1).alloc nlr (.cells #[.string ⟨#[]⟩,.string ⟨#[]⟩,.int .i64 0,.int .i64 0,.int .i64 0,.int .i64 0,.int .i64 0,.slice none 0 0] 47)));have hHeld:=HSC.out _ (B2.out);refine hK.out _ _ hHeld (fun _=>?_);clear hK K hHeld;generalize (V1.alloc (.cells #[.string ⟨#[]⟩,.string ⟨#[]⟩,.int .i64 0,.int .i64 0,.int .i64 0,.int .i64 0,.int .i64 0,.slice none 0 0] 47))=V2 at *;generalize V1.heap.size=FB at *;have B9:Below wr.heap.size wr (V2.setRow FB #[.string fq,.string ft,.int .i64 fx,.int .i64 fy,.int .i64 fa,.int .i64 fb,.int .i64 fc,.slice ra rw.length rc]):=below_setRow B2.out hFw _;have F9:(V2.setRow FB #[.string fq,.string ft,.int .i64 fx,.int .i64 fy,.int .i64 fa,.int .i64 fb,.int .i64 fc,.slice ra rw.length rc]).heap[FB]?=some (.cells #[.string fq,.string ft,.int .i64 fx,.int .i64 fy,.int .i64 fa,.int .i64 fb,.int .i64 fc,.slice ra rw.length rc] 47 (0,0)):=setRow_heap _ _ _ _ _ _ FX.out
           have S9:SNew (V2.setRow FB #[.string fq,.string ft,.int .i64 fx,.int .i64 fy,.int .i64 fa,.int .i64 fb,.int .i64 fc,.slice ra rw.length rc]) wr.heap.size (.slice ra rw.length rc) rw:=own_farD SN2.out ⟨rfl,rfl,rfl,by simp,fun j _ hj=>setRow_other _ _ _ _ (fun e=>hj (by rw [e]))⟩ (fun q hq e=>own_typeD SN2.out FX.out (by decide) (by rw [hq,← e]))
          rotate_left
          focus
           go_simp;have B1:Hid (Below wr.heap.size wr (W0.alloc (.cells #[.string ⟨#[]⟩,.string ⟨#[]⟩,.int .i64 0,.int .i64 0,.int .i64 0,.int .i64 0,.int .i64 0,.slice none 0 0] 47))):=below_step BD.out (bal);have FX:Hid ((W0.alloc (.cells #[.string ⟨#[]⟩,.string ⟨#[]⟩,.int .i64 0,.int .i64 0,.int .i64 0,.int .i64 0,.int .i64 0,.slice none 0 0] 47)).heap[W0.heap.size]?=some (.cells #[.string ⟨#[]⟩,.string ⟨#[]⟩,.int .i64 0,.int .i64 0,.int .i64 0,.int .i64 0,.int .i64 0,.slice none 0 0] 47 (0,0))):=heap_newD W0 _;have hFw:wr.heap.size≤W0.heap.size:=BD.out.size;have hHeld:=HSC.out _ (B1.out);refine hK.out _ _ hHeld (fun _=>?_);clear hK K hHeld;generalize (W0.alloc (.cells #[.string ⟨#[]⟩,.string ⟨#[]⟩,.int .i64 0,.int .i64 0,.int .i64 0,.int .i64 0,.int .i64 0,.slice none 0 0] 47))=V1 at *;generalize W0.heap.size=FB at *;refine rdH 7 rfl (fun K hK=>?_);go_simp;refine (HS0.out _ (B1.out)).mono ?_;rintro e V2 ⟨ra,rc,rfl,hsn,hbv⟩;have B2:=toHid (below_step B1.out hbv);have SN:=toHid (SNew.mono hsn B1.out.size);have hHeld:=HSC.out _ (B2.out);refine hK.out _ _ hHeld (fun _=>?_)
           replace FX:=toHid ((hbv.block _ (lt_blk FX.out)).trans FX.out)
           clear hK K hbv hsn;refine tkH 8 ?_ rfl ?_ (tkH 9 ?_ rfl ?_ (tkH 10 ?_ rfl ?_ ?_))
           iterate 3 (rotate_left;focus (intro w hSw;(try dsimp only at hSw);simp only [Act.put,tkS];go_simp;try with_reducible rfl))
           simp only [Act.put,tkS]
           clear hHeld;have B9:Below wr.heap.size wr (V2.setRow FB #[.string fq,.string ft,.int .i64 fx,.int .i64 fy,.int .i64 fa,.int .i64 fb,.int .i64 fc,.slice ra rw.length rc]):=below_setRow B2.out hFw _;have F9:(V2.setRow FB #[.string fq,.string ft,.int .i64 fx,.int .i64 fy,.int .i64 fa,.int .i64 fb,.int .i64 fc,.slice ra rw.length rc]).heap[FB]?=some (.cells #[.string fq,.string ft,.int .i64 fx,.int .i64 fy,.int .i64 fa,.int .i64 fb,.int .i64 fc,.slice ra rw.length rc] 47 (0,0)):=setRow_heap _ _ _ _ _ _ FX.out
           have S9:SNew (V2.setRow FB #[.string fq,.string ft,.int .i64 fx,.int .i64 fy,.int .i64 fa,.int .i64 fb,.int .i64 fc,.slice ra rw.length rc]) wr.heap.size (.slice ra rw.length rc) rw:=own_farD SN.out ⟨rfl,rfl,rfl,by simp,fun j _ hj=>setRow_other _ _ _ _ (fun e=>hj (by rw [e]))⟩ (fun q hq e=>own_typeD SN.out FX.out (by decide) (by rw [hq,← e]))
          rotate_left
          all_goals
           refine rdH 12 rfl (fun K hK=>?_)
           refine step_store_rowC rfl 47 _ _ rfl FB #[.string fq,.string ft,.int .i64 fx,.int .i64 fy,.int .i64 fa,.int .i64 fb,.int .i64 fc,.slice ra rw.length rc] rfl rfl 47 _ FX.out (by kernel_rfl) rfl (by simp [Value.oneCell']) ?_
           have hHeld:=HSC.out _ (B9);refine hK.out _ _ hHeld (fun _=>?_);clear hK K;refine tkH 13 ?_ rfl ?_ ?_;rotate_left
           ·intro w hSw;(try dsimp only at hSw);go_simp;try with_reducible rfl
           simp only [Act.put,tkS]
           refine wpAnyH_done (by kernel_rfl) ?_ _
           refine NoPanic.normal ?_;exact ⟨rfl,FB,ra,rc,rfl,B9,F9,S9⟩
         ·rintro FB ra rc w10 ⟨b10,f10,s10⟩
          have B10:=toHid b10;have F10:=toHid f10;have S10:=toHid s10;clear b10 f10 s10;go_wp2_with fail
          apply wp_joinF (F:=fun f ra rc z=>Below w10.heap.size w10 z∧z.heap[f]?=some (.cells #[.slice ra PS.length rc,.int .i64 PFr,.int .i64 PBy] 55 (0,0)))
          ·refine wp_region_noPanic ?_
           refine wp_region_held_drew (S:=fun z=>(z.cell? ⟨X,0,none⟩=some (.slice x1 ky.length x4)∧z.cell? ⟨X,1,none⟩=some (.slice x2 py.length x5)∧z.cell? ⟨X,2,none⟩=some (.slice (some ⟨eb,eo,none⟩) ey.length x6))∧z.cell? ⟨eb,eo+k*2,none⟩=some (.string fq)∧z.cell? ⟨eb,eo+k*2+1,none⟩=some (.slice fa1 fl fc1)) (by kernel_rfl) ?_ (fun hHeld=>?_)
           ·exact HSC.out _ (below_step B10.out ((Below.refl _ _).drew))
           have BD:Hid (Below w10.heap.size w10 w10.drew):=(Below.refl _ _).drew;generalize w10.drew=W0 at *;refine tkH 0 ?_ rfl ?_ (tkH 1 ?_ rfl ?_ (tkH 2 ?_ rfl ?_ (tkH 3 ?_ rfl ?_ (tkH 4 ?_ rfl ?_ (tkH 5 ?_ rfl ?_ (tkH 6 ?_ rfl ?_ ?_))))))
           iterate 7 (rotate_left;focus (intro w hSw;(try dsimp only at hSw);simp only [Act.put,tkS];go_simp;try with_reducible rfl))
           simp only [Act.put,tkS]
           clear hHeld;refine rdH2 7 11 rfl rfl (fun K hK=>?_) (fun K hK=>?_)
           focus
            go_simp;refine (HP0.out _ (below_step B10.out (BD.out))).mono ?_;rintro e V1 ⟨ra,rc,rfl,hbv⟩;have B1:=toHid (below_step BD.out hbv);have hHeld:=HSC.out _ (below_step B10.out (B1.out));refine hK.out _ _ hHeld (fun _=>?_);clear hK K hbv;refine tkH 8 ?_ rfl ?_ (tkH 9 ?_ rfl ?_ (tkH 10 ?_ rfl ?_ ?_))
            iterate 3 (rotate_left;focus (intro w hSw;(try dsimp only at hSw);simp only [Act.put,tkS];go_simp;try with_reducible rfl))
            simp only [Act.put,tkS]
            clear hHeld;refine rdH 11 rfl (fun K hK=>?_);go_simp;have B2:Hid (Below w10.heap.size w10 (V1.alloc (.cells #[.slice none 0 0,.int .i64 0,.int .i64 0] 55))):=below_step B1.out (bal);have FX:Hid ((V1.alloc (.cells #[.slice none 0 0,.int .i64 0,.int .i64 0] 55)).heap[V1.heap.size]?=some (.cells #[.slice none 0 0,.int .i64 0,.int .i64 0] 55 (0,0))):=heap_newD V1 _;have hFw:w10.heap.size≤V1.heap.size:=B1.out.size;have hHeld:=HSC.out _ (below_step B10.out (B2.out));refine hK.out _ _ hHeld (fun _=>?_);clear hK K hHeld;generalize (V1.alloc (.cells #[.slice none 0 0,.int .i64 0,.int .i64 0] 55))=V2 at *;generalize V1.heap.size=FB at *
           rotate_left
           focus
            go_simp;have B1:Hid (Below w10.heap.size w10 (W0.alloc (.cells #[.slice none 0 0,.int .i64 0,.int .i64 0] 55))):=below_step BD.out (bal);have FX:Hid ((W0.alloc (.cells #[.slice none 0 0,.int .i64 0,.int .i64 0] 55)).heap[W0.heap.size]?=some (.cells #[.slice none 0 0,.int .i64 0,.int .i64 0] 55 (0,0))):=heap_newD W0 _;have hFw:w10.heap.size≤W0.heap.size:=BD.out.size;have hHeld:=HSC.out _ (below_step B10.out (B1.out));refine hK.out _ _ hHeld (fun _=>?_);clear hK K hHeld;generalize (W0.alloc (.cells #[.slice none 0 0,.int .i64 0,.int .i64 0] 55))=V1 at *;generalize W0.heap.size=FB at *;refine rdH 7 rfl (fun K hK=>?_);go_simp;refine (HP0.out _ (below_step B10.out (B1.out))).mono ?_;rintro e V2 ⟨ra,rc,rfl,hbv⟩;have B2:=toHid (below_step B1.out hbv);have hHeld:=HSC.out _ (below_step B10.out (B2.out));refine hK.out _ _ hHeld (fun _=>?_)
            replace FX:=toHid ((hbv.block _ (lt_blk FX.out)).trans FX.out)
            clear hK K hbv;refine tkH 8 ?_ rfl ?_ (tkH 9 ?_ rfl ?_ (tkH 10 ?_ rfl ?_ ?_))
            iterate 3 (rotate_left;focus (intro w hSw;(try dsimp only at hSw);simp only [Act.put,tkS];go_simp;try with_reducible rfl))
            simp only [Act.put,tkS]
            clear hHeld
           rotate_left
           all_goals
            have B9:Below w10.heap.size w10 (V2.setRow FB #[.slice ra PS.length rc,.int .i64 PFr,.int .i64 PBy]):=below_setRow B2.out hFw _;have F9:(V2.setRow FB #[.slice ra PS.length rc,.int .i64 PFr,.int .i64 PBy]).heap[FB]?=some (.cells #[.slice ra PS.length rc,.int .i64 PFr,.int .i64 PBy] 55 (0,0)):=setRow_heap _ _ _ _ _ _ FX.out;refine rdH 12 rfl (fun K hK=>?_)
            refine step_store_rowC rfl 55 _ _ rfl FB #[.slice ra PS.length rc,.int .i64 PFr,.int .i64 PBy] rfl rfl 55 _ FX.out (by kernel_rfl) rfl (by simp [Value.oneCell']) ?_
            have hHeld:=HSC.out _ (below_step B10.out (B9));refine hK.out _ _ hHeld (fun _=>?_);clear hK K;refine tkH 13 ?_ rfl ?_ ?_;rotate_left
            ·intro w hSw;(try dsimp only at hSw);go_simp;try with_reducible rfl
            simp only [Act.put,tkS]
            refine wpAnyH_done (by kernel_rfl) ?_ _
            refine NoPanic.normal ?_;exact ⟨rfl,FB,ra,rc,rfl,B9,F9⟩
          ·rintro FB2 ra2 rc2 w11 ⟨b11,-⟩
           have B11:=toHid b11;clear b11;have hc2:=HC2.out;have BZ:=toHid (below_step B10.out B11.out);obtain ⟨⟨p0,p1,p2⟩,n0,f0⟩:=HSC.out _ BZ.out;have F11:=(B11.out.block _ (lt_blk F10.out)).trans F10.out;have g0:=cell_blkD F11 (i:=0) rfl;have g1:=cell_blkD F11 (i:=1) rfl;have g2:=cell_blkD F11 (i:=2) rfl;have g3:=cell_blkD F11 (i:=3) rfl;have g4:=cell_blkD F11 (i:=4) rfl;have g5:=cell_blkD F11 (i:=5) rfl;have g6:=cell_blkD F11 (i:=6) rfl;have g7:=cell_blkD F11 (i:=7) rfl;have ST1:=toHid (strs_own (own_keepD S10.out B11.out) hrw);have BW:=toHid (below_step HX.out BZ.out);have ST2:=toHid (HT8.out.keep BW.out);obtain ⟨⟨t0,t1,t2,t3⟩,t4,t5,t6,t7⟩:=H8.out
           replace t0:=cell_keep BW.out nlr t0
           replace t1:=cell_keep BW.out nlr t1
           replace t2:=cell_keep BW.out nlr t2
           replace t3:=cell_keep BW.out nlr t3
           replace t4:=cell_keep BW.out nlr t4
           replace t5:=cell_keep BW.out nlr t5
           replace t6:=cell_keep BW.out nlr t6
           replace t7:=cell_keep BW.out nlr t7
           have GB:Hid (∀ y:Later w11,Calls Tryz.prog 16 #[.agg #[.string fq,.slice fa1 fl fc1]] y.val fun e w''=>e=.returned (.bool true)∧∃ z:Later w11,w''=z.val):=fun y=>Calls.later (HW0.out y.val (below_step BZ.out y.below))
           have GF:Hid (∀ y:Later w11,Calls Tryz.prog 17 #[.agg #[.string fq,.string ft,.int .i64 fx,.int .i64 fy,.int .i64 fa,.int .i64 fb,.int .i64 fc,.slice ra rw.length rc],.agg #[.string fq,.string ft,.int .i64 fx,.int .i64 fy,.int .i64 fa,.int .i64 fb,.int .i64 fc,.slice ta rw.length tc]] y.val fun e w''=>e=.returned (.bool true)∧∃ z:Later w11,w''=z.val):=fun y=>Calls.later (wFlight_same fq ⟨ft,fx,fy⟩ fa fb fc _ _ rw y.val (ST1.out.keep y.below) (ST2.out.keep y.below) (by omega))
           have hne:=Later.some w11;have zX:=lt_of_cell p0;have zE:=lt_of_cell n0;have zF:=lt_of_cell g0;have zA:=lt_of_cell t0;clear F11;go_wp2_with fail
           refine wp_region_later (by kernel_rfl) (by kernel_rfl) ?_
           repeat (go_big_quiet_step (first | (go_at_call 16;exact GB.out _) | (go_at_call 17;exact GF.out _)))
           refine wpQuiet_nil ?_;rintro _ ⟨x,rfl⟩;have HB2:Hid (Below wf.heap.size wf x.val):=below_step BW.out x.below;clear p0 p1 p2 n0 f0 zX zE zF zA hne GB GF g0 g1 g2 g3 g4 g5 g6 g7 t0 t1 t2 t3 t4 t5 t6 t7;go_wp2_with fail
           exact ⟨⟨k+1,by omega,by rw [HTK.out];go_num,by go_num,HB2⟩,by simp [intOf] <;> omega⟩
       ·obtain rfl:k=ey.length:=by omega
        rw [List.take_length];have HBL:=toHid Mg.out.bx.below;obtain ⟨p0,p1,p2⟩:=bx3M Mg.out.bx 2 rfl;clear Mg HX Mf;go_wp2_with fail
        exact bodyPost_ret (v:=.bool true) (by simp [results,Tryz.results3,go_sem]) rfl ⟨rfl,HBL.out⟩
   ·obtain ⟨j',rfl⟩:∃ j',j=j'+1:=⟨j-1,by omega⟩
    have e1:((j'+1:Nat):Int)-1=(j':Int):=by push_cast <;> omega
    rw [e1]
    have hll:l.length=2*k:=by
     rw [HKJ.out.2]
     have h2:∀ q:List Chg,(q.flatMap fun c=>[c,c]).length=2*q.length:=fun q=>by
      induction q with
      | nil=>rfl
      | cons a q ih=>simp at ih ⊢;omega
     rw [h2,List.length_take,List.length_reverse]
     omega
    have hl48:l.length≤48:=by omega
    clear hll;have hL2:=HL9.out;obtain ⟨la',lc',hle,-,hlm,hcs⟩:=hL2
    injection hle with hle1 hle2 hle3
    subst hle1
    obtain ⟨lb,lo,rfl,hd⟩:=hcs j' _ (cat_get (show j'<L.length by omega))
    clear hcs hle2 hle3;have HD:=toHid hd
    have hnx:l++[cat' L j',cat' L j']=(L.reverse.take (k+1)).flatMap fun c=>[c,c]:=by
     have h3:L.reverse.take (k+1)=L.reverse.take k++[cat' L j']:=by
      rw [List.take_add_one,cat_get (show k<L.reverse.length by rw [List.length_reverse];omega)]
      have h4:cat' L.reverse k=cat' L j':=by
       unfold cat'
       rw [List.getD_eq_getElem?_getD,List.getD_eq_getElem?_getD,List.getElem?_reverse (by omega),show L.length-1-k=j' by omega]
      rw [h4]
      rfl
     rw [h3,List.flatMap_append,← HKJ.out.2]
     rfl
    have HNX:=toHid hnx;clear hnx hd;generalize cat' L j'=cc at *;obtain ⟨cf,cw,cn,cv⟩:=cc;have OW:=toHid HS9.out.1;have BY:=toHid HS9.out.2;have hsz:=HS9.out.2.size;have hlb:lb<w9.heap.size:=lt_of_cell HD.out.1
    have hj0:(0:Int)≤(j':Int):=by omega
    have hj1:(j':Int)<(L.length:Int):=by omega
    have hw9:IntKind.i64.wrap ((j':Int)-1)=(j':Int)-1:=by rw [IntKind.wrap_i64];omega
    clear HS9 HKJ;unfold ChgsNew at OW;go_wp2_with fail;refine wp_region_noPanic ?_
    refine wp_region_held_drew (S:=fun z=>z.cell? ⟨lb,lo+j'*4,none⟩=some (.string cf)∧z.cell? ⟨lb,lo+j'*4+1,none⟩=some (.int .i64 cw)∧z.cell? ⟨lb,lo+j'*4+2,none⟩=some (.int .i64 cn)∧z.cell? ⟨lb,lo+j'*4+3,none⟩=some (.string cv)) (by kernel_rfl) ?_ (fun hHeld=>?_)
    ·have hd:=ChgAt.keep HD.out BY.out nlr
     exact ⟨hd.1,hd.2.1,hd.2.2.1,hd.2.2.2⟩
    have HSS:Hid (∀ wx:World,wr.drew.grownBy wx (Value.slice a9 l.length c9).ownBlock→wx.cell? ⟨lb,lo+j'*4,none⟩=some (.string cf)∧wx.cell? ⟨lb,lo+j'*4+1,none⟩=some (.int .i64 cw)∧wx.cell? ⟨lb,lo+j'*4+2,none⟩=some (.int .i64 cn)∧wx.cell? ⟨lb,lo+j'*4+3,none⟩=some (.string cv)):=fun wx hg=>by
     have hb:wx.heap[lb]?=wr.drew.heap[lb]?:=hg.block lb (by show lb<wr.heap.size;omega) (fun e=>by have:=own_geD OW.out lb e.symm;omega)
     exact ⟨cell_same hb hHeld.1,cell_same hb hHeld.2.1,cell_same hb hHeld.2.2.1,cell_same hb hHeld.2.2.2⟩
    have OD:Hid (wr.drew.ownsRow w9.heap.size 40 4 (.slice a9 l.length c9) l.length (chgRows l)):=own_keepD OW.out (Below.refl _ _).drew;have BD:Hid (Below w9.heap.size w9 wr.drew):=BY.out.drew;have hsd:w9.heap.size≤wr.drew.heap.size:=hsz;generalize wr.drew=W0 at *;refine tkH 0 ?_ rfl ?_ (tkH 1 ?_ rfl ?_ (tkH 2 ?_ rfl ?_ (tkH 3 ?_ rfl ?_ (tkH 4 ?_ rfl ?_ (tkH 5 ?_ rfl ?_ (tkH 6 ?_ rfl ?_ (tkH 7 ?_ rfl ?_ (tkH 8 ?_ rfl ?_ ?_))))))))
    iterate 9 (rotate_left;focus (intro w hSw;(try dsimp only at hSw);simp only [Act.put,tkS];go_simp;try with_reducible rfl))
    simp only [Act.put,tkS]
    clear hHeld
    have GR0:Hid (W0.grownBy (W0.alloc (.cells #[.string cf,.int .i64 cw,.int .i64 cn,.string cv,.string cf,.int .i64 cw,.int .i64 cn,.string cv] 40)) (Value.slice a9 l.length c9).ownBlock):=⟨rfl,rfl,rfl,by simp,fun b hb _=>((Below.refl W0.heap.size W0).alloc nlr _).block b hb⟩
    have SRC:Hid ((W0.alloc (.cells #[.string cf,.int .i64 cw,.int .i64 cn,.string cv,.string cf,.int .i64 cw,.int .i64 cn,.string cv] 40)).heap[W0.heap.size]?=some (.cells #[.string cf,.int .i64 cw,.int .i64 cn,.string cv,.string cf,.int .i64 cw,.int .i64 cn,.string cv] 40 (0,0))):=heap_newD W0 _;have O1:=toHid (own_keepD OD.out ((Below.refl W0.heap.size W0).alloc nlr (.cells #[.string cf,.int .i64 cw,.int .i64 cn,.string cv,.string cf,.int .i64 cw,.int .i64 cn,.string cv] 40)));have B1:=toHid (below_step BD.out ((Below.refl W0.heap.size W0).alloc nlr (.cells #[.string cf,.int .i64 cw,.int .i64 cn,.string cv,.string cf,.int .i64 cw,.int .i64 cn,.string cv] 40)));have hs1:=B1.out.size;refine rdH 9 rfl (fun K hK=>?_);go_simp;refine hK.out _ _ (HSS.out _ GR0.out) (fun _=>?_);clear hK K;generalize (W0.alloc (.cells #[.string cf,.int .i64 cw,.int .i64 cn,.string cv,.string cf,.int .i64 cw,.int .i64 cn,.string cv] 40))=W1 at *;refine rdH 10 rfl (fun K hK=>?_)
    refine step_append_any _ rfl _ _ 30 rfl w9.heap.size 40 i0 _ 4 48 Tryz.underlying30 hi0 hz0 hz1 hz2 rfl (by decide) (.slice a9 l.length c9) l.length _ rfl O1.out _ 2 2 [.string cf,.int .i64 cw,.int .i64 cn,.string cv,.string cf,.int .i64 cw,.int .i64 cn,.string cv] rfl (.inr ⟨_,rfl,World.news_of_block SRC.out⟩) rfl (fun u hu=>by simp only [List.mem_cons,List.not_mem_nil,or_false] at hu;rcases hu with rfl | rfl | rfl | rfl | rfl | rfl | rfl | rfl <;> rfl) (by unfold maxLen;omega) (by omega) (by omega) ?_
    intro va W2 hown hgrow hat;have GR2:Hid (W0.grownBy W2 (Value.slice a9 l.length c9).ownBlock):=grown_on GR0.out hgrow;refine hK.out _ _ (HSS.out _ GR2.out) (fun _=>?_);clear hK K hat
    have HN9:Hid (ChgsNew W2 w9.heap.size va (l++[⟨cf,cw,cn,cv⟩,⟨cf,cw,cn,cv⟩])∧Below w9.heap.size w9 W2):=by
     refine ⟨?_,B1.out.grown hgrow B1.out.size (fun q e=>own_geD O1.out q e)⟩;unfold ChgsNew
     rw [List.length_append,show chgRows (l++[(⟨cf,cw,cn,cv⟩:Chg),⟨cf,cw,cn,cv⟩])=chgRows l++[.string cf,.int .i64 cw,.int .i64 cn,.string cv,.string cf,.int .i64 cw,.int .i64 cn,.string cv] by simp [chgRows,chgRow]]
     exact hown
    obtain ⟨qa',qc',rfl⟩:=own_sliceD hown;have hHeld:=HSS.out _ GR2.out;refine tkH 11 ?_ rfl ?_ ?_;rotate_left
    ·intro w hSw;(try dsimp only at hSw);go_simp;try with_reducible rfl
    simp only [Act.put,tkS]
    clear hHeld HSS hown hgrow
    refine wpAnyH_done (by kernel_rfl) ?_ _
    refine NoPanic.normal ?_
    have HN10:Hid (ChgsNew W2 w9.heap.size (.slice qa' (l++[(⟨cf,cw,cn,cv⟩:Chg),⟨cf,cw,cn,cv⟩]).length qc') (l++[⟨cf,cw,cn,cv⟩,⟨cf,cw,cn,cv⟩])∧Below w9.heap.size w9 W2):=by
     rw [List.length_append];exact HN9.out
    go_wp2_with fail
    exact ⟨⟨k+1,j',l++[(⟨cf,cw,cn,cv⟩:Chg),⟨cf,cw,cn,cv⟩],qa',qc',by simp,rfl,⟨by omega,HNX.out⟩,HN10⟩,by simp [intOf] <;> omega⟩
end Go.Proofs.YtbjmgglpiakgdaaGreatDoor.Dr
