import Derived.Test.YtcmgddnckohdaaaGreatDoorPd0
set_option maxRecDepth 100000
set_option maxHeartbeats 6400000
set_option linter.unusedSimpArgs false
set_option linter.unusedVariables false
namespace Go.Proofs.YtcmgddnckohdaaaGreatDoor.Dr
open Go.RowKit Sd Tx
attribute [local go_sem] Later.cell Later.frozen
structure DS (w wr:World) (R q:Nat) (v:Value) (n:Nat) (l:List ByteArray):Prop where
 rd:Rd wr R q
 gr:w.grownBy wr (some R)
 ow:wr.ownsRow w.heap.size 9 1 v n (l.map Value.string)
 len:l.length=n
 sm:∀ x∈l,x.size≤99∧1≤x.size
theorem DS.grow {w wr wx:World} {R q qx n:Nat} {v:Value} {l:List ByteArray} (h:DS w wr R q v n l) (hR:R<w.heap.size) (hr:Rd wx R qx) (hg:wr.grownBy wx (some R)):DS w wx R qx v n l:=⟨hr,az h.gr hg,cy h.ow hg hR,h.len,h.sm⟩
theorem DS.cell {w wr:World} {R q n g cap k:Nat} {l:List ByteArray} (h:DS w wr R q (.slice (some ⟨g,0,none⟩) n cap) n l) (hk:k<n):wr.cell? ⟨g,k,none⟩=some (.string (dE l k))∧(dE l k).size≤99∧1≤(dE l k).size:=by
 have hl:k<l.length:=by have:=h.len;omega
 have h1:=h.ow;rw [← h.len] at h1
 obtain ⟨g',o',c',e,h2,h3,h4⟩:=bO h1 (fun e=>by rw [e] at hl;simp at hl)
 injection e with e1 e2 e3
 injection e1 with e1
 injection e1 with e1 e5
 have h5:=h4 k _ (bA hl);rw [← e1,← e5,Nat.zero_add] at h5;exact ⟨h5,h.sm _ (List.mem_of_getElem? (bA hl))⟩
theorem DS.thaw {w wr:World} {R q n g cap:Nat} {l:List ByteArray} (h:DS w wr R q (.slice (some ⟨g,0,none⟩) n cap) n l) (k:Nat):wr.frozen? ⟨g,k,none⟩=false:=by
 rcases h.ow.2 with ⟨h0,_⟩ | ⟨g',cap',cur,hv,_,hc,_⟩
 ·cases h0
 ·cases hv
  simp [World.frozen?,hc]
theorem DS.set {w wr:World} {R q n g cap k:Nat} {l:List ByteArray} {c:ByteArray} (h:DS w wr R q (.slice (some ⟨g,0,none⟩) n cap) n l) (hR:R<w.heap.size) (hk:k<n) (hc:c.size≤99∧1≤c.size):DS w (wr.setCell ⟨g,k,none⟩ (.string c)) R q (.slice (some ⟨g,0,none⟩) n cap) n (l.set k c):=by
 have hg:w.heap.size≤g:=cE h.ow g rfl
 refine ⟨h.rd.late (fun j hj=>Below.heap_setCell _ _ _ _ (by show j≠g;omega)),bV h.gr _ _ hg,?_,by rw [List.length_set];exact h.len,fun x hx=>?_⟩
 ·rw [List.map_set]
  exact xJ h.ow (by omega)
 ·rcases List.mem_or_eq_of_mem_set hx with h1 | h1
  ·exact h.sm x h1
  ·rw [h1];exact hc
theorem Gt (R p:Nat) (w:World) (h:Rd w R p) (hp:p≤500000) :
  Calls Tryz.prog 24 #[.pointer (some ⟨R,0,none⟩)] w fun e w'=>∃ (v:Value) (l:List ByteArray),e=.returned v∧1≤l.length∧l.length≤82∧∃ q,p≤q∧q≤p+1300∧DS w w' R q v l.length l:=by
 have gM:=h.lt;have jH:=ay h;clear h
 go_enter Tryz.func24,Tryz.ntmps24
 go_wp2_with fail
 refine (GA R p _ jH.out (by omega)).mono ?_
 rintro e w2 ⟨kv,pv,ks,ps,rfl,htk,htp,hkb,hpb,hp1,hk1,q2,hq0,hq1,hr2,hg2⟩;have G2:Hid (Rd w2 R q2∧w.grownBy w2 (some R)):=⟨hr2,hg2⟩;have HK:=ay htk;have HP:=ay htp;obtain ⟨ka,kc,rfl⟩:=bU htk;obtain ⟨pa,pc,rfl⟩:=bU htp;have KB:=ay hkb;have PB:=ay hpb;clear hr2 hg2 jH htk htp hkb hpb;go_wp2_with fail
 refine (Gw R q2 _ _ ks ps _ G2.out.1 (by omega) (rF HK.out) (rF HP.out) KB.out PB.out hp1).mono ?_
 rintro e w3 ⟨x,y,z,es,rfl,hbn,hok,hsm,q3,hq2,hq3,hr3,hg3⟩;obtain ⟨a1,c1,a2,c2,a3,c3,rfl,rfl,rfl⟩:=hbn.slices;have B4:Hid (Below w3.heap.size w3 (w3.alloc (.cells #[.slice a1 ks.length c1,.slice a2 ps.length c2,.slice a3 es.length c3] 30))):=(aM);have G4:Hid (Rd (w3.alloc (.cells #[.slice a1 ks.length c1,.slice a2 ps.length c2,.slice a3 es.length c3] 30)) R q3∧w.grownBy (w3.alloc (.cells #[.slice a1 ks.length c1,.slice a2 ps.length c2,.slice a3 es.length c3] 30)) (some R)∧dI (w3.alloc (.cells #[.slice a1 ks.length c1,.slice a2 ps.length c2,.slice a3 es.length c3] 30)) (.slice a1 ks.length c1) (.slice a2 ps.length c2) (.slice a3 es.length c3) ks ps es):=⟨hr3.far B4.out,az (az G2.out.2 hg3) (aH B4.out _),hbn.at.keep B4.out⟩;have OK:=ay hok;have SM:=ay hsm;clear hr3 hg3 hbn hok hsm HK HP G2 KB PB B4;go_wp2_with fail;generalize (w3.alloc (.cells #[.slice a1 ks.length c1,.slice a2 ps.length c2,.slice a3 es.length c3] 30))=w4 at *;refine (zx _ _ _ ks ps es _ G4.out.2.2 SM.out.n SM.out.s SM.out.u).mono ?_;rintro e w5 ⟨rfl,hb5⟩
 have FK:Hid ((∀ l∈fe (fU ks ps es),l.size≤99∧1≤l.size)∧1≤(fe (fU ks ps es)).length∧(fe (fU ks ps es)).length≤82∧(fU ks ps es).size≤10000):=by
  obtain ⟨h1,h2,h3,h4⟩:=vH OK.out;rw [h4];refine ⟨fun l hl=>⟨(h1 l hl).1,(h1 l hl).2.1⟩,?_,h2,(vC OK.out).2⟩;unfold fG jR jQ kC
  simp only [List.length_append,List.length_map]
  omega
 have G5:Hid (Rd w5 R q3∧w.grownBy w5 (some R)):=⟨G4.out.1.far hb5,az G4.out.2.1 (aH hb5 _)⟩;clear G4 OK SM hb5;generalize fU ks ps es=st at *;go_wp2_with fail
 refine (Eu st _ (by have:=FK.out.2.2.2;omega)).mono ?_
 rintro e w6 ⟨v,rfl,hv,hb6⟩;generalize fe st=L at *;obtain ⟨hL1,hL2,hL3⟩:=FK.out.2;obtain ⟨g,c,rfl,hlc,hcm⟩:=mF hv hL1;unfold maxLen at hcm
 have D6:Hid (DS w w6 R q3 (.slice (some ⟨g,0,none⟩) L.length c) L.length L):=⟨G5.out.1.far hb6,az G5.out.2 (aH hb6 _),aJ hv (by have:=G5.out.2.size;omega),rfl,FK.out.1⟩
 clear hv hb6 G5 FK;go_wp2_with fail
 refine (aL R q3 12 _ D6.out.rd (by omega) (by omega)).mono ?_
 rintro e w7 ⟨x,rfl,hx0,hx1,-,sG,lT⟩
 have hx1:=hx1 (by omega)
 obtain ⟨m,rfl⟩:∃ n:Nat,x=n:=⟨x.toNat,by omega⟩
 have D7:=ay (D6.out.grow gM sG lT);clear sG lT D6;go_wp2_with fail
 go_loopw [5] (fun n wr=>∃ (k q:Nat) (l':List ByteArray),k≤m∧n=.int .i64 k∧q3≤q∧q+k≤q3+1+m∧Hid (DS w wr R q (.slice (some ⟨g,0,none⟩) L.length c) L.length l')) (fun n _=>(intOf n).toNat)
 case atStart=>exact ⟨m,q3+1,L,Nat.le_refl _,rfl,by omega,by omega,D7.out⟩
 case round =>
  clear D7;obtain ⟨k,q,l',hk,rfl,hq,hqk,HD⟩:=hrel
  by_cases hlt:0<k
  ·have hk0:(0:Int)<(k:Int):=by omega
   go_wp2_with fail
   refine (aL R q (L.length:Int) _ HD.out.rd (by omega) (by omega)).mono ?_
   rintro e w8 ⟨x,rfl,hx0,hx1',-,hr8,hg8⟩
   have hx1':=hx1' (by omega)
   obtain ⟨i,rfl⟩:∃ n:Nat,x=n:=⟨x.toNat,by omega⟩
   have D8:=ay (HD.out.grow gM hr8 hg8);clear hr8 hg8 HD;have hne:=Later.some w8
   have hi0:(0:Int)≤(i:Int):=by omega
   obtain ⟨j,hj⟩:∃ j:Nat,j=i+1:=⟨_,rfl⟩
   have hwi:IntKind.i64.wrap ((i:Int)+1)=(j:Int):=by rw [IntKind.wrap_i64];omega
   by_cases hj1:j<L.length
   ·have hj2:(j:Int)<(L.length:Int):=by omega
    obtain ⟨c0,s01,s02⟩:=D8.out.cell (k:=i) (by omega)
    obtain ⟨d0,s11,s12⟩:=D8.out.cell (k:=j) hj1;have HJ:=ay hj;clear hj;generalize dE l' i=xa at *;generalize dE l' j=xb at *;have zk:=av c0
    have sa:0<xa.size:=by omega
    have sb:0<xb.size:=by omega
    obtain ⟨ba,hba⟩:∃ b:Bool,((((xa[0]).toNat:Nat):Int)==115)=b:=⟨_,rfl⟩;obtain ⟨bb,hbb⟩:∃ b:Bool,((((xb[0]).toNat:Nat):Int)==115)=b:=⟨_,rfl⟩
    have hj0:(0:Int)≤(j:Int):=by omega
    have hi3:(i:Int)<(L.length:Int):=by omega
    have hdi:decide ((j:Int)<(L.length:Int))=true:=decide_eq_true hj2;go_wp2_with fail
    refine au (by kernel_rfl) (by kernel_rfl) ?_
    repeat (go_big_quiet_step (fail))
    refine wpQuiet_nil ?_;rintro _ ⟨x,rfl⟩;have D9:=ay (D8.out.grow gM (D8.out.rd.far x.below) (aH x.below _));have c1':=ag x.below aG c0;have d1':=ag x.below aG d0;have f1:=D9.out.thaw i;have f2:=D9.out.thaw j;generalize x.val=w9 at *;clear hba hbb c0 d0 zk D8 hne
    cases hbe:(ba==bb)
    ·go_wp2_with fail
     exact ⟨⟨k-1,q+1,l',by omega,by go_num,by omega,by omega,D9⟩,by simp [intOf];omega⟩
    ·have D10:=ay (D9.out.set (k:=i) (c:=xb) gM (by omega) ⟨s11,s12⟩)
     have D11:=ay (D10.out.set (k:=j) (c:=xa) gM hj1 ⟨s01,s02⟩);obtain ⟨d2,-,-⟩:=D10.out.cell hj1;have f3:=D10.out.thaw j;generalize dE (l'.set i xb) j=xc at *;clear D9 D10;go_wp2_with fail
     exact ⟨⟨k-1,q+1,_,by omega,by go_num,by omega,by omega,D11⟩,by simp [intOf];omega⟩
   ·have hj2:¬ (j:Int)<(L.length:Int):=by omega
    have hdi:decide ((j:Int)<(L.length:Int))=false:=decide_eq_false hj2;clear hj;go_wp2_with fail
    refine au (by kernel_rfl) (by kernel_rfl) ?_
    repeat (go_big_quiet_step (fail))
    refine wpQuiet_nil ?_;rintro _ ⟨x,rfl⟩;have D9:=ay (D8.out.grow gM (D8.out.rd.far x.below) (aH x.below _));go_wp2_with fail
    exact ⟨⟨k-1,q+1,l',by omega,by go_num,by omega,by omega,D9⟩,by simp [intOf];omega⟩
  ·have hke:k=0:=by omega
   subst hke;go_wp2_with fail
   exact bodyPost_ret (v:=.slice (some ⟨g,0,none⟩) L.length c) (by simp [results,Tryz.results24,go_sem]) rfl (by have hl:=HD.out.len;first | exact ⟨_,l',rfl,by omega,by omega,q,by omega,by omega,by rw [hl];exact HD.out⟩ | exact ⟨_,rfl,l',by omega,by omega,q,by omega,by omega,by rw [hl];exact HD.out⟩)
end Go.Proofs.YtcmgddnckohdaaaGreatDoor.Dr
namespace Go.Proofs.YtcmgddnckohdaaaGreatDoor.Dr
open Go.RowKit Sd Tx
attribute [local go_sem] Later.cell Later.frozen
def Bo:List ByteArray:=[⟨#[]⟩,⟨#[119,104,97,116]⟩,⟨#[107,105,110,100,32,97,49,32,49,32,49]⟩,⟨#[107,105,110,100,32,98,32,50,32,49]⟩,⟨#[107,105,110,100,32,99,32,49,32,53,49]⟩,⟨#[112,111,105,110,116,32,97,108,102,97,32,48,32,48]⟩,⟨#[112,111,105,110,116,32,113,32,49,54,32,48]⟩,⟨#[112,111,105,110,116,32,113,32,49]⟩,⟨#[115,101,116,32,107,108,49,32,107,105,110,100,32,51,32,110,111,112,101]⟩,⟨#[115,101,116,32,107,108,49,32,108,101,118,101,108,32,51,32,55]⟩,⟨#[115,101,116,32,75,32,108,101,118,101,108,32,51,32,51]⟩,⟨#[115,101,116,32,107,108,49,32,108,101,118,101,108,32,48,51,32,51]⟩,⟨#[115,101,116,32,107,108,49,32,119,104,97,116,32,51,32,51]⟩,⟨#[112,111,105,110,116,32,122,122,32,48,32,48]⟩,⟨#[107,105,110,100,32,113,32,49,32,50]⟩]
theorem F9:∀ s∈Bo,s.size≤20:=by decide
structure DT (w wr:World) (R q:Nat) (v:Value) (n:Nat) (l:List ByteArray):Prop where
 rd:Rd wr R q
 gr:w.grownBy wr (some R)
 ow:wr.ownsRow w.heap.size 9 1 v n (l.map Value.string)
 len:l.length=n
 sm:∀ x∈l,x.size≤300
theorem DT.grow {w wr wx:World} {R q qx n:Nat} {v:Value} {l:List ByteArray} (h:DT w wr R q v n l) (hR:R<w.heap.size) (hr:Rd wx R qx) (hg:wr.grownBy wx (some R)):DT w wx R qx v n l:=⟨hr,az h.gr hg,cy h.ow hg hR,h.len,h.sm⟩
theorem DT.call {w wr wx:World} {R q n:Nat} {v:Value} {l:List ByteArray} (h:DT w wr R q v n l) (hb:Below wr.heap.size wr wx):DT w wx R q v n l:=⟨h.rd.far hb,az h.gr (aH hb _),cj h.ow hb,h.len,h.sm⟩
theorem K9 {w:World} {base:Nat} {e:TypeId} {size g n cap:Nat} {xs:List Value} (h:w.ownsRow base e size (.slice (some ⟨g,0,none⟩) n cap) n xs) (k:Nat):w.frozen? ⟨g,k,none⟩=false:=by
 rcases h.2 with ⟨h0,_⟩ | ⟨g',cap',cur,hv,_,hc,_⟩
 ·cases h0
 ·cases hv
  simp [World.frozen?,hc]
theorem DT.cell {w wr:World} {R q n g cap k:Nat} {l:List ByteArray} (h:DT w wr R q (.slice (some ⟨g,0,none⟩) n cap) n l) (hk:k<n):wr.cell? ⟨g,k,none⟩=some (.string (dE l k))∧(dE l k).size≤300∧wr.frozen? ⟨g,k,none⟩=false:=by
 have hl:k<l.length:=by have:=h.len;omega
 have h1:=h.ow;rw [← h.len] at h1
 obtain ⟨g',o',c',e,h2,h3,h4⟩:=bO h1 (fun e=>by rw [e] at hl;simp at hl)
 injection e with e1 e2 e3
 injection e1 with e1
 injection e1 with e1 e5
 have h5:=h4 k _ (bA hl);rw [← e1,← e5,Nat.zero_add] at h5;exact ⟨h5,h.sm _ (List.mem_of_getElem? (bA hl)),K9 h.ow k⟩
theorem DT.set {w wr:World} {R q n g cap k:Nat} {l:List ByteArray} {c:ByteArray} (h:DT w wr R q (.slice (some ⟨g,0,none⟩) n cap) n l) (hR:R<w.heap.size) (hk:k<n) (hc:c.size≤300):DT w (wr.setCell ⟨g,k,none⟩ (.string c)) R q (.slice (some ⟨g,0,none⟩) n cap) n (l.set k c):=by
 have hg:w.heap.size≤g:=cE h.ow g rfl
 refine ⟨h.rd.late (fun j hj=>Below.heap_setCell _ _ _ _ (by show j≠g;omega)),bV h.gr _ _ hg,?_,by rw [List.length_set];exact h.len,fun x hx=>?_⟩
 ·rw [List.map_set]
  exact xJ h.ow (by omega)
 ·rcases List.mem_or_eq_of_mem_set hx with h1 | h1
  ·exact h.sm x h1
  ·rw [h1];exact hc
theorem DT.app {w wr wx:World} {R q n m:Nat} {v v':Value} {l l':List ByteArray} (h:DT w wr R q v n l) (hR:R<w.heap.size) (hown:wx.ownsRow w.heap.size 9 1 v' (n+m) (l.map Value.string++l'.map Value.string)) (hgrow:wr.grownBy wx v.ownBlock) (hm:l'.length=m) (hsm:∀ x∈l',x.size≤300):DT w wx R q v' (n+m) (l++l'):=by
 have hge:=cE h.ow
 refine ⟨?_,kU h.gr hgrow hge,by rw [List.map_append];exact hown,by rw [List.length_append,h.len,hm],fun x hx=>?_⟩
 ·have hs:=h.gr.size
  exact h.rd.late (fun j hj=>hgrow.block j (by omega) (fun e=>by have:=hge j (by first | exact e | exact e.symm);omega))
 ·rcases List.mem_append.1 hx with h1 | h1
  ·exact h.sm x h1
  ·exact hsm x h1
theorem bD {w:World} {base:Nat} {e:TypeId} {size g n cap:Nat} {xs:List Value} (h:w.ownsRow base e size (.slice (some ⟨g,0,none⟩) n cap) n xs):g<w.heap.size:=by
 rcases h.2 with ⟨h0,_⟩ | ⟨g',cap',cur,hv,_,hc,_⟩
 ·cases h0
 ·cases hv
  exact aP hc
theorem KC {l:List ByteArray} {k j:Nat} {x:ByteArray} (h:(l.take k)[j]?=some x):l[j]?=some x:=by
 rw [List.getElem?_take] at h
 split at h
 ·exact h
 ·cases h
theorem DT.far {w wr wx:World} {R q n g cap:Nat} {l:List ByteArray} {r:Option Nat} (h:DT w wr R q (.slice (some ⟨g,0,none⟩) n cap) n l) (hR:R<w.heap.size) (hg:wr.grownBy wx r) (hr:∀ q,r=some q→w.heap.size≤q∧q≠g):DT w wx R q (.slice (some ⟨g,0,none⟩) n cap) n l:=by
 have hs:=h.gr.size
 refine ⟨h.rd.late (fun j hj=>hg.block j (by omega) (fun e=>?_)),kU h.gr hg (fun q hq=>(hr q hq).1),br h.ow hg (fun q hq e=>?_),h.len,h.sm⟩
 ·have:=hr j (by first | exact e | exact e.symm)
  omega
 ·have:=hr q (by first | exact e | exact e.symm)
  have h2:some g=some q:=hq
  injection h2 with h2
  omega
theorem DT.src {w wr:World} {R q n g cap:Nat} {l:List ByteArray} (h:DT w wr R q (.slice (some ⟨g,0,none⟩) n cap) n l) (o:Nat) (m:List ByteArray) (hm:∀ (j:Nat) x,m[j]?=some x→l[o+j]?=some x):∀ (j:Nat) (u:Value),(m.map Value.string)[j]?=some u→wr.cell? ((⟨g,o,none⟩:Addr).add j)=some u:=fun j u hj=>by
 rw [List.getElem?_map,Option.map_eq_some_iff] at hj;obtain ⟨x,hx,rfl⟩:=hj;have h1:=hm j x hx;have hlt:o+j<l.length:=(List.getElem?_eq_some_iff.1 h1).1
 have h2:=(h.cell (k:=o+j) (by have:=h.len;omega)).1
 rw [bA hlt] at h1
 injection h1 with h1
 rw [h1] at h2;unfold Addr.add
 split
 ·rename_i hj0
  rw [hj0,Nat.add_zero] at h2;exact h2
 ·exact h2
theorem Es (R p:Nat) (v:Value) (l:List ByteArray) (w:World) (h:Rd w R p) (hp:p≤600000) (hv:dV w v l) (hl1:1≤l.length) (hl2:l.length≤82) (hx:∀ x∈l,x.size≤99) :
  Calls Tryz.prog 26 #[.pointer (some ⟨R,0,none⟩),v] w fun e w'=>∃ (v':Value) (l':List ByteArray),e=.returned v'∧l'.length≤300∧∃ q,p≤q∧q≤p+20∧DT w w' R q v' l'.length l':=by
 have gM:=h.lt;have jH:=ay h;have HV:=ay hv;obtain ⟨i0,hi,hz0,hz1,hz2⟩:=info_parts pG;obtain ⟨g,off,cap,rfl,hlc,hcm,-⟩:=hv;unfold maxLen at hcm;clear h
 go_enter Tryz.func26,Tryz.ntmps26
 have zn:Hid (∀ (j:Nat) (u:Value),(l.map Value.string)[j]?=some u→(w.alloc (.cells #[] 9)).cell? ((⟨g,off,none⟩:Addr).add j)=some u):=fun j u hj=>by
  obtain ⟨g',o',c',e,h2,h3,h4⟩:=HV.out.keep ((Below.refl _ _).alloc aG (.cells #[] 9))
  injection e with e1 e2 e3
  injection e1 with e1
  injection e1 with e1 e5
  rw [List.getElem?_map,Option.map_eq_some_iff] at hj;obtain ⟨x,hx,rfl⟩:=hj;have h5:=h4 j x hx;rw [← e1,← e5] at h5;unfold Addr.add
  split
  ·rename_i hj0
   rw [hj0,Nat.add_zero] at h5;exact h5
  ·exact h5
 have D0:Hid (DT w (w.alloc (.cells #[] 9)) R p (.slice (some ⟨w.heap.size,0,none⟩) 0 0) 0 []):=⟨jH.out.far (aM),aH (aM) _,World.ownsRow_made w #[] 0 aG (Nat.zero_le _) rfl,rfl,fun x hx=>by cases hx⟩
 go_wp2_with (at_builtin;refine aZ _ rfl _ _ 46 rfl w.heap.size 9 i0 (.string ByteArray.empty) 1 16 Tryz.underlying46 hi hz0 hz1 hz2 rfl (by decide) _ 0 [] rfl D0.out.ow (some ⟨g,off,none⟩) l.length cap (l.map Value.string) rfl (.inr ⟨_,rfl,zn.out⟩) (by simp) (fun u hu=>by rw [List.mem_map] at hu;obtain ⟨x,-,rfl⟩:=hu;rfl) (by unfold maxLen;omega) (by omega) (by simp) ?_;intro v1 w1 hown1 hgrow1 hnil1)
 have D1:Hid (DT w w1 R p v1 (0+l.length) ([]++l)):=D0.out.app gM hown1 hgrow1 rfl (fun x h=>Nat.le_trans (hx x h) (by omega))
 rw [Nat.zero_add,List.nil_append] at D1;rw [Nat.zero_add] at hown1;obtain ⟨g1,c1,rfl,hlc1,hcm1⟩:=mF hown1 hl1;unfold maxLen at hcm1;clear hown1 hgrow1 hnil1 D0 zn HV jH hlc hcm
 have hu:Tryz.prog.underlying 46=some (.slice (Tryz.prog.elem 46)):=by simp [go_sem]
 go_wp2_with fail;rw [run_len_slice w1 _ _ _ _ _ hu];clear hu;go_wp2_with fail
 refine (aL R p (l.length:Int) _ D1.out.rd (by omega) (by omega)).mono ?_
 rintro e w2 ⟨x,rfl,hx0,hx1,-,hr2,hg2⟩
 have hx1:=hx1 (by omega)
 obtain ⟨k,rfl⟩:∃ n:Nat,x=n:=⟨x.toNat,by omega⟩
 have D2:=ay (D1.out.grow gM hr2 hg2);clear hr2 hg2 D1;go_wp2_with fail
 refine (aL R (p+1) 6 _ D2.out.rd (by omega) (by omega)).mono ?_
 rintro e w3 ⟨y,rfl,hy0,hy1,-,hr3,hg3⟩
 have hy1:=hy1 (by omega)
 have D3:=ay (D2.out.grow gM hr3 hg3);clear hr3 hg3 D2
 have hkl:k<l.length:=by omega
 rcases (show y=0∨y=1∨y=2∨y=3∨y=4∨y=5 by omega) with rfl | rfl | rfl | rfl | rfl | rfl
 all_goals clear hy0 hy1
 ·have HK:Hid (Below w3.heap.size w3 (w3.alloc (.cells #[.string ⟨#[]⟩,.string ⟨#[119,104,97,116]⟩,.string ⟨#[107,105,110,100,32,97,49,32,49,32,49]⟩,.string ⟨#[107,105,110,100,32,98,32,50,32,49]⟩,.string ⟨#[107,105,110,100,32,99,32,49,32,53,49]⟩,.string ⟨#[112,111,105,110,116,32,97,108,102,97,32,48,32,48]⟩,.string ⟨#[112,111,105,110,116,32,113,32,49,54,32,48]⟩,.string ⟨#[112,111,105,110,116,32,113,32,49]⟩,.string ⟨#[115,101,116,32,107,108,49,32,107,105,110,100,32,51,32,110,111,112,101]⟩,.string ⟨#[115,101,116,32,107,108,49,32,108,101,118,101,108,32,51,32,55]⟩,.string ⟨#[115,101,116,32,75,32,108,101,118,101,108,32,51,32,51]⟩,.string ⟨#[115,101,116,32,107,108,49,32,108,101,118,101,108,32,48,51,32,51]⟩,.string ⟨#[115,101,116,32,107,108,49,32,119,104,97,116,32,51,32,51]⟩,.string ⟨#[112,111,105,110,116,32,122,122,32,48,32,48]⟩,.string ⟨#[107,105,110,100,32,113,32,49,32,50]⟩] 9))):=(aM)
  have HS:Hid (dV (w3.alloc (.cells #[.string ⟨#[]⟩,.string ⟨#[119,104,97,116]⟩,.string ⟨#[107,105,110,100,32,97,49,32,49,32,49]⟩,.string ⟨#[107,105,110,100,32,98,32,50,32,49]⟩,.string ⟨#[107,105,110,100,32,99,32,49,32,53,49]⟩,.string ⟨#[112,111,105,110,116,32,97,108,102,97,32,48,32,48]⟩,.string ⟨#[112,111,105,110,116,32,113,32,49,54,32,48]⟩,.string ⟨#[112,111,105,110,116,32,113,32,49]⟩,.string ⟨#[115,101,116,32,107,108,49,32,107,105,110,100,32,51,32,110,111,112,101]⟩,.string ⟨#[115,101,116,32,107,108,49,32,108,101,118,101,108,32,51,32,55]⟩,.string ⟨#[115,101,116,32,75,32,108,101,118,101,108,32,51,32,51]⟩,.string ⟨#[115,101,116,32,107,108,49,32,108,101,118,101,108,32,48,51,32,51]⟩,.string ⟨#[115,101,116,32,107,108,49,32,119,104,97,116,32,51,32,51]⟩,.string ⟨#[112,111,105,110,116,32,122,122,32,48,32,48]⟩,.string ⟨#[107,105,110,100,32,113,32,49,32,50]⟩] 9)) (.slice (some ⟨w3.heap.size,0,none⟩) 15 15) Bo):=mW Bo (aI w3 _) rfl (by decide)
  have D4:=ay (D3.out.call HK.out);go_wp2_with fail
  refine (qO R (p+1+1) _ Bo _ D4.out.rd (by omega) HS.out (by decide)).mono ?_
  rintro e w5 ⟨s,rfl,hs,qA,hg5⟩;have D5:=ay (D4.out.grow gM qA hg5)
  have hsz:s.size≤300:=Nat.le_trans (F9 s hs) (by omega)
  obtain ⟨hc,-,hfr⟩:=D5.out.cell hkl;have D6:=ay (D5.out.set gM hkl hsz);clear qA hg5 D5 D4 D3 HK HS;go_wp2_with fail
  exact bodyPost_ret (v:=.slice (some ⟨g1,0,none⟩) l.length c1) (by simp [results,Tryz.results26,go_sem]) rfl (by first | exact ⟨_,l.set k s,rfl,by rw [List.length_set];omega,p+1+1+1,by omega,by omega,(by rw [List.length_set];exact D6.out)⟩ | exact ⟨_,rfl,l.set k s,by rw [List.length_set];omega,p+1+1+1,by omega,by omega,(by rw [List.length_set];exact D6.out)⟩)
 ·go_wp2
  refine wp_region_noPanic ?_
  refine wp_region_held_drew (S:=fun _=>True) (by kernel_rfl) trivial (fun hHeld=>?_)
  have D4:=ay (D3.out.call (Below.refl _ _).drew);generalize w3.drew=W0 at *;clear D3
  have hk0:(0:Int)≤(k:Int):=by omega
  have hkc:(k:Int)≤(c1:Int):=by omega
  obtain ⟨k1,hk1⟩:∃ k1:Nat,k1=k+1:=⟨_,rfl⟩
  have hw:IntKind.i64.wrap ((k:Int)+1)=(k1:Int):=by rw [IntKind.wrap_i64];omega
  have hw2:(0:Int)≤(k1:Int):=by omega
  have hw3:(k1:Int)≤(l.length:Int):=by omega
  have Ho:=ay hk1;clear hk1
  obtain ⟨ab,hab⟩:∃ ab:Option Addr,(if c1=k1 then some (⟨g1,0,none⟩:Addr) else some ⟨g1,k1,none⟩)=ab:=⟨_,rfl⟩
  have HAB:=ay hab;refine aO 1 ?_ rfl ?_ (aO 2 ?_ rfl ?_ (aO 3 ?_ rfl ?_ (aO 5 ?_ rfl ?_ (aO 6 ?_ rfl ?_ (aO 7 ?_ rfl ?_ (aO 8 ?_ rfl ?_ ?_))))))
  iterate 7 (rotate_left;focus (intro w hSw;(try dsimp only at hSw);simp only [Act.put,aU];go_simp;try with_reducible rfl))
  simp only [Act.put,aU]
  clear hHeld hab hw hw2 hw3;refine bE 0 rfl (fun K hK=>?_);go_simp
  have E5:Hid (DT w (W0.alloc (.cells #[] 9)) R (p+1+1) (.slice (some ⟨W0.heap.size,0,none⟩) 0 0) 0 []):=⟨D4.out.rd.far (aM),az D4.out.gr (aH (aM) _),be (aI W0 _) D4.out.gr.size 1,rfl,fun x hx=>by cases hx⟩
  have D5:=ay (D4.out.call ((Below.refl _ _).alloc aG (.cells #[] 9)));have HN:Hid (g1<W0.heap.size∧w.heap.size≤W0.heap.size):=⟨bD D4.out.ow,D4.out.gr.size⟩;refine hK.out _ _ trivial (fun _=>?_);clear hK K D4
  have HZ:Hid ((W0.alloc (.cells #[] 9)).heap.size=W0.heap.size+1):=by show _=_;simp
  generalize W0.alloc (.cells #[] 9)=W1 at *;generalize W0.heap.size=NS at *;refine bE 4 rfl (fun K hK=>?_)
  refine aj _ rfl _ _ 46 rfl w.heap.size 9 i0 (.string ByteArray.empty) 1 16 Tryz.underlying46 hi hz0 hz1 hz2 rfl (by decide) _ 0 [] rfl E5.out.ow (some ⟨g1,0,none⟩) k c1 ((l.take k).map Value.string) rfl (.inr ⟨_,rfl,D5.out.src 0 (l.take k) (fun j x hj=>by rw [Nat.zero_add];exact KC hj)⟩) (by simp;omega) (fun u hu=>by rw [List.mem_map] at hu;obtain ⟨x,-,rfl⟩:=hu;rfl) (by unfold maxLen;omega) (by omega) E5.out.gr.size ?_
  intro va W2 hown hgrow hat
  have D6:=ay (D5.out.far gM hgrow (fun q hq=>by (have h2:some NS=some q:=hq);injection h2 with h2;have:=HN.out;omega))
  have E6:=ay (E5.out.app (l':=l.take k) gM hown hgrow (by simp;omega) (fun x h=>Nat.le_trans (hx x (List.mem_of_mem_take h)) (by omega)))
  have HVA:Hid (∀ q,va.ownBlock=some q→w.heap.size≤q∧q≠g1):=fun q hq=>by
   have hn:=HN.out;have hz:=HZ.out
   rcases hat with h | h
   ·rw [h] at hq
    have h2:some NS=some q:=hq
    injection h2 with h2
    omega
   ·rw [h] at hq
    injection hq with h2
    omega
  refine hK.out _ _ trivial (fun _=>?_);rw [Nat.zero_add,List.nil_append] at E6;clear hK K D5 E5 hown hgrow hat;refine bE 9 rfl (fun K hK=>?_)
  refine aj _ rfl _ _ 46 rfl w.heap.size 9 i0 (.string ByteArray.empty) 1 16 Tryz.underlying46 hi hz0 hz1 hz2 rfl (by decide) _ k ((l.take k).map Value.string) rfl E6.out.ow ab (l.length-k1) (c1-k1) ((l.drop k1).map Value.string) rfl ?_ (by simp) (fun u hu=>by rw [List.mem_map] at hu;obtain ⟨x,-,rfl⟩:=hu;rfl) (by unfold maxLen;omega) (by omega) E6.out.gr.size ?_
  ·by_cases hck:c1=k1
   ·left;omega
   ·right
    have h1:=HAB.out;rw [if_neg hck] at h1
    exact ⟨_,h1.symm,D6.out.src k1 (l.drop k1) (fun j x hj=>by rw [List.getElem?_drop] at hj;exact hj)⟩
  intro vb W3 hown hgrow hat
  have E7:=ay (E6.out.app (l':=l.drop k1) gM hown hgrow (by simp) (fun x h=>Nat.le_trans (hx x (List.mem_of_mem_drop h)) (by omega)))
  refine hK.out _ _ trivial (fun hHeld=>?_);clear hK K D6 E6 hgrow hat;refine aO 10 ?_ rfl ?_ ?_;rotate_left
  ·intro w hSw;(try dsimp only at hSw);go_simp;try with_reducible rfl
  simp only [Act.put,aU]
  refine wpAnyH_done (by kernel_rfl) ?_ _
  refine NoPanic.normal ?_
  have HLN:Hid ((l.take k++l.drop k1).length=k+(l.length-k1)):=by show _=_;simp;omega
  go_wp2_with fail
  exact bodyPost_ret (v:=vb) (by simp [results,Tryz.results26,go_sem]) rfl (by first | exact ⟨_,l.take k++l.drop k1,rfl,by rw [HLN.out];omega,p+1+1,by omega,by omega,(by rw [HLN.out];exact E7.out)⟩ | exact ⟨_,rfl,l.take k++l.drop k1,by rw [HLN.out];omega,p+1+1,by omega,by omega,(by rw [HLN.out];exact E7.out)⟩)
 ·go_wp2_with fail
  go_loopw [5,7] (fun o i wr=>∃ (m:Nat) (l':List ByteArray),m≤13∧i=.int .i64 m∧l'.length=l.length+m∧Hid (DT w wr R (p+1+1) o l'.length l')) (fun _ i _=>13-(intOf i).toNat)
  case atStart=>exact ⟨0,l,Nat.zero_le _,rfl,rfl,D3.out⟩
  case round =>
   obtain ⟨m,l',hm,rfl,hlm,HD⟩:=hrel
   by_cases hlt:m<13
   ·have hm1:(m:Int)<13:=by omega
    go_wp2_with fail
    refine (bv m (by omega) _).mono ?_
    rintro e w4 ⟨rfl,hb4⟩
    have hdz:(dW m).size≤7:=aR m (by omega)
    have D4:=ay (HD.out.call hb4);have D5:Hid (DT w (w4.alloc (.cells #[.string (⟨#[115,101,116,32,103]⟩++dW m++⟨#[32,108,101,118,101,108,32,49,32,49]⟩)] 9)) R (p+1+1) u5 l'.length l'):=D4.out.call (aM);have hb5:=D4.out.gr.size;clear HD hb4 D4;generalize dW m=dm at *
    go_wp2_with (at_builtin;refine aZ _ rfl _ _ 46 rfl w.heap.size 9 i0 (.string ByteArray.empty) 1 16 Tryz.underlying46 hi hz0 hz1 hz2 rfl (by decide) _ _ _ rfl D5.out.ow _ 1 1 [.string (⟨#[115,101,116,32,103]⟩++dm++⟨#[32,108,101,118,101,108,32,49,32,49]⟩)] rfl (.inr ⟨_,rfl,World.news_of_block (aI w4 _)⟩) rfl (fun u hu=>by simp at hu;subst hu;rfl) (by unfold maxLen;omega) (by omega) (by simp;omega) ?_;intro v' w6 hown' yF hnil6)
    have D6:=ay (D5.out.app (l':=[⟨#[115,101,116,32,103]⟩++dm++⟨#[32,108,101,118,101,108,32,49,32,49]⟩]) gM hown' yF rfl (fun x hx=>by rw [List.mem_singleton] at hx;subst hx;(have h1:(⟨#[115,101,116,32,103]⟩:ByteArray).size=5:=rfl);(have h2:(⟨#[32,108,101,118,101,108,32,49,32,49]⟩:ByteArray).size=10:=rfl);simp only [ByteArray.size_append,h1,h2];omega))
    exact ⟨⟨m+1,l'++[⟨#[115,101,116,32,103]⟩++dm++⟨#[32,108,101,118,101,108,32,49,32,49]⟩],by omega,by go_num,by simp;omega,ay (by simpa using D6.out)⟩,by simp [intOf];omega⟩
   ·have hme:m=13:=by omega
    subst hme;go_wp2_with fail
    exact bodyPost_ret (v:=u5) (by simp [results,Tryz.results26,go_sem]) rfl (by first | exact ⟨_,l',rfl,by omega,p+1+1,by omega,by omega,HD.out⟩ | exact ⟨_,rfl,l',by omega,p+1+1,by omega,by omega,HD.out⟩)
 ·go_wp2_with fail
  go_loopw [5,8] (fun o i wr=>∃ (m:Nat) (l':List ByteArray),m≤7∧i=.int .i64 m∧l'.length=l.length+m∧Hid (DT w wr R (p+1+1) o l'.length l')) (fun _ i _=>7-(intOf i).toNat)
  case atStart=>exact ⟨0,l,Nat.zero_le _,rfl,rfl,D3.out⟩
  case round =>
   obtain ⟨m,l',hm,rfl,hlm,HD⟩:=hrel
   by_cases hlt:m<7
   ·have hm1:(m:Int)<7:=by omega
    go_wp2_with fail
    refine (bv m (by omega) _).mono ?_
    rintro e w4 ⟨rfl,hb4⟩
    have hdz:(dW m).size≤7:=aR m (by omega)
    have D4:=ay (HD.out.call hb4);have D5:Hid (DT w (w4.alloc (.cells #[.string (⟨#[107,105,110,100,32,103]⟩++dW m++⟨#[32,49,32,49]⟩)] 9)) R (p+1+1) u5 l'.length l'):=D4.out.call (aM);have hb5:=D4.out.gr.size;clear HD hb4 D4;generalize dW m=dm at *
    go_wp2_with (at_builtin;refine aZ _ rfl _ _ 46 rfl w.heap.size 9 i0 (.string ByteArray.empty) 1 16 Tryz.underlying46 hi hz0 hz1 hz2 rfl (by decide) _ _ _ rfl D5.out.ow _ 1 1 [.string (⟨#[107,105,110,100,32,103]⟩++dm++⟨#[32,49,32,49]⟩)] rfl (.inr ⟨_,rfl,World.news_of_block (aI w4 _)⟩) rfl (fun u hu=>by simp at hu;subst hu;rfl) (by unfold maxLen;omega) (by omega) (by simp;omega) ?_;intro v' w6 hown' yF hnil6)
    have D6:=ay (D5.out.app (l':=[⟨#[107,105,110,100,32,103]⟩++dm++⟨#[32,49,32,49]⟩]) gM hown' yF rfl (fun x hx=>by rw [List.mem_singleton] at hx;subst hx;(have h1:(⟨#[107,105,110,100,32,103]⟩:ByteArray).size=6:=rfl);(have h2:(⟨#[32,49,32,49]⟩:ByteArray).size=4:=rfl);simp only [ByteArray.size_append,h1,h2];omega))
    exact ⟨⟨m+1,l'++[⟨#[107,105,110,100,32,103]⟩++dm++⟨#[32,49,32,49]⟩],by omega,by go_num,by simp;omega,ay (by simpa using D6.out)⟩,by simp [intOf];omega⟩
   ·have hme:m=7:=by omega
    subst hme;go_wp2_with fail
    exact bodyPost_ret (v:=u5) (by simp [results,Tryz.results26,go_sem]) rfl (by first | exact ⟨_,l',rfl,by omega,p+1+1,by omega,by omega,HD.out⟩ | exact ⟨_,rfl,l',by omega,p+1+1,by omega,by omega,HD.out⟩)
 ·obtain ⟨hc,hz,-⟩:=D3.out.cell hkl
  have D3L:(dE l k).size≤99:=hx _ (List.mem_of_getElem? (bA hkl));generalize dE l k=s0 at *;go_wp2_with fail;clear hc
  refine (Gx R (p+1+1) s0 _ D3.out.rd (by omega) (by omega)).mono ?_
  rintro e w5 ⟨s,rfl,hs,q5,hq0,hq1,qA,hg5⟩;have D5:=ay (D3.out.grow gM qA hg5)
  have hsz:s.size≤300:=by have:=D3L;omega
  obtain ⟨hc,-,hfr⟩:=D5.out.cell hkl;have D6:=ay (D5.out.set gM hkl hsz);clear qA hg5 D5 D3;go_wp2_with fail
  exact bodyPost_ret (v:=.slice (some ⟨g1,0,none⟩) l.length c1) (by simp [results,Tryz.results26,go_sem]) rfl (by first | exact ⟨_,l.set k s,rfl,by rw [List.length_set];omega,q5,by omega,by omega,(by rw [List.length_set];exact D6.out)⟩ | exact ⟨_,rfl,l.set k s,by rw [List.length_set];omega,q5,by omega,by omega,(by rw [List.length_set];exact D6.out)⟩)
 ·go_wp2_with fail
  refine (aL R (p+1+1) 2 _ D3.out.rd (by omega) (by omega)).mono ?_
  rintro e w4 ⟨u,rfl,hu0,hu1,-,hr4,hg4⟩
  have hu1:=hu1 (by omega)
  have D4:=ay (D3.out.grow gM hr4 hg4);clear hr4 hg4 D3
  obtain ⟨u',rfl⟩:∃ n:Nat,u=n:=⟨u.toNat,by omega⟩
  go_wp2_with fail
  go_loopw [5] (fun o wr=>∃ l':List ByteArray,l'.length≤201∧Hid (DT w wr R (p+1+1+1) o l'.length l')∧∃ a c,o=.slice a l'.length c) (fun o _=>201-(match o with | .slice _ n _=>n | _=>0))
  case atStart=>exact ⟨l,by omega,D4.out,_,_,rfl⟩
  case round =>
   obtain ⟨l',hlm,HD,a,c,rfl⟩:=hrel
   by_cases hlt:(l'.length:Int)<200+(u':Int)
   ·have D5:Hid (DT w (wr.alloc (.cells #[.string ⟨#[115,101,116,32,107,108,49,32,108,101,118,101,108,32,57,32,50]⟩] 9)) R (p+1+1+1) (.slice a l'.length c) l'.length l'):=HD.out.call (aM)
    have hb5:=HD.out.gr.size;clear HD
    go_wp2_with (at_builtin;refine aZ _ rfl _ _ 46 rfl w.heap.size 9 i0 (.string ByteArray.empty) 1 16 Tryz.underlying46 hi hz0 hz1 hz2 rfl (by decide) _ _ _ rfl D5.out.ow _ 1 1 [.string ⟨#[115,101,116,32,107,108,49,32,108,101,118,101,108,32,57,32,50]⟩] rfl (.inr ⟨_,rfl,World.news_of_block (aI wr _)⟩) rfl (fun u hu=>by simp at hu;subst hu;rfl) (by unfold maxLen;omega) (by omega) (by simp;omega) ?_;intro v' w6 hown' yF hnil6)
    have D6:=ay (D5.out.app (l':=[⟨#[115,101,116,32,107,108,49,32,108,101,118,101,108,32,57,32,50]⟩]) gM hown' yF rfl (fun x hx=>by rw [List.mem_singleton] at hx;subst hx;decide))
    obtain ⟨a6,c6,rfl⟩:=bU hown'
    exact ⟨⟨l'++[⟨#[115,101,116,32,107,108,49,32,108,101,118,101,108,32,57,32,50]⟩],by simp;omega,ay (by simpa using D6.out),a6,c6,by simp⟩,by simp;omega⟩
   ·go_wp2_with fail
    exact bodyPost_ret (v:=.slice a l'.length c) (by simp [results,Tryz.results26,go_sem]) rfl (by first | exact ⟨_,l',rfl,by omega,p+1+1+1,by omega,by omega,HD.out⟩ | exact ⟨_,rfl,l',by omega,p+1+1+1,by omega,by omega,HD.out⟩)
end Go.Proofs.YtcmgddnckohdaaaGreatDoor.Dr
namespace Go.Proofs.YtcmgddnckohdaaaGreatDoor.Dr
open Go.RowKit Sd Tx
attribute [local go_sem] Later.cell Later.frozen
theorem Ju (b:Nat) (w:World) :
  Calls Tryz.prog 28 #[.int .i64 1,.int .i64 (b:Int)] w fun e w'=>∃ m:Nat,e=.returned (.int .i64 (m:Int))∧m≤b∧m≤1∧w'=w:=by
 by_cases h:(1:Int)<(b:Int)
 ·go_enter Tryz.func28,Tryz.ntmps28
  go_wp2;go_ret
  exact ⟨1,rfl,by omega,by omega,by first | rfl | trivial⟩
 ·go_enter Tryz.func28,Tryz.ntmps28
  go_wp2;go_ret
  exact ⟨b,rfl,by omega,by omega,by first | rfl | trivial⟩
theorem zM (v:Value) (n:Nat) (w:World) (h:nN w v n) :
  Calls Tryz.prog 7 #[v] w fun e w'=>∃ s:ByteArray,e=.returned (.string s)∧s.size≤1048576∧Below w.heap.size w w':=by
 have HA:=ay h;obtain ⟨a,cap,rfl,-⟩:=h
 go_enter Tryz.func7,Tryz.ntmps7
 go_wp2_with fail;refine (Gy _ n _ HA.out).mono ?_;rintro e w2 ⟨R,rfl,hR,hr2,hb2⟩;have B2:=ay hb2;have R2:=ay hr2
 have hRw:w.heap.size≤R:=by omega
 have hR2:R<w2.heap.size:=hr2.lt;clear hr2 hb2 HA;go_wp2_with fail
 refine (Gt R 0 _ R2.out (by omega)).mono ?_
 rintro e w3 ⟨v,l,rfl,hl1,hl2,q3,hq0,hq1,hd3⟩;have B3:Hid (Below w.heap.size w w3):=bz B2.out hd3.gr hRw;obtain ⟨g,c,rfl,hlc,hcm⟩:=mF hd3.ow hl1;unfold maxLen at hcm;have D3:=ay hd3;clear hd3 B2 R2;go_wp2_with fail
 refine (aL R q3 2 _ D3.out.rd (by omega) (by omega)).mono ?_
 rintro e w4 ⟨x,rfl,hx0,hx1,-,hr4,hg4⟩;have D4:Hid (Rd w4 R (q3+1)∧Below w.heap.size w w4∧w4.ownsRow w2.heap.size 9 1 (.slice (some ⟨g,0,none⟩) l.length c) l.length (l.map Value.string)∧∀ x∈l,x.size≤99):=⟨hr4,bz B3.out hg4 hRw,cy D3.out.ow hg4 hR2,fun x hx=>(D3.out.sm x hx).1⟩;clear hr4 hg4 D3 B3
 have hx2:=hx1 (by omega)
 rcases (show x=0∨x=1 by omega) with rfl | rfl
 focus
  go_wp2_with fail
  refine (Es R (q3+1) _ l _ D4.out.1 (by omega) (bO D4.out.2.2.1 (fun e=>by rw [e] at hl1;simp at hl1)) hl1 hl2 D4.out.2.2.2).mono ?_
  rintro e w5 ⟨v5,l5,rfl,hl5,q5,hq2,hq3,hd5⟩;have D5:Hid (Rd w5 R q5∧Below w.heap.size w w5∧w5.ownsRow w4.heap.size 9 1 v5 l5.length (l5.map Value.string)∧∀ x∈l5,x.size≤300):=⟨hd5.rd,bz D4.out.2.1 hd5.gr hRw,hd5.ow,hd5.sm⟩;clear hd5 D4;go_wp2_with fail
  refine (sw _ l5 _ (aJ D5.out.2.2.1 (Nat.zero_le _)) (by omega) (fun x hx=>Nat.le_trans (D5.out.2.2.2 x hx) (by omega))).mono ?_
 rotate_left
 focus
  have D5:Hid (Rd w4 R (q3+1)∧Below w.heap.size w w4∧w4.ownsRow w2.heap.size 9 1 (.slice (some ⟨g,0,none⟩) l.length c) l.length (l.map Value.string)∧∀ x∈l,x.size≤300):=⟨D4.out.1,D4.out.2.1,D4.out.2.2.1,fun x hx=>Nat.le_trans (D4.out.2.2.2 x hx) (by omega)⟩
  clear D4;obtain ⟨q5,hq5⟩:∃ q5:Nat,q5=q3+1:=⟨_,rfl⟩;rw [← hq5] at D5;obtain ⟨l5,rfl⟩:∃ l5,l=l5:=⟨_,rfl⟩;go_wp2_with fail
  refine (sw _ l _ (aJ D5.out.2.2.1 (Nat.zero_le _)) (by omega) (fun x hx=>Nat.le_trans (D5.out.2.2.2 x hx) (by omega))).mono ?_
 rotate_left
 all_goals
  rintro e w6 ⟨s,rfl,hs,rfl⟩;go_wp2_with fail
  refine (aL R q5 24 _ D5.out.1 (by omega) (by omega)).mono ?_
  rintro e w7 ⟨y,rfl,hy0,hy1,-,sG,lT⟩
  have hsz:s.size≤1000000:=by omega
  have D7:Hid (Rd w7 R (q5+1)∧Below w.heap.size w w7):=⟨sG,bz D5.out.2.1 lT hRw⟩;clear sG lT D5 hs
  by_cases hy:y=0
  ·subst hy
   clear hy0 hy1;go_wp2_with fail
   refine (aL R (q5+1) 2 _ D7.out.1 (by omega) (by omega)).mono ?_
   rintro e w8 ⟨u,rfl,hu0,hu1,-,hr8,hg8⟩
   have hu1:=hu1 (by omega)
   obtain ⟨u',rfl⟩:∃ n:Nat,u=n:=⟨u.toNat,by omega⟩
   have D8:Hid (Rd w8 R (q5+1+1)∧Below w.heap.size w w8):=⟨hr8,bz D7.out.2 hg8 hRw⟩;clear hr8 hg8 D7;go_wp2_with fail;refine (Ju s.size _).mono ?_;rintro e w9 ⟨m,rfl,hm0,hm1,rfl⟩;obtain ⟨z,hz⟩:∃ z:Nat,z=s.size-u'*m:=⟨_,rfl⟩
   have hzm:u'*m≤m:=by
    rcases (show u'=0∨u'=1 by omega) with rfl | rfl
    ·omega
    ·omega
   have IA:(s.size:Int)-(u':Int)*(m:Int)=(z:Int):=by
    have:((u'*m:Nat):Int)=(u':Int)*(m:Int):=by simp
    omega
   go_wp2_with fail
   exact bodyPost_ret (v:=.string (s.extract 0 (s.size-u'*m))) (by simp [results,Tryz.results7,go_sem]) rfl ⟨_,rfl,by rw [ByteArray.size_extract];omega,D8.out.2⟩
  by_cases hy2:y=1
  ·subst hy2
   clear hy0 hy1 hy;go_wp2_with fail
   refine (aL R (q5+1) 2 _ D7.out.1 (by omega) (by omega)).mono ?_
   rintro e w8 ⟨u,rfl,hu0,hu1,-,hr8,hg8⟩
   have hu1:=hu1 (by omega)
   obtain ⟨u',rfl⟩:∃ n:Nat,u=n:=⟨u.toNat,by omega⟩
   have D8:Hid (Rd w8 R (q5+1+1)∧Below w.heap.size w w8):=⟨hr8,bz D7.out.2 hg8 hRw⟩;clear hr8 hg8 D7
   have HM:=ay (Gz ⟨#[120]⟩ (10000+u') w8 (by show 1*(10000+u')≤20000;omega) (by omega) (by decide))
   rw [show ((10000+u':Nat):Int)=10000+(u':Int) from by omega] at HM
   go_wp2_with fail;refine HM.out.mono ?_;rintro e w9 ⟨t,rfl,ht,rfl⟩
   have htz:t.size≤20000:=Nat.le_trans ht (by show 1*(10000+u')≤20000;omega)
   clear HM ht;go_wp2_with fail
   exact bodyPost_ret (v:=.string t) (by simp [results,Tryz.results7,go_sem]) rfl ⟨_,rfl,by omega,D8.out.2⟩
  have hyb:(y==0)=false:=by simp [hy]
  have hyc:(y==1)=false:=by simp [hy2]
  clear hy hy2 hy0 hy1;go_wp2_with fail
  exact bodyPost_ret (v:=.string s) (by simp [results,Tryz.results7,go_sem]) rfl ⟨_,rfl,by omega,D7.out.2⟩
end Go.Proofs.YtcmgddnckohdaaaGreatDoor.Dr
namespace Go.Proofs.YtcmgddnckohdaaaGreatDoor.Tx
open Go.RowKit Sd
theorem II {l:List dx} {t:dx} {v:ByteArray} (h:l.Pairwise fun a b=>iU a.s b.s=true) (hh:hasB l t.s=false) (hv:hasB l v=true):hasB (fD l (iH l t.s) t) v=true:=by
 have hno:∀ x∈l,x.s≠t.s:=fun x hx e=>by
  rw [(sN h _).2 ⟨x,hx,e⟩] at hh
  cases hh
 obtain ⟨x,hx,e⟩:=(sN h v).1 hv;exact (sN (nC h hno) v).2 ⟨x,pq.2 (.inr hx),e⟩
theorem Mf {ks ps:List dx} {t:dx} {c:dP} (hk:dM ks=true) (hh:hasB ks t.s=false) (h:gy ks ps c=true):gy (fD ks (iH ks t.s) t) ps c=true:=by
 unfold gy gU at *;rw [Bool.and_eq_true,Bool.and_eq_true] at *;refine ⟨h.1,h.2.1,?_⟩;have h2:=h.2.2
 by_cases e:c.what=1
 ·rw [if_pos e] at h2 ⊢
  exact II ((cz _).1 hk).2.2 hh h2
 ·rw [if_neg e] at h2 ⊢
  exact h2
theorem I9 {ps:List dx} {t:dx} {ws:List ByteArray} (hp:dH ps=true) (hh:hasB ps t.s=false) (h:gL ps ws=true):gL (fD ps (iH ps t.s) t) ws=true:=by
 unfold gL gT at *
 simp only [Bool.and_eq_true,fw,List.all_eq_true,List.mem_range] at h ⊢
 exact ⟨h.1,fun i hi=>⟨II ((ca _).1 hp).2.2.1 hh (h.2 i hi).1,(h.2 i hi).2⟩⟩
theorem Me {ks ps:List dx} {t:dx} {c:dP} (hp:dH ps=true) (hh:hasB ps t.s=false) (h:gy ks ps c=true):gy ks (fD ps (iH ps t.s) t) c=true:=by
 unfold gy gU at *;rw [Bool.and_eq_true,Bool.and_eq_true] at *;refine ⟨h.1,h.2.1,?_⟩;have h2:=h.2.2
 by_cases e1:c.what=1
 ·rw [if_pos e1] at h2 ⊢
  exact h2
 by_cases e2:c.what=2
 ·rw [if_neg e1,if_pos e2] at h2 ⊢
  exact h2
 by_cases e3:c.what=3
 ·rw [if_neg e1,if_neg e2,if_pos e3] at h2 ⊢
  exact h2
 by_cases e4:c.what=4
 ·rw [if_neg e1,if_neg e2,if_neg e3,if_pos e4] at h2 ⊢
  exact I9 hp hh h2
 ·rw [if_neg e1,if_neg e2,if_neg e3,if_neg e4] at h2 ⊢
  exact h2
theorem AU {ks ps ks' ps':List dx} {es:List dU} (h:dJ ks ps es=true) (hb:eF ks' ps'=true) (hf:∀ c,gy ks ps c=true→gy ks' ps' c=true):dJ ks' ps' es=true:=by
 unfold dJ fieldsB at *
 simp only [Bool.and_eq_true,fw,List.all_eq_true,List.mem_range] at h ⊢
 exact ⟨hb,h.2.1,fun i hi=>⟨fun j hj=>⟨((h.2.2 i hi).1 j hj).1,hf _ ((h.2.2 i hi).1 j hj).2⟩,(h.2.2 i hi).2⟩⟩
theorem Jr {rd:ByteArray→dP×Bool} {b:Bk} {l:ByteArray} (h:dJ b.1 b.2.1 b.2.2=true) (h0:eU rd b l=0):dJ (dX rd b l).1 (dX rd b l).2.1 (dX rd b l).2.2=true:=by
 obtain ⟨ks,ps,es⟩:=b
 obtain ⟨hk,hp⟩:dM ks=true∧dH ps=true:=by
  have hb:=mQ h;unfold eF at hb
  simpa using hb
 unfold eU at h0;unfold dX
 by_cases h1:dE (dn l) 0=fZ
 ·rw [if_pos h1] at h0 ⊢
  obtain ⟨e1,e2,e3,e4,e5⟩:=yn h0;refine AU h ?_ (fun c hc=>Mf hk e4 hc);unfold eF;rw [Bool.and_eq_true];exact ⟨Aq hk e5 e2 e3 e4,hp⟩
 ·rw [if_neg h1] at h0 ⊢
  by_cases h2:dE (dn l) 0=eG
  ·rw [if_pos h2] at h0 ⊢
   obtain ⟨e1,e2,e3,e4,e5,e6⟩:=vv h0;refine AU h ?_ (fun c hc=>Me hp e4 hc);unfold eF;rw [Bool.and_eq_true];exact ⟨hk,xy hp e6 e2 e3 e4 e5⟩
  ·rw [if_neg h2]
   show dJ (dN ks ps es ks) (dN ks ps es ps) (eT ks ps es (rd l).1)=true
   rw [jX h,jX h];exact uj _ h
theorem xH {rd:ByteArray→dP×Bool}:∀ (L:List ByteArray) (b:Bk) (i:Nat),dJ b.1 b.2.1 b.2.2=true→(ed rd b i L).2.2=0→dJ (ed rd b i L).1.1 (ed rd b i L).1.2.1 (ed rd b i L).1.2.2=true
 | [],b,i,h,_=>h
 | l::r,b,i,h,hc=>by
  by_cases h0:eU rd b l=0
  ·rw [bT h0] at hc ⊢
   exact xH r _ _ (Jr h h0) hc
  ·simp only [ed,if_neg h0] at hc
   exact absurd hc h0
theorem DU {rd:ByteArray→dP×Bool}:∀ (L:List ByteArray) (b:Bk) (i:Nat),Gd b→(∀ l∈L,l.size≤1048576∧(rd l).1.f.size≤l.size∧(rd l).1.v.size≤l.size)→Gd (ed rd b i L).1
 | [],b,i,h,_=>h
 | l::r,b,i,h,hl=>by
  by_cases h0:eU rd b l=0
  ·rw [bT h0]
   exact DU r _ _ (h.line (hl l (by simp)).1 (hl l (by simp)).2 h0) (fun x hx=>hl x (by simp [hx]))
  ·simp only [ed,if_neg h0]
   exact Gd.none
theorem xE {rd:ByteArray→dP×Bool}:∀ (L:List ByteArray) (b:Bk) (i:Nat),(ed rd b i L).2.2≠0→∃ k,k<L.length∧(ed rd b i L).2.1=i+k+1∧∀ P X,L=P++X→P.length≤k→(ed rd b i P).2.2=0
 | [],b,i,h=>absurd rfl h
 | l::r,b,i,h=>by
  by_cases h0:eU rd b l=0
  ·rw [bT h0] at h ⊢
   obtain ⟨k,hk,e,hp⟩:=xE r _ _ h
   refine ⟨k+1,by simpa using hk,by rw [e];omega,fun P X hL hP=>?_⟩
   cases P with
   | nil=>rfl
   | cons p P =>
    rw [List.cons_append,List.cons.injEq] at hL;obtain ⟨rfl,hL⟩:=hL;rw [bT h0]
    exact hp P X hL (by simpa using hP)
  ·refine ⟨0,by simp,by simp only [ed,if_neg h0],fun P X hL hP=>?_⟩
   cases P with
   | nil=>rfl
   | cons p P=>simp at hP
def J6 (s:ByteArray) (i n:Nat) (hd:ByteArray):Prop:=∃ (P:List ByteArray) (cur rest:List UInt8),bytes s=joinL P++(cur++rest)∧i=(joinL P).length+cur.length∧kN cur∧(∀ l∈P,kN (bytes l))∧n=P.length+1∧bytes hd=joinL P
theorem LV (s:ByteArray):J6 s 0 1 ⟨#[]⟩:=⟨[],[],bytes s,rfl,rfl,(fun c hc=>by cases hc),(fun l hl=>by cases hl),rfl,rfl⟩
theorem LW {s hd:ByteArray} {i n:Nat} {c:UInt8} (h:J6 s i n hd) (hc:(bytes s)[i]?=some c) (h10:c≠10):J6 s (i+1) n hd:=by
 obtain ⟨P,cur,rest,h1,h2,h3,h4,h5,h6⟩:=h
 rw [h1,h2,List.getElem?_append_right (by omega),List.getElem?_append_right (by omega)] at hc
 rw [show (joinL P).length+cur.length-(joinL P).length-cur.length=0 from by omega] at hc
 cases rest with
 | nil=>simp at hc
 | cons r rest =>
  simp only [List.getElem?_cons_zero,Option.some.injEq] at hc
  subst hc
  refine ⟨P,cur++[r],rest,by rw [h1];simp,by rw [h2];simp;omega,fun x hx=>?_,h4,h5,h6⟩
  rcases List.mem_append.1 hx with hx | hx
  ·exact h3 x hx
  ·rw [List.mem_singleton] at hx
   rw [hx];exact h10
theorem hd_line {s hd hd':ByteArray} {i n:Nat} (h:J6 s i n hd) (hc:(bytes s)[i]?=some 10) (hd1:bytes hd'=(bytes s).take (i+1)):J6 s (i+1) (n+1) hd':=by
 obtain ⟨P,cur,rest,h1,h2,h3,h4,h5,h6⟩:=h
 rw [h1,h2,List.getElem?_append_right (by omega),List.getElem?_append_right (by omega)] at hc
 rw [show (joinL P).length+cur.length-(joinL P).length-cur.length=0 from by omega] at hc
 cases rest with
 | nil=>simp at hc
 | cons r rest =>
  simp only [List.getElem?_cons_zero,Option.some.injEq] at hc
  subst hc
  have hj:joinL (P++[mkS cur])=joinL P++(cur++[10]):=by rw [bM];simp [joinL,bytes,mkS]
  refine ⟨P++[mkS cur],[],rest,by rw [h1,hj];simp,by rw [h2,hj];simp;omega,(fun x hx=>by cases hx),fun l hl=>?_,by simp [h5],?_⟩
  ·rcases List.mem_append.1 hl with hl | hl
   ·exact h4 l hl
   ·rw [List.mem_singleton] at hl
    rw [hl];exact h3
  ·rw [hd1,h1,hj,h2]
   rw [show joinL P++(cur++10::rest)=(joinL P++(cur++[10]))++rest from by simp]
   rw [List.take_append_of_le_length (by simp;omega),List.take_of_length_le (by simp;omega)]
theorem Al:∀ (P:List ByteArray) (r:List UInt8) (s:ByteArray),bytes s=joinL P++r→(∀ l∈P,kN (bytes l))→fB s=P++fB (mkS r)
 | [],r,s,h,_=>by
  have:s=mkS r:=by rw [← bI s,h];rfl
  rw [this];rfl
 | l::P,r,s,h,hl=>by
  have h':bytes s=bytes l++10::(joinL P++r):=by rw [h];simp [joinL]
  rw [qV h' (hl l (by simp)),bI,Al P r (mkS (joinL P++r)) rfl (fun x hx=>hl x (by simp [hx]))]
  rfl
theorem LX {s hd:ByteArray} {i n:Nat} (h:J6 s i n hd):∃ X,fe s=fe hd++X∧(fe hd).length+1=n∧hd.size≤s.size:=by
 obtain ⟨P,cur,rest,h1,h2,h3,h4,h5,h6⟩:=h
 have e1:fe hd=P:=by
  have:hd=⟨(joinL P).toArray⟩:=by rw [← bI hd,h6];rfl
  rw [this];exact xU P h4
 have e2:=Al P (cur++rest) s h1 h4
 have e3:hd.size≤s.size:=by
  have a1:hd.size=(bytes hd).length:=by simp [bytes]
  have a2:s.size=(bytes s).length:=by simp [bytes]
  rw [a1,a2,h6,h1]
  simp
 have hne:fB (mkS (cur++rest))≠[]:=fun e=>by
  have:=pE (mkS (cur++rest));rw [e] at this
  simp at this
 rw [e1]
 by_cases hg:(fB s).getLast?=some ⟨#[]⟩
 ·refine ⟨(fB (mkS (cur++rest))).dropLast,?_,h5.symm,e3⟩
  unfold fe;rw [if_pos hg,e2,List.dropLast_append_of_ne_nil hne]
 ·refine ⟨fB (mkS (cur++rest)),?_,h5.symm,e3⟩
  unfold fe;rw [if_neg hg,e2]
theorem hd_code {s hd:ByteArray} {i n:Nat} (h:J6 s i n hd) (hc:(fV s).2.2≠0) (hl:(fV s).2.1≠0) (hn:n≤(fV s).2.1):(fV hd).2.2=0∧hd.size≤s.size:=by
 obtain ⟨X,e1,e2,e3⟩:=LX h;refine ⟨?_,e3⟩;unfold fV at hc hl hn ⊢
 cases hb:jg s
 ·rw [hb] at hc hl hn
  simp only [cond_false] at hc hl hn
  obtain ⟨k,hk,e4,hp⟩:=xE _ _ _ hc
  have hb2:jg hd=false:=by
   unfold jg at hb ⊢;rw [e1] at hb
   simp only [Bool.or_eq_false_iff,decide_eq_false_iff_not,List.length_append] at hb ⊢
   omega
  rw [hb2]
  simp only [cond_false]
  exact hp _ X e1 (by omega)
 ·rw [hb] at hl
  simp at hl
theorem par_gd (s:ByteArray) (hs:s.size≤1048576):Gd (fV s).1:=by
 unfold fV
 cases hb:jg s
 ·simp only [cond_false]
  refine DU _ _ _ Gd.none (fun l hl=>?_);have h1:=qU s l hl
  have h2:=(o8 l (by omega)).2.2.2.2
  exact ⟨by omega,h2⟩
 ·exact Gd.none
theorem K8 (s:ByteArray) (h:(fV s).2.2=0):dJ (fV s).1.1 (fV s).1.2.1 (fV s).1.2.2=true:=by
 unfold fV at h ⊢
 cases hb:jg s
 ·rw [hb] at h
  simp only [cond_false] at h ⊢
  exact xH _ _ _ (yU (by rw [show eF [] []=(dM []&&dH []) from rfl,Gd.none.k,Gd.none.p];rfl)) h
 ·rw [hb] at h
  simp at h
end Go.Proofs.YtcmgddnckohdaaaGreatDoor.Tx
