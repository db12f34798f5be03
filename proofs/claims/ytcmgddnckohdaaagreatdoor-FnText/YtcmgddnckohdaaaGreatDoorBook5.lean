import Derived.Test.YtcmgddnckohdaaaGreatDoorWBk
set_option maxHeartbeats 3200000
set_option linter.unusedSimpArgs false
set_option linter.unusedVariables false
namespace Go.Proofs.YtcmgddnckohdaaaGreatDoor
open Go.RowKit
attribute [local go_sem] Later.cell Later.frozen
theorem dV.cell {w:World} {g off n cap:Nat} {ws:List ByteArray} (h:dV w (.slice (some ⟨g,off,none⟩) n cap) ws) (i:Nat) (hi:i<ws.length):w.cell? ⟨g,off+i,none⟩=some (.string (dE ws i)):=by
 obtain ⟨g',off',cap',e,_,_,hc⟩:=h
 cases e
 exact hc i _ (bA hi)
def Ja (x:ByteArray):Int:=bif eu x then (lI x:Int) else 0
def I5 (ws:List ByteArray):Int:=bif decide (ws.length=2) then Ja (dE ws 0) else 0
def FV (ws:List ByteArray):Int:=bif decide (ws.length=2) then Ja (dE ws 1) else 0
def Kj (ws:List ByteArray):Bool:=decide (ws.length=2)&&(eu (dE ws 0)&&eu (dE ws 1))
theorem KA (ws:List ByteArray):ja ws=(Kj ws&&(decide (I5 ws≤FV ws)&&decide (FV ws≤10000))):=by
 unfold ja Kj I5 FV Ja
 by_cases h:ws.length=2
 ·have e1:decide (((lI (dE ws 0):Nat):Int)≤((lI (dE ws 1):Nat):Int))=decide (lI (dE ws 0)≤lI (dE ws 1)):=by rw [Bool.eq_iff_iff];simp
  have e2:decide (((lI (dE ws 1):Nat):Int)≤10000)=decide (lI (dE ws 1)≤10000):=by rw [Bool.eq_iff_iff];simp;omega
  simp only [h,decide_true,Bool.true_and,cond_true]
  cases eu (dE ws 0) <;> cases eu (dE ws 1) <;> simp only [cond_true,cond_false,e1,e2,Bool.true_and,Bool.false_and,Bool.and_false]
 ·simp [h]
theorem zC (s:ByteArray) (w:World) (hs:s.size≤1048576) :
  Calls Tryz.prog 266 #[.string s] w fun e w'=>e=.returned (.tuple #[.int .i64 (I5 (dn s)),.int .i64 (FV (dn s)),.bool (Kj (dn s))])∧Below w.heap.size w w':=by
 have J9:Hid (∀ (x:ByteArray) (wx:World),x.size≤s.size→Calls Tryz.prog 208 #[.string x] wx fun e w'=>e=.returned (.tuple #[.int .i64 (Ja x),.bool (eu x)])∧Below wx.heap.size wx w'):=fun x wx hx=>bW x wx (by unfold maxLen;omega)
 have zm:Hid (∀ i,i<(dn s).length→(dE (dn s) i).size≤s.size):=fun i hi=>kY hi;have HWD:Hid (∀ wx:World,Calls Tryz.prog 140 #[.string s] wx fun e w'=>∃ v,e=.returned v∧dV w' v (dn s)∧Below wx.heap.size wx w'):=fun wx=>nW s wx hs;generalize dn s=ws at *
 go_enter Tryz.func266,Tryz.ntmps266
 go_wp2_with fail;refine (HWD.out _).mono ?_;rintro e w1 ⟨v,rfl,hst,hb1⟩;have HST:Hid (dV w1 v ws):=hst;obtain ⟨g,off,cap,rfl,hlc,hcm,-⟩:=hst;have HB1:Hid (Below w.heap.size w w1):=hb1;clear hb1
 by_cases h2:ws.length=2
 ·have h2':(((ws.length:Nat):Int)==2)=true:=by simp [h2]
  have h2i:(1:Int)<((ws.length:Nat):Int):=by omega
  have h2j:1<ws.length:=by omega
  have h2k:0<ws.length:=by omega
  have c0:w1.cell? ⟨g,off+0,none⟩=some (.string (dE ws 0)):=HST.out.cell 0 (by omega)
  have c1:w1.cell? ⟨g,off+1,none⟩=some (.string (dE ws 1)):=HST.out.cell 1 (by omega)
  simp only [Nat.add_zero] at c0
  have HF:Hid (I5 ws=Ja (dE ws 0)):=by show I5 ws=_;unfold I5;simp [h2]
  have HY:Hid (FV ws=Ja (dE ws 1)):=by show FV ws=_;unfold FV;simp [h2]
  have HO:Hid (Kj ws=(eu (dE ws 0)&&eu (dE ws 1))):=by show Kj ws=_;unfold Kj;simp [h2]
  have Z0:Hid ((dE ws 0).size≤s.size):=zm.out 0 (by omega)
  have Z1:Hid ((dE ws 1).size≤s.size):=zm.out 1 (by omega)
  clear HST zm h2 HWD;generalize dE ws 0=x0 at *;generalize dE ws 1=x1 at *;go_wp2_with fail;refine (J9.out x0 _ Z0.out).mono ?_;rintro e w2 ⟨rfl,hb2⟩;have d1:=ag hb2 aG c1;go_wp2_with fail;refine (J9.out x1 _ Z1.out).mono ?_;rintro e w3 ⟨rfl,hb3⟩;have HB:Hid (Below w.heap.size w w3):=aa (aa HB1.out hb2) hb3;clear hb2 hb3 J9 c0 c1 d1;generalize eu x0=b0 at *;generalize eu x1=b1 at *
  cases b0
  ·go_wp2
   exact bodyPost_ret (v:=.tuple #[.int .i64 (Ja x0),.int .i64 (Ja x1),.bool false]) (by simp [results,Tryz.results266,go_sem]) rfl ⟨by rw [HF.out,HY.out,HO.out];rfl,HB.out⟩
  ·cases b1
   ·go_wp2
    exact bodyPost_ret (v:=.tuple #[.int .i64 (Ja x0),.int .i64 (Ja x1),.bool false]) (by simp [results,Tryz.results266,go_sem]) rfl ⟨by rw [HF.out,HY.out,HO.out];rfl,HB.out⟩
   ·go_wp2
    exact bodyPost_ret (v:=.tuple #[.int .i64 (Ja x0),.int .i64 (Ja x1),.bool true]) (by simp [results,Tryz.results266,go_sem]) rfl ⟨by rw [HF.out,HY.out,HO.out];rfl,HB.out⟩
 ·have h2':(((ws.length:Nat):Int)==2)=false:=by simp;omega
  have HF:Hid (I5 ws=0):=by show I5 ws=_;unfold I5;simp [h2]
  have HY:Hid (FV ws=0):=by show FV ws=_;unfold FV;simp [h2]
  have HO:Hid (Kj ws=false):=by show Kj ws=_;unfold Kj;simp [h2]
  go_wp2
  exact bodyPost_ret (v:=.tuple #[.int .i64 (0),.int .i64 (0),.bool false]) (by simp [results,Tryz.results266,go_sem]) rfl ⟨by rw [HF.out,HY.out,HO.out],HB1.out⟩
theorem Bc (vk vp:Value) (s:ByteArray) (w:World) (hs:s.size≤1048576) :
  Calls Tryz.prog 331 #[.agg #[],.agg #[vk,vp],.string s] w fun e w'=>e=.returned (.bool (ja (dn s)))∧Below w.heap.size w w':=by
 have HRT:=fun wx=>zC s wx hs;have HE:Hid (ja (dn s)=(Kj (dn s)&&(decide (I5 (dn s)≤FV (dn s))&&decide (FV (dn s)≤10000)))):=KA _;have HR:Hid (∀ wx:World,Calls Tryz.prog 266 #[.string s] wx fun e w'=>e=.returned (.tuple #[.int .i64 (I5 (dn s)),.int .i64 (FV (dn s)),.bool (Kj (dn s))])∧Below wx.heap.size wx w'):=HRT;clear HRT;generalize ja (dn s)=r at *;generalize Kj (dn s)=o at *;generalize I5 (dn s)=n0 at *;generalize FV (dn s)=n1 at *
 go_enter Tryz.func331,Tryz.ntmps331
 go_wp2_with fail;refine (HR.out _).mono ?_;rintro e w1 ⟨rfl,hb1⟩
 have HB:Hid (Below w.heap.size w w1):=aa ((aM).alloc (by simp) _) hb1
 clear hb1
 cases o
 ·go_wp2
  go_ret
  exact ⟨ax (by rw [HE.out];rfl),HB.out⟩
 ·by_cases h3:n0≤n1
  ·by_cases h4:n1≤10000
   ·go_wp2
    go_ret
    exact ⟨ax (by rw [HE.out];simp;omega),HB.out⟩
   ·go_wp2
    go_ret
    exact ⟨ax (by rw [HE.out];simp;omega),HB.out⟩
  ·go_wp2
   go_ret
   exact ⟨ax (by rw [HE.out];simp;omega),HB.out⟩
theorem zX {ps:List dx} {ws:List ByteArray} (h:eB ws.length 2 8=false):gL ps ws=false:=by unfold gL;rw [h];rfl
theorem Gf {ps:List dx} {ws:List ByteArray} (h:eB ws.length 2 8=true):gL ps ws=fw ws.length (gT ps ws):=by unfold gL;rw [h];rfl
theorem zB (vk vp v:Value) (ps:List dx) (ws:List ByteArray) (w:World) (hp:dA w vp ps) (hst0:dV w v ws) :
  Calls Tryz.prog 249 #[.agg #[vk,vp],v] w fun e w'=>e=.returned (.bool (gL ps ws))∧Below w.heap.size w w':=by
 have HHP:Hid (∀ (x:ByteArray) (wx:World),Below w.heap.size w wx→Calls Tryz.prog 183 #[vp,.string x,.func (.func 132) #[] #[]] wx fun e w'=>e=.returned (.tuple #[.int .i64 (iH ps x:Nat),.bool (hasB ps x)])∧Below wx.heap.size wx w'):=fun x wx hx=>ou vp ps x wx (hp.keep hx);clear hp;have HB1:Hid (Below w.heap.size w (w.alloc (.cells #[vk,vp] 27))):=(aM);have hst:=hst0.keep HB1.out;have HST:Hid (dV (w.alloc (.cells #[vk,vp] 27)) v ws):=hst;clear hst0;obtain ⟨g,off,cap,rfl,hlc,hcm,-⟩:=hst
 have p0:(w.alloc (.cells #[vk,vp] 27)).cell? ⟨w.heap.size,0,none⟩=some vk:=by simp [go_sem]
 have p1:(w.alloc (.cells #[vk,vp] 27)).cell? ⟨w.heap.size,1,none⟩=some vp:=by simp [go_sem]
 unfold maxLen at hcm
 go_enter Tryz.func249,Tryz.ntmps249
 by_cases h1:(ws.length:Int)<2
 ·have HE:Hid (gL ps ws=false):=zX (by simp [eB];omega)
  go_wp2;go_ret;exact ⟨ax HE.out.symm,HB1.out⟩
 by_cases h2:(8:Int)<(ws.length:Int)
 ·have HE:Hid (gL ps ws=false):=zX (by simp [eB];omega)
  go_wp2;go_ret;exact ⟨ax HE.out.symm,HB1.out⟩
 have HE:Hid (gL ps ws=fw ws.length (gT ps ws)):=Gf (by simp [eB];omega)
 have Q0:Hid ((w.alloc (.cells #[vk,vp] 27)).cell? ⟨w.heap.size,0,none⟩=some vk∧(w.alloc (.cells #[vk,vp] 27)).cell? ⟨w.heap.size,1,none⟩=some vp):=⟨p0,p1⟩;clear p0 p1;go_wp2_with fail;generalize (w.alloc (.cells #[vk,vp] 27))=w1 at *
 go_loopw [5,6,19] (fun _ _ i wr=>∃ k:Nat,k≤ws.length∧i=.int .i64 k∧Below w1.heap.size w1 wr∧Hid (∀ j,j<k→gT ps ws j=true)) (fun _ _ i _=>ws.length-(intOf i).toNat)
 case atStart=>exact ⟨0,Nat.zero_le _,rfl,Below.refl _ _,fun j hj=>absurd hj (Nat.not_lt_zero _)⟩
 case round =>
  obtain ⟨k,hk,rfl,hb,HA⟩:=hrel
  by_cases hlt:k<ws.length
  ·have c0:wr.cell? ⟨g,off+k,none⟩=some (.string (dE ws k)):=(HST.out.keep hb).cell k hlt
   have p0:=ag hb aG Q0.out.1;have p1:=ag hb aG Q0.out.2
   have hk0:(0:Int)≤(k:Int):=by omega
   have hk1:(k:Int)<(ws.length:Int):=by omega
   cases hh:hasB ps (dE ws k)
   ·have HH:Hid (hasB ps (dE ws k)=false):=hh
    clear hh;go_wp2_with fail;refine (HHP.out (dE ws k) _ (aa HB1.out hb)).mono ?_;rw [HH.out];rintro e w2 ⟨rfl,hb2⟩;go_wp2;go_ret
    exact ⟨ax (by rw [HE.out];exact (bc hlt (by unfold gT;rw [HH.out];rfl)).symm),aa (aa HB1.out hb) hb2⟩
   ·have HH:Hid (hasB ps (dE ws k)=true):=hh
    clear hh
    by_cases hz:0<k
    ·have c1:wr.cell? ⟨g,off+(k-1),none⟩=some (.string (dE ws (k-1))):=(HST.out.keep hb).cell (k-1) (by omega)
     by_cases hx:dE ws (k-1)=dE ws k
     ·have hq:((dE ws (k-1)).toList==(dE ws k).toList)=true:=cA hx
      have HX:Hid (gT ps ws k=false):=by show gT ps ws k=false;unfold gT;simp [hx,hz]
      clear hx;go_wp2_with fail;refine (HHP.out (dE ws k) _ (aa HB1.out hb)).mono ?_;rw [HH.out];rintro e w2 ⟨rfl,hb2⟩;have c2:=ag hb2 aG c1;go_wp2;go_ret
      exact ⟨ax (by rw [HE.out];exact (bc hlt HX.out).symm),aa (aa HB1.out hb) hb2⟩
     ·have hq:((dE ws (k-1)).toList==(dE ws k).toList)=false:=b9 hx
      have HX:Hid (gT ps ws k=true):=by show gT ps ws k=true;unfold gT;rw [HH.out];simp [hx]
      clear hx;go_wp2_with fail;refine (HHP.out (dE ws k) _ (aa HB1.out hb)).mono ?_;rw [HH.out];rintro e w2 ⟨rfl,hb2⟩;have c2:=ag hb2 aG c1;go_wp2
      exact ⟨⟨k+1,by omega,by go_num,aa hb hb2,fun j hj=>if e:j=k then by rw [e];exact HX.out else HA.out j (by omega)⟩,by simp [intOf];omega⟩
    ·have HX:Hid (gT ps ws k=true):=by show gT ps ws k=true;unfold gT;rw [HH.out];simp [hz]
     go_wp2_with fail;refine (HHP.out (dE ws k) _ (aa HB1.out hb)).mono ?_;rw [HH.out];rintro e w2 ⟨rfl,hb2⟩;go_wp2
     exact ⟨⟨k+1,by omega,by go_num,aa hb hb2,fun j hj=>if e:j=k then by rw [e];exact HX.out else HA.out j (by omega)⟩,by simp [intOf];omega⟩
  ·go_wp2
   go_ret
   exact ⟨ax (by rw [HE.out];exact (aX fun j hj=>HA.out j (by omega)).symm),aa HB1.out hb⟩
theorem zA (vk vp:Value) (ps:List dx) (s:ByteArray) (w:World) (hs:s.size≤1048576) (hp:dA w vp ps) :
  Calls Tryz.prog 333 #[.agg #[],.agg #[vk,vp],.string s] w fun e w'=>e=.returned (.bool (gL ps (dn s)))∧Below w.heap.size w w':=by
 have HWD:Hid (∀ wx:World,Calls Tryz.prog 140 #[.string s] wx fun e w'=>∃ v,e=.returned v∧dV w' v (dn s)∧Below wx.heap.size wx w'):=fun wx=>nW s wx hs;generalize dn s=ws at *;have HRF:Hid (∀ (v:Value) (wx:World),Below w.heap.size w wx→dV wx v ws→Calls Tryz.prog 249 #[.agg #[vk,vp],v] wx fun e w'=>e=.returned (.bool (gL ps ws))∧Below wx.heap.size wx w'):=fun v wx hx hv=>zB vk vp v ps ws wx (hp.keep hx) hv;clear hp
 have HAL:Hid (Below w.heap.size w ((w.alloc (.cells #[] 263)).alloc (.cells #[vk,vp] 27))):=(aM).alloc (by simp) _
 have p0:((w.alloc (.cells #[] 263)).alloc (.cells #[vk,vp] 27)).cell? ⟨w.heap.size+1,0,none⟩=some vk:=by simp [go_sem]
 have p1:((w.alloc (.cells #[] 263)).alloc (.cells #[vk,vp] 27)).cell? ⟨w.heap.size+1,1,none⟩=some vp:=by simp [go_sem]
 go_enter Tryz.func333,Tryz.ntmps333
 go_wp2_with fail;generalize ((w.alloc (.cells #[] 263)).alloc (.cells #[vk,vp] 27))=w1 at *;refine wp_region_noPanic ?_
 refine wp_region_held_drew (S:=fun w'=>w'.cell? ⟨w.heap.size+1,0,none⟩=some vk∧w'.cell? ⟨w.heap.size+1,1,none⟩=some vp) (by kernel_rfl) ?_ (fun hHeld=>?_)
 ·exact ⟨ag (Below.refl _ _).drew aG p0,ag (Below.refl _ _).drew aG p1⟩
 have bY:Hid (Below w.heap.size w w1.drew):=aa HAL.out (Below.refl _ _).drew;have Q0:Hid (∀ wx:World,Below w1.heap.size w1 wx→wx.cell? ⟨w.heap.size+1,0,none⟩=some vk∧wx.cell? ⟨w.heap.size+1,1,none⟩=some vp):=fun wx hx=>⟨ag hx aG p0,ag hx aG p1⟩;have HB1:Hid (Below w1.heap.size w1 w1.drew):=(Below.refl _ _).drew;clear p0 p1;refine aO 0 ?_ rfl ?_ (aO 1 ?_ rfl ?_ ?_)
 iterate 2 (rotate_left;focus (intro w hSw;(try dsimp only at hSw);simp only [Act.put,aU];go_simp;try with_reducible rfl))
 simp only [Act.put,aU]
 clear hHeld;refine bE 2 rfl (fun K hK=>?_);go_simp;refine (HWD.out _).mono ?_;rintro e w2 ⟨v,rfl,hst,hb2⟩;have HB2:Hid (Below w1.heap.size w1 w2):=aa HB1.out hb2;have iY:Hid (Below w.heap.size w w2):=aa bY.out hb2;have HST:Hid (dV w2 v ws):=hst;obtain ⟨g,off,cap,rfl,hlc,hcm,-⟩:=hst;refine hK.out _ _ (Q0.out _ HB2.out) (fun _=>?_);clear hK K hb2 bY HB1;refine bE 3 rfl (fun K hK=>?_);go_simp;refine (HRF.out _ _ iY.out HST.out).mono ?_;rintro e w3 ⟨rfl,hb3⟩;have HB3:Hid (Below w1.heap.size w1 w3):=aa HB2.out hb3;have HC3:Hid (Below w.heap.size w w3):=aa iY.out hb3;have hHeld:=Q0.out _ HB3.out;refine hK.out _ _ hHeld (fun _=>?_);clear hK K;refine aO 4 ?_ rfl ?_ ?_;rotate_left
 ·intro w hSw;(try dsimp only at hSw);go_simp;try with_reducible rfl
 simp only [Act.put,aU]
 clear hHeld
 refine wpAnyH_done (by kernel_rfl) ?_ _
 refine NoPanic.normal ?_;go_wp2;go_ret;exact ⟨rfl,HC3.out⟩
end Go.Proofs.YtcmgddnckohdaaaGreatDoor
namespace Go.Proofs.YtcmgddnckohdaaaGreatDoor
open Go.RowKit
attribute [local go_sem] Later.cell Later.frozen
def mr (what:Int):Value :=
 if what=1 then .iface 260 (.agg #[]) else if what=2 then .iface 261 (.agg #[]) else if what=3 then .iface 262 (.agg #[]) else if what=4 then .iface 263 (.agg #[]) else if what=5 then .iface 264 (.agg #[]) else .nilIface
theorem jN (what:Int) (w:World) :
  Calls Tryz.prog 165 #[.int .i64 what] w fun e w'=>e=.returned (mr what)∧w'=w:=by
 have HR:Hid (mr what=mr what):=rfl
 by_cases h1:what=1
 ·subst h1
  go_enter Tryz.func165,Tryz.ntmps165
  go_wp2;go_ret;exact ⟨rfl,rfl⟩
 by_cases h2:what=2
 ·subst h2
  go_enter Tryz.func165,Tryz.ntmps165
  go_wp2;go_ret;exact ⟨rfl,rfl⟩
 by_cases h3:what=3
 ·subst h3
  go_enter Tryz.func165,Tryz.ntmps165
  go_wp2;go_ret;exact ⟨rfl,rfl⟩
 by_cases h4:what=4
 ·subst h4
  go_enter Tryz.func165,Tryz.ntmps165
  go_wp2;go_ret;exact ⟨rfl,rfl⟩
 by_cases h5:what=5
 ·subst h5
  go_enter Tryz.func165,Tryz.ntmps165
  go_wp2;go_ret;exact ⟨rfl,rfl⟩
 have e:mr what=.nilIface:=by simp [mr,h1,h2,h3,h4,h5]
 have g1:(what==1)=false:=by simp [h1]
 have g2:(what==2)=false:=by simp [h2]
 have g3:(what==3)=false:=by simp [h3]
 have g4:(what==4)=false:=by simp [h4]
 have g5:(what==5)=false:=by simp [h5]
 rw [e];clear h1 h2 h3 h4 h5 e HR
 go_enter Tryz.func165,Tryz.ntmps165
 go_wp2;go_ret;exact ⟨rfl,rfl⟩
theorem meth1:∀ w:World,(method 502 260 (.agg #[]) "loop.example/lapplan/impl.fits").run Tryz.prog w=.ok (330,.agg #[]) w:=fun _=>by kernel_rfl
theorem meth2:∀ w:World,(method 502 261 (.agg #[]) "loop.example/lapplan/impl.fits").run Tryz.prog w=.ok (331,.agg #[]) w:=fun _=>by kernel_rfl
theorem meth3:∀ w:World,(method 502 262 (.agg #[]) "loop.example/lapplan/impl.fits").run Tryz.prog w=.ok (332,.agg #[]) w:=fun _=>by kernel_rfl
theorem meth4:∀ w:World,(method 502 263 (.agg #[]) "loop.example/lapplan/impl.fits").run Tryz.prog w=.ok (333,.agg #[]) w:=fun _=>by kernel_rfl
theorem meth5:∀ w:World,(method 502 264 (.agg #[]) "loop.example/lapplan/impl.fits").run Tryz.prog w=.ok (334,.agg #[]) w:=fun _=>by kernel_rfl
theorem zt (vk vp:Value) (ks ps:List dx) (what:Int) (s:ByteArray) (w:World) (hk:dA w vk ks) (hp:dA w vp ps) (hs:s.size≤1048576) :
  Calls Tryz.prog 135 #[.agg #[vk,vp],.int .i64 what,.string s] w fun e w'=>e=.returned (.bool (gU ks ps what s))∧Below w.heap.size w w':=by
 have HK:=hk;have HP:=hp;obtain ⟨ak,ck,rfl,-,-,-⟩:=hk;obtain ⟨ap,cp,rfl,-,-,-⟩:=hp;have Ho:Hid (dA w (.slice ak ks.length ck) ks):=HK;have uW:Hid (dA w (.slice ap ps.length cp) ps):=HP;clear HK HP
 by_cases h1:what=1
 ·subst h1
  have HE:Hid (gU ks ps 1 s=hasB ks s):=rfl;have hm:=meth1
  go_enter Tryz.func135,Tryz.ntmps135
  go_wp2_with fail;refine (jN _ _).mono ?_;rintro e w1 ⟨rfl,rfl⟩;have e1:mr 1=.iface 260 (.agg #[]):=rfl;rw [e1];clear e1;go_wp2_with fail;refine (BV _ _ ks s _ (Ho.out.alloc _)).mono ?_;rintro e w2 ⟨rfl,hb2⟩;go_wp2;go_ret;exact ⟨ax HE.out.symm,aa (aM) hb2⟩
 by_cases h2:what=2
 ·subst h2
  have HE:Hid (gU ks ps 2 s=ja (dn s)):=rfl;have hm:=meth2
  go_enter Tryz.func135,Tryz.ntmps135
  go_wp2_with fail;refine (jN _ _).mono ?_;rintro e w1 ⟨rfl,rfl⟩;have e1:mr 2=.iface 261 (.agg #[]):=rfl;rw [e1];clear e1;go_wp2_with fail;refine (Bc _ _ s _ hs).mono ?_;rintro e w2 ⟨rfl,hb2⟩;go_wp2;go_ret;exact ⟨ax HE.out.symm,aa (aM) hb2⟩
 by_cases h3:what=3
 ·subst h3
  have HE:Hid (gU ks ps 3 s=kD s):=rfl;have hm:=meth3
  go_enter Tryz.func135,Tryz.ntmps135
  go_wp2_with fail;refine (jN _ _).mono ?_;rintro e w1 ⟨rfl,rfl⟩;have e1:mr 3=.iface 262 (.agg #[]):=rfl;rw [e1];clear e1;go_wp2_with fail;refine (zH _ _ s _ hs).mono ?_;rintro e w2 ⟨rfl,hb2⟩;go_wp2;go_ret;exact ⟨ax HE.out.symm,aa (aM) hb2⟩
 by_cases h4:what=4
 ·subst h4
  have HE:Hid (gU ks ps 4 s=gL ps (dn s)):=rfl;have hm:=meth4
  go_enter Tryz.func135,Tryz.ntmps135
  go_wp2_with fail;refine (jN _ _).mono ?_;rintro e w1 ⟨rfl,rfl⟩;have e1:mr 4=.iface 263 (.agg #[]):=rfl;rw [e1];clear e1;go_wp2_with fail;refine (zA _ _ ps s _ hs (uW.out.alloc _)).mono ?_;rintro e w2 ⟨rfl,hb2⟩;go_wp2;go_ret;exact ⟨ax HE.out.symm,aa (aM) hb2⟩
 by_cases h5:what=5
 ·subst h5
  have HE:Hid (gU ks ps 5 s=iq s):=rfl;have hm:=meth5
  go_enter Tryz.func135,Tryz.ntmps135
  go_wp2_with fail;refine (jN _ _).mono ?_;rintro e w1 ⟨rfl,rfl⟩;have e1:mr 5=.iface 264 (.agg #[]):=rfl;rw [e1];clear e1;go_wp2_with fail;refine (zw _ _ s _).mono ?_;rintro e w2 ⟨rfl,hb2⟩;go_wp2;go_ret;exact ⟨ax HE.out.symm,aa (aM) hb2⟩
 have HE:Hid (gU ks ps what s=false):=by show gU ks ps what s=false;simp [gU,h1,h2,h3,h4,h5]
 have HR:Hid (mr what=.nilIface):=by show mr what=_;simp [mr,h1,h2,h3,h4,h5]
 clear h1 h2 h3 h4 h5
 go_enter Tryz.func135,Tryz.ntmps135
 go_wp2_with fail;refine (jN _ _).mono ?_;rw [HR.out];rintro e w1 ⟨rfl,rfl⟩;go_wp2;go_ret;exact ⟨ax HE.out.symm,(aM)⟩
end Go.Proofs.YtcmgddnckohdaaaGreatDoor
namespace Go.Proofs.YtcmgddnckohdaaaGreatDoor
open Go.RowKit
attribute [local go_sem] Later.cell Later.frozen
theorem oV (vk vp:Value) (ks ps:List dx) (c:dP) (w:World) (hk:dA w vk ks) (hp:dA w vp ps) (hf:c.f.size≤1048576) (hs:c.v.size≤1048576) :
  Calls Tryz.prog 81 #[.agg #[vk,vp],.agg #[.string c.f,.int .i64 c.what,.int .i64 c.num,.string c.v]] w fun e w'=>e=.returned (.bool (gy ks ps c))∧Below w.heap.size w w':=by
 have HK:=hk;have HP:=hp;obtain ⟨ak,ck,rfl,-,-,-⟩:=hk;obtain ⟨ap,cp,rfl,-,-,-⟩:=hp;have Ho:Hid (dA w (.slice ak ks.length ck) ks):=HK;have uW:Hid (dA w (.slice ap ps.length cp) ps):=HP;clear HK HP;obtain ⟨f,what,num,v⟩:=c;dsimp only at *;have HE:Hid (gy ks ps ⟨f,what,num,v⟩=(dD f&&(eB num 1 1000000&&gU ks ps what v))):=rfl;generalize gy ks ps ⟨f,what,num,v⟩=res at HE ⊢
 go_enter Tryz.func81,Tryz.ntmps81
 go_wp2_with fail
 refine (cf f _ (by unfold maxLen;omega)).mono ?_
 rintro e w1 ⟨rfl,hb1⟩
 have k0:w1.cell? ⟨w.heap.size,0,none⟩=some (.slice ak ks.length ck):=ag hb1 aG (by simp [go_sem])
 have k1:w1.cell? ⟨w.heap.size,1,none⟩=some (.slice ap ps.length cp):=ag hb1 aG (by simp [go_sem])
 have c0:w1.cell? ⟨w.heap.size+1,0,none⟩=some (.string f):=ag hb1 aG (by simp [go_sem])
 have c1:w1.cell? ⟨w.heap.size+1,1,none⟩=some (.int .i64 what):=ag hb1 aG (by simp [go_sem])
 have c2:w1.cell? ⟨w.heap.size+1,2,none⟩=some (.int .i64 num):=ag hb1 aG (by simp [go_sem])
 have c3:w1.cell? ⟨w.heap.size+1,3,none⟩=some (.string v):=ag hb1 aG (by simp [go_sem])
 have HB1:Hid (Below w.heap.size w w1):=aa ((aM).alloc (by simp) _) hb1
 clear hb1;generalize dD f=b1 at *
 cases b1
 ·go_wp2
  go_ret
  exact ⟨ax (by rw [HE.out];rfl),HB1.out⟩
 ·go_wp2_with fail
  refine (cQ _ _).mono ?_;rintro e w2 ⟨rfl,hw2⟩;subst hw2;generalize eB num 1 1000000=b2 at *
  cases b2
  ·go_wp2
   go_ret
   exact ⟨ax (by rw [HE.out];rfl),HB1.out⟩
  ·go_wp2_with fail
   refine (zt _ _ ks ps what v _ (Ho.out.keep HB1.out) (uW.out.keep HB1.out) hs).mono ?_;rintro e w3 ⟨rfl,hb3⟩;go_wp2;go_ret
   exact ⟨ax (by rw [HE.out];rfl),aa HB1.out hb3⟩
end Go.Proofs.YtcmgddnckohdaaaGreatDoor
namespace Go.Proofs.YtcmgddnckohdaaaGreatDoor
open Go.RowKit
attribute [local go_sem] Later.cell Later.frozen
def lD (l:List dU) (i:Nat):Bool:=!(decide (0<i)&&kz (eZ l (i-1)).name (eZ l i).name)
theorem AY (l:List dU):lD l 0=true:=by simp [lD]
theorem uU (l:List dU) (m:Nat):lD l (m+1)=!kz (eZ l m).name (eZ l (m+1)).name:=by simp [lD]
def jP (l:List dU):Bool:=decide (l.length≤12)&&fw l.length fun i=>dD (eZ l i).name&&lD l i
def dO (n:ByteArray) (f:fI):dP:=⟨n,f.what,f.num,f.v⟩
def jE (l:List fI) (i:Nat):Bool:=!(decide (0<i)&&decide ((fH l i).what≤(fH l (i-1)).what))
def fieldsB (ks ps:List dx) (n:ByteArray) (l:List fI):Bool:=(fw l.length fun i=>jE l i&&gy ks ps (dO n (fH l i)))&&decide (0<l.length)
def dJ (ks ps:List dx) (es:List dU):Bool:=eF ks ps&&(jP es&&fw es.length fun i=>fieldsB ks ps (eZ es i).name (eZ es i).fs)
theorem qB (n:ByteArray) (fv:Value) (w:World) :
  Calls Tryz.prog 42 #[.agg #[.string n,fv]] w fun e w'=>e=.returned (.string n)∧Below w.heap.size w w':=by
 go_enter Tryz.func42,Tryz.ntmps42
 go_wp2;go_ret;exact ⟨rfl,(aM)⟩
theorem xP (v:Value) (l:List dU) (w:World) (hv:je w v l) (hs:zh l) :
  Calls Tryz.prog 41 #[v,.int .i64 12,.func (.func 42) #[] #[]] w fun e w'=>e=.returned (.bool (jP l))∧Below w.heap.size w w':=by
 obtain ⟨a,cap,rfl,hlc,hcm,hc⟩:=hv;unfold maxLen at hcm;have HC:Hid (∀ i f,l[i]?=some f→∃ b off,a=some ⟨b,off,none⟩∧lH w b (off+i*2) f):=hc;have HS:Hid (zh l):=hs;clear hc hs
 by_cases hn:(12:Int)<(l.length:Int)
 ·have e:jP l=false:=by simp [jP];omega
  rw [e];clear e
  go_enter Tryz.func41,Tryz.ntmps41
  go_wp2;go_ret;exact ⟨rfl,Below.refl _ _⟩
 ·have e:jP l=fw l.length fun i=>dD (eZ l i).name&&lD l i:=by
   have:l.length≤12:=by omega
   simp [jP,this]
  rw [e];clear e
  go_enter Tryz.func41,Tryz.ntmps41
  go_wp2
  go_loopw [7,8,15] (fun _ _ i wr=>∃ k:Nat,k≤l.length∧i=.int .i64 k∧Below w.heap.size w wr∧Hid (∀ j,j<k→(dD (eZ l j).name&&lD l j)=true)) (fun _ _ i _=>l.length-(intOf i).toNat)
  case atStart=>exact ⟨0,Nat.zero_le _,rfl,Below.refl _ _,fun j hj=>absurd hj (Nat.not_lt_zero _)⟩
  case round =>
   obtain ⟨k,hk,rfl,hb,HA⟩:=hrel
   by_cases hlt:k<l.length
   ·obtain ⟨b,off,rfl,hc⟩:=HC.out k _ (bp hlt)
    obtain ⟨fv,d0,d1,hfl⟩:=hc.keep hb;obtain ⟨fa,fc,rfl,-,-,-⟩:=hfl;have hsk:(eZ l k).name.size≤maxLen:=(HS.out _ (List.mem_of_getElem? (bp hlt))).1
    have uh:Hid (dD (eZ l k).name=false→fw l.length (fun i=>dD (eZ l i).name&&lD l i)=false):=fun h=>bc hlt (by simp [h])
    have M4:Hid (lD l k=false→fw l.length (fun i=>dD (eZ l i).name&&lD l i)=false):=fun h=>bc hlt (by simp [h])
    have hk0:(0:Int)≤(k:Int):=by omega
    have hk1:(k:Int)<(l.length:Int):=by omega
    have HO0:Hid (OwnAt wr (wr.alloc (.cells #[.string (eZ l k).name,.slice fa (eZ l k).fs.length fc] 65)) [[.string (eZ l k).name,.slice fa (eZ l k).fs.length fc]]):=(OwnAt.start wr).push rfl _ _;generalize hnl:(eZ l k).fs.length=nl at *;clear hnl;go_wp2_with fail;refine (qB (eZ l k).name _ _).mono ?_;rintro e w1 ⟨rfl,hb1⟩;go_wp2_with fail;refine (cf (eZ l k).name _ hsk).mono ?_;rintro e w2 ⟨rfl,hb2⟩;have y8:Hid (OwnAt wr w2 _):=(HO0.out.call hb1).call hb2;have bY:Hid (Below w.heap.size w w2):=aa hb y8.out.below;have n0:w2.cell? ⟨wr.heap.size,0,none⟩=some (.string (eZ l k).name):=(y8.out.has 0 _ rfl 0 _ rfl).1;have n1:w2.cell? ⟨wr.heap.size,1,none⟩=some (.slice fa nl fc):=(y8.out.has 0 _ rfl 1 _ rfl).1;have nz:wr.heap.size<w2.heap.size:=av n0;clear d0 d1 hb1 hb2 HO0 y8
    cases hnm:dD (eZ l k).name
    ·have HN:Hid (dD (eZ l k).name=false):=hnm
     clear hnm;go_wp2;go_ret;exact ⟨ax (uh.out HN.out).symm,bY.out⟩
    ·have HN:Hid (dD (eZ l k).name=true):=hnm
     clear hnm;have hne:=Later.some w2;have GN:Hid (∀ (n:ByteArray) (u:Value) (y:Later w2),Calls Tryz.prog 42 #[.agg #[.string n,u]] y.val fun e w''=>e=.returned (.string n)∧∃ z:Later w2,w''=z.val):=fun n u y=>Calls.later (qB n u y.val)
     by_cases hkz:k=0
     ·subst hkz
      go_wp2
      refine au (by kernel_rfl) (by kernel_rfl) ?_
      repeat (go_big_quiet_step (first | (go_at_call 42;exact GN.out _ _ _)))
      refine wpQuiet_nil ?_;rintro _ ⟨x,rfl⟩;go_wp2
      exact ⟨⟨1,by omega,by go_num,aa bY.out x.below,fun j hj=>by
       obtain rfl:j=0:=by omega
       rw [HN.out,AY];rfl⟩,by simp [intOf];omega⟩
     ·obtain ⟨m,rfl⟩:∃ m,k=m+1:=⟨k-1,by omega⟩
      obtain ⟨b',off',EH,hcm'⟩:=HC.out m _ (bp (by omega))
      cases EH
      obtain ⟨fv',m0,m1,hfl'⟩:=hcm'.keep bY.out;obtain ⟨fa',fc',rfl,-,-,-⟩:=hfl';have mz:b<w2.heap.size:=av m0;have HE:Hid (lD l (m+1)=!kz (eZ l m).name (eZ l (m+1)).name):=uU l m
      have hi0:(0:Int)≤(m:Int):=by omega
      have hi1:(m:Int)<(l.length:Int):=by omega
      have hi2:(0:Int)<(m:Int)+1:=by omega
      have hw1:IntKind.i64.wrap (m:Int)=(m:Int):=by rw [IntKind.wrap_i64];omega
      have hw2:IntKind.i64.wrap ((m:Int)+1-1)=(m:Int):=by rw [IntKind.wrap_i64];omega
      clear hc hcm';go_wp2
      refine au (by kernel_rfl) (by kernel_rfl) ?_
      repeat (go_big_quiet_step (first | (go_at_call 42;exact GN.out _ _ _)))
      refine wpQuiet_nil ?_;rintro _ ⟨x,rfl⟩;go_wp2
      ·rename_i h
       go_ret
       exact ⟨ax (M4.out (by rw [HE.out];unfold kz;rw [h];rfl)).symm,aa bY.out x.below⟩
      ·rename_i h
       exact ⟨⟨m+1+1,by omega,by go_num,aa bY.out x.below,fun j hj=>if e:j=m+1 then by rw [e,HN.out,HE.out];unfold kz;rw [h];rfl else HA.out j (by omega)⟩,by simp [intOf];omega⟩
   ·go_wp2
    go_ret
    exact ⟨ax (aX fun j hj=>HA.out j (by omega)).symm,hb⟩
end Go.Proofs.YtcmgddnckohdaaaGreatDoor
