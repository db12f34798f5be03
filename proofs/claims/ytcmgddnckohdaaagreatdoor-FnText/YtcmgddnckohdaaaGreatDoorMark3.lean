import Derived.Test.YtcmgddnckohdaaaGreatDoorBook5
import Derived.Deep.DeepCutAuto
set_option maxRecDepth 100000
set_option maxHeartbeats 3200000

namespace Go.Proofs.YtcmgddnckohdaaaGreatDoor
open Go.RowKit
attribute [local go_sem] Later.cell Later.frozen
theorem tq (f:fI) (n:ByteArray) (w:World) :
  Calls Tryz.prog 72 #[.agg #[.int .i64 f.what,.int .i64 f.num,.string f.v],.string n] w fun e w'=>e=.returned (.agg #[.string n,.int .i64 f.what,.int .i64 f.num,.string f.v])∧Below w.heap.size w w':=by
 go_enter Tryz.func72,Tryz.ntmps72
 go_wp2
 exact bodyPost_ret (v:=.agg #[.string n,.int .i64 f.what,.int .i64 f.num,.string f.v]) (by simp [results,Tryz.results72,go_sem]) rfl ⟨rfl,(aM).alloc (by simp) _⟩
theorem AX (l:List fI):jE l 0=true:=by simp [jE]
theorem Cr (vk vp fv:Value) (ks ps:List dx) (n:ByteArray) (l:List fI) (w:World) (hk:dA w vk ks) (hp:dA w vp ps) (hv:iW w fv l) (hn:n.size≤1048576) (hs:∀ f∈l,f.v.size≤1048576) :
  Calls Tryz.prog 43 #[.agg #[vk,vp],.agg #[.string n,fv]] w fun e w'=>e=.returned (.bool (fieldsB ks ps n l))∧Below w.heap.size w w':=by
 have HKP:Hid (dA w vk ks∧dA w vp ps):=⟨hk,hp⟩;obtain ⟨ak,ck,rfl,-,-,-⟩:=hk;obtain ⟨ap,cp,rfl,-,-,-⟩:=hp;obtain ⟨a,cap,rfl,hlc,hcm,hc⟩:=hv;unfold maxLen at hcm;have HC:Hid (∀ i f,l[i]?=some f→∃ b off,a=some ⟨b,off,none⟩∧lG w b (off+i*3) f):=hc;have HS:Hid (∀ f∈l,f.v.size≤1048576):=hs;clear hc hs
 have HO0:Hid (OwnAt w ((w.alloc (.cells #[.slice ak ks.length ck,.slice ap ps.length cp] 27)).alloc (.cells #[.string n,.slice a l.length cap] 65)) [[.slice ak ks.length ck,.slice ap ps.length cp],[.string n,.slice a l.length cap]]):=((OwnAt.start w).push rfl _ _).push (by simp) _ _
 have HE:Hid (fieldsB ks ps n l=((fw l.length fun i=>jE l i&&gy ks ps (dO n (fH l i)))&&decide (0<l.length))):=rfl
 go_enter Tryz.func43,Tryz.ntmps43
 go_wp2
 go_loopw [5,6,10] (fun _ _ i wr=>∃ k:Nat,k≤l.length∧i=.int .i64 k∧OwnAt w wr [[.slice ak ks.length ck,.slice ap ps.length cp],[.string n,.slice a l.length cap]]∧Hid (∀ j,j<k→(jE l j&&gy ks ps (dO n (fH l j)))=true)) (fun _ _ i _=>l.length-(intOf i).toNat)
 case atStart=>exact ⟨0,Nat.zero_le _,rfl,HO0.out,fun j hj=>absurd hj (Nat.not_lt_zero _)⟩
 case round =>
  obtain ⟨k,hk,rfl,ho,HA⟩:=hrel;have vP:Hid (OwnAt w wr [[.slice ak ks.length ck,.slice ap ps.length cp],[.string n,.slice a l.length cap]]):=ho
  by_cases hlt:k<l.length
  ·obtain ⟨b,off,rfl,hc⟩:=HC.out k _ (b7 hlt)
   obtain ⟨d0,d1,d2⟩:=hc.keep ho.below aG;have hbz:b<wr.heap.size:=av d0;have hsk:(fH l k).v.size≤1048576:=HS.out _ (List.mem_of_getElem? (b7 hlt))
   have hk0:(0:Int)≤(k:Int):=by omega
   have hk1:(k:Int)<(l.length:Int):=by omega
   have uh:Hid ((jE l k&&gy ks ps (dO n (fH l k)))=false→fieldsB ks ps n l=false):=fun h=>by rw [HE.out,bc hlt h];rfl
   have HB2:Hid (Below wr.heap.size wr (wr.alloc (.cells #[.int .i64 (fH l k).what,.int .i64 (fH l k).num,.string (fH l k).v] 67))):=(aM);have y8:Hid (OwnAt w (wr.alloc (.cells #[.int .i64 (fH l k).what,.int .i64 (fH l k).num,.string (fH l k).v] 67)) [[.slice ak ks.length ck,.slice ap ps.length cp],[.string n,.slice (some ⟨b,off,none⟩) l.length cap]]):=ho.call HB2.out
   have jA:Hid (lG (wr.alloc (.cells #[.int .i64 (fH l k).what,.int .i64 (fH l k).num,.string (fH l k).v] 67)) wr.heap.size 0 (fH l k)):=⟨by simp,by simp,by simp⟩
   have MX:Hid (∀ wx:World,Below w.heap.size w wx→Calls Tryz.prog 81 #[.agg #[.slice ak ks.length ck,.slice ap ps.length cp],.agg #[.string n,.int .i64 (fH l k).what,.int .i64 (fH l k).num,.string (fH l k).v]] wx fun e w'=>e=.returned (.bool (gy ks ps (dO n (fH l k))))∧Below wx.heap.size wx w'):=fun wx hx=>oV _ _ ks ps (dO n (fH l k)) wx (HKP.out.1.keep hx) (HKP.out.2.keep hx) hn hsk
   have MID:Hid (0<k→∃ m,k=m+1∧lG wr b (off+m*3) (fH l m)∧jE l k=!decide ((fH l k).what≤(fH l m).what)):=fun hz=>by
    obtain ⟨m,rfl⟩:∃ m,k=m+1:=⟨k-1,by omega⟩
    obtain ⟨b',off',EH,hcm'⟩:=HC.out m _ (b7 (by omega))
    cases EH
    exact ⟨m,rfl,hcm'.keep ho.below aG,by simp [jE]⟩
   clear ho hc
   go_upto_region 4 with fail
   generalize wr.alloc (.cells #[.int .i64 (fH l k).what,.int .i64 (fH l k).num,.string (fH l k).v] 67)=w2 at *;have nz:wr.heap.size<w2.heap.size:=av jA.out.1
   go_cut [28] (fun s28 wc=>s28=.bool (!jE l k)∧Below w2.heap.size w2 wc)
   case first =>
    have e2:w2.cell? ⟨w.heap.size+1,0,none⟩=some (.string n):=(y8.out.has 1 _ rfl 0 _ rfl).1;have e3:w2.cell? ⟨w.heap.size+1,1,none⟩=some (.slice (some ⟨b,off,none⟩) l.length cap):=(y8.out.has 1 _ rfl 1 _ rfl).1;have ez:w.heap.size+1<w2.heap.size:=av e2;obtain ⟨n0,n1,n2⟩:=jA.out
    simp only [Nat.zero_add] at n1 n2
    have hne:=Later.some w2
    have hbz2:b<w2.heap.size:=by have:=HB2.out.size;omega
    by_cases hz:0<k
    ·obtain ⟨m,hkm,hf,hh⟩:=MID.out hz
     subst hkm;obtain ⟨g0,g1,g2⟩:=hf.keep HB2.out aG
     have hi0:(0:Int)≤(m:Int):=by omega
     have hi1:(m:Int)<(l.length:Int):=by omega
     have hi2:(0:Int)<(m:Int)+1:=by omega
     have hw1:IntKind.i64.wrap (m:Int)=(m:Int):=by rw [IntKind.wrap_i64];omega
     have hw2:IntKind.i64.wrap ((m:Int)+1-1)=(m:Int):=by rw [IntKind.wrap_i64];omega
     have HH:Hid (jE l (m+1)=!decide ((fH l (m+1)).what≤(fH l m).what)):=hh;clear hh hf
     refine au (by kernel_rfl) (by kernel_rfl) ?_
     repeat (go_big_quiet_step (fail))
     refine wpQuiet_nil ?_;rintro _ ⟨x,rfl⟩;go_wp2_with fail
     go_meet
     exact ⟨by rw [HH.out,Bool.not_not],x.below⟩
    ·have hz':decide (0<k)=false:=by simp;omega
     have HH:Hid (jE l k=true):=by
      show jE l k=true
      obtain rfl:k=0:=by omega
      exact AX l
     refine au (by kernel_rfl) (by kernel_rfl) ?_
     repeat (go_big_quiet_step (fail))
     refine wpQuiet_nil ?_;rintro _ ⟨x,rfl⟩;go_wp2_with fail
     go_meet
     exact ⟨by rw [HH.out];rfl,x.below⟩
   case rest =>
    obtain ⟨rfl,hbc⟩:=hcut;have MQ:Hid (OwnAt w wc [[.slice ak ks.length ck,.slice ap ps.length cp],[.string n,.slice (some ⟨b,off,none⟩) l.length cap]]):=y8.out.call hbc;have e0:wc.cell? ⟨w.heap.size,0,none⟩=some (.slice ak ks.length ck):=(MQ.out.has 0 _ rfl 0 _ rfl).1;have e1:wc.cell? ⟨w.heap.size,1,none⟩=some (.slice ap ps.length cp):=(MQ.out.has 0 _ rfl 1 _ rfl).1;have e2:wc.cell? ⟨w.heap.size+1,0,none⟩=some (.string n):=(MQ.out.has 1 _ rfl 0 _ rfl).1;have e3:wc.cell? ⟨w.heap.size+1,1,none⟩=some (.slice (some ⟨b,off,none⟩) l.length cap):=(MQ.out.has 1 _ rfl 1 _ rfl).1;have ez:w.heap.size+1<wc.heap.size:=av e2;have ey:w.heap.size<wc.heap.size:=av e0;obtain ⟨n0,n1,n2⟩:=jA.out.keep hbc aG
    simp only [Nat.zero_add] at n1 n2
    have nz2:wr.heap.size<wc.heap.size:=av n0;have hne:=Later.some wc;have GF:Hid (∀ (y:Later wc),Calls Tryz.prog 81 #[.agg #[.slice ak ks.length ck,.slice ap ps.length cp],.agg #[.string n,.int .i64 (fH l k).what,.int .i64 (fH l k).num,.string (fH l k).v]] y.val fun e w''=>e=.returned (.bool (gy ks ps (dO n (fH l k))))∧∃ z:Later wc,w''=z.val):=fun y=>Calls.later (MX.out y.val (aa MQ.out.below y.below));have GC:Hid (∀ (y:Later wc),Calls Tryz.prog 72 #[.agg #[.int .i64 (fH l k).what,.int .i64 (fH l k).num,.string (fH l k).v],.string n] y.val fun e w''=>e=.returned (.agg #[.string n,.int .i64 (fH l k).what,.int .i64 (fH l k).num,.string (fH l k).v])∧∃ z:Later wc,w''=z.val):=fun y=>Calls.later (tq (fH l k) n y.val);clear MID MX jA HB2 y8 hbc d0 d1 d2;have HAF:Hid (∃ q,jE l k=q):=⟨_,rfl⟩;generalize haf:jE l k=af at *;have HAF:Hid (jE l k=af):=haf;clear haf;generalize hft:gy ks ps (dO n (fH l k))=ft at *;have MW:Hid (gy ks ps (dO n (fH l k))=ft):=hft;clear hft
    cases af
    ·go_wp2
     go_ret;exact ⟨ax (uh.out rfl).symm,MQ.out.below⟩
    ·go_wp2
     refine au (by kernel_rfl) (by kernel_rfl) ?_
     repeat (go_big_quiet_step (first | (go_at_call 81;exact GF.out _) | (go_at_call 72;exact GC.out _)))
     refine wpQuiet_nil ?_;rintro _ ⟨x,rfl⟩
     cases ft
     ·go_wp2
      go_ret;exact ⟨ax (uh.out rfl).symm,aa MQ.out.below x.below⟩
     ·go_wp2
      go_roundw
      case rel=>exact ⟨k+1,by omega,by go_num,MQ.out.call x.below,fun j hj=>if e:j=k then by rw [e,HAF.out,MW.out];rfl else HA.out j (by omega)⟩
      case measure=>simp [intOf];omega
  ·have e0:wr.cell? ⟨w.heap.size+1,0,none⟩=some (.string n):=(vP.out.has 1 _ rfl 0 _ rfl).1
   have e1:wr.cell? ⟨w.heap.size+1,1,none⟩=some (.slice a l.length cap):=(vP.out.has 1 _ rfl 1 _ rfl).1
   have HF:Hid (fieldsB ks ps n l=decide (0<l.length)):=by
    show _=_
    rw [HE.out,aX fun j hj=>HA.out j (by omega)];rfl
   clear ho;go_wp2;go_ret
   exact ⟨ax (by rw [HF.out] <;> simp),vP.out.below⟩
theorem zh.of {ks ps:List dx} {es:List dU} (h:ic ks ps es):zh es:=fun e he=>⟨by have:=h.n e he;unfold maxLen;omega,fun f hf=>by have:=h.v e he f hf;unfold maxLen;omega⟩
theorem ru (vk vp ve:Value) (ks ps:List dx) (es:List dU) (w:World) (hB:dI w vk vp ve ks ps es) (nB:jU ks ps es) (sB:ic ks ps es) :
  Calls Tryz.prog 12 #[.agg #[vk,vp,ve]] w fun e w'=>e=.returned (.bool (dJ ks ps es))∧Below w.heap.size w w':=by
 have HB:Hid (dI w vk vp ve ks ps es):=hB;have NB:Hid (jU ks ps es):=nB;have SB:Hid (ic ks ps es):=sB;obtain ⟨⟨ak,ck,rfl,-,-,-⟩,⟨ap,cp,rfl,-,-,-⟩,⟨ae,ce,rfl,hlc,hcm,hc⟩⟩:=hB;unfold maxLen at hcm;have HC:Hid (∀ i f,es[i]?=some f→∃ b off,ae=some ⟨b,off,none⟩∧lH w b (off+i*2) f):=hc;clear nB sB hc;have HX0:Hid (OwnAt w (w.alloc (.cells #[.slice ak ks.length ck,.slice ap ps.length cp,.slice ae es.length ce] 30)) [[.slice ak ks.length ck,.slice ap ps.length cp,.slice ae es.length ce]]):=(OwnAt.start w).push rfl _ _;have HE:Hid (dJ ks ps es=(eF ks ps&&(jP es&&fw es.length fun i=>fieldsB ks ps (eZ es i).name (eZ es i).fs))):=rfl
 go_enter Tryz.func12,Tryz.ntmps12
 go_wp2_with fail;refine (Hd _ _ ks ps _ (HB.out.k.keep HX0.out.below) (HB.out.p.keep HX0.out.below) NB.out.k NB.out.p).mono ?_;rintro e w1 ⟨rfl,hb1⟩;have jG:Hid (OwnAt w w1 _):=HX0.out.call hb1;clear HX0 hb1;have y0:w1.cell? ⟨w.heap.size,0,none⟩=some (.slice ak ks.length ck):=(jG.out.has 0 _ rfl 0 _ rfl).1;have y1:w1.cell? ⟨w.heap.size,1,none⟩=some (.slice ap ps.length cp):=(jG.out.has 0 _ rfl 1 _ rfl).1;have y2:w1.cell? ⟨w.heap.size,2,none⟩=some (.slice ae es.length ce):=(jG.out.has 0 _ rfl 2 _ rfl).1;have hbb:(dM ks&&dH ps)=eF ks ps:=rfl;rw [hbb];clear hbb;generalize eF ks ps=bb at *
 cases bb
 ·go_wp2
  go_ret
  exact ⟨ax (by rw [HE.out];rfl),jG.out.below⟩
 go_wp2_with fail;refine (xP _ es _ (HB.out.e.keep jG.out.below) NB.out.e).mono ?_;rintro e w2 ⟨rfl,hb2⟩;have jF:Hid (OwnAt w w2 _):=jG.out.call hb2;clear jG hb2 y0 y1 y2;have y0:w2.cell? ⟨w.heap.size,0,none⟩=some (.slice ak ks.length ck):=(jF.out.has 0 _ rfl 0 _ rfl).1;have y1:w2.cell? ⟨w.heap.size,1,none⟩=some (.slice ap ps.length cp):=(jF.out.has 0 _ rfl 1 _ rfl).1;have y2:w2.cell? ⟨w.heap.size,2,none⟩=some (.slice ae es.length ce):=(jF.out.has 0 _ rfl 2 _ rfl).1;generalize jP es=ne at *
 cases ne
 ·go_wp2
  go_ret
  exact ⟨ax (by rw [HE.out];rfl),jF.out.below⟩
 have HE2:Hid (dJ ks ps es=fw es.length fun i=>fieldsB ks ps (eZ es i).name (eZ es i).fs):=HE.out;clear HE;go_wp2;clear y0 y1 y2
 go_loopw [4,18] (fun _ i wr=>∃ k:Nat,k≤es.length∧i=.int .i64 k∧OwnAt w wr [[.slice ak ks.length ck,.slice ap ps.length cp,.slice ae es.length ce]]∧Hid (∀ j,j<k→fieldsB ks ps (eZ es j).name (eZ es j).fs=true)) (fun _ i _=>es.length-(intOf i).toNat)
 case atStart=>exact ⟨0,Nat.zero_le _,rfl,jF.out,fun j hj=>absurd hj (Nat.not_lt_zero _)⟩
 case round =>
  obtain ⟨k,hk,rfl,ho,HA⟩:=hrel;have vP:Hid (OwnAt w wr [[.slice ak ks.length ck,.slice ap ps.length cp,.slice ae es.length ce]]):=ho
  by_cases hlt:k<es.length
  ·obtain ⟨b,off,rfl,hc⟩:=HC.out k _ (bp hlt)
   obtain ⟨fv,d0,d1,hfl⟩:=hc.keep ho.below;have Ke:Hid (iW wr fv (eZ es k).fs):=hfl;obtain ⟨fa,fc,rfl,-,-,-⟩:=hfl;have y0:wr.cell? ⟨w.heap.size,0,none⟩=some (.slice ak ks.length ck):=(vP.out.has 0 _ rfl 0 _ rfl).1;have y1:wr.cell? ⟨w.heap.size,1,none⟩=some (.slice ap ps.length cp):=(vP.out.has 0 _ rfl 1 _ rfl).1;have y2:wr.cell? ⟨w.heap.size,2,none⟩=some (.slice (some ⟨b,off,none⟩) es.length ce):=(vP.out.has 0 _ rfl 2 _ rfl).1;have yz:w.heap.size<wr.heap.size:=av y0;have HM:Hid (eZ es k∈es):=List.mem_of_getElem? (bp hlt)
   have hk0:(0:Int)≤(k:Int):=by omega
   have hk1:(k:Int)<(es.length:Int):=by omega
   have HBN:Hid (∀ o:Obj,Below wr.heap.size wr (wr.alloc o)):=fun o=>(aM);clear ho hc;go_wp2_with fail;refine (Cr _ _ _ ks ps (eZ es k).name (eZ es k).fs _ ((HB.out.k.keep vP.out.below).keep (HBN.out _)) ((HB.out.p.keep vP.out.below).keep (HBN.out _)) (Ke.out.keep (HBN.out _)) (SB.out.n _ HM.out) (SB.out.v _ HM.out)).mono ?_;rintro e w3 ⟨rfl,hb3⟩;have MQ:Hid (OwnAt w w3 _):=(vP.out.call (HBN.out _)).call hb3;clear hb3
   cases hft:fieldsB ks ps (eZ es k).name (eZ es k).fs
   ·have MW:Hid (fieldsB ks ps (eZ es k).name (eZ es k).fs=false):=hft
    clear hft;go_wp2;go_ret
    exact ⟨ax (by rw [HE2.out];exact (bc hlt MW.out).symm),MQ.out.below⟩
   ·have MW:Hid (fieldsB ks ps (eZ es k).name (eZ es k).fs=true):=hft
    clear hft;go_wp2
    exact ⟨⟨k+1,by omega,by go_num,MQ.out,fun j hj=>if e:j=k then by rw [e];exact MW.out else HA.out j (by omega)⟩,by simp [intOf];omega⟩
  ·go_wp2
   go_ret
   exact ⟨ax (by rw [HE2.out];exact (aX fun j hj=>HA.out j (by omega)).symm),vP.out.below⟩
end Go.Proofs.YtcmgddnckohdaaaGreatDoor
namespace Go.Proofs.YtcmgddnckohdaaaGreatDoor
open Go.RowKit
def jk (c:dP):List Value:=[.string c.f,.int .i64 c.what,.int .i64 c.num,.string c.v]
def lV (l:List dP):List Value:=l.flatMap jk
theorem sZ (l:List dP) (c:dP):lV (l++[c])=lV l++jk c:=by simp [lV]
def dh (es:List dU):List dP:=es.flatMap fun e=>e.fs.map (dO e.name)
theorem oU (es:List dU) (k:Nat) (e:dU) (h:es[k]?=some e):dh (es.take (k+1))=dh (es.take k)++e.fs.map (dO e.name):=by
 obtain ⟨hk,rfl⟩:=List.getElem?_eq_some_iff.1 h;rw [List.take_succ_eq_append_getElem hk]
 simp only [dh,List.flatMap_append,List.flatMap_cons,List.flatMap_nil,List.append_nil]
theorem lC (es:List dU):(dh es).length=jC (fun e=>e.fs.length) es:=by
 induction es with
 | nil=>rfl
 | cons e es ih=>simp only [dh,List.flatMap_cons,List.length_append,jC,List.length_map] at *;omega
def fJ (w:World) (base:Nat) (v:Value) (l:List dP):Prop:=w.ownsRow base 76 4 v l.length (lV l)
theorem yx:(Tryz.prog.info? 76).map (fun i=>(i.zero,i.size,i.bytes))=some (some (.agg #[.string ByteArray.empty,.int .i64 0,.int .i64 0,.string ByteArray.empty]),4,48):=by kernel_rfl
def zi (w:World) (b o:Nat) (c:dP):Prop:=w.cell? ⟨b,o,none⟩=some (.string c.f)∧w.cell? ⟨b,o+1,none⟩=some (.int .i64 c.what)∧w.cell? ⟨b,o+2,none⟩=some (.int .i64 c.num)∧w.cell? ⟨b,o+3,none⟩=some (.string c.v)
def iC (w:World) (v:Value) (l:List dP):Prop :=
 ∃ a cap,v=.slice a l.length cap∧l.length≤cap∧cap≤maxLen∧∀ i c,l[i]?=some c→∃ b off,a=some ⟨b,off,none⟩∧zi w b (off+i*4) c
theorem zi.keep {w w':World} {b o B:Nat} {c:dP} (h:zi w b o c) (hb:Below B w w') (hB:w.heap.size≤B):zi w' b o c :=
 ⟨ag hb hB h.1,ag hb hB h.2.1,ag hb hB h.2.2.1,ag hb hB h.2.2.2⟩
theorem iC.keep {w w':World} {v:Value} {l:List dP} (h:iC w v l) (hb:Below w.heap.size w w'):iC w' v l:=by
 obtain ⟨a,cap,rfl,h1,h2,h3⟩:=h;refine ⟨a,cap,rfl,h1,h2,fun i t ht=>?_⟩;obtain ⟨b,off,ha,hc⟩:=h3 i t ht;exact ⟨b,off,ha,hc.keep hb aG⟩
theorem GZ (l:List dP) (i:Nat) (c:dP) (h:l[i]?=some c) (j:Nat) (hj:j<4):(lV l)[i*4+j]?=(jk c)[j]?:=by
 induction l generalizing i with
 | nil=>simp at h
 | cons a l ih =>
  have e:lV (a::l)=jk a++lV l:=by simp [lV]
  rw [e]
  cases i with
  | zero =>
   simp at h;subst h
   rw [List.getElem?_append_left (by simp [jk];omega)];simp
  | succ i =>
   rw [List.getElem?_append_right (by simp [jk];omega)]
   have:(i+1)*4+j-(jk a).length=i*4+j:=by simp [jk];omega
   rw [this]
   exact ih i (by simpa using h)
theorem fJ.at {w:World} {base:Nat} {v:Value} {l:List dP} (h:fJ w base v l):iC w v l:=by
 obtain ⟨h1,h2⟩:=h
 rcases h2 with ⟨rfl,h0⟩ | ⟨g,cap,cur,rfl,_,hb,hn,hc,hs,ht⟩
 ·have:l=[]:=List.length_eq_zero_iff.1 h0
  subst this
  exact ⟨none,0,rfl,Nat.le_refl _,Nat.zero_le _,fun i c hc=>by simp at hc⟩
 ·refine ⟨some ⟨g,0,none⟩,cap,rfl,hn,hc,fun i c hi=>⟨g,0,rfl,?_⟩⟩
  have hil:i<l.length:=(List.getElem?_eq_some_iff.1 hi).1
  have one:∀ j,j<4→w.cell? ⟨g,0+i*4+j,none⟩=(jk c)[j]?:=fun j hj=>by
   rw [← GZ l i c hi j hj,← ht,List.getElem?_take]
   rw [if_pos (by omega)]
   simp [World.cell?,hb]
  refine ⟨?_,?_,?_,?_⟩
  ·simpa [jk] using one 0 (by omega)
  ·simpa [jk] using one 1 (by omega)
  ·simpa [jk] using one 2 (by omega)
  ·simpa [jk] using one 3 (by omega)
def j6 (l:List dP) (i:Nat):dP:=l.getD i ⟨⟨#[]⟩,0,0,⟨#[]⟩⟩
theorem pM {l:List dP} {i:Nat} (h:i<l.length):l[i]?=some (j6 l i):=by simp [j6,h]
theorem zO (w:World) (a b c d:Value) (t:TypeId):∀ j u,[a,b,c,d][j]?=some u→(w.alloc (.cells #[a,b,c,d] t)).cell? ((⟨w.heap.size,0,none⟩:Addr).add j)=some u:=by
 intro j u hj
 match j,hj with
 | 0,hj=>simp at hj;subst hj;simp [Addr.add]
 | 1,hj=>simp at hj;subst hj;simp [Addr.add]
 | 2,hj=>simp at hj;subst hj;simp [Addr.add]
 | 3,hj=>simp at hj;subst hj;simp [Addr.add]
 | j+4,hj=>simp at hj
theorem ah {w w':World} {base:Nat} {e:TypeId} {size:Nat} {v:Value} {n:Nat} {xs:List Value} (h:w.ownsRow base e size v n xs) (hb:Below w.heap.size w w'):w'.ownsRow base e size v n xs:=by
 obtain ⟨h1,h2⟩:=h;refine ⟨h1,?_⟩
 rcases h2 with h2 | ⟨g,cap,cur,hv,hg,hh,rest⟩
 ·exact .inl h2
 ·exact .inr ⟨g,cap,cur,hv,hg,(hb.block g (Array.getElem?_eq_some_iff.1 hh).1).trans hh,rest⟩
theorem bd {w:World} {base:Nat} {e:TypeId} {size:Nat} {v:Value} {n:Nat} {xs:List Value} {B:Nat} {C:Array Value} {t:TypeId} (h:w.ownsRow base e size v n xs) (hB:w.heap[B]?=some (.cells C t)) (hne:e≠t):some B≠v.ownBlock:=by
 intro hk
 rcases h.2 with ⟨rfl,_⟩ | ⟨g,cap,cur,rfl,_,hb,_⟩
 ·cases hk
 ·cases hk
  rw [hb] at hB
  injection hB with hB
  injection hB with h1 h2 h3
  exact hne h2
theorem qD (vk vp ve:Value) (es:List dU) (w:World) (he:je w ve es) (hsz:jC (fun e=>e.fs.length) es≤1048576) (hel:es.length≤1048576) :
  Calls Tryz.prog 37 #[.agg #[vk,vp,ve]] w fun e w'=>∃ v,e=.returned v∧fJ w' w.heap.size v (dh es)∧Below w.heap.size w w':=by
 obtain ⟨i0,hi,hz0,hz1,hz2⟩:=info_parts yx;obtain ⟨ae,ce,rfl,hlc,hcm,hc⟩:=he;unfold maxLen at hcm;have HC:Hid (∀ i f,es[i]?=some f→∃ b off,ae=some ⟨b,off,none⟩∧lH w b (off+i*2) f):=hc
 have zm:Hid (∀ k,(dh (es.take k)).length≤1048576):=fun k=>by
  rw [lC];exact Nat.le_trans (Bi _ es k) hsz
 clear hc;have HX0:Hid (Below w.heap.size w (w.alloc (.cells #[vk,vp,.slice ae es.length ce] 30))):=(aM)
 go_enter Tryz.func37,Tryz.ntmps37
 go_wp2
 go_loopw [3,5,7,11] (fun o _ _ i wr=>∃ k:Nat,k≤es.length∧i=.int .i64 k∧fJ wr w.heap.size o (dh (es.take k))∧Below w.heap.size w wr) (fun _ _ _ i _=>es.length-(intOf i).toNat)
 case atStart=>exact ⟨0,Nat.zero_le _,rfl,⟨rfl,.inl ⟨rfl,rfl⟩⟩,HX0.out⟩
 case round =>
  obtain ⟨k,hk,rfl,hown,hb⟩:=hrel
  by_cases hlt:k<es.length
  ·obtain ⟨b,off,rfl,hc⟩:=HC.out k _ (bp hlt)
   obtain ⟨fv,d0',d1',hfl⟩:=hc;have d0:=ag hb aG d0';have d1:=ag hb aG d1';have HK:Hid (dh (es.take (k+1))=dh (es.take k)++(eZ es k).fs.map (dO (eZ es k).name)∧(dh (es.take (k+1))).length≤1048576):=⟨oU es k _ (bp hlt),zm.out (k+1)⟩;obtain ⟨fa,fc,rfl,hfc,hfm,hfe⟩:=hfl;unfold maxLen at hfm;have HFE:Hid (∀ i f,(eZ es k).fs[i]?=some f→∃ b off,fa=some ⟨b,off,none⟩∧lG w b (off+i*3) f):=hfe;clear hfe d0' d1';generalize eZ es k=t at *;obtain ⟨nm,fs⟩:=t;dsimp only at *
   have hk0:(0:Int)≤(k:Int):=by omega
   have hk1:(k:Int)<(es.length:Int):=by omega
   have HOW:Hid (fJ wr w.heap.size u3 (dh (es.take k))):=hown
   have HB1:Hid ((wr.alloc (.cells #[.string nm,.slice fa fs.length fc] 65)).heap[wr.heap.size]?=some (.cells #[.string nm,.slice fa fs.length fc] 65)):=by show (wr.heap.push _)[wr.heap.size]?=_;simp
   generalize hcs:dh (es.take k)=cs at *;clear hcs hown;go_wp2;obtain ⟨B5,hB5⟩:∃ B5,wr.heap.size=B5:=⟨_,rfl⟩;have HST:Hid (fJ (wr.alloc (.cells #[.string nm,.slice fa fs.length fc] 65)) w.heap.size u3 cs):=ah HOW.out (aM);have HBS:Hid (Below w.heap.size w (wr.alloc (.cells #[.string nm,.slice fa fs.length fc] 65))):=hb.alloc hb.size _;rw [hB5] at HB1
   simp only [hB5]
   generalize wr.alloc (.cells #[.string nm,.slice fa fs.length fc] 65)=ws at *;clear HOW d0 d1 hb hB5
   go_loopw [3,7,18] (fun o _ i wx=>∃ j:Nat,j≤fs.length∧i=.int .i64 j∧fJ wx w.heap.size o (cs++(fs.take j).map (dO nm))∧Below w.heap.size w wx∧wx.heap[B5]?=some (.cells #[.string nm,.slice fa fs.length fc] 65)) (fun _ _ i _=>fs.length-(intOf i).toNat)
   case atStart=>exact ⟨0,Nat.zero_le _,rfl,by simpa using HST.out,HBS.out,HB1.out⟩
   case round =>
    clear HST HBS HB1;obtain ⟨j,hj,rfl,hown,hbx,EG⟩:=hrel
    have n0:wr.cell? ⟨B5,0,none⟩=some (.string nm):=by simp [World.cell?,EG]
    have n1:wr.cell? ⟨B5,1,none⟩=some (.slice fa fs.length fc):=by simp [World.cell?,EG]
    have hz5:B5<wr.heap.size:=(Array.getElem?_eq_some_iff.1 EG).1
    by_cases hjl:j<fs.length
    ·obtain ⟨fb,fo,rfl,hf⟩:=HFE.out j _ (b7 hjl)
     obtain ⟨g0,g1,g2⟩:=hf.keep hbx aG
     have HJ:Hid (cs++(fs.take (j+1)).map (dO nm)=cs++(fs.take j).map (dO nm)++[dO nm (fH fs j)]∧(cs++(fs.take j).map (dO nm)).length+1≤1048576):=by
      refine ⟨?_,?_⟩
      ·have:fs[j]=fH fs j:=by simp [fH,hjl]
       rw [List.take_succ_eq_append_getElem hjl,List.map_append,this];simp
      ·have h1:=HK.out.2
       rw [HK.out.1] at h1
       simp at h1 ⊢;omega
     have ku:Hid (Below w.heap.size w wr):=hbx;have HBO:Hid (wr.heap[B5]?=some (.cells #[.string nm,.slice (some ⟨fb,fo,none⟩) fs.length fc] 65)):=EG;have MP:Hid (fJ wr w.heap.size u3 (cs++(fs.take j).map (dO nm))):=hown;clear hf hbx EG hown;generalize fH fs j=t at *;generalize hcc:cs++(fs.take j).map (dO nm)=cc at *;clear hcc
     have hj0:(0:Int)≤(j:Int):=by omega
     have hj1:(j:Int)<(fs.length:Int):=by omega
     have HAL:Hid (Below wr.heap.size wr (wr.alloc (.cells #[.int .i64 t.what,.int .i64 t.num,.string t.v] 67))):=(aM);go_wp2_with fail;refine (tq t nm _).mono ?_;rintro e w1 ⟨rfl,hb1⟩;have hbw1:Below wr.heap.size wr w1:=aa HAL.out hb1;have hown1:fJ w1 w.heap.size u3 cc:=ah MP.out hbw1;have hbox1:=(hbw1.block B5 hz5).trans HBO.out;have hsz1:=hbw1.size;have hB1:Below w.heap.size w w1:=aa ku.out hbw1;have hlen:cc.length+1≤1048576:=HJ.out.2
     go_wp2_with (at_builtin;refine wpList_append_own _ rfl _ _ 73 rfl w.heap.size 76 i0 (.agg #[.string ByteArray.empty,.int .i64 0,.int .i64 0,.string ByteArray.empty]) 4 48 Tryz.underlying73 hi hz0 hz1 hz2 rfl (by decide) _ _ _ rfl (hown1.alloc _) ⟨w1.heap.size,0,none⟩ 1 1 (jk (dO nm t)) rfl rfl (zO _ _ _ _ _ _) (fun x hx=>by simp [jk,dO] at hx;rcases hx with rfl | rfl | rfl | rfl <;> rfl) (by unfold maxLen;omega) (by omega) (by have:=hB1.size;simp;omega) ?_;intro v' w3 hown' hgrow3 hnil3)
     have hbox3:w3.heap[B5]?=_:=(hgrow3.block B5 (by simp;omega) (bd hown1 hbox1 (by decide))).trans ((Below.heap_alloc _ _ _ (by omega)).trans hbox1)
     refine ⟨⟨j+1,by omega,by go_num,?_,(hB1.alloc hB1.size _).grown hgrow3 (by have:=hB1.size;simp;omega) (aw hown1),hbox3⟩,by simp [intOf];omega⟩
     rw [HJ.out.1];unfold fJ;rw [sZ,List.length_append];exact hown'
    ·have qF:Hid (fJ wr w.heap.size u3 (dh (es.take (k+1)))):=by
      show fJ wr w.heap.size u3 _
      rw [HK.out.1]
      rw [List.take_of_length_le (by omega)] at hown;exact hown
     go_wp2
     exact ⟨⟨k+1,by omega,by go_num,qF.out,hbx⟩,by simp [intOf];omega⟩
  ·have qF:Hid (fJ wr w.heap.size u3 (dh es)):=by
    rw [List.take_of_length_le (by omega)] at hown;exact hown
   go_wp2;go_ret;exact ⟨u3,rfl,qF.out,hb⟩
open Go.RowKit
def gz (a b:dP):Bool:=iU a.f b.f||(decide (a.f=b.f)&&decide (a.what<b.what))
def eX (a b:dP):Bool:=decide (a.f=b.f)&&decide (a.what=b.what)
theorem ig {a b:dP}:eX a b=true ↔ a.f=b.f∧a.what=b.what:=by simp [eX]
theorem j3 {a b c:dP} (h:gz a b=true) (k:gz b c=true):gz a c=true:=by
 simp only [gz,Bool.or_eq_true,Bool.and_eq_true,decide_eq_true_eq] at h k ⊢
 rcases h with h | ⟨h1,h2⟩
 ·rcases k with k | ⟨k1,k2⟩
  ·exact .inl (cK h k)
  ·exact .inl (k1 ▸ h)
 ·rcases k with k | ⟨k1,k2⟩
  ·exact .inl (h1 ▸ k)
  ·exact .inr ⟨h1.trans k1,by omega⟩
theorem cr {a b:dP} (h:gz a b=true):eX a b=false:=by
 cases hk:eX a b with
 | false=>rfl
 | true =>
  obtain ⟨h1,h2⟩:=ig.1 hk
  simp only [gz,h1,h2,cG] at h
  simp at h
theorem nA {a b:dP}:eX a b=eX b a:=by
 rw [Bool.eq_iff_iff,ig,ig];exact ⟨fun h=>⟨h.1.symm,h.2.symm⟩,fun h=>⟨h.1.symm,h.2.symm⟩⟩
theorem EA {a b c:dP} (h:eX a b=true) (k:gz b c=true):gz a c=true:=by
 obtain ⟨h1,h2⟩:=ig.1 h
 simp only [gz] at k ⊢
 rw [h1,h2];exact k
theorem Iw {a b:dP} (h:gz a b=false) (k:eX a b=false):gz b a=true:=by
 simp only [gz,Bool.or_eq_false_iff] at h
 cases hb:iU b.f a.f with
 | true=>simp [gz,hb]
 | false =>
  have e:=mR h.1 hb
  simp only [e,decide_true,Bool.true_and,decide_eq_false_iff_not] at h
  simp only [eX,e,decide_true,Bool.true_and,decide_eq_false_iff_not] at k
  simp only [gz,e,decide_true,Bool.true_and,Bool.or_eq_true,decide_eq_true_eq]
  right;omega
def mM (x y:dP):Bool:=if x.num=y.num then iU y.v x.v else decide (y.num<x.num)
def noC:dP:=⟨⟨#[]⟩,0,0,⟨#[]⟩⟩
theorem Lp {x:dP} (h:1≤x.num):mM x noC=true:=by
 unfold mM noC;dsimp only;rw [if_neg (by omega)];simp;omega
def pick (p:dP×dP):Option dP:=if mM p.2 p.1 then some p.2 else none
def pX (A:List dP) (b:dP):Bool:=match A.find? fun a=>eX a b with
 | some a=>mM b a
 | none=>true
theorem Ea (b:dP):pX [] b=true:=rfl
theorem uA {a b:dP} {A:List dP} (h:eX a b=false):pX (a::A) b=pX A b:=by
 unfold pX;rw [List.find?_cons,h]
theorem Eb {a b:dP} {A:List dP} (h:eX a b=true):pX (a::A) b=mM b a:=by
 unfold pX;rw [List.find?_cons,h]
theorem uB {b:dP}:∀ {A:List dP},(∀ a∈A,eX a b=false)→pX A b=true
 | [],_=>rfl
 | a::A,h=>by rw [uA (h a (by simp)),uB fun x hx=>h x (by simp [hx])]
def gF (l:List dP):Prop:=l.Pairwise fun a b=>gz a b=true
theorem Fs {α:Type} {R:α→α→Prop} (ht:∀ a b c,R a b→R b c→R a c) (l:List α) (h:∀ i (hi:i+1<l.length),R (l[i]'(by omega)) l[i+1]):l.Pairwise R:=by
 induction l with
 | nil=>exact List.Pairwise.nil
 | cons a l ih =>
  have hl:l.Pairwise R:=ih fun i hi=>by
   have:=h (i+1) (by simp;omega)
   simpa using this
  refine List.pairwise_cons.2 ⟨fun b hb=>?_,hl⟩
  cases l with
  | nil=>cases hb
  | cons c l =>
   have h0:R a c:=by simpa using h 0 (by simp)
   rcases List.mem_cons.1 hb with rfl | hb
   ·exact h0
   ·exact ht _ _ _ h0 ((List.pairwise_cons.1 hl).1 b hb)
theorem bJ {ks ps:List dx} {es:List dU} (h:dJ ks ps es=true):es.Pairwise fun a b=>iU a.name b.name=true:=by
 simp only [dJ,Bool.and_eq_true] at h
 have hn:fw es.length (fun i=>dD (eZ es i).name&&lD es i)=true:=by
  have:=h.2.1
  simp only [jP,Bool.and_eq_true] at this
  exact this.2
 refine Fs (R:=fun a b:dU=>iU a.name b.name=true) (fun a b c h k=>cK h k) es fun i hi=>?_;have h1:=bH hn (i+1) hi
 simp only [Bool.and_eq_true] at h1
 have h2:=h1.2;rw [uU] at h2
 have e0:eZ es i=es[i]:=by simp [eZ,show i<es.length by omega]
 have e1:eZ es (i+1)=es[i+1]:=by simp [eZ,hi]
 rw [e0,e1] at h2
 simpa [kz,iU] using h2
theorem cJ {ks ps:List dx} {es:List dU} (h:dJ ks ps es=true) {e:dU} (he:e∈es):fieldsB ks ps e.name e.fs=true:=by
 simp only [dJ,Bool.and_eq_true] at h
 obtain ⟨i,hi,rfl⟩:=List.getElem_of_mem he;have h1:=bH h.2.2 i hi
 have e0:eZ es i=es[i]:=by simp [eZ,hi]
 rw [e0] at h1;exact h1
theorem l8 {ks ps:List dx} {n:ByteArray} {l:List fI} (h:fieldsB ks ps n l=true):l.Pairwise fun a b=>a.what<b.what:=by
 simp only [fieldsB,Bool.and_eq_true] at h
 refine Fs (R:=fun a b:fI=>a.what<b.what) (fun a b c h k=>by omega) l fun i hi=>?_
 have h1:=bH h.1 (i+1) hi
 simp only [Bool.and_eq_true] at h1
 have h2:=h1.1
 have e0:fH l i=l[i]:=by simp [fH,show i<l.length by omega]
 have e1:fH l (i+1)=l[i+1]:=by simp [fH,hi]
 simp only [jE,Nat.add_sub_cancel,e0,e1] at h2
 simp at h2
 omega
theorem q8 {ks ps:List dx} {n:ByteArray} {l:List fI} (h:fieldsB ks ps n l=true) {f:fI} (hf:f∈l):gy ks ps (dO n f)=true:=by
 simp only [fieldsB,Bool.and_eq_true] at h
 obtain ⟨i,hi,rfl⟩:=List.getElem_of_mem hf;have h1:=bH h.1 i hi
 simp only [Bool.and_eq_true] at h1
 have e0:fH l i=l[i]:=by simp [fH,hi]
 rw [e0] at h1;exact h1.2
theorem oW {ks ps:List dx} {es:List dU} (h:dJ ks ps es=true):gF (dh es):=by
 have hn:=bJ h;have hf:∀ e∈es,e.fs.Pairwise fun a b=>a.what<b.what:=fun e he=>l8 (cJ h he);clear h
 induction es with
 | nil=>exact List.Pairwise.nil
 | cons e es ih =>
  have hn':=List.pairwise_cons.1 hn
  have e1:dh (e::es)=e.fs.map (dO e.name)++dh es:=by simp [dh]
  unfold gF;rw [e1,List.pairwise_append]
  refine ⟨?_,ih hn'.2 fun x hx=>hf x (by simp [hx]),fun a ha b hb=>?_⟩
  ·rw [List.pairwise_map]
   exact (hf e (by simp)).imp fun h=>by simp [gz,dO,h]
  ·obtain ⟨f,_,rfl⟩:=List.mem_map.1 ha
   obtain ⟨y,hy,hb⟩:=List.mem_flatMap.1 hb;obtain ⟨g,_,rfl⟩:=List.mem_map.1 hb
   simp [gz,dO,hn'.1 y hy]
theorem G7 {ks ps:List dx} {es:List dU} (h:dJ ks ps es=true):es.Pairwise fun a b=>¬ a.name=b.name :=
 (bJ h).imp fun h e=>by rw [e,cG] at h;cases h
open Go.RowKit
def gp:List dP→dP→List dP
 | [],c=>[c]
 | a::l,c=>if gz a c then a::gp l c else if eX a c then (if mM c a then c::l else a::l) else c::a::l
theorem DJ {l:List dP} {c x:dP} (h:x∈gp l c):x=c∨x∈l:=by
 induction l with
 | nil=>simp [gp] at h;exact .inl h
 | cons a l ih =>
  rw [gp] at h
  split at h
  ·rcases List.mem_cons.1 h with rfl | h
   ·exact .inr (by simp)
   ·rcases ih h with h | h
    ·exact .inl h
    ·exact .inr (by simp [h])
  ·split at h
   ·split at h
    ·rcases List.mem_cons.1 h with rfl | h
     ·exact .inl rfl
     ·exact .inr (by simp [h])
    ·exact .inr h
   ·rcases List.mem_cons.1 h with rfl | h
    ·exact .inl rfl
    ·exact .inr h
theorem DI {l:List dP} (c:dP) (h:gF l):gF (gp l c):=by
 induction l with
 | nil=>simp [gp,gF]
 | cons a l ih =>
  have h':=List.pairwise_cons.1 h;rw [gp]
  cases hlt:gz a c with
  | true =>
   rw [if_pos rfl];refine List.pairwise_cons.2 ⟨fun x hx=>?_,ih h'.2⟩
   rcases DJ hx with rfl | hx
   ·exact hlt
   ·exact h'.1 x hx
  | false =>
   rw [if_neg (by simp)]
   cases heq:eX a c with
   | true =>
    rw [if_pos rfl]
    split
    ·exact List.pairwise_cons.2 ⟨fun x hx=>EA (by rw [nA];exact heq) (h'.1 x hx),h'.2⟩
    ·exact h
   | false =>
    rw [if_neg (by simp)]
    have hgt:=Iw hlt heq;refine List.pairwise_cons.2 ⟨fun x hx=>?_,h⟩
    rcases List.mem_cons.1 hx with rfl | hx
    ·exact hgt
    ·exact j3 hgt (h'.1 x hx)
theorem zZ {l:List dP} {c:dP} (h:∀ a∈l,gz a c=true):gp l c=l++[c]:=by
 induction l with
 | nil=>rfl
 | cons a l ih=>rw [gp,if_pos (h a (by simp)),ih fun x hx=>h x (by simp [hx])];rfl
theorem Gj {l m:List dP} (h:gF (l++m)):m.foldl gp l=l++m:=by
 induction m generalizing l with
 | nil=>simp
 | cons c m ih =>
  rw [List.foldl_cons,zZ,ih]
  ·simp
  ·simpa using h
  ·have:=(List.pairwise_append.1 h).2.2
   exact fun a ha=>this a ha c (by simp)
theorem u7 {l:List dP} (h:gF l):l.foldl gp []=l:=by simpa using Gj (l:=[]) (by simpa using h)
theorem Je {l:List dP} (c k:dP) (h:gF l):(gp l c).find? (fun a=>eX a k)=if eX c k then (if pX l c then some c else l.find? fun a=>eX a k) else l.find? fun a=>eX a k:=by
 induction l with
 | nil=>simp [gp,Ea]
 | cons a l ih =>
  have h':=List.pairwise_cons.1 h;rw [gp]
  cases hlt:gz a c with
  | true =>
   rw [if_pos rfl,List.find?_cons,ih h'.2,uA (cr hlt)]
   cases hak:eX a k with
   | true =>
    have hck:eX c k=false:=by
     cases hck:eX c k with
     | false=>rfl
     | true =>
      obtain ⟨a1,a2⟩:=ig.1 hak;obtain ⟨c1,c2⟩:=ig.1 hck;have:eX a c=true:=ig.2 ⟨a1.trans c1.symm,a2.trans c2.symm⟩;rw [cr hlt] at this;cases this
    simp [hck,hak]
   | false=>simp [hak]
  | false =>
   rw [if_neg (by simp)]
   cases heq:eX a c with
   | true =>
    rw [if_pos rfl,Eb heq]
    have hak:eX a k=eX c k:=by
     obtain ⟨a1,a2⟩:=ig.1 heq
     simp [eX,a1,a2]
    cases hl:mM c a with
    | true=>rw [if_pos rfl,List.find?_cons,List.find?_cons,hak];cases eX c k <;> simp
    | false=>rw [if_neg (by simp)];cases eX c k <;> simp
   | false =>
    have hgt:=Iw hlt heq
    have hpast:pX (a::l) c=true:=uB fun x hx=>by
     rw [nA]
     rcases List.mem_cons.1 hx with rfl | hx
     ·exact cr hgt
     ·exact cr (j3 hgt (h'.1 x hx))
    rw [if_neg (by simp),hpast,List.find?_cons]
    cases eX c k <;> simp
def dZ (c:dP):fI:=⟨c.what,c.num,c.v⟩
def gN (es:List dU) (c:dP):List dU:=match es.getLast? with
 | some e=>if e.name=c.f then es.dropLast++[⟨e.name,e.fs++[dZ c]⟩] else es++[⟨c.f,[dZ c]⟩]
 | none=>[⟨c.f,[dZ c]⟩]
theorem mU {es:List dU} {c:dP} (h:∀ e,es.getLast?=some e→e.name≠c.f):gN es c=es++[⟨c.f,[dZ c]⟩]:=by
 unfold gN
 cases hl:es.getLast? with
 | none=>rw [List.getLast?_eq_none_iff.1 hl];rfl
 | some e=>simp only [];rw [if_neg (h e hl)]
theorem pW {es:List dU} {e:dU} {c:dP} (h:e.name=c.f):gN (es++[e]) c=es++[⟨e.name,e.fs++[dZ c]⟩]:=by
 unfold gN
 simp [h]
theorem J5 (n:ByteArray) (es:List dU) (fs gs:List fI):(gs.map (dO n)).foldl gN (es++[⟨n,fs⟩])=es++[⟨n,fs++gs⟩]:=by
 induction gs generalizing fs with
 | nil=>simp
 | cons g gs ih =>
  rw [List.map_cons,List.foldl_cons,pW (c:=dO n g) rfl,ih]
  simp [dZ,dO]
theorem MI {es:List dU} {e:dU} (hne:e.fs≠[]) (h:∀ x,es.getLast?=some x→x.name≠e.name):(e.fs.map (dO e.name)).foldl gN es=es++[e]:=by
 obtain ⟨n,fs⟩:=e
 cases fs with
 | nil=>exact absurd rfl hne
 | cons f fs =>
  rw [List.map_cons,List.foldl_cons,mU (c:=dO n f) h];exact J5 n es [f] fs
theorem grp_app {es xs:List dU} (hne:∀ e∈xs,e.fs≠[]) (h:(es++xs).Pairwise fun a b=>¬ a.name=b.name):(dh xs).foldl gN es=es++xs:=by
 induction xs generalizing es with
 | nil=>simp [dh]
 | cons x xs ih =>
  have e1:dh (x::xs)=x.fs.map (dO x.name)++dh xs:=by simp [dh]
  rw [e1,List.foldl_append,MI (hne x (by simp)),ih (fun e he=>hne e (by simp [he]))]
  ·simp
  ·simpa using h
  ·intro y hy
   have hm:y∈es:=List.mem_of_getLast? hy
   exact (List.pairwise_append.1 h).2.2 y hm x (by simp)
theorem oM {es:List dU} (hne:∀ e∈es,e.fs≠[]) (h:es.Pairwise fun a b=>¬ a.name=b.name):(dh es).foldl gN []=es:=by simpa using grp_app (es:=[]) hne (by simpa using h)
open Go.RowKit
def BR (f g:fI):Bool:=mM (dO ⟨#[]⟩ f) (dO ⟨#[]⟩ g)
theorem Lm (n m:ByteArray) (f g:fI):mM (dO n f) (dO m g)=BR f g:=rfl
def gP:List fI→fI→List fI
 | [],f=>[f]
 | g::l,f=>if g.what<f.what then g::gP l f else if g.what=f.what then (if BR f g then f::l else g::l) else f::g::l
def dS:List dU→ByteArray→fI→List dU
 | [],n,f=>[⟨n,[f]⟩]
 | e::es,n,f=>if e.name=n then ⟨e.name,gP e.fs f⟩::es else if iU e.name n then e::dS es n f else ⟨n,[f]⟩::e::es
theorem Ig (l:List fI) (f:fI):gP l f≠[]:=by
 cases l with
 | nil=>simp [gP]
 | cons g l=>rw [gP];split <;> (try split) <;> (try split) <;> simp
theorem putE_ne {es:List dU} (n:ByteArray) (f:fI) (h:∀ e∈es,e.fs≠[]):∀ e∈dS es n f,e.fs≠[]:=by
 induction es with
 | nil=>simp [dS]
 | cons x es ih =>
  have ih':=ih fun e he=>h e (by simp [he])
  rw [dS]
  split
  ·intro e he
   rcases List.mem_cons.1 he with rfl | he
   ·exact Ig _ _
   ·exact h e (by simp [he])
  ·split
   ·intro e he
    rcases List.mem_cons.1 he with rfl | he
    ·exact h _ (by simp)
    ·exact ih' e he
   ·intro e he
    rcases List.mem_cons.1 he with rfl | he
    ·simp
    ·exact h e he
theorem Jc {es:List dU} {n:ByteArray} {f:fI} {x:dU} (h:x∈dS es n f):x.name=n ∨ ∃ e∈es,e.name=x.name:=by
 induction es with
 | nil=>simp [dS] at h;exact .inl (by rw [h])
 | cons e es ih =>
  rw [dS] at h
  split at h
  ·rename_i he
   rcases List.mem_cons.1 h with rfl | h
   ·exact .inl he
   ·exact .inr ⟨x,by simp [h],rfl⟩
  ·split at h
   ·rcases List.mem_cons.1 h with rfl | h
    ·exact .inr ⟨x,by simp,rfl⟩
    ·rcases ih h with h | ⟨y,hy,hn⟩
     ·exact .inl h
     ·exact .inr ⟨y,by simp [hy],hn⟩
   ·rcases List.mem_cons.1 h with rfl | h
    ·exact .inl rfl
    ·exact .inr ⟨x,h,rfl⟩
theorem u6 {es:List dU} (n:ByteArray) (f:fI) (h:es.Pairwise fun a b=>iU a.name b.name=true):(dS es n f).Pairwise fun a b=>iU a.name b.name=true:=by
 induction es with
 | nil=>simp [dS]
 | cons e es ih =>
  have h':=List.pairwise_cons.1 h;rw [dS]
  split
  ·exact List.pairwise_cons.2 ⟨fun x hx=>h'.1 x hx,h'.2⟩
  ·rename_i hne
   split
   ·rename_i hlt
    refine List.pairwise_cons.2 ⟨fun x hx=>?_,ih h'.2⟩
    rcases Jc hx with hx | ⟨y,hy,hn⟩
    ·rw [hx];exact hlt
    ·rw [← hn];exact h'.1 y hy
   ·rename_i hnl
    have hgt:iU n e.name=true:=by
     cases hg:iU n e.name with
     | true=>rfl
     | false=>exact absurd (mR (by simpa using hnl) hg) hne
    refine List.pairwise_cons.2 ⟨fun x hx=>?_,h⟩
    rcases List.mem_cons.1 hx with rfl | hx
    ·exact hgt
    ·exact cK hgt (h'.1 x hx)
theorem mY {es:List dU} (h:es.Pairwise fun a b=>iU a.name b.name=true):es.Pairwise fun a b=>¬ a.name=b.name :=
 h.imp fun h e=>by rw [e,cG] at h;cases h
theorem Jd {l m:List dP} {c:dP} (h:∀ a∈l,gz a c=true):gp (l++m) c=l++gp m c:=by
 induction l with
 | nil=>rfl
 | cons a l ih=>rw [List.cons_append,gp,if_pos (h a (by simp)),ih fun x hx=>h x (by simp [hx])];rfl
theorem JC {a c:dP} (h:gz c a=true):gz a c=false∧eX a c=false:=by
 refine ⟨?_,by rw [nA];exact cr h⟩
 cases hk:gz a c with
 | false=>rfl
 | true =>
  have:=cr (j3 h hk)
  simp [eX] at this
theorem xw {m:List dP} {c:dP} (h:∀ a∈m,gz c a=true):gp m c=c::m:=by
 cases m with
 | nil=>rfl
 | cons a m=>obtain ⟨h1,h2⟩:=JC (h a (by simp));rw [gp,h1,h2];simp
theorem z8 (n:ByteArray) (f:fI) (m:List dP) (hm:∀ a∈m,gz (dO n f) a=true):∀ fs:List fI,gp (fs.map (dO n)++m) (dO n f)=(gP fs f).map (dO n)++m
 | []=>by simpa [gP] using xw hm
 | g::fs=>by
  rw [List.map_cons,List.cons_append,gp,gP]
  have e1:gz (dO n g) (dO n f)=decide (g.what<f.what):=by simp [gz,dO,cG];rfl
  have e2:eX (dO n g) (dO n f)=decide (g.what=f.what):=by simp [eX,dO];rfl
  rw [e1,e2,Lm,z8 n f m hm fs]
  by_cases h1:g.what<f.what
  ·simp [h1]
  ·by_cases h2:g.what=f.what
   ·cases hl:BR f g <;> simp [h2]
   ·simp [h1,h2]
theorem kV (e:dU) (es:List dU):dh (e::es)=e.fs.map (dO e.name)++dh es:=by simp [dh]
theorem yS {n:ByteArray} {f:fI} {es:List dU} (h:∀ e∈es,iU n e.name=true):∀ a∈dh es,gz (dO n f) a=true:=by
 intro a ha;obtain ⟨e,he,ha⟩:=List.mem_flatMap.1 ha;obtain ⟨g,_,rfl⟩:=List.mem_map.1 ha
 simp [gz,dO,h e he]
theorem AR {es:List dU} (n:ByteArray) (f:fI) (h:es.Pairwise fun a b=>iU a.name b.name=true):dh (dS es n f)=gp (dh es) (dO n f):=by
 induction es with
 | nil=>simp [dS,dh,gp]
 | cons e es ih =>
  have h':=List.pairwise_cons.1 h;rw [dS,kV]
  split
  ·rename_i he
   subst he;rw [z8 _ _ _ (yS h'.1),kV]
  ·rename_i hne
   split
   ·rename_i hlt
    rw [Jd,kV,ih h'.2];intro a ha;obtain ⟨g,_,rfl⟩:=List.mem_map.1 ha
    simp [gz,dO,hlt]
   ·rename_i hnl
    have hgt:iU n e.name=true:=by
     cases hg:iU n e.name with
     | true=>rfl
     | false=>exact absurd (mR (by simpa using hnl) hg) hne
    rw [kV,xw]
    ·rw [kV];simp
    ·rw [← kV]
     exact yS (f:=f) fun x hx=>by
      rcases List.mem_cons.1 hx with rfl | hx
      ·exact hgt
      ·exact cK hgt (h'.1 x hx)
theorem uZ {es:List dU} (n:ByteArray) (f:fI) (h:es.Pairwise fun a b=>iU a.name b.name=true) (hne:∀ e∈es,e.fs≠[]):(gp (dh es) (dO n f)).foldl gN []=dS es n f:=by
 rw [← AR n f h];exact oM (putE_ne n f hne) (mY (u6 n f h))
theorem Dz {es:List dU} (n:ByteArray) (f:fI) (h:es.Pairwise fun a b=>iU a.name b.name=true):(dS es n f).length=if es.any (fun e=>decide (e.name=n)) then es.length else es.length+1:=by
 induction es with
 | nil=>simp [dS]
 | cons e es ih =>
  have h':=List.pairwise_cons.1 h;rw [dS]
  split
  ·rename_i he;simp [he]
  ·rename_i hne
   split
   ·rw [List.length_cons,ih h'.2];simp [hne];split <;> simp
   ·rename_i hnl
    have hgt:iU n e.name=true:=by
     cases hg:iU n e.name with
     | true=>rfl
     | false=>exact absurd (mR (by simpa using hnl) hg) hne
    have hno:es.any (fun e=>decide (e.name=n))=false:=by
     rw [List.any_eq_false];intro x hx hxn
     have hxn:x.name=n:=by simpa using hxn
     have:=cK hgt (h'.1 x hx);rw [hxn,cG] at this;cases this
    simp [hne,hno]
open Go.RowKit
attribute [local go_sem] Later.cell Later.frozen
def j5 (ks ps:List dx) (n:ByteArray) (l:List fI) (i:Nat):Bool:=(eF ks ps&&gy ks ps (dO n (fH l i)))&&jE l i
def sQ (ks ps:List dx) (n:ByteArray) (l:List fI):Bool:=dD n&&(decide (0<l.length)&&fw l.length (j5 ks ps n l))
theorem Cx (ks ps:List dx) (es:List dU):dJ ks ps es=(eF ks ps&&(decide (es.length≤12)&&fw es.length fun i=>sQ ks ps (eZ es i).name (eZ es i).fs&&lD es i)):=by
 unfold dJ jP
 cases hb:eF ks ps
 ·rfl
 ·rw [Bool.true_and,Bool.true_and,Bool.and_assoc,← yY]
  congr 1
  refine jT fun j _=>?_
  have e:fw (eZ es j).fs.length (j5 ks ps (eZ es j).name (eZ es j).fs)=fw (eZ es j).fs.length fun i=>jE (eZ es j).fs i&&gy ks ps (dO (eZ es j).name (fH (eZ es j).fs i)) :=
   jT fun i _=>by unfold j5;rw [hb,Bool.true_and,Bool.and_comm]
  unfold sQ fieldsB;rw [e];generalize (fw (eZ es j).fs.length fun i=>jE (eZ es j).fs i&&gy ks ps (dO (eZ es j).name (fH (eZ es j).fs i)))=q;generalize decide (0<(eZ es j).fs.length)=r
  cases dD (eZ es j).name <;> cases lD es j <;> cases q <;> cases r <;> rfl
theorem zI (vk vp fv:Value) (ks ps:List dx) (n:ByteArray) (l:List fI) (w:World) (hk:dA w vk ks) (hp:dA w vp ps) (nk:Names ks) (np:Names ps) (hv:iW w fv l) (hn:n.size≤1048576) (hs:∀ f∈l,f.v.size≤1048576) :
  Calls Tryz.prog 48 #[.agg #[vk,vp],.agg #[.string n,fv]] w fun e w'=>e=.returned (.bool (sQ ks ps n l))∧Below w.heap.size w w':=by
 have HKP:Hid ((dA w vk ks∧dA w vp ps)∧(Names ks∧Names ps)):=⟨⟨hk,hp⟩,nk,np⟩;obtain ⟨ak,ck,rfl,-,-,-⟩:=hk;obtain ⟨ap,cp,rfl,-,-,-⟩:=hp;obtain ⟨a,cap,rfl,hlc,hcm,hc⟩:=hv;unfold maxLen at hcm;have HC:Hid (∀ i f,l[i]?=some f→∃ b off,a=some ⟨b,off,none⟩∧lG w b (off+i*3) f):=hc;have HS:Hid (∀ f∈l,f.v.size≤1048576):=hs;clear hc hs nk np
 have HO0:Hid (OwnAt w ((w.alloc (.cells #[.slice ak ks.length ck,.slice ap ps.length cp] 27)).alloc (.cells #[.string n,.slice a l.length cap] 65)) [[.slice ak ks.length ck,.slice ap ps.length cp],[.string n,.slice a l.length cap]]):=((OwnAt.start w).push rfl _ _).push (by simp) _ _
 have HE:Hid (sQ ks ps n l=(dD n&&(decide (0<l.length)&&fw l.length (j5 ks ps n l)))):=rfl
 go_enter Tryz.func48,Tryz.ntmps48
 go_wp2_with fail
 refine (bh n _ (by unfold maxLen;omega)).mono ?_
 generalize dD n=nb at *;rintro e w1 ⟨rfl,rfl⟩
 cases nb
 ·go_wp2
  go_ret
  exact ⟨ax (by rw [HE.out];rfl),HO0.out.below⟩
 by_cases hz:l.length=0
 ·have hz':(((l.length:Nat):Int)==0)=true:=by simp [hz]
  have HF:Hid (sQ ks ps n l=false):=by show _=_;rw [HE.out];simp [hz]
  clear hz;go_wp2;go_ret;exact ⟨ax HF.out.symm,HO0.out.below⟩
 have hz':(((l.length:Nat):Int)==0)=false:=by rw [beq_eq_false_iff_ne];omega
 have HE2:Hid (sQ ks ps n l=fw l.length (j5 ks ps n l)):=by
  show _=_
  have:decide (0<l.length)=true:=by simp;omega
  rw [HE.out,this];rfl
 clear HE hz;go_wp2
 go_loopw [5,6] (fun i _ wr=>∃ k:Nat,k≤l.length∧i=.int .i64 k∧OwnAt w wr [[.slice ak ks.length ck,.slice ap ps.length cp],[.string n,.slice a l.length cap]]∧Hid (∀ j,j<k→j5 ks ps n l j=true)) (fun i _ _=>l.length-(intOf i).toNat)
 case atStart=>exact ⟨0,Nat.zero_le _,rfl,HO0.out,fun j hj=>absurd hj (Nat.not_lt_zero _)⟩
 case round =>
  obtain ⟨k,hk,rfl,ho,HA⟩:=hrel;have vP:Hid (OwnAt w wr [[.slice ak ks.length ck,.slice ap ps.length cp],[.string n,.slice a l.length cap]]):=ho;have y0:wr.cell? ⟨w.heap.size+1,0,none⟩=some (.string n):=(vP.out.has 1 _ rfl 0 _ rfl).1;have y1:wr.cell? ⟨w.heap.size+1,1,none⟩=some (.slice a l.length cap):=(vP.out.has 1 _ rfl 1 _ rfl).1
  by_cases hlt:k<l.length
  ·obtain ⟨b,off,rfl,hc⟩:=HC.out k _ (b7 hlt)
   obtain ⟨d0,d1,d2⟩:=hc.keep ho.below aG;have hbz:b<wr.heap.size:=av d0;have hsk:(fH l k).v.size≤1048576:=HS.out _ (List.mem_of_getElem? (b7 hlt))
   have hk0:(0:Int)≤(k:Int):=by omega
   have hk1:(k:Int)<(l.length:Int):=by omega
   have uh:Hid (j5 ks ps n l k=false→sQ ks ps n l=false):=fun h=>by rw [HE2.out,bc hlt h]
   have HB2:Hid (Below wr.heap.size wr (wr.alloc (.cells #[.int .i64 (fH l k).what,.int .i64 (fH l k).num,.string (fH l k).v] 67))):=(aM);have y8:Hid (OwnAt w (wr.alloc (.cells #[.int .i64 (fH l k).what,.int .i64 (fH l k).num,.string (fH l k).v] 67)) [[.slice ak ks.length ck,.slice ap ps.length cp],[.string n,.slice (some ⟨b,off,none⟩) l.length cap]]):=ho.call HB2.out
   have jA:Hid (lG (wr.alloc (.cells #[.int .i64 (fH l k).what,.int .i64 (fH l k).num,.string (fH l k).v] 67)) wr.heap.size 0 (fH l k)):=⟨by simp,by simp,by simp⟩
   have MX:Hid (∀ wx:World,Below w.heap.size w wx→Calls Tryz.prog 89 #[.agg #[.slice ak ks.length ck,.slice ap ps.length cp],.agg #[.string n,.int .i64 (fH l k).what,.int .i64 (fH l k).num,.string (fH l k).v]] wx fun e w'=>e=.returned (.bool (eF ks ps&&gy ks ps (dO n (fH l k))))∧Below wx.heap.size wx w'):=fun wx hx=>mo _ _ ks ps (dO n (fH l k)) wx (HKP.out.1.1.keep hx) (HKP.out.1.2.keep hx) HKP.out.2.1 HKP.out.2.2 hn hsk
   have MID:Hid (0<k→∃ m,k=m+1∧lG wr b (off+m*3) (fH l m)∧jE l k=!decide ((fH l k).what≤(fH l m).what)):=fun hz=>by
    obtain ⟨m,rfl⟩:∃ m,k=m+1:=⟨k-1,by omega⟩
    obtain ⟨b',off',EH,hcm'⟩:=HC.out m _ (b7 (by omega))
    cases EH
    exact ⟨m,rfl,hcm'.keep ho.below aG,by simp [jE]⟩
   have KR:Hid (j5 ks ps n l k=((eF ks ps&&gy ks ps (dO n (fH l k)))&&jE l k)):=rfl;clear ho hc
   go_upto_region 7 with fail
   generalize wr.alloc (.cells #[.int .i64 (fH l k).what,.int .i64 (fH l k).num,.string (fH l k).v] 67)=w2 at *;clear y0 y1 d0 d1 d2;have e0:w2.cell? ⟨w.heap.size,0,none⟩=some (.slice ak ks.length ck):=(y8.out.has 0 _ rfl 0 _ rfl).1;have e1:w2.cell? ⟨w.heap.size,1,none⟩=some (.slice ap ps.length cp):=(y8.out.has 0 _ rfl 1 _ rfl).1;have e2:w2.cell? ⟨w.heap.size+1,0,none⟩=some (.string n):=(y8.out.has 1 _ rfl 0 _ rfl).1;have e3:w2.cell? ⟨w.heap.size+1,1,none⟩=some (.slice (some ⟨b,off,none⟩) l.length cap):=(y8.out.has 1 _ rfl 1 _ rfl).1;have ez:w.heap.size+1<w2.heap.size:=av e2;have ey:w.heap.size<w2.heap.size:=av e0;obtain ⟨n0,n1,n2⟩:=jA.out
   simp only [Nat.zero_add] at n1 n2
   have nz:wr.heap.size<w2.heap.size:=av n0;have hne:=Later.some w2
   have hbz2:b<w2.heap.size:=by have:=HB2.out.size;omega
   have GF:Hid (∀ (y:Later w2),Calls Tryz.prog 89 #[.agg #[.slice ak ks.length ck,.slice ap ps.length cp],.agg #[.string n,.int .i64 (fH l k).what,.int .i64 (fH l k).num,.string (fH l k).v]] y.val fun e w''=>e=.returned (.bool (eF ks ps&&gy ks ps (dO n (fH l k))))∧∃ z:Later w2,w''=z.val):=fun y=>Calls.later (MX.out y.val (aa y8.out.below y.below));clear MX jA;generalize (eF ks ps&&gy ks ps (dO n (fH l k)))=ft at *
   cases ft
   ·refine au (by kernel_rfl) (by kernel_rfl) ?_
    repeat (go_big_quiet_step (first | (go_at_call 89;exact GF.out _)))
    refine wpQuiet_nil ?_;rintro _ ⟨x,rfl⟩;go_wp2;go_ret
    exact ⟨ax (uh.out (by rw [KR.out];rfl)).symm,aa y8.out.below x.below⟩
   ·by_cases hz:0<k
    ·obtain ⟨m,hkm,hf,hh⟩:=MID.out hz
     have HH:Hid (jE l k=!decide ((fH l k).what≤(fH l m).what)):=hh;obtain ⟨g0,g1,g2⟩:=hf.keep HB2.out aG
     have hz':decide (0<k)=true:=by simp [hz]
     have hi0:(0:Int)≤(m:Int):=by omega
     have hi1:(m:Int)<(l.length:Int):=by omega
     have hi2:(0:Int)<(m:Int)+1:=by omega
     have hw1:IntKind.i64.wrap (m:Int)=(m:Int):=by rw [IntKind.wrap_i64];omega
     have hw2:IntKind.i64.wrap ((m:Int)+1-1)=(m:Int):=by rw [IntKind.wrap_i64];omega
     have HKM:Hid (k=m+1):=hkm;clear hh hf;subst hkm
     by_cases hq:(fH l (m+1)).what≤(fH l m).what
     ·have hq':decide ((fH l (m+1)).what≤(fH l m).what)=true:=by simp [hq]
      have HQ:Hid (jE l (m+1)=false):=by show _=_;rw [HH.out,hq'];rfl
      refine au (by kernel_rfl) (by kernel_rfl) ?_
      repeat (go_big_quiet_step (first | (go_at_call 89;exact GF.out _)))
      refine wpQuiet_nil ?_;rintro _ ⟨x,rfl⟩;go_wp2;go_ret
      exact ⟨ax (uh.out (by rw [KR.out,HQ.out];rfl)).symm,aa y8.out.below x.below⟩
     ·have hq':decide ((fH l (m+1)).what≤(fH l m).what)=false:=by simp;omega
      have HQ:Hid (jE l (m+1)=true):=by show _=_;rw [HH.out,hq'];rfl
      refine au (by kernel_rfl) (by kernel_rfl) ?_
      repeat (go_big_quiet_step (first | (go_at_call 89;exact GF.out _)))
      refine wpQuiet_nil ?_;rintro _ ⟨x,rfl⟩;go_wp2
      exact ⟨⟨m+1+1,by omega,by go_num,y8.out.call x.below,fun j hj=>if e:j=m+1 then by rw [e,KR.out,HQ.out];rfl else HA.out j (by omega)⟩,by simp [intOf];omega⟩
    ·have hz':decide (0<k)=false:=by simp;omega
     have HQ:Hid (jE l k=true):=by
      show jE l k=true
      obtain rfl:k=0:=by omega
      exact AX l
     refine au (by kernel_rfl) (by kernel_rfl) ?_
     repeat (go_big_quiet_step (first | (go_at_call 89;exact GF.out _)))
     refine wpQuiet_nil ?_;rintro _ ⟨x,rfl⟩;go_wp2
     exact ⟨⟨k+1,by omega,by go_num,y8.out.call x.below,fun j hj=>if e:j=k then by rw [e,KR.out,HQ.out];rfl else HA.out j (by omega)⟩,by simp [intOf];omega⟩
  ·clear ho
   go_wp2;go_ret
   exact ⟨ax (by rw [HE2.out];exact (aX fun j hj=>HA.out j (by omega)).symm),vP.out.below⟩
theorem lg (vk vp ve:Value) (ks ps:List dx) (es:List dU) (w:World) (hB:dI w vk vp ve ks ps es) (nB:jU ks ps es) (sB:ic ks ps es) :
  Calls Tryz.prog 15 #[.agg #[vk,vp,ve]] w fun e w'=>e=.returned (.bool (dJ ks ps es))∧Below w.heap.size w w':=by
 have HB:Hid (dI w vk vp ve ks ps es):=hB;have NB:Hid (jU ks ps es):=nB;have SB:Hid (ic ks ps es):=sB;obtain ⟨⟨ak,ck,rfl,-,-,-⟩,⟨ap,cp,rfl,-,-,-⟩,⟨ae,ce,rfl,hlc,hcm,hc⟩⟩:=hB;unfold maxLen at hcm;have HC:Hid (∀ i f,es[i]?=some f→∃ b off,ae=some ⟨b,off,none⟩∧lH w b (off+i*2) f):=hc;clear nB sB hc;have HX0:Hid (OwnAt w (w.alloc (.cells #[.slice ak ks.length ck,.slice ap ps.length cp,.slice ae es.length ce] 30)) [[.slice ak ks.length ck,.slice ap ps.length cp,.slice ae es.length ce]]):=(OwnAt.start w).push rfl _ _;have HE:Hid (dJ ks ps es=(eF ks ps&&(decide (es.length≤12)&&fw es.length fun i=>sQ ks ps (eZ es i).name (eZ es i).fs&&lD es i))):=Cx ks ps es
 go_enter Tryz.func15,Tryz.ntmps15
 go_wp2_with fail;refine (rJ _ _ ks ps _ (HB.out.k.keep HX0.out.below) (HB.out.p.keep HX0.out.below) NB.out.k NB.out.p).mono ?_;rintro e w1 ⟨rfl,hb1⟩;have jG:Hid (OwnAt w w1 _):=HX0.out.call hb1;clear HX0 hb1;have y0:w1.cell? ⟨w.heap.size,0,none⟩=some (.slice ak ks.length ck):=(jG.out.has 0 _ rfl 0 _ rfl).1;have y1:w1.cell? ⟨w.heap.size,1,none⟩=some (.slice ap ps.length cp):=(jG.out.has 0 _ rfl 1 _ rfl).1;have y2:w1.cell? ⟨w.heap.size,2,none⟩=some (.slice ae es.length ce):=(jG.out.has 0 _ rfl 2 _ rfl).1;have hbb:(dM ks&&dH ps)=eF ks ps:=rfl;rw [hbb];clear hbb
 cases hb:eF ks ps
 ·have HBF:Hid (dJ ks ps es=false):=by show _=_;rw [HE.out,hb];rfl
  clear hb;go_wp2;go_ret;exact ⟨ax HBF.out.symm,jG.out.below⟩
 by_cases h12:(12:Int)<(es.length:Int)
 ·have HBF:Hid (dJ ks ps es=false):=by
   show _=_
   have:decide (es.length≤12)=false:=by simp;omega
   rw [HE.out,this];cases eF ks ps <;> rfl
  clear hb;go_wp2;go_ret;exact ⟨ax HBF.out.symm,jG.out.below⟩
 have HE2:Hid (dJ ks ps es=fw es.length fun i=>sQ ks ps (eZ es i).name (eZ es i).fs&&lD es i):=by
  show _=_
  have:decide (es.length≤12)=true:=by simp;omega
  rw [HE.out,this,hb];rfl
 clear HE hb;go_wp2;clear y0 y1 y2
 go_loopw [3] (fun i wr=>∃ k:Nat,k≤es.length∧i=.int .i64 k∧OwnAt w wr [[.slice ak ks.length ck,.slice ap ps.length cp,.slice ae es.length ce]]∧Hid (∀ j,j<k→(sQ ks ps (eZ es j).name (eZ es j).fs&&lD es j)=true)) (fun i _=>es.length-(intOf i).toNat)
 case atStart=>exact ⟨0,Nat.zero_le _,rfl,jG.out,fun j hj=>absurd hj (Nat.not_lt_zero _)⟩
 case round =>
  obtain ⟨k,hk,rfl,ho,HA⟩:=hrel;have vP:Hid (OwnAt w wr [[.slice ak ks.length ck,.slice ap ps.length cp,.slice ae es.length ce]]):=ho;have y0:wr.cell? ⟨w.heap.size,0,none⟩=some (.slice ak ks.length ck):=(vP.out.has 0 _ rfl 0 _ rfl).1;have y1:wr.cell? ⟨w.heap.size,1,none⟩=some (.slice ap ps.length cp):=(vP.out.has 0 _ rfl 1 _ rfl).1;have y2:wr.cell? ⟨w.heap.size,2,none⟩=some (.slice ae es.length ce):=(vP.out.has 0 _ rfl 2 _ rfl).1;have yz:w.heap.size<wr.heap.size:=av y0
  by_cases hlt:k<es.length
  ·obtain ⟨b,off,rfl,hc⟩:=HC.out k _ (bp hlt)
   obtain ⟨fv,d0,d1,hfl⟩:=hc.keep ho.below;have Ke:Hid (iW wr fv (eZ es k).fs):=hfl;obtain ⟨fa,fc,rfl,-,-,-⟩:=hfl;have dz:b<wr.heap.size:=av d0;have HM:Hid (eZ es k∈es):=List.mem_of_getElem? (bp hlt)
   have hk0:(0:Int)≤(k:Int):=by omega
   have hk1:(k:Int)<(es.length:Int):=by omega
   have hne:=Later.some wr
   have GE:Hid (∀ y:Later wr,Calls Tryz.prog 48 #[.agg #[.slice ak ks.length ck,.slice ap ps.length cp],.agg #[.string (eZ es k).name,.slice fa (eZ es k).fs.length fc]] y.val fun e w''=>e=.returned (.bool (sQ ks ps (eZ es k).name (eZ es k).fs))∧∃ z:Later wr,w''=z.val) :=
    fun y=>Calls.later (zI _ _ _ ks ps (eZ es k).name (eZ es k).fs y.val ((HB.out.k.keep vP.out.below).keep y.below) ((HB.out.p.keep vP.out.below).keep y.below) NB.out.k NB.out.p (Ke.out.keep y.below) (SB.out.n _ HM.out) (SB.out.v _ HM.out))
   have MID:Hid (0<k→∃ m,k=m+1∧lH wr b (off+m*2) (eZ es m)∧lD es k=!kz (eZ es m).name (eZ es k).name):=fun hz=>by
    obtain ⟨m,rfl⟩:∃ m,k=m+1:=⟨k-1,by omega⟩
    obtain ⟨b',off',EH,hcm'⟩:=HC.out m _ (bp (by omega))
    cases EH
    exact ⟨m,rfl,hcm'.keep ho.below,uU es m⟩
   have uh:Hid ((sQ ks ps (eZ es k).name (eZ es k).fs&&lD es k)=false→dJ ks ps es=false):=fun h=>by rw [HE2.out,bc hlt h]
   generalize hee:sQ ks ps (eZ es k).name (eZ es k).fs=ee at *;have HEE:Hid (sQ ks ps (eZ es k).name (eZ es k).fs=ee):=hee;clear hee ho hc
   cases ee
   ·go_wp2
    refine au (by kernel_rfl) (by kernel_rfl) ?_
    repeat (go_big_quiet_step (first | (go_at_call 48;exact GE.out _)))
    refine wpQuiet_nil ?_;rintro _ ⟨x,rfl⟩;go_wp2;go_ret;exact ⟨ax (uh.out rfl).symm,aa vP.out.below x.below⟩
   ·by_cases hz:0<k
    ·obtain ⟨m,hkm,⟨fv',g0,g1,hfl'⟩,hh⟩:=MID.out hz
     obtain ⟨fa',fc',rfl,-,-,-⟩:=hfl';have HH:Hid (lD es k=!kz (eZ es m).name (eZ es k).name):=hh
     have hz':decide (0<k)=true:=by simp [hz]
     have hi0:(0:Int)≤(m:Int):=by omega
     have hi1:(m:Int)<(es.length:Int):=by omega
     have hi2:(0:Int)<(m:Int)+1:=by omega
     have hw1:IntKind.i64.wrap (m:Int)=(m:Int):=by rw [IntKind.wrap_i64];omega
     have hw2:IntKind.i64.wrap ((m:Int)+1-1)=(m:Int):=by rw [IntKind.wrap_i64];omega
     clear hh;subst hkm;go_wp2
     refine au (by kernel_rfl) (by kernel_rfl) ?_
     repeat (go_big_quiet_step (first | (go_at_call 48;exact GE.out _)))
     refine wpQuiet_nil ?_;rintro _ ⟨x,rfl⟩;go_wp2
     ·rename_i h
      go_ret
      exact ⟨ax (uh.out (by rw [HH.out];unfold kz;rw [h];rfl)).symm,aa vP.out.below x.below⟩
     ·rename_i h
      exact ⟨⟨m+1+1,by omega,by go_num,vP.out.call x.below,fun j hj=>if e:j=m+1 then by rw [e,HEE.out,HH.out];unfold kz;rw [h];rfl else HA.out j (by omega)⟩,by simp [intOf];omega⟩
    ·have hz':decide (0<k)=false:=by simp;omega
     have HQ:Hid (lD es k=true):=by
      show lD es k=true
      obtain rfl:k=0:=by omega
      exact AY es
     go_wp2
     refine au (by kernel_rfl) (by kernel_rfl) ?_
     repeat (go_big_quiet_step (first | (go_at_call 48;exact GE.out _)))
     refine wpQuiet_nil ?_;rintro _ ⟨x,rfl⟩;go_wp2
     exact ⟨⟨k+1,by omega,by go_num,vP.out.call x.below,fun j hj=>if e:j=k then by rw [e,HEE.out,HQ.out];rfl else HA.out j (by omega)⟩,by simp [intOf];omega⟩
  ·clear ho
   go_wp2;go_ret
   exact ⟨ax (by rw [HE2.out];exact (aX fun j hj=>HA.out j (by omega)).symm),vP.out.below⟩
end Go.Proofs.YtcmgddnckohdaaaGreatDoor
namespace Go.Proofs.YtcmgddnckohdaaaGreatDoor
open Go.RowKit
attribute [local go_sem] Later.cell Later.frozen
theorem ay {P:Prop} (h:P):Hid P:=h
def mkV (c:Nat) (pat:Nat→Bool) (k p:Nat):Value:=if pat (p % c) then .string (mkT (k+p)) else .int .i64 ((k+p:Nat):Int)
structure kE (w wr:World) (b N:Nat) (f:Nat→Value) (p:Nat):Prop where
 grown:w.grownBy wr (some b)
 big:b<w.heap.size
 room:wr.there b 0 N
 has:∀ q,q<p→wr.cell? ⟨b,q,none⟩=some (f q)
 stays:∀ o n,w.there b o n→wr.there b o n
theorem bz {w w':World} (h:Below w.heap.size w w') (r:Option Nat):w.grownBy w' r:=⟨h.1,h.2,h.3,h.4,fun k hk _=>h.5 k hk⟩
theorem vL {w w1 w2:World} {r:Option Nat} (h:w.grownBy w1 r) (k:w1.grownBy w2 r):w.grownBy w2 r :=
 ⟨k.1.trans h.1,k.2.trans h.2,k.3.trans h.3,Nat.le_trans h.4 k.4,fun j hj hr=>(k.5 j (Nat.lt_of_lt_of_le hj h.4) hr).trans (h.5 j hj hr)⟩
theorem AA (w:World) (b o:Nat) (v:Value):w.grownBy (w.setCell ⟨b,o,none⟩ v) (some b) :=
 ⟨rfl,rfl,rfl,by simp,fun j _ hr=>Below.heap_setCell w ⟨b,o,none⟩ v j (fun e=>hr (by rw [e]))⟩
theorem kE.start {w:World} {b N:Nat} (f:Nat→Value) (h:w.there b 0 N) (hb:b<w.heap.size):kE w w b N f 0 :=
 ⟨bz (Below.refl _ _) _,hb,h,fun _ hq=>absurd hq (Nat.not_lt_zero _),fun _ _ h=>h⟩
theorem kE.call {w wr w1:World} {b N:Nat} {f:Nat→Value} {p:Nat} (h:kE w wr b N f p) (hb:Below wr.heap.size wr w1):kE w w1 b N f p:=by
 have hbig:b<wr.heap.size:=Nat.lt_of_lt_of_le h.big h.grown.4
 exact ⟨vL h.grown (bz hb _),h.big,b8 h.room hb hbig,fun q hq=>by
  rw [hb.cell (p:=⟨b,q,none⟩) hbig];exact h.has q hq,fun o n ho=>b8 (h.stays o n ho) hb hbig⟩
theorem kE.free {w wr:World} {b N:Nat} {f:Nat→Value} {p:Nat} (h:kE w wr b N f p) (q:Nat) (hq:q<N):(∃ v,wr.cell? ⟨b,q,none⟩=some v)∧wr.frozen? ⟨b,q,none⟩=false:=by
 have:=h.room q hq
 simpa [Option.isSome_iff_exists] using this
theorem kE.set {w wr:World} {b N:Nat} {f:Nat→Value} {p:Nat} (h:kE w wr b N f p) (hp:p<N) {v:Value} (hv:f p=v):kE w (wr.setCell ⟨b,p,none⟩ v) b N f (p+1):=by
 refine ⟨vL h.grown (AA wr b p v),h.big,World.there_setCells h.room b p [v],fun q hq=>?_,fun o n ho=>World.there_setCells (h.stays o n ho) b p [v]⟩
 by_cases e:q=p
 ·subst e
  obtain ⟨⟨u,hu⟩,_⟩:=h.free q hp;rw [World.cell?_setCell_same wr ⟨b,q,none⟩ v hu,hv]
 ·rw [World.cell?_setCell_other wr ⟨b,p,none⟩ ⟨b,q,none⟩ v (by simp <;> omega)]
  exact h.has q (by omega)
def patKind (j:Nat):Bool:=decide (j=0)
def K6 (j:Nat):Bool:=decide (j=0)
def DN (j:Nat):Bool:=decide (j=2)
end Go.Proofs.YtcmgddnckohdaaaGreatDoor
namespace Go.Proofs.YtcmgddnckohdaaaGreatDoor
open Go.RowKit
structure Only (lo hi:Nat) (w w':World):Prop where
  below:Below lo w w'
  up:∀ k,hi≤k→k<w.heap.size→w'.heap[k]?=w.heap[k]?
  stays:∀ B o n,B<w.heap.size→w.there B o n→w'.there B o n
theorem Only.refl (lo hi:Nat) (w:World):Only lo hi w w:=⟨Below.refl _ _,fun _ _ _=>rfl,fun _ _ _ _ h=>h⟩
theorem Only.trans {lo hi:Nat} {w w1 w2:World} (h:Only lo hi w w1) (k:Only lo hi w1 w2):Only lo hi w w2 :=
  ⟨h.below.trans k.below,fun j hj hl=>(k.up j hj (Nat.lt_of_lt_of_le hl h.below.size)).trans (h.up j hj hl),fun B o n hB ht=>k.stays B o n (Nat.lt_of_lt_of_le hB h.below.size) (h.stays B o n hB ht)⟩
theorem Only.call {lo hi:Nat} {w w1:World} (hb:Below w.heap.size w w1) (hl:lo≤w.heap.size):Only lo hi w w1 :=
  ⟨hb.mono hl,fun j _ hj=>hb.block j hj,fun _ _ _ hB ht=>b8 ht hb hB⟩
theorem Only.mark {lo hi:Nat} {w w1:World} {b N p:Nat} {f:Nat→Value} (h:kE w w1 b N f p) (hl:lo≤b) (hh:b<hi):Only lo hi w w1 :=
  ⟨⟨h.grown.os,h.grown.tape,h.grown.output,h.grown.size,fun j hj=>h.grown.block j (by have:=h.big;omega) (by simp;omega)⟩,
   fun j hj hl'=>h.grown.block j hl' (by simp;omega),
   fun B o n hB ht=>by
     by_cases e:B=b
     · subst e;exact h.stays o n ht
     · intro q hq
       have hblk:=h.grown.block B hB (by simp;exact e)
       have:=ht q hq;rw [World.cell?_of_block (w:=w) hblk,World.frozen?_of_block (w:=w) hblk]
       exact this⟩
theorem Only.set {lo hi:Nat} (w:World) {b o:Nat} (v:Value) (hl:lo≤b) (hh:b<hi):Only lo hi w (w.setCell ⟨b,o,none⟩ v) :=
  ⟨(Below.refl _ _).setCell (p:=⟨b,o,none⟩) hl v,fun j hj _=>Below.heap_setCell w ⟨b,o,none⟩ v j (by show j≠b;omega),fun _ _ _ _ ht=>World.there_setCells ht b o [v]⟩
structure jB (lo hi:Nat) (w:World) (b:Nat) (es:List dU):Prop where
  l:lo≤b
  h:b<hi
  z:b<w.heap.size
  t:w.there b 0 (es.length*2)
  f:∀ (i:Nat) (e:dU),es[i]?=some e→∃ fb:Nat,fb≠b∧lo≤fb∧fb<hi∧fb<w.heap.size∧w.cell? ⟨b,i*2+1,none⟩=some (.slice (some ⟨fb,0,none⟩) e.fs.length e.fs.length)∧w.there fb 0 (e.fs.length*3)
theorem jB.call {lo hi:Nat} {w w1:World} {b:Nat} {es:List dU} (h:jB lo hi w b es) (hb:Below w.heap.size w w1):jB lo hi w1 b es :=
  ⟨h.l,h.h,Nat.lt_of_lt_of_le h.z hb.size,b8 h.t hb h.z,fun i e he=>by
    obtain ⟨fb,f0,f1,f2,f3,f4,f5⟩:=h.f i e he
    exact ⟨fb,f0,f1,f2,Nat.lt_of_lt_of_le f3 hb.size,ag hb aG f4,b8 f5 hb f3⟩⟩
theorem jB.set {lo hi:Nat} {w:World} {b:Nat} {es:List dU} (h:jB lo hi w b es) (m:Nat) (v:Value):jB lo hi (w.setCell ⟨b,m*2,none⟩ v) b es :=
  ⟨h.l,h.h,by simpa using h.z,World.there_setCells h.t b (m*2) [v],fun i e he=>by
    obtain ⟨fb,f0,f1,f2,f3,f4,f5⟩:=h.f i e he
    exact ⟨fb,f0,f1,f2,by simpa using f3,(World.cell?_setCell_other w ⟨b,m*2,none⟩ ⟨b,i*2+1,none⟩ v (by simp <;> omega)).trans f4,World.there_setCells f5 b (m*2) [v]⟩⟩
theorem jB.mark {lo hi:Nat} {w w1:World} {b fb N p:Nat} {g:Nat→Value} {es:List dU} (h:jB lo hi w b es) (hM:kE w w1 fb N g p) (hne:fb≠b) (hl:lo≤fb) (hh:fb<hi):jB lo hi w1 b es:=by
  have ho:Only lo hi w w1:=Only.mark hM hl hh;refine ⟨h.l,h.h,Nat.lt_of_lt_of_le h.z hM.grown.size,ho.stays _ _ _ h.z h.t,fun i e he=>?_⟩;obtain ⟨fb',f0,f1,f2,f3,f4,f5⟩:=h.f i e he
  exact ⟨fb',f0,f1,f2,Nat.lt_of_lt_of_le f3 hM.grown.size,(World.cell?_of_block (w:=w) (hM.grown.block b h.z (by simp;omega))).trans f4,ho.stays _ _ _ f3 f5⟩
theorem mV {w0 w:World} {B o n:Nat} (h:w0.there B o n) (he:w.heap[B]?=w0.heap[B]?):w.there B o n:=by
  intro q hq;have:=h q hq;rw [World.cell?_of_block (w:=w0) he,World.frozen?_of_block (w:=w0) he];exact this
theorem jB.of {lo:Nat} {w0 w:World} {ve:Value} {es:List dU} (h:iO lo w0 ve es) (hb:∀ k,lo≤k→k<w0.heap.size→w.heap[k]?=w0.heap[k]?) (hs:w0.heap.size≤w.heap.size):∃ b:Nat,ve=.slice (some ⟨b,0,none⟩) es.length es.length∧jB lo w0.heap.size w b es:=by
  obtain ⟨b,rows,hl,hv,hh,_,hr⟩:=h;refine ⟨b,hv,hl,hh.big,Nat.lt_of_lt_of_le hh.big hs,mV hh.room (hb b hl hh.big),fun i e he=>?_⟩;obtain ⟨fb,h0,h1,h2,h3⟩:=hr i e he;exact ⟨fb,h0,h1,h3.big,Nat.lt_of_lt_of_le h3.big hs,(World.cell?_of_block (w:=w0) (hb b hl hh.big)).trans (hh.cell h2 (j:=1) rfl),mV h3.room (hb fb h1 h3.big)⟩
theorem jB.only {lo hi:Nat} {w w1:World} {b:Nat} {es:List dU} (h:jB lo hi w b es) (ho:Only lo hi w w1) (hs:w1.heap[b]?=w.heap[b]?):jB lo hi w1 b es :=
  ⟨h.l,h.h,Nat.lt_of_lt_of_le h.z ho.below.size,ho.stays _ _ _ h.z h.t,fun i e he=>by
    obtain ⟨fb,f0,f1,f2,f3,f4,f5⟩:=h.f i e he
    exact ⟨fb,f0,f1,f2,Nat.lt_of_lt_of_le f3 ho.below.size,(World.cell?_of_block (w:=w) hs).trans f4,ho.stays _ _ _ f3 f5⟩⟩
end Go.Proofs.YtcmgddnckohdaaaGreatDoor
