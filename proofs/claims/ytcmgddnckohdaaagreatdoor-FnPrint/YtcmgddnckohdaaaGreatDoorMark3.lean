import Derived.Test.YtcmgddnckohdaaaGreatDoorWBk
import Derived.Deep.DeepCutAuto
set_option maxRecDepth 100000
set_option maxHeartbeats 3200000

namespace Go.Proofs.YtcmgddnckohdaaaGreatDoor
open Go.RowKit
attribute [local go_sem] Later.cell Later.frozen
theorem changeOf_any (f:Fld) (n:ByteArray) (w:World) :
  Calls Tryz.prog 72 #[.agg #[.int .i64 f.what,.int .i64 f.num,.string f.v],.string n] w fun e w'=>e=.returned (.agg #[.string n,.int .i64 f.what,.int .i64 f.num,.string f.v])∧Below w.heap.size w w':=by
 go_enter Tryz.func72,Tryz.ntmps72
 go_wp2
 exact bodyPost_ret (v:=.agg #[.string n,.int .i64 f.what,.int .i64 f.num,.string f.v]) (by simp [results,Tryz.results72,go_sem]) rfl ⟨rfl,(aO).alloc (by simp) _⟩
theorem ascF_zero (l:List Fld):ascF l 0=true:=by simp [ascF]
theorem fieldsOk_any (vk vp fv:Value) (ks ps:List Tri) (n:ByteArray) (l:List Fld) (w:World) (hk:TrisAt w vk ks) (hp:TrisAt w vp ps) (hv:FldsAt w fv l) (hn:n.size≤1048576) (hs:∀ f∈l,f.v.size≤1048576) :
  Calls Tryz.prog 43 #[.agg #[vk,vp],.agg #[.string n,fv]] w fun e w'=>e=.returned (.bool (fieldsB ks ps n l))∧Below w.heap.size w w':=by
 have HKP:Hid (TrisAt w vk ks∧TrisAt w vp ps):=⟨hk,hp⟩;obtain ⟨ak,ck,rfl,-,-,-⟩:=hk;obtain ⟨ap,cp,rfl,-,-,-⟩:=hp;obtain ⟨a,cap,rfl,hlc,hcm,hc⟩:=hv;unfold maxLen at hcm;have HC:Hid (∀ i f,l[i]?=some f→∃ b off,a=some ⟨b,off,none⟩∧FldAt w b (off+i*3) f):=hc;have HS:Hid (∀ f∈l,f.v.size≤1048576):=hs;clear hc hs
 have HO0:Hid (OwnAt w ((w.alloc (.cells #[.slice ak ks.length ck,.slice ap ps.length cp] 27)).alloc (.cells #[.string n,.slice a l.length cap] 65)) [[.slice ak ks.length ck,.slice ap ps.length cp],[.string n,.slice a l.length cap]]):=((OwnAt.start w).push rfl _ _).push (by simp) _ _
 have HE:Hid (fieldsB ks ps n l=((allB l.length fun i=>ascF l i&&fitB ks ps (chgOf n (fat l i)))&&decide (0<l.length))):=rfl
 go_enter Tryz.func43,Tryz.ntmps43
 go_wp2
 go_loopw [5,6,10] (fun _ _ i wr=>∃ k:Nat,k≤l.length∧i=.int .i64 k∧OwnAt w wr [[.slice ak ks.length ck,.slice ap ps.length cp],[.string n,.slice a l.length cap]]∧Hid (∀ j,j<k→(ascF l j&&fitB ks ps (chgOf n (fat l j)))=true)) (fun _ _ i _=>l.length-(intOf i).toNat)
 case atStart=>exact ⟨0,Nat.zero_le _,rfl,HO0.out,fun j hj=>absurd hj (Nat.not_lt_zero _)⟩
 case round =>
  obtain ⟨k,hk,rfl,ho,HA⟩:=hrel;have HO1:Hid (OwnAt w wr [[.slice ak ks.length ck,.slice ap ps.length cp],[.string n,.slice a l.length cap]]):=ho
  by_cases hlt:k<l.length
  ·obtain ⟨b,off,rfl,hc⟩:=HC.out k _ (bE hlt)
   obtain ⟨d0,d1,d2⟩:=hc.keep ho.below aH;have hbz:b<wr.heap.size:=ar d0;have hsk:(fat l k).v.size≤1048576:=HS.out _ (List.mem_of_getElem? (bE hlt))
   have hk0:(0:Int)≤(k:Int):=by omega
   have hk1:(k:Int)<(l.length:Int):=by omega
   have BAD:Hid ((ascF l k&&fitB ks ps (chgOf n (fat l k)))=false→fieldsB ks ps n l=false):=fun h=>by rw [HE.out,ba hlt h];rfl
   have HB2:Hid (Below wr.heap.size wr (wr.alloc (.cells #[.int .i64 (fat l k).what,.int .i64 (fat l k).num,.string (fat l k).v] 67))):=(aO);have HO2:Hid (OwnAt w (wr.alloc (.cells #[.int .i64 (fat l k).what,.int .i64 (fat l k).num,.string (fat l k).v] 67)) [[.slice ak ks.length ck,.slice ap ps.length cp],[.string n,.slice (some ⟨b,off,none⟩) l.length cap]]):=ho.call HB2.out
   have HF2:Hid (FldAt (wr.alloc (.cells #[.int .i64 (fat l k).what,.int .i64 (fat l k).num,.string (fat l k).v] 67)) wr.heap.size 0 (fat l k)):=⟨by simp,by simp,by simp⟩
   have HFIT:Hid (∀ wx:World,Below w.heap.size w wx→Calls Tryz.prog 81 #[.agg #[.slice ak ks.length ck,.slice ap ps.length cp],.agg #[.string n,.int .i64 (fat l k).what,.int .i64 (fat l k).num,.string (fat l k).v]] wx fun e w'=>e=.returned (.bool (fitB ks ps (chgOf n (fat l k))))∧Below wx.heap.size wx w'):=fun wx hx=>changeFits_any _ _ ks ps (chgOf n (fat l k)) wx (HKP.out.1.keep hx) (HKP.out.2.keep hx) hn hsk
   have MID:Hid (0<k→∃ m,k=m+1∧FldAt wr b (off+m*3) (fat l m)∧ascF l k=!decide ((fat l k).what≤(fat l m).what)):=fun hz=>by
    obtain ⟨m,rfl⟩:∃ m,k=m+1:=⟨k-1,by omega⟩
    obtain ⟨b',off',hbo,hcm'⟩:=HC.out m _ (bE (by omega))
    cases hbo
    exact ⟨m,rfl,hcm'.keep ho.below aH,by simp [ascF]⟩
   clear ho hc
   go_upto_region 4 with fail
   generalize wr.alloc (.cells #[.int .i64 (fat l k).what,.int .i64 (fat l k).num,.string (fat l k).v] 67)=w2 at *;have nz:wr.heap.size<w2.heap.size:=ar HF2.out.1
   go_cut [28] (fun s28 wc=>s28=.bool (!ascF l k)∧Below w2.heap.size w2 wc)
   case first =>
    have e2:w2.cell? ⟨w.heap.size+1,0,none⟩=some (.string n):=(HO2.out.has 1 _ rfl 0 _ rfl).1;have e3:w2.cell? ⟨w.heap.size+1,1,none⟩=some (.slice (some ⟨b,off,none⟩) l.length cap):=(HO2.out.has 1 _ rfl 1 _ rfl).1;have ez:w.heap.size+1<w2.heap.size:=ar e2;obtain ⟨n0,n1,n2⟩:=HF2.out
    simp only [Nat.zero_add] at n1 n2
    have hne:=Later.some w2
    have hbz2:b<w2.heap.size:=by have:=HB2.out.size;omega
    by_cases hz:0<k
    ·obtain ⟨m,hkm,hf,hh⟩:=MID.out hz
     subst hkm;obtain ⟨g0,g1,g2⟩:=hf.keep HB2.out aH
     have hi0:(0:Int)≤(m:Int):=by omega
     have hi1:(m:Int)<(l.length:Int):=by omega
     have hi2:(0:Int)<(m:Int)+1:=by omega
     have hw1:IntKind.i64.wrap (m:Int)=(m:Int):=by rw [IntKind.wrap_i64];omega
     have hw2:IntKind.i64.wrap ((m:Int)+1-1)=(m:Int):=by rw [IntKind.wrap_i64];omega
     have HH:Hid (ascF l (m+1)=!decide ((fat l (m+1)).what≤(fat l m).what)):=hh;clear hh hf
     refine aq (by kernel_rfl) (by kernel_rfl) ?_
     repeat (go_big_quiet_step (fail))
     refine wpQuiet_nil ?_;rintro _ ⟨x,rfl⟩;go_wp2_with fail
     go_meet
     exact ⟨by rw [HH.out,Bool.not_not],x.below⟩
    ·have hz':decide (0<k)=false:=by simp;omega
     have HH:Hid (ascF l k=true):=by
      show ascF l k=true
      obtain rfl:k=0:=by omega
      exact ascF_zero l
     refine aq (by kernel_rfl) (by kernel_rfl) ?_
     repeat (go_big_quiet_step (fail))
     refine wpQuiet_nil ?_;rintro _ ⟨x,rfl⟩;go_wp2_with fail
     go_meet
     exact ⟨by rw [HH.out];rfl,x.below⟩
   case rest =>
    obtain ⟨rfl,hbc⟩:=hcut;have HO3:Hid (OwnAt w wc [[.slice ak ks.length ck,.slice ap ps.length cp],[.string n,.slice (some ⟨b,off,none⟩) l.length cap]]):=HO2.out.call hbc;have e0:wc.cell? ⟨w.heap.size,0,none⟩=some (.slice ak ks.length ck):=(HO3.out.has 0 _ rfl 0 _ rfl).1;have e1:wc.cell? ⟨w.heap.size,1,none⟩=some (.slice ap ps.length cp):=(HO3.out.has 0 _ rfl 1 _ rfl).1;have e2:wc.cell? ⟨w.heap.size+1,0,none⟩=some (.string n):=(HO3.out.has 1 _ rfl 0 _ rfl).1;have e3:wc.cell? ⟨w.heap.size+1,1,none⟩=some (.slice (some ⟨b,off,none⟩) l.length cap):=(HO3.out.has 1 _ rfl 1 _ rfl).1;have ez:w.heap.size+1<wc.heap.size:=ar e2;have ey:w.heap.size<wc.heap.size:=ar e0;obtain ⟨n0,n1,n2⟩:=HF2.out.keep hbc aH
    simp only [Nat.zero_add] at n1 n2
    have nz2:wr.heap.size<wc.heap.size:=ar n0;have hne:=Later.some wc;have GF:Hid (∀ (y:Later wc),Calls Tryz.prog 81 #[.agg #[.slice ak ks.length ck,.slice ap ps.length cp],.agg #[.string n,.int .i64 (fat l k).what,.int .i64 (fat l k).num,.string (fat l k).v]] y.val fun e w''=>e=.returned (.bool (fitB ks ps (chgOf n (fat l k))))∧∃ z:Later wc,w''=z.val):=fun y=>Calls.later (HFIT.out y.val (aa HO3.out.below y.below));have GC:Hid (∀ (y:Later wc),Calls Tryz.prog 72 #[.agg #[.int .i64 (fat l k).what,.int .i64 (fat l k).num,.string (fat l k).v],.string n] y.val fun e w''=>e=.returned (.agg #[.string n,.int .i64 (fat l k).what,.int .i64 (fat l k).num,.string (fat l k).v])∧∃ z:Later wc,w''=z.val):=fun y=>Calls.later (changeOf_any (fat l k) n y.val);clear MID HFIT HF2 HB2 HO2 hbc d0 d1 d2;have HAF:Hid (∃ q,ascF l k=q):=⟨_,rfl⟩;generalize haf:ascF l k=af at *;have HAF:Hid (ascF l k=af):=haf;clear haf;generalize hft:fitB ks ps (chgOf n (fat l k))=ft at *;have HFT:Hid (fitB ks ps (chgOf n (fat l k))=ft):=hft;clear hft
    cases af
    ·go_wp2
     go_ret;exact ⟨aw (BAD.out rfl).symm,HO3.out.below⟩
    ·go_wp2
     refine aq (by kernel_rfl) (by kernel_rfl) ?_
     repeat (go_big_quiet_step (first | (go_at_call 81;exact GF.out _) | (go_at_call 72;exact GC.out _)))
     refine wpQuiet_nil ?_;rintro _ ⟨x,rfl⟩
     cases ft
     ·go_wp2
      go_ret;exact ⟨aw (BAD.out rfl).symm,aa HO3.out.below x.below⟩
     ·go_wp2
      go_roundw
      case rel=>exact ⟨k+1,by omega,by go_num,HO3.out.call x.below,fun j hj=>if e:j=k then by rw [e,HAF.out,HFT.out];rfl else HA.out j (by omega)⟩
      case measure=>simp [intOf];omega
  ·have e0:wr.cell? ⟨w.heap.size+1,0,none⟩=some (.string n):=(HO1.out.has 1 _ rfl 0 _ rfl).1
   have e1:wr.cell? ⟨w.heap.size+1,1,none⟩=some (.slice a l.length cap):=(HO1.out.has 1 _ rfl 1 _ rfl).1
   have HF:Hid (fieldsB ks ps n l=decide (0<l.length)):=by
    show _=_
    rw [HE.out,aY fun j hj=>HA.out j (by omega)];rfl
   clear ho;go_wp2;go_ret
   exact ⟨aw (by rw [HF.out] <;> simp),HO1.out.below⟩
theorem ENames.of {ks ps:List Tri} {es:List Ent} (h:BSmall ks ps es):ENames es:=fun e he=>⟨by have:=h.n e he;unfold maxLen;omega,fun f hf=>by have:=h.v e he f hf;unfold maxLen;omega⟩
theorem bookOk_any (vk vp ve:Value) (ks ps:List Tri) (es:List Ent) (w:World) (hB:BookAt w vk vp ve ks ps es) (nB:BNames ks ps es) (sB:BSmall ks ps es) :
  Calls Tryz.prog 12 #[.agg #[vk,vp,ve]] w fun e w'=>e=.returned (.bool (bookB ks ps es))∧Below w.heap.size w w':=by
 have HB:Hid (BookAt w vk vp ve ks ps es):=hB;have NB:Hid (BNames ks ps es):=nB;have SB:Hid (BSmall ks ps es):=sB;obtain ⟨⟨ak,ck,rfl,-,-,-⟩,⟨ap,cp,rfl,-,-,-⟩,⟨ae,ce,rfl,hlc,hcm,hc⟩⟩:=hB;unfold maxLen at hcm;have HC:Hid (∀ i f,es[i]?=some f→∃ b off,ae=some ⟨b,off,none⟩∧EntAt w b (off+i*2) f):=hc;clear nB sB hc;have HX0:Hid (OwnAt w (w.alloc (.cells #[.slice ak ks.length ck,.slice ap ps.length cp,.slice ae es.length ce] 30)) [[.slice ak ks.length ck,.slice ap ps.length cp,.slice ae es.length ce]]):=(OwnAt.start w).push rfl _ _;have HE:Hid (bookB ks ps es=(baseB ks ps&&(namesE es&&allB es.length fun i=>fieldsB ks ps (eat es i).name (eat es i).fs))):=rfl
 go_enter Tryz.func12,Tryz.ntmps12
 go_wp2_with fail;refine (baseOk_any _ _ ks ps _ (HB.out.k.keep HX0.out.below) (HB.out.p.keep HX0.out.below) NB.out.k NB.out.p).mono ?_;rintro e w1 ⟨rfl,hb1⟩;have HX1:Hid (OwnAt w w1 _):=HX0.out.call hb1;clear HX0 hb1;have y0:w1.cell? ⟨w.heap.size,0,none⟩=some (.slice ak ks.length ck):=(HX1.out.has 0 _ rfl 0 _ rfl).1;have y1:w1.cell? ⟨w.heap.size,1,none⟩=some (.slice ap ps.length cp):=(HX1.out.has 0 _ rfl 1 _ rfl).1;have y2:w1.cell? ⟨w.heap.size,2,none⟩=some (.slice ae es.length ce):=(HX1.out.has 0 _ rfl 2 _ rfl).1;have hbb:(kindsB ks&&pointsB ps)=baseB ks ps:=rfl;rw [hbb];clear hbb;generalize baseB ks ps=bb at *
 cases bb
 ·go_wp2
  go_ret
  exact ⟨aw (by rw [HE.out];rfl),HX1.out.below⟩
 go_wp2_with fail;refine (namesEntry_any _ es _ (HB.out.e.keep HX1.out.below) NB.out.e).mono ?_;rintro e w2 ⟨rfl,hb2⟩;have HX2:Hid (OwnAt w w2 _):=HX1.out.call hb2;clear HX1 hb2 y0 y1 y2;have y0:w2.cell? ⟨w.heap.size,0,none⟩=some (.slice ak ks.length ck):=(HX2.out.has 0 _ rfl 0 _ rfl).1;have y1:w2.cell? ⟨w.heap.size,1,none⟩=some (.slice ap ps.length cp):=(HX2.out.has 0 _ rfl 1 _ rfl).1;have y2:w2.cell? ⟨w.heap.size,2,none⟩=some (.slice ae es.length ce):=(HX2.out.has 0 _ rfl 2 _ rfl).1;generalize namesE es=ne at *
 cases ne
 ·go_wp2
  go_ret
  exact ⟨aw (by rw [HE.out];rfl),HX2.out.below⟩
 have HE2:Hid (bookB ks ps es=allB es.length fun i=>fieldsB ks ps (eat es i).name (eat es i).fs):=HE.out;clear HE;go_wp2;clear y0 y1 y2
 go_loopw [4,18] (fun _ i wr=>∃ k:Nat,k≤es.length∧i=.int .i64 k∧OwnAt w wr [[.slice ak ks.length ck,.slice ap ps.length cp,.slice ae es.length ce]]∧Hid (∀ j,j<k→fieldsB ks ps (eat es j).name (eat es j).fs=true)) (fun _ i _=>es.length-(intOf i).toNat)
 case atStart=>exact ⟨0,Nat.zero_le _,rfl,HX2.out,fun j hj=>absurd hj (Nat.not_lt_zero _)⟩
 case round =>
  obtain ⟨k,hk,rfl,ho,HA⟩:=hrel;have HO1:Hid (OwnAt w wr [[.slice ak ks.length ck,.slice ap ps.length cp,.slice ae es.length ce]]):=ho
  by_cases hlt:k<es.length
  ·obtain ⟨b,off,rfl,hc⟩:=HC.out k _ (bo hlt)
   obtain ⟨fv,d0,d1,hfl⟩:=hc.keep ho.below;have HFL:Hid (FldsAt wr fv (eat es k).fs):=hfl;obtain ⟨fa,fc,rfl,-,-,-⟩:=hfl;have y0:wr.cell? ⟨w.heap.size,0,none⟩=some (.slice ak ks.length ck):=(HO1.out.has 0 _ rfl 0 _ rfl).1;have y1:wr.cell? ⟨w.heap.size,1,none⟩=some (.slice ap ps.length cp):=(HO1.out.has 0 _ rfl 1 _ rfl).1;have y2:wr.cell? ⟨w.heap.size,2,none⟩=some (.slice (some ⟨b,off,none⟩) es.length ce):=(HO1.out.has 0 _ rfl 2 _ rfl).1;have yz:w.heap.size<wr.heap.size:=ar y0;have HM:Hid (eat es k∈es):=List.mem_of_getElem? (bo hlt)
   have hk0:(0:Int)≤(k:Int):=by omega
   have hk1:(k:Int)<(es.length:Int):=by omega
   have HBN:Hid (∀ o:Obj,Below wr.heap.size wr (wr.alloc o)):=fun o=>(aO);clear ho hc;go_wp2_with fail;refine (fieldsOk_any _ _ _ ks ps (eat es k).name (eat es k).fs _ ((HB.out.k.keep HO1.out.below).keep (HBN.out _)) ((HB.out.p.keep HO1.out.below).keep (HBN.out _)) (HFL.out.keep (HBN.out _)) (SB.out.n _ HM.out) (SB.out.v _ HM.out)).mono ?_;rintro e w3 ⟨rfl,hb3⟩;have HO3:Hid (OwnAt w w3 _):=(HO1.out.call (HBN.out _)).call hb3;clear hb3
   cases hft:fieldsB ks ps (eat es k).name (eat es k).fs
   ·have HFT:Hid (fieldsB ks ps (eat es k).name (eat es k).fs=false):=hft
    clear hft;go_wp2;go_ret
    exact ⟨aw (by rw [HE2.out];exact (ba hlt HFT.out).symm),HO3.out.below⟩
   ·have HFT:Hid (fieldsB ks ps (eat es k).name (eat es k).fs=true):=hft
    clear hft;go_wp2
    exact ⟨⟨k+1,by omega,by go_num,HO3.out,fun j hj=>if e:j=k then by rw [e];exact HFT.out else HA.out j (by omega)⟩,by simp [intOf];omega⟩
  ·go_wp2
   go_ret
   exact ⟨aw (by rw [HE2.out];exact (aY fun j hj=>HA.out j (by omega)).symm),HO1.out.below⟩
end Go.Proofs.YtcmgddnckohdaaaGreatDoor
namespace Go.Proofs.YtcmgddnckohdaaaGreatDoor
open Go.RowKit
def chgRow (c:Chg):List Value:=[.string c.f,.int .i64 c.what,.int .i64 c.num,.string c.v]
def chgRows (l:List Chg):List Value:=l.flatMap chgRow
theorem chgRows_snoc (l:List Chg) (c:Chg):chgRows (l++[c])=chgRows l++chgRow c:=by simp [chgRows]
def chgsOf (es:List Ent):List Chg:=es.flatMap fun e=>e.fs.map (chgOf e.name)
theorem chgsOf_take (es:List Ent) (k:Nat) (e:Ent) (h:es[k]?=some e):chgsOf (es.take (k+1))=chgsOf (es.take k)++e.fs.map (chgOf e.name):=by
 obtain ⟨hk,rfl⟩:=List.getElem?_eq_some_iff.1 h;rw [List.take_succ_eq_append_getElem hk]
 simp only [chgsOf,List.flatMap_append,List.flatMap_cons,List.flatMap_nil,List.append_nil]
theorem chgsOf_len (es:List Ent):(chgsOf es).length=sumN (fun e=>e.fs.length) es:=by
 induction es with
 | nil=>rfl
 | cons e es ih=>simp only [chgsOf,List.flatMap_cons,List.length_append,sumN,List.length_map] at *;omega
def ChgsNew (w:World) (base:Nat) (v:Value) (l:List Chg):Prop:=w.ownsRow base 76 4 v l.length (chgRows l)
theorem infoChange:(Tryz.prog.info? 76).map (fun i=>(i.zero,i.size,i.bytes))=some (some (.agg #[.string ByteArray.empty,.int .i64 0,.int .i64 0,.string ByteArray.empty]),4,48):=by kernel_rfl
def ChgAt (w:World) (b o:Nat) (c:Chg):Prop:=w.cell? ⟨b,o,none⟩=some (.string c.f)∧w.cell? ⟨b,o+1,none⟩=some (.int .i64 c.what)∧w.cell? ⟨b,o+2,none⟩=some (.int .i64 c.num)∧w.cell? ⟨b,o+3,none⟩=some (.string c.v)
def ChgsAt (w:World) (v:Value) (l:List Chg):Prop :=
 ∃ a cap,v=.slice a l.length cap∧l.length≤cap∧cap≤maxLen∧∀ i c,l[i]?=some c→∃ b off,a=some ⟨b,off,none⟩∧ChgAt w b (off+i*4) c
theorem ChgAt.keep {w w':World} {b o B:Nat} {c:Chg} (h:ChgAt w b o c) (hb:Below B w w') (hB:w.heap.size≤B):ChgAt w' b o c :=
 ⟨ag hb hB h.1,ag hb hB h.2.1,ag hb hB h.2.2.1,ag hb hB h.2.2.2⟩
theorem ChgsAt.keep {w w':World} {v:Value} {l:List Chg} (h:ChgsAt w v l) (hb:Below w.heap.size w w'):ChgsAt w' v l:=by
 obtain ⟨a,cap,rfl,h1,h2,h3⟩:=h;refine ⟨a,cap,rfl,h1,h2,fun i t ht=>?_⟩;obtain ⟨b,off,ha,hc⟩:=h3 i t ht;exact ⟨b,off,ha,hc.keep hb aH⟩
theorem chgRows_at (l:List Chg) (i:Nat) (c:Chg) (h:l[i]?=some c) (j:Nat) (hj:j<4):(chgRows l)[i*4+j]?=(chgRow c)[j]?:=by
 induction l generalizing i with
 | nil=>simp at h
 | cons a l ih =>
  have e:chgRows (a::l)=chgRow a++chgRows l:=by simp [chgRows]
  rw [e]
  cases i with
  | zero =>
   simp at h;subst h
   rw [List.getElem?_append_left (by simp [chgRow];omega)];simp
  | succ i =>
   rw [List.getElem?_append_right (by simp [chgRow];omega)]
   have:(i+1)*4+j-(chgRow a).length=i*4+j:=by simp [chgRow];omega
   rw [this]
   exact ih i (by simpa using h)
theorem ChgsNew.at {w:World} {base:Nat} {v:Value} {l:List Chg} (h:ChgsNew w base v l):ChgsAt w v l:=by
 obtain ⟨h1,h2⟩:=h
 rcases h2 with ⟨rfl,h0⟩ | ⟨g,cap,cur,rfl,_,hb,hn,hc,hs,ht⟩
 ·have:l=[]:=List.length_eq_zero_iff.1 h0
  subst this
  exact ⟨none,0,rfl,Nat.le_refl _,Nat.zero_le _,fun i c hc=>by simp at hc⟩
 ·refine ⟨some ⟨g,0,none⟩,cap,rfl,hn,hc,fun i c hi=>⟨g,0,rfl,?_⟩⟩
  have hil:i<l.length:=(List.getElem?_eq_some_iff.1 hi).1
  have one:∀ j,j<4→w.cell? ⟨g,0+i*4+j,none⟩=(chgRow c)[j]?:=fun j hj=>by
   rw [← chgRows_at l i c hi j hj,← ht,List.getElem?_take]
   rw [if_pos (by omega)]
   simp [World.cell?,hb]
  refine ⟨?_,?_,?_,?_⟩
  ·simpa [chgRow] using one 0 (by omega)
  ·simpa [chgRow] using one 1 (by omega)
  ·simpa [chgRow] using one 2 (by omega)
  ·simpa [chgRow] using one 3 (by omega)
def cat' (l:List Chg) (i:Nat):Chg:=l.getD i ⟨⟨#[]⟩,0,0,⟨#[]⟩⟩
theorem cat_get {l:List Chg} {i:Nat} (h:i<l.length):l[i]?=some (cat' l i):=by simp [cat',h]
theorem cell_four_new (w:World) (a b c d:Value) (t:TypeId):∀ j u,[a,b,c,d][j]?=some u→(w.alloc (.cells #[a,b,c,d] t)).cell? ((⟨w.heap.size,0,none⟩:Addr).add j)=some u:=by
 intro j u hj
 match j,hj with
 | 0,hj=>simp at hj;subst hj;simp [Addr.add]
 | 1,hj=>simp at hj;subst hj;simp [Addr.add]
 | 2,hj=>simp at hj;subst hj;simp [Addr.add]
 | 3,hj=>simp at hj;subst hj;simp [Addr.add]
 | j+4,hj=>simp at hj
theorem ah {w w':World} {base:Nat} {e:TypeId} {size:Nat} {v:Value} {n:Nat} {xs:List Value} (h:w.ownsRow base e size v n xs) (hb:Below w.heap.size w w'):w'.ownsRow base e size v n xs:=by
 obtain ⟨h1,h2⟩:=h;refine ⟨h1,?_⟩
 rcases h2 with h2 | ⟨g,cap,cur,hv,hg,hh,rest⟩
 ·exact .inl h2
 ·exact .inr ⟨g,cap,cur,hv,hg,(hb.block g (Array.getElem?_eq_some_iff.1 hh).1).trans hh,rest⟩
theorem bc {w:World} {base:Nat} {e:TypeId} {size:Nat} {v:Value} {n:Nat} {xs:List Value} {B:Nat} {C:Array Value} {t:TypeId} (h:w.ownsRow base e size v n xs) (hB:w.heap[B]?=some (.cells C t)) (hne:e≠t):some B≠v.ownBlock:=by
 intro hk
 rcases h.2 with ⟨rfl,_⟩ | ⟨g,cap,cur,rfl,_,hb,_⟩
 ·cases hk
 ·cases hk
  rw [hb] at hB
  injection hB with hB
  injection hB with h1 h2 h3
  exact hne h2
theorem changesOf_any (vk vp ve:Value) (es:List Ent) (w:World) (he:EntsAt w ve es) (hsz:sumN (fun e=>e.fs.length) es≤1048576) (hel:es.length≤1048576) :
  Calls Tryz.prog 37 #[.agg #[vk,vp,ve]] w fun e w'=>∃ v,e=.returned v∧ChgsNew w' w.heap.size v (chgsOf es)∧Below w.heap.size w w':=by
 obtain ⟨i0,hi,hz0,hz1,hz2⟩:=info_parts infoChange;obtain ⟨ae,ce,rfl,hlc,hcm,hc⟩:=he;unfold maxLen at hcm;have HC:Hid (∀ i f,es[i]?=some f→∃ b off,ae=some ⟨b,off,none⟩∧EntAt w b (off+i*2) f):=hc
 have HSZ:Hid (∀ k,(chgsOf (es.take k)).length≤1048576):=fun k=>by
  rw [chgsOf_len];exact Nat.le_trans (sumN_take_le _ es k) hsz
 clear hc;have HX0:Hid (Below w.heap.size w (w.alloc (.cells #[vk,vp,.slice ae es.length ce] 30))):=(aO)
 go_enter Tryz.func37,Tryz.ntmps37
 go_wp2
 go_loopw [3,5,7,11] (fun o _ _ i wr=>∃ k:Nat,k≤es.length∧i=.int .i64 k∧ChgsNew wr w.heap.size o (chgsOf (es.take k))∧Below w.heap.size w wr) (fun _ _ _ i _=>es.length-(intOf i).toNat)
 case atStart=>exact ⟨0,Nat.zero_le _,rfl,⟨rfl,.inl ⟨rfl,rfl⟩⟩,HX0.out⟩
 case round =>
  obtain ⟨k,hk,rfl,hown,hb⟩:=hrel
  by_cases hlt:k<es.length
  ·obtain ⟨b,off,rfl,hc⟩:=HC.out k _ (bo hlt)
   obtain ⟨fv,d0',d1',hfl⟩:=hc;have d0:=ag hb aH d0';have d1:=ag hb aH d1';have HK:Hid (chgsOf (es.take (k+1))=chgsOf (es.take k)++(eat es k).fs.map (chgOf (eat es k).name)∧(chgsOf (es.take (k+1))).length≤1048576):=⟨chgsOf_take es k _ (bo hlt),HSZ.out (k+1)⟩;obtain ⟨fa,fc,rfl,hfc,hfm,hfe⟩:=hfl;unfold maxLen at hfm;have HFE:Hid (∀ i f,(eat es k).fs[i]?=some f→∃ b off,fa=some ⟨b,off,none⟩∧FldAt w b (off+i*3) f):=hfe;clear hfe d0' d1';generalize eat es k=t at *;obtain ⟨nm,fs⟩:=t;dsimp only at *
   have hk0:(0:Int)≤(k:Int):=by omega
   have hk1:(k:Int)<(es.length:Int):=by omega
   have HOW:Hid (ChgsNew wr w.heap.size u3 (chgsOf (es.take k))):=hown
   have HB1:Hid ((wr.alloc (.cells #[.string nm,.slice fa fs.length fc] 65)).heap[wr.heap.size]?=some (.cells #[.string nm,.slice fa fs.length fc] 65)):=by show (wr.heap.push _)[wr.heap.size]?=_;simp
   generalize hcs:chgsOf (es.take k)=cs at *;clear hcs hown;go_wp2;obtain ⟨B5,hB5⟩:∃ B5,wr.heap.size=B5:=⟨_,rfl⟩;have HST:Hid (ChgsNew (wr.alloc (.cells #[.string nm,.slice fa fs.length fc] 65)) w.heap.size u3 cs):=ah HOW.out (aO);have HBS:Hid (Below w.heap.size w (wr.alloc (.cells #[.string nm,.slice fa fs.length fc] 65))):=hb.alloc hb.size _;rw [hB5] at HB1
   simp only [hB5]
   generalize wr.alloc (.cells #[.string nm,.slice fa fs.length fc] 65)=ws at *;clear HOW d0 d1 hb hB5
   go_loopw [3,7,18] (fun o _ i wx=>∃ j:Nat,j≤fs.length∧i=.int .i64 j∧ChgsNew wx w.heap.size o (cs++(fs.take j).map (chgOf nm))∧Below w.heap.size w wx∧wx.heap[B5]?=some (.cells #[.string nm,.slice fa fs.length fc] 65)) (fun _ _ i _=>fs.length-(intOf i).toNat)
   case atStart=>exact ⟨0,Nat.zero_le _,rfl,by simpa using HST.out,HBS.out,HB1.out⟩
   case round =>
    clear HST HBS HB1;obtain ⟨j,hj,rfl,hown,hbx,hbox⟩:=hrel
    have n0:wr.cell? ⟨B5,0,none⟩=some (.string nm):=by simp [World.cell?,hbox]
    have n1:wr.cell? ⟨B5,1,none⟩=some (.slice fa fs.length fc):=by simp [World.cell?,hbox]
    have hz5:B5<wr.heap.size:=(Array.getElem?_eq_some_iff.1 hbox).1
    by_cases hjl:j<fs.length
    ·obtain ⟨fb,fo,rfl,hf⟩:=HFE.out j _ (bE hjl)
     obtain ⟨g0,g1,g2⟩:=hf.keep hbx aH
     have HJ:Hid (cs++(fs.take (j+1)).map (chgOf nm)=cs++(fs.take j).map (chgOf nm)++[chgOf nm (fat fs j)]∧(cs++(fs.take j).map (chgOf nm)).length+1≤1048576):=by
      refine ⟨?_,?_⟩
      ·have:fs[j]=fat fs j:=by simp [fat,hjl]
       rw [List.take_succ_eq_append_getElem hjl,List.map_append,this];simp
      ·have h1:=HK.out.2
       rw [HK.out.1] at h1
       simp at h1 ⊢;omega
     have HBX:Hid (Below w.heap.size w wr):=hbx;have HBO:Hid (wr.heap[B5]?=some (.cells #[.string nm,.slice (some ⟨fb,fo,none⟩) fs.length fc] 65)):=hbox;have HON:Hid (ChgsNew wr w.heap.size u3 (cs++(fs.take j).map (chgOf nm))):=hown;clear hf hbx hbox hown;generalize fat fs j=t at *;generalize hcc:cs++(fs.take j).map (chgOf nm)=cc at *;clear hcc
     have hj0:(0:Int)≤(j:Int):=by omega
     have hj1:(j:Int)<(fs.length:Int):=by omega
     have HAL:Hid (Below wr.heap.size wr (wr.alloc (.cells #[.int .i64 t.what,.int .i64 t.num,.string t.v] 67))):=(aO);go_wp2_with fail;refine (changeOf_any t nm _).mono ?_;rintro e w1 ⟨rfl,hb1⟩;have hbw1:Below wr.heap.size wr w1:=aa HAL.out hb1;have hown1:ChgsNew w1 w.heap.size u3 cc:=ah HON.out hbw1;have hbox1:=(hbw1.block B5 hz5).trans HBO.out;have hsz1:=hbw1.size;have hB1:Below w.heap.size w w1:=aa HBX.out hbw1;have hlen:cc.length+1≤1048576:=HJ.out.2
     go_wp2_with (at_builtin;refine wpList_append_own _ rfl _ _ 73 rfl w.heap.size 76 i0 (.agg #[.string ByteArray.empty,.int .i64 0,.int .i64 0,.string ByteArray.empty]) 4 48 Tryz.underlying73 hi hz0 hz1 hz2 rfl (by decide) _ _ _ rfl (hown1.alloc _) ⟨w1.heap.size,0,none⟩ 1 1 (chgRow (chgOf nm t)) rfl rfl (cell_four_new _ _ _ _ _ _) (fun x hx=>by simp [chgRow,chgOf] at hx;rcases hx with rfl | rfl | rfl | rfl <;> rfl) (by unfold maxLen;omega) (by omega) (by have:=hB1.size;simp;omega) ?_;intro v' w3 hown' hgrow3 hnil3)
     have hbox3:w3.heap[B5]?=_:=(hgrow3.block B5 (by simp;omega) (bc hown1 hbox1 (by decide))).trans ((Below.heap_alloc _ _ _ (by omega)).trans hbox1)
     refine ⟨⟨j+1,by omega,by go_num,?_,(hB1.alloc hB1.size _).grown hgrow3 (by have:=hB1.size;simp;omega) (ax hown1),hbox3⟩,by simp [intOf];omega⟩
     rw [HJ.out.1];unfold ChgsNew;rw [chgRows_snoc,List.length_append];exact hown'
    ·have HFI:Hid (ChgsNew wr w.heap.size u3 (chgsOf (es.take (k+1)))):=by
      show ChgsNew wr w.heap.size u3 _
      rw [HK.out.1]
      rw [List.take_of_length_le (by omega)] at hown;exact hown
     go_wp2
     exact ⟨⟨k+1,by omega,by go_num,HFI.out,hbx⟩,by simp [intOf];omega⟩
  ·have HFI:Hid (ChgsNew wr w.heap.size u3 (chgsOf es)):=by
    rw [List.take_of_length_le (by omega)] at hown;exact hown
   go_wp2;go_ret;exact ⟨u3,rfl,HFI.out,hb⟩
open Go.RowKit
def keyLt (a b:Chg):Bool:=blS a.f b.f||(decide (a.f=b.f)&&decide (a.what<b.what))
def keyEq (a b:Chg):Bool:=decide (a.f=b.f)&&decide (a.what=b.what)
theorem keyEq_iff {a b:Chg}:keyEq a b=true ↔ a.f=b.f∧a.what=b.what:=by simp [keyEq]
theorem keyLt_trans {a b c:Chg} (h:keyLt a b=true) (k:keyLt b c=true):keyLt a c=true:=by
 simp only [keyLt,Bool.or_eq_true,Bool.and_eq_true,decide_eq_true_eq] at h k ⊢
 rcases h with h | ⟨h1,h2⟩
 ·rcases k with k | ⟨k1,k2⟩
  ·exact .inl (blS_trans h k)
  ·exact .inl (k1 ▸ h)
 ·rcases k with k | ⟨k1,k2⟩
  ·exact .inl (h1 ▸ k)
  ·exact .inr ⟨h1.trans k1,by omega⟩
theorem ch {a b:Chg} (h:keyLt a b=true):keyEq a b=false:=by
 cases hk:keyEq a b with
 | false=>rfl
 | true =>
  obtain ⟨h1,h2⟩:=keyEq_iff.1 hk
  simp only [keyLt,h1,h2,cy] at h
  simp at h
theorem keyEq_symm {a b:Chg}:keyEq a b=keyEq b a:=by
 rw [Bool.eq_iff_iff,keyEq_iff,keyEq_iff];exact ⟨fun h=>⟨h.1.symm,h.2.symm⟩,fun h=>⟨h.1.symm,h.2.symm⟩⟩
theorem keyLt_of_eq {a b c:Chg} (h:keyEq a b=true) (k:keyLt b c=true):keyLt a c=true:=by
 obtain ⟨h1,h2⟩:=keyEq_iff.1 h
 simp only [keyLt] at k ⊢
 rw [h1,h2];exact k
theorem keyGt {a b:Chg} (h:keyLt a b=false) (k:keyEq a b=false):keyLt b a=true:=by
 simp only [keyLt,Bool.or_eq_false_iff] at h
 cases hb:blS b.f a.f with
 | true=>simp [keyLt,hb]
 | false =>
  have e:=blS_total h.1 hb
  simp only [e,decide_true,Bool.true_and,decide_eq_false_iff_not] at h
  simp only [keyEq,e,decide_true,Bool.true_and,decide_eq_false_iff_not] at k
  simp only [keyLt,e,decide_true,Bool.true_and,Bool.or_eq_true,decide_eq_true_eq]
  right;omega
def latC (x y:Chg):Bool:=if x.num=y.num then blS y.v x.v else decide (y.num<x.num)
def noC:Chg:=⟨⟨#[]⟩,0,0,⟨#[]⟩⟩
theorem latC_new {x:Chg} (h:1≤x.num):latC x noC=true:=by
 unfold latC noC;dsimp only;rw [if_neg (by omega)];simp;omega
def pick (p:Chg×Chg):Option Chg:=if latC p.2 p.1 then some p.2 else none
def newB (A:List Chg) (b:Chg):Bool:=match A.find? fun a=>keyEq a b with
 | some a=>latC b a
 | none=>true
theorem newB_nil (b:Chg):newB [] b=true:=rfl
theorem newB_skip {a b:Chg} {A:List Chg} (h:keyEq a b=false):newB (a::A) b=newB A b:=by
 unfold newB;rw [List.find?_cons,h]
theorem newB_hit {a b:Chg} {A:List Chg} (h:keyEq a b=true):newB (a::A) b=latC b a:=by
 unfold newB;rw [List.find?_cons,h]
theorem newB_past {b:Chg}:∀ {A:List Chg},(∀ a∈A,keyEq a b=false)→newB A b=true
 | [],_=>rfl
 | a::A,h=>by rw [newB_skip (h a (by simp)),newB_past fun x hx=>h x (by simp [hx])]
def SortedC (l:List Chg):Prop:=l.Pairwise fun a b=>keyLt a b=true
theorem adj_pair {α:Type} {R:α→α→Prop} (ht:∀ a b c,R a b→R b c→R a c) (l:List α) (h:∀ i (hi:i+1<l.length),R (l[i]'(by omega)) l[i+1]):l.Pairwise R:=by
 induction l with
 | nil=>exact List.Pairwise.nil
 | cons a l ih =>
  have hl:l.Pairwise R:=ih fun i hi=>by
   have:=h (i+1) (by simp;omega)
   simpa using this
  refine List.pairwise_cons.2 ⟨fun b hb=>?_,hl⟩
  cases l with
  | nil=>cases hb
  | cons c l =>
   have h0:R a c:=by simpa using h 0 (by simp)
   rcases List.mem_cons.1 hb with rfl | hb
   ·exact h0
   ·exact ht _ _ _ h0 ((List.pairwise_cons.1 hl).1 b hb)
theorem bH {ks ps:List Tri} {es:List Ent} (h:bookB ks ps es=true):es.Pairwise fun a b=>blS a.name b.name=true:=by
 simp only [bookB,Bool.and_eq_true] at h
 have hn:allB es.length (fun i=>nameB (eat es i).name&&ascE es i)=true:=by
  have:=h.2.1
  simp only [namesE,Bool.and_eq_true] at this
  exact this.2
 refine adj_pair (R:=fun a b:Ent=>blS a.name b.name=true) (fun a b c h k=>blS_trans h k) es fun i hi=>?_;have h1:=bF hn (i+1) hi
 simp only [Bool.and_eq_true] at h1
 have h2:=h1.2;rw [ascE_succ] at h2
 have e0:eat es i=es[i]:=by simp [eat,show i<es.length by omega]
 have e1:eat es (i+1)=es[i+1]:=by simp [eat,hi]
 rw [e0,e1] at h2
 simpa [geB,blS] using h2
theorem cC {ks ps:List Tri} {es:List Ent} (h:bookB ks ps es=true) {e:Ent} (he:e∈es):fieldsB ks ps e.name e.fs=true:=by
 simp only [bookB,Bool.and_eq_true] at h
 obtain ⟨i,hi,rfl⟩:=List.getElem_of_mem he;have h1:=bF h.2.2 i hi
 have e0:eat es i=es[i]:=by simp [eat,hi]
 rw [e0] at h1;exact h1
theorem fields_sorted {ks ps:List Tri} {n:ByteArray} {l:List Fld} (h:fieldsB ks ps n l=true):l.Pairwise fun a b=>a.what<b.what:=by
 simp only [fieldsB,Bool.and_eq_true] at h
 refine adj_pair (R:=fun a b:Fld=>a.what<b.what) (fun a b c h k=>by omega) l fun i hi=>?_
 have h1:=bF h.1 (i+1) hi
 simp only [Bool.and_eq_true] at h1
 have h2:=h1.1
 have e0:fat l i=l[i]:=by simp [fat,show i<l.length by omega]
 have e1:fat l (i+1)=l[i+1]:=by simp [fat,hi]
 simp only [ascF,Nat.add_sub_cancel,e0,e1] at h2
 simp at h2
 omega
theorem fields_fit {ks ps:List Tri} {n:ByteArray} {l:List Fld} (h:fieldsB ks ps n l=true) {f:Fld} (hf:f∈l):fitB ks ps (chgOf n f)=true:=by
 simp only [fieldsB,Bool.and_eq_true] at h
 obtain ⟨i,hi,rfl⟩:=List.getElem_of_mem hf;have h1:=bF h.1 i hi
 simp only [Bool.and_eq_true] at h1
 have e0:fat l i=l[i]:=by simp [fat,hi]
 rw [e0] at h1;exact h1.2
theorem book_sorted {ks ps:List Tri} {es:List Ent} (h:bookB ks ps es=true):SortedC (chgsOf es):=by
 have hn:=bH h;have hf:∀ e∈es,e.fs.Pairwise fun a b=>a.what<b.what:=fun e he=>fields_sorted (cC h he);clear h
 induction es with
 | nil=>exact List.Pairwise.nil
 | cons e es ih =>
  have hn':=List.pairwise_cons.1 hn
  have e1:chgsOf (e::es)=e.fs.map (chgOf e.name)++chgsOf es:=by simp [chgsOf]
  unfold SortedC;rw [e1,List.pairwise_append]
  refine ⟨?_,ih hn'.2 fun x hx=>hf x (by simp [hx]),fun a ha b hb=>?_⟩
  ·rw [List.pairwise_map]
   exact (hf e (by simp)).imp fun h=>by simp [keyLt,chgOf,h]
  ·obtain ⟨f,_,rfl⟩:=List.mem_map.1 ha
   obtain ⟨y,hy,hb⟩:=List.mem_flatMap.1 hb;obtain ⟨g,_,rfl⟩:=List.mem_map.1 hb
   simp [keyLt,chgOf,hn'.1 y hy]
theorem book_apart {ks ps:List Tri} {es:List Ent} (h:bookB ks ps es=true):es.Pairwise fun a b=>¬ a.name=b.name :=
 (bH h).imp fun h e=>by rw [e,cy] at h;cases h
open Go.RowKit
def putC:List Chg→Chg→List Chg
 | [],c=>[c]
 | a::l,c=>if keyLt a c then a::putC l c else if keyEq a c then (if latC c a then c::l else a::l) else c::a::l
theorem putC_mem {l:List Chg} {c x:Chg} (h:x∈putC l c):x=c∨x∈l:=by
 induction l with
 | nil=>simp [putC] at h;exact .inl h
 | cons a l ih =>
  rw [putC] at h
  split at h
  ·rcases List.mem_cons.1 h with rfl | h
   ·exact .inr (by simp)
   ·rcases ih h with h | h
    ·exact .inl h
    ·exact .inr (by simp [h])
  ·split at h
   ·split at h
    ·rcases List.mem_cons.1 h with rfl | h
     ·exact .inl rfl
     ·exact .inr (by simp [h])
    ·exact .inr h
   ·rcases List.mem_cons.1 h with rfl | h
    ·exact .inl rfl
    ·exact .inr h
theorem putC_sorted {l:List Chg} (c:Chg) (h:SortedC l):SortedC (putC l c):=by
 induction l with
 | nil=>simp [putC,SortedC]
 | cons a l ih =>
  have h':=List.pairwise_cons.1 h;rw [putC]
  cases hlt:keyLt a c with
  | true =>
   rw [if_pos rfl];refine List.pairwise_cons.2 ⟨fun x hx=>?_,ih h'.2⟩
   rcases putC_mem hx with rfl | hx
   ·exact hlt
   ·exact h'.1 x hx
  | false =>
   rw [if_neg (by simp)]
   cases heq:keyEq a c with
   | true =>
    rw [if_pos rfl]
    split
    ·exact List.pairwise_cons.2 ⟨fun x hx=>keyLt_of_eq (by rw [keyEq_symm];exact heq) (h'.1 x hx),h'.2⟩
    ·exact h
   | false =>
    rw [if_neg (by simp)]
    have hgt:=keyGt hlt heq;refine List.pairwise_cons.2 ⟨fun x hx=>?_,h⟩
    rcases List.mem_cons.1 hx with rfl | hx
    ·exact hgt
    ·exact keyLt_trans hgt (h'.1 x hx)
theorem putC_last {l:List Chg} {c:Chg} (h:∀ a∈l,keyLt a c=true):putC l c=l++[c]:=by
 induction l with
 | nil=>rfl
 | cons a l ih=>rw [putC,if_pos (h a (by simp)),ih fun x hx=>h x (by simp [hx])];rfl
theorem putAll_app {l m:List Chg} (h:SortedC (l++m)):m.foldl putC l=l++m:=by
 induction m generalizing l with
 | nil=>simp
 | cons c m ih =>
  rw [List.foldl_cons,putC_last,ih]
  ·simp
  ·simpa using h
  ·have:=(List.pairwise_append.1 h).2.2
   exact fun a ha=>this a ha c (by simp)
theorem putAll_self {l:List Chg} (h:SortedC l):l.foldl putC []=l:=by simpa using putAll_app (l:=[]) (by simpa using h)
theorem putC_find {l:List Chg} (c k:Chg) (h:SortedC l):(putC l c).find? (fun a=>keyEq a k)=if keyEq c k then (if newB l c then some c else l.find? fun a=>keyEq a k) else l.find? fun a=>keyEq a k:=by
 induction l with
 | nil=>simp [putC,newB_nil]
 | cons a l ih =>
  have h':=List.pairwise_cons.1 h;rw [putC]
  cases hlt:keyLt a c with
  | true =>
   rw [if_pos rfl,List.find?_cons,ih h'.2,newB_skip (ch hlt)]
   cases hak:keyEq a k with
   | true =>
    have hck:keyEq c k=false:=by
     cases hck:keyEq c k with
     | false=>rfl
     | true =>
      obtain ⟨a1,a2⟩:=keyEq_iff.1 hak;obtain ⟨c1,c2⟩:=keyEq_iff.1 hck;have:keyEq a c=true:=keyEq_iff.2 ⟨a1.trans c1.symm,a2.trans c2.symm⟩;rw [ch hlt] at this;cases this
    simp [hck,hak]
   | false=>simp [hak]
  | false =>
   rw [if_neg (by simp)]
   cases heq:keyEq a c with
   | true =>
    rw [if_pos rfl,newB_hit heq]
    have hak:keyEq a k=keyEq c k:=by
     obtain ⟨a1,a2⟩:=keyEq_iff.1 heq
     simp [keyEq,a1,a2]
    cases hl:latC c a with
    | true=>rw [if_pos rfl,List.find?_cons,List.find?_cons,hak];cases keyEq c k <;> simp
    | false=>rw [if_neg (by simp)];cases keyEq c k <;> simp
   | false =>
    have hgt:=keyGt hlt heq
    have hpast:newB (a::l) c=true:=newB_past fun x hx=>by
     rw [keyEq_symm]
     rcases List.mem_cons.1 hx with rfl | hx
     ·exact ch hgt
     ·exact ch (keyLt_trans hgt (h'.1 x hx))
    rw [if_neg (by simp),hpast,List.find?_cons]
    cases keyEq c k <;> simp
def fldC (c:Chg):Fld:=⟨c.what,c.num,c.v⟩
def addE (es:List Ent) (c:Chg):List Ent:=match es.getLast? with
 | some e=>if e.name=c.f then es.dropLast++[⟨e.name,e.fs++[fldC c]⟩] else es++[⟨c.f,[fldC c]⟩]
 | none=>[⟨c.f,[fldC c]⟩]
theorem addE_new {es:List Ent} {c:Chg} (h:∀ e,es.getLast?=some e→e.name≠c.f):addE es c=es++[⟨c.f,[fldC c]⟩]:=by
 unfold addE
 cases hl:es.getLast? with
 | none=>rw [List.getLast?_eq_none_iff.1 hl];rfl
 | some e=>simp only [];rw [if_neg (h e hl)]
theorem addE_more {es:List Ent} {e:Ent} {c:Chg} (h:e.name=c.f):addE (es++[e]) c=es++[⟨e.name,e.fs++[fldC c]⟩]:=by
 unfold addE
 simp [h]
theorem addE_flds (n:ByteArray) (es:List Ent) (fs gs:List Fld):(gs.map (chgOf n)).foldl addE (es++[⟨n,fs⟩])=es++[⟨n,fs++gs⟩]:=by
 induction gs generalizing fs with
 | nil=>simp
 | cons g gs ih =>
  rw [List.map_cons,List.foldl_cons,addE_more (c:=chgOf n g) rfl,ih]
  simp [fldC,chgOf]
theorem addE_ent {es:List Ent} {e:Ent} (hne:e.fs≠[]) (h:∀ x,es.getLast?=some x→x.name≠e.name):(e.fs.map (chgOf e.name)).foldl addE es=es++[e]:=by
 obtain ⟨n,fs⟩:=e
 cases fs with
 | nil=>exact absurd rfl hne
 | cons f fs =>
  rw [List.map_cons,List.foldl_cons,addE_new (c:=chgOf n f) h];exact addE_flds n es [f] fs
theorem grp_app {es xs:List Ent} (hne:∀ e∈xs,e.fs≠[]) (h:(es++xs).Pairwise fun a b=>¬ a.name=b.name):(chgsOf xs).foldl addE es=es++xs:=by
 induction xs generalizing es with
 | nil=>simp [chgsOf]
 | cons x xs ih =>
  have e1:chgsOf (x::xs)=x.fs.map (chgOf x.name)++chgsOf xs:=by simp [chgsOf]
  rw [e1,List.foldl_append,addE_ent (hne x (by simp)),ih (fun e he=>hne e (by simp [he]))]
  ·simp
  ·simpa using h
  ·intro y hy
   have hm:y∈es:=List.mem_of_getLast? hy
   exact (List.pairwise_append.1 h).2.2 y hm x (by simp)
theorem grp_self {es:List Ent} (hne:∀ e∈es,e.fs≠[]) (h:es.Pairwise fun a b=>¬ a.name=b.name):(chgsOf es).foldl addE []=es:=by simpa using grp_app (es:=[]) hne (by simpa using h)
open Go.RowKit
def latF (f g:Fld):Bool:=latC (chgOf ⟨#[]⟩ f) (chgOf ⟨#[]⟩ g)
theorem latF_chg (n m:ByteArray) (f g:Fld):latC (chgOf n f) (chgOf m g)=latF f g:=rfl
def putF:List Fld→Fld→List Fld
 | [],f=>[f]
 | g::l,f=>if g.what<f.what then g::putF l f else if g.what=f.what then (if latF f g then f::l else g::l) else f::g::l
def putE:List Ent→ByteArray→Fld→List Ent
 | [],n,f=>[⟨n,[f]⟩]
 | e::es,n,f=>if e.name=n then ⟨e.name,putF e.fs f⟩::es else if blS e.name n then e::putE es n f else ⟨n,[f]⟩::e::es
theorem putF_ne (l:List Fld) (f:Fld):putF l f≠[]:=by
 cases l with
 | nil=>simp [putF]
 | cons g l=>rw [putF];split <;> (try split) <;> (try split) <;> simp
theorem putE_ne {es:List Ent} (n:ByteArray) (f:Fld) (h:∀ e∈es,e.fs≠[]):∀ e∈putE es n f,e.fs≠[]:=by
 induction es with
 | nil=>simp [putE]
 | cons x es ih =>
  have ih':=ih fun e he=>h e (by simp [he])
  rw [putE]
  split
  ·intro e he
   rcases List.mem_cons.1 he with rfl | he
   ·exact putF_ne _ _
   ·exact h e (by simp [he])
  ·split
   ·intro e he
    rcases List.mem_cons.1 he with rfl | he
    ·exact h _ (by simp)
    ·exact ih' e he
   ·intro e he
    rcases List.mem_cons.1 he with rfl | he
    ·simp
    ·exact h e he
theorem putE_name {es:List Ent} {n:ByteArray} {f:Fld} {x:Ent} (h:x∈putE es n f):x.name=n ∨ ∃ e∈es,e.name=x.name:=by
 induction es with
 | nil=>simp [putE] at h;exact .inl (by rw [h])
 | cons e es ih =>
  rw [putE] at h
  split at h
  ·rename_i he
   rcases List.mem_cons.1 h with rfl | h
   ·exact .inl he
   ·exact .inr ⟨x,by simp [h],rfl⟩
  ·split at h
   ·rcases List.mem_cons.1 h with rfl | h
    ·exact .inr ⟨x,by simp,rfl⟩
    ·rcases ih h with h | ⟨y,hy,hn⟩
     ·exact .inl h
     ·exact .inr ⟨y,by simp [hy],hn⟩
   ·rcases List.mem_cons.1 h with rfl | h
    ·exact .inl rfl
    ·exact .inr ⟨x,h,rfl⟩
theorem putE_sorted {es:List Ent} (n:ByteArray) (f:Fld) (h:es.Pairwise fun a b=>blS a.name b.name=true):(putE es n f).Pairwise fun a b=>blS a.name b.name=true:=by
 induction es with
 | nil=>simp [putE]
 | cons e es ih =>
  have h':=List.pairwise_cons.1 h;rw [putE]
  split
  ·exact List.pairwise_cons.2 ⟨fun x hx=>h'.1 x hx,h'.2⟩
  ·rename_i hne
   split
   ·rename_i hlt
    refine List.pairwise_cons.2 ⟨fun x hx=>?_,ih h'.2⟩
    rcases putE_name hx with hx | ⟨y,hy,hn⟩
    ·rw [hx];exact hlt
    ·rw [← hn];exact h'.1 y hy
   ·rename_i hnl
    have hgt:blS n e.name=true:=by
     cases hg:blS n e.name with
     | true=>rfl
     | false=>exact absurd (blS_total (by simpa using hnl) hg) hne
    refine List.pairwise_cons.2 ⟨fun x hx=>?_,h⟩
    rcases List.mem_cons.1 hx with rfl | hx
    ·exact hgt
    ·exact blS_trans hgt (h'.1 x hx)
theorem putE_apart {es:List Ent} (h:es.Pairwise fun a b=>blS a.name b.name=true):es.Pairwise fun a b=>¬ a.name=b.name :=
 h.imp fun h e=>by rw [e,cy] at h;cases h
theorem putC_skip {l m:List Chg} {c:Chg} (h:∀ a∈l,keyLt a c=true):putC (l++m) c=l++putC m c:=by
 induction l with
 | nil=>rfl
 | cons a l ih=>rw [List.cons_append,putC,if_pos (h a (by simp)),ih fun x hx=>h x (by simp [hx])];rfl
theorem keyLt_not {a c:Chg} (h:keyLt c a=true):keyLt a c=false∧keyEq a c=false:=by
 refine ⟨?_,by rw [keyEq_symm];exact ch h⟩
 cases hk:keyLt a c with
 | false=>rfl
 | true =>
  have:=ch (keyLt_trans h hk)
  simp [keyEq] at this
theorem putC_front {m:List Chg} {c:Chg} (h:∀ a∈m,keyLt c a=true):putC m c=c::m:=by
 cases m with
 | nil=>rfl
 | cons a m=>obtain ⟨h1,h2⟩:=keyLt_not (h a (by simp));rw [putC,h1,h2];simp
theorem putC_flds (n:ByteArray) (f:Fld) (m:List Chg) (hm:∀ a∈m,keyLt (chgOf n f) a=true):∀ fs:List Fld,putC (fs.map (chgOf n)++m) (chgOf n f)=(putF fs f).map (chgOf n)++m
 | []=>by simpa [putF] using putC_front hm
 | g::fs=>by
  rw [List.map_cons,List.cons_append,putC,putF]
  have e1:keyLt (chgOf n g) (chgOf n f)=decide (g.what<f.what):=by simp [keyLt,chgOf,cy];rfl
  have e2:keyEq (chgOf n g) (chgOf n f)=decide (g.what=f.what):=by simp [keyEq,chgOf];rfl
  rw [e1,e2,latF_chg,putC_flds n f m hm fs]
  by_cases h1:g.what<f.what
  ·simp [h1]
  ·by_cases h2:g.what=f.what
   ·cases hl:latF f g <;> simp [h2]
   ·simp [h1,h2]
theorem chgs_cons (e:Ent) (es:List Ent):chgsOf (e::es)=e.fs.map (chgOf e.name)++chgsOf es:=by simp [chgsOf]
theorem chgs_above {n:ByteArray} {f:Fld} {es:List Ent} (h:∀ e∈es,blS n e.name=true):∀ a∈chgsOf es,keyLt (chgOf n f) a=true:=by
 intro a ha;obtain ⟨e,he,ha⟩:=List.mem_flatMap.1 ha;obtain ⟨g,_,rfl⟩:=List.mem_map.1 ha
 simp [keyLt,chgOf,h e he]
theorem chgs_putE {es:List Ent} (n:ByteArray) (f:Fld) (h:es.Pairwise fun a b=>blS a.name b.name=true):chgsOf (putE es n f)=putC (chgsOf es) (chgOf n f):=by
 induction es with
 | nil=>simp [putE,chgsOf,putC]
 | cons e es ih =>
  have h':=List.pairwise_cons.1 h;rw [putE,chgs_cons]
  split
  ·rename_i he
   subst he;rw [putC_flds _ _ _ (chgs_above h'.1),chgs_cons]
  ·rename_i hne
   split
   ·rename_i hlt
    rw [putC_skip,chgs_cons,ih h'.2];intro a ha;obtain ⟨g,_,rfl⟩:=List.mem_map.1 ha
    simp [keyLt,chgOf,hlt]
   ·rename_i hnl
    have hgt:blS n e.name=true:=by
     cases hg:blS n e.name with
     | true=>rfl
     | false=>exact absurd (blS_total (by simpa using hnl) hg) hne
    rw [chgs_cons,putC_front]
    ·rw [chgs_cons];simp
    ·rw [← chgs_cons]
     exact chgs_above (f:=f) fun x hx=>by
      rcases List.mem_cons.1 hx with rfl | hx
      ·exact hgt
      ·exact blS_trans hgt (h'.1 x hx)
theorem put_entries {es:List Ent} (n:ByteArray) (f:Fld) (h:es.Pairwise fun a b=>blS a.name b.name=true) (hne:∀ e∈es,e.fs≠[]):(putC (chgsOf es) (chgOf n f)).foldl addE []=putE es n f:=by
 rw [← chgs_putE n f h];exact grp_self (putE_ne n f hne) (putE_apart (putE_sorted n f h))
theorem putE_len {es:List Ent} (n:ByteArray) (f:Fld) (h:es.Pairwise fun a b=>blS a.name b.name=true):(putE es n f).length=if es.any (fun e=>decide (e.name=n)) then es.length else es.length+1:=by
 induction es with
 | nil=>simp [putE]
 | cons e es ih =>
  have h':=List.pairwise_cons.1 h;rw [putE]
  split
  ·rename_i he;simp [he]
  ·rename_i hne
   split
   ·rw [List.length_cons,ih h'.2];simp [hne];split <;> simp
   ·rename_i hnl
    have hgt:blS n e.name=true:=by
     cases hg:blS n e.name with
     | true=>rfl
     | false=>exact absurd (blS_total (by simpa using hnl) hg) hne
    have hno:es.any (fun e=>decide (e.name=n))=false:=by
     rw [List.any_eq_false];intro x hx hxn
     have hxn:x.name=n:=by simpa using hxn
     have:=blS_trans hgt (h'.1 x hx);rw [hxn,cy] at this;cases this
    simp [hne,hno]
open Go.RowKit
attribute [local go_sem] Later.cell Later.frozen
def fldRound (ks ps:List Tri) (n:ByteArray) (l:List Fld) (i:Nat):Bool:=(baseB ks ps&&fitB ks ps (chgOf n (fat l i)))&&ascF l i
def entB (ks ps:List Tri) (n:ByteArray) (l:List Fld):Bool:=nameB n&&(decide (0<l.length)&&allB l.length (fldRound ks ps n l))
theorem book_eq (ks ps:List Tri) (es:List Ent):bookB ks ps es=(baseB ks ps&&(decide (es.length≤12)&&allB es.length fun i=>entB ks ps (eat es i).name (eat es i).fs&&ascE es i)):=by
 unfold bookB namesE
 cases hb:baseB ks ps
 ·rfl
 ·rw [Bool.true_and,Bool.true_and,Bool.and_assoc,← allB_and]
  congr 1
  refine allB_congr fun j _=>?_
  have e:allB (eat es j).fs.length (fldRound ks ps (eat es j).name (eat es j).fs)=allB (eat es j).fs.length fun i=>ascF (eat es j).fs i&&fitB ks ps (chgOf (eat es j).name (fat (eat es j).fs i)) :=
   allB_congr fun i _=>by unfold fldRound;rw [hb,Bool.true_and,Bool.and_comm]
  unfold entB fieldsB;rw [e];generalize (allB (eat es j).fs.length fun i=>ascF (eat es j).fs i&&fitB ks ps (chgOf (eat es j).name (fat (eat es j).fs i)))=q;generalize decide (0<(eat es j).fs.length)=r
  cases nameB (eat es j).name <;> cases ascE es j <;> cases q <;> cases r <;> rfl
theorem l3EntryOk_any (vk vp fv:Value) (ks ps:List Tri) (n:ByteArray) (l:List Fld) (w:World) (hk:TrisAt w vk ks) (hp:TrisAt w vp ps) (nk:Names ks) (np:Names ps) (hv:FldsAt w fv l) (hn:n.size≤1048576) (hs:∀ f∈l,f.v.size≤1048576) :
  Calls Tryz.prog 48 #[.agg #[vk,vp],.agg #[.string n,fv]] w fun e w'=>e=.returned (.bool (entB ks ps n l))∧Below w.heap.size w w':=by
 have HKP:Hid ((TrisAt w vk ks∧TrisAt w vp ps)∧(Names ks∧Names ps)):=⟨⟨hk,hp⟩,nk,np⟩;obtain ⟨ak,ck,rfl,-,-,-⟩:=hk;obtain ⟨ap,cp,rfl,-,-,-⟩:=hp;obtain ⟨a,cap,rfl,hlc,hcm,hc⟩:=hv;unfold maxLen at hcm;have HC:Hid (∀ i f,l[i]?=some f→∃ b off,a=some ⟨b,off,none⟩∧FldAt w b (off+i*3) f):=hc;have HS:Hid (∀ f∈l,f.v.size≤1048576):=hs;clear hc hs nk np
 have HO0:Hid (OwnAt w ((w.alloc (.cells #[.slice ak ks.length ck,.slice ap ps.length cp] 27)).alloc (.cells #[.string n,.slice a l.length cap] 65)) [[.slice ak ks.length ck,.slice ap ps.length cp],[.string n,.slice a l.length cap]]):=((OwnAt.start w).push rfl _ _).push (by simp) _ _
 have HE:Hid (entB ks ps n l=(nameB n&&(decide (0<l.length)&&allB l.length (fldRound ks ps n l)))):=rfl
 go_enter Tryz.func48,Tryz.ntmps48
 go_wp2_with fail
 refine (bj n _ (by unfold maxLen;omega)).mono ?_
 generalize nameB n=nb at *;rintro e w1 ⟨rfl,rfl⟩
 cases nb
 ·go_wp2
  go_ret
  exact ⟨aw (by rw [HE.out];rfl),HO0.out.below⟩
 by_cases hz:l.length=0
 ·have hz':(((l.length:Nat):Int)==0)=true:=by simp [hz]
  have HF:Hid (entB ks ps n l=false):=by show _=_;rw [HE.out];simp [hz]
  clear hz;go_wp2;go_ret;exact ⟨aw HF.out.symm,HO0.out.below⟩
 have hz':(((l.length:Nat):Int)==0)=false:=by rw [beq_eq_false_iff_ne];omega
 have HE2:Hid (entB ks ps n l=allB l.length (fldRound ks ps n l)):=by
  show _=_
  have:decide (0<l.length)=true:=by simp;omega
  rw [HE.out,this];rfl
 clear HE hz;go_wp2
 go_loopw [5,6] (fun i _ wr=>∃ k:Nat,k≤l.length∧i=.int .i64 k∧OwnAt w wr [[.slice ak ks.length ck,.slice ap ps.length cp],[.string n,.slice a l.length cap]]∧Hid (∀ j,j<k→fldRound ks ps n l j=true)) (fun i _ _=>l.length-(intOf i).toNat)
 case atStart=>exact ⟨0,Nat.zero_le _,rfl,HO0.out,fun j hj=>absurd hj (Nat.not_lt_zero _)⟩
 case round =>
  obtain ⟨k,hk,rfl,ho,HA⟩:=hrel;have HO1:Hid (OwnAt w wr [[.slice ak ks.length ck,.slice ap ps.length cp],[.string n,.slice a l.length cap]]):=ho;have y0:wr.cell? ⟨w.heap.size+1,0,none⟩=some (.string n):=(HO1.out.has 1 _ rfl 0 _ rfl).1;have y1:wr.cell? ⟨w.heap.size+1,1,none⟩=some (.slice a l.length cap):=(HO1.out.has 1 _ rfl 1 _ rfl).1
  by_cases hlt:k<l.length
  ·obtain ⟨b,off,rfl,hc⟩:=HC.out k _ (bE hlt)
   obtain ⟨d0,d1,d2⟩:=hc.keep ho.below aH;have hbz:b<wr.heap.size:=ar d0;have hsk:(fat l k).v.size≤1048576:=HS.out _ (List.mem_of_getElem? (bE hlt))
   have hk0:(0:Int)≤(k:Int):=by omega
   have hk1:(k:Int)<(l.length:Int):=by omega
   have BAD:Hid (fldRound ks ps n l k=false→entB ks ps n l=false):=fun h=>by rw [HE2.out,ba hlt h]
   have HB2:Hid (Below wr.heap.size wr (wr.alloc (.cells #[.int .i64 (fat l k).what,.int .i64 (fat l k).num,.string (fat l k).v] 67))):=(aO);have HO2:Hid (OwnAt w (wr.alloc (.cells #[.int .i64 (fat l k).what,.int .i64 (fat l k).num,.string (fat l k).v] 67)) [[.slice ak ks.length ck,.slice ap ps.length cp],[.string n,.slice (some ⟨b,off,none⟩) l.length cap]]):=ho.call HB2.out
   have HF2:Hid (FldAt (wr.alloc (.cells #[.int .i64 (fat l k).what,.int .i64 (fat l k).num,.string (fat l k).v] 67)) wr.heap.size 0 (fat l k)):=⟨by simp,by simp,by simp⟩
   have HFIT:Hid (∀ wx:World,Below w.heap.size w wx→Calls Tryz.prog 89 #[.agg #[.slice ak ks.length ck,.slice ap ps.length cp],.agg #[.string n,.int .i64 (fat l k).what,.int .i64 (fat l k).num,.string (fat l k).v]] wx fun e w'=>e=.returned (.bool (baseB ks ps&&fitB ks ps (chgOf n (fat l k))))∧Below wx.heap.size wx w'):=fun wx hx=>specChangeOk_any _ _ ks ps (chgOf n (fat l k)) wx (HKP.out.1.1.keep hx) (HKP.out.1.2.keep hx) HKP.out.2.1 HKP.out.2.2 hn hsk
   have MID:Hid (0<k→∃ m,k=m+1∧FldAt wr b (off+m*3) (fat l m)∧ascF l k=!decide ((fat l k).what≤(fat l m).what)):=fun hz=>by
    obtain ⟨m,rfl⟩:∃ m,k=m+1:=⟨k-1,by omega⟩
    obtain ⟨b',off',hbo,hcm'⟩:=HC.out m _ (bE (by omega))
    cases hbo
    exact ⟨m,rfl,hcm'.keep ho.below aH,by simp [ascF]⟩
   have KR:Hid (fldRound ks ps n l k=((baseB ks ps&&fitB ks ps (chgOf n (fat l k)))&&ascF l k)):=rfl;clear ho hc
   go_upto_region 7 with fail
   generalize wr.alloc (.cells #[.int .i64 (fat l k).what,.int .i64 (fat l k).num,.string (fat l k).v] 67)=w2 at *;clear y0 y1 d0 d1 d2;have e0:w2.cell? ⟨w.heap.size,0,none⟩=some (.slice ak ks.length ck):=(HO2.out.has 0 _ rfl 0 _ rfl).1;have e1:w2.cell? ⟨w.heap.size,1,none⟩=some (.slice ap ps.length cp):=(HO2.out.has 0 _ rfl 1 _ rfl).1;have e2:w2.cell? ⟨w.heap.size+1,0,none⟩=some (.string n):=(HO2.out.has 1 _ rfl 0 _ rfl).1;have e3:w2.cell? ⟨w.heap.size+1,1,none⟩=some (.slice (some ⟨b,off,none⟩) l.length cap):=(HO2.out.has 1 _ rfl 1 _ rfl).1;have ez:w.heap.size+1<w2.heap.size:=ar e2;have ey:w.heap.size<w2.heap.size:=ar e0;obtain ⟨n0,n1,n2⟩:=HF2.out
   simp only [Nat.zero_add] at n1 n2
   have nz:wr.heap.size<w2.heap.size:=ar n0;have hne:=Later.some w2
   have hbz2:b<w2.heap.size:=by have:=HB2.out.size;omega
   have GF:Hid (∀ (y:Later w2),Calls Tryz.prog 89 #[.agg #[.slice ak ks.length ck,.slice ap ps.length cp],.agg #[.string n,.int .i64 (fat l k).what,.int .i64 (fat l k).num,.string (fat l k).v]] y.val fun e w''=>e=.returned (.bool (baseB ks ps&&fitB ks ps (chgOf n (fat l k))))∧∃ z:Later w2,w''=z.val):=fun y=>Calls.later (HFIT.out y.val (aa HO2.out.below y.below));clear HFIT HF2;generalize (baseB ks ps&&fitB ks ps (chgOf n (fat l k)))=ft at *
   cases ft
   ·refine aq (by kernel_rfl) (by kernel_rfl) ?_
    repeat (go_big_quiet_step (first | (go_at_call 89;exact GF.out _)))
    refine wpQuiet_nil ?_;rintro _ ⟨x,rfl⟩;go_wp2;go_ret
    exact ⟨aw (BAD.out (by rw [KR.out];rfl)).symm,aa HO2.out.below x.below⟩
   ·by_cases hz:0<k
    ·obtain ⟨m,hkm,hf,hh⟩:=MID.out hz
     have HH:Hid (ascF l k=!decide ((fat l k).what≤(fat l m).what)):=hh;obtain ⟨g0,g1,g2⟩:=hf.keep HB2.out aH
     have hz':decide (0<k)=true:=by simp [hz]
     have hi0:(0:Int)≤(m:Int):=by omega
     have hi1:(m:Int)<(l.length:Int):=by omega
     have hi2:(0:Int)<(m:Int)+1:=by omega
     have hw1:IntKind.i64.wrap (m:Int)=(m:Int):=by rw [IntKind.wrap_i64];omega
     have hw2:IntKind.i64.wrap ((m:Int)+1-1)=(m:Int):=by rw [IntKind.wrap_i64];omega
     have HKM:Hid (k=m+1):=hkm;clear hh hf;subst hkm
     by_cases hq:(fat l (m+1)).what≤(fat l m).what
     ·have hq':decide ((fat l (m+1)).what≤(fat l m).what)=true:=by simp [hq]
      have HQ:Hid (ascF l (m+1)=false):=by show _=_;rw [HH.out,hq'];rfl
      refine aq (by kernel_rfl) (by kernel_rfl) ?_
      repeat (go_big_quiet_step (first | (go_at_call 89;exact GF.out _)))
      refine wpQuiet_nil ?_;rintro _ ⟨x,rfl⟩;go_wp2;go_ret
      exact ⟨aw (BAD.out (by rw [KR.out,HQ.out];rfl)).symm,aa HO2.out.below x.below⟩
     ·have hq':decide ((fat l (m+1)).what≤(fat l m).what)=false:=by simp;omega
      have HQ:Hid (ascF l (m+1)=true):=by show _=_;rw [HH.out,hq'];rfl
      refine aq (by kernel_rfl) (by kernel_rfl) ?_
      repeat (go_big_quiet_step (first | (go_at_call 89;exact GF.out _)))
      refine wpQuiet_nil ?_;rintro _ ⟨x,rfl⟩;go_wp2
      exact ⟨⟨m+1+1,by omega,by go_num,HO2.out.call x.below,fun j hj=>if e:j=m+1 then by rw [e,KR.out,HQ.out];rfl else HA.out j (by omega)⟩,by simp [intOf];omega⟩
    ·have hz':decide (0<k)=false:=by simp;omega
     have HQ:Hid (ascF l k=true):=by
      show ascF l k=true
      obtain rfl:k=0:=by omega
      exact ascF_zero l
     refine aq (by kernel_rfl) (by kernel_rfl) ?_
     repeat (go_big_quiet_step (first | (go_at_call 89;exact GF.out _)))
     refine wpQuiet_nil ?_;rintro _ ⟨x,rfl⟩;go_wp2
     exact ⟨⟨k+1,by omega,by go_num,HO2.out.call x.below,fun j hj=>if e:j=k then by rw [e,KR.out,HQ.out];rfl else HA.out j (by omega)⟩,by simp [intOf];omega⟩
  ·clear ho
   go_wp2;go_ret
   exact ⟨aw (by rw [HE2.out];exact (aY fun j hj=>HA.out j (by omega)).symm),HO1.out.below⟩
theorem cG (vk vp ve:Value) (ks ps:List Tri) (es:List Ent) (w:World) (hB:BookAt w vk vp ve ks ps es) (nB:BNames ks ps es) (sB:BSmall ks ps es) :
  Calls Tryz.prog 15 #[.agg #[vk,vp,ve]] w fun e w'=>e=.returned (.bool (bookB ks ps es))∧Below w.heap.size w w':=by
 have HB:Hid (BookAt w vk vp ve ks ps es):=hB;have NB:Hid (BNames ks ps es):=nB;have SB:Hid (BSmall ks ps es):=sB;obtain ⟨⟨ak,ck,rfl,-,-,-⟩,⟨ap,cp,rfl,-,-,-⟩,⟨ae,ce,rfl,hlc,hcm,hc⟩⟩:=hB;unfold maxLen at hcm;have HC:Hid (∀ i f,es[i]?=some f→∃ b off,ae=some ⟨b,off,none⟩∧EntAt w b (off+i*2) f):=hc;clear nB sB hc;have HX0:Hid (OwnAt w (w.alloc (.cells #[.slice ak ks.length ck,.slice ap ps.length cp,.slice ae es.length ce] 30)) [[.slice ak ks.length ck,.slice ap ps.length cp,.slice ae es.length ce]]):=(OwnAt.start w).push rfl _ _;have HE:Hid (bookB ks ps es=(baseB ks ps&&(decide (es.length≤12)&&allB es.length fun i=>entB ks ps (eat es i).name (eat es i).fs&&ascE es i))):=book_eq ks ps es
 go_enter Tryz.func15,Tryz.ntmps15
 go_wp2_with fail;refine (specBase_any _ _ ks ps _ (HB.out.k.keep HX0.out.below) (HB.out.p.keep HX0.out.below) NB.out.k NB.out.p).mono ?_;rintro e w1 ⟨rfl,hb1⟩;have HX1:Hid (OwnAt w w1 _):=HX0.out.call hb1;clear HX0 hb1;have y0:w1.cell? ⟨w.heap.size,0,none⟩=some (.slice ak ks.length ck):=(HX1.out.has 0 _ rfl 0 _ rfl).1;have y1:w1.cell? ⟨w.heap.size,1,none⟩=some (.slice ap ps.length cp):=(HX1.out.has 0 _ rfl 1 _ rfl).1;have y2:w1.cell? ⟨w.heap.size,2,none⟩=some (.slice ae es.length ce):=(HX1.out.has 0 _ rfl 2 _ rfl).1;have hbb:(kindsB ks&&pointsB ps)=baseB ks ps:=rfl;rw [hbb];clear hbb
 cases hb:baseB ks ps
 ·have HBF:Hid (bookB ks ps es=false):=by show _=_;rw [HE.out,hb];rfl
  clear hb;go_wp2;go_ret;exact ⟨aw HBF.out.symm,HX1.out.below⟩
 by_cases h12:(12:Int)<(es.length:Int)
 ·have HBF:Hid (bookB ks ps es=false):=by
   show _=_
   have:decide (es.length≤12)=false:=by simp;omega
   rw [HE.out,this];cases baseB ks ps <;> rfl
  clear hb;go_wp2;go_ret;exact ⟨aw HBF.out.symm,HX1.out.below⟩
 have HE2:Hid (bookB ks ps es=allB es.length fun i=>entB ks ps (eat es i).name (eat es i).fs&&ascE es i):=by
  show _=_
  have:decide (es.length≤12)=true:=by simp;omega
  rw [HE.out,this,hb];rfl
 clear HE hb;go_wp2;clear y0 y1 y2
 go_loopw [3] (fun i wr=>∃ k:Nat,k≤es.length∧i=.int .i64 k∧OwnAt w wr [[.slice ak ks.length ck,.slice ap ps.length cp,.slice ae es.length ce]]∧Hid (∀ j,j<k→(entB ks ps (eat es j).name (eat es j).fs&&ascE es j)=true)) (fun i _=>es.length-(intOf i).toNat)
 case atStart=>exact ⟨0,Nat.zero_le _,rfl,HX1.out,fun j hj=>absurd hj (Nat.not_lt_zero _)⟩
 case round =>
  obtain ⟨k,hk,rfl,ho,HA⟩:=hrel;have HO1:Hid (OwnAt w wr [[.slice ak ks.length ck,.slice ap ps.length cp,.slice ae es.length ce]]):=ho;have y0:wr.cell? ⟨w.heap.size,0,none⟩=some (.slice ak ks.length ck):=(HO1.out.has 0 _ rfl 0 _ rfl).1;have y1:wr.cell? ⟨w.heap.size,1,none⟩=some (.slice ap ps.length cp):=(HO1.out.has 0 _ rfl 1 _ rfl).1;have y2:wr.cell? ⟨w.heap.size,2,none⟩=some (.slice ae es.length ce):=(HO1.out.has 0 _ rfl 2 _ rfl).1;have yz:w.heap.size<wr.heap.size:=ar y0
  by_cases hlt:k<es.length
  ·obtain ⟨b,off,rfl,hc⟩:=HC.out k _ (bo hlt)
   obtain ⟨fv,d0,d1,hfl⟩:=hc.keep ho.below;have HFL:Hid (FldsAt wr fv (eat es k).fs):=hfl;obtain ⟨fa,fc,rfl,-,-,-⟩:=hfl;have dz:b<wr.heap.size:=ar d0;have HM:Hid (eat es k∈es):=List.mem_of_getElem? (bo hlt)
   have hk0:(0:Int)≤(k:Int):=by omega
   have hk1:(k:Int)<(es.length:Int):=by omega
   have hne:=Later.some wr
   have GE:Hid (∀ y:Later wr,Calls Tryz.prog 48 #[.agg #[.slice ak ks.length ck,.slice ap ps.length cp],.agg #[.string (eat es k).name,.slice fa (eat es k).fs.length fc]] y.val fun e w''=>e=.returned (.bool (entB ks ps (eat es k).name (eat es k).fs))∧∃ z:Later wr,w''=z.val) :=
    fun y=>Calls.later (l3EntryOk_any _ _ _ ks ps (eat es k).name (eat es k).fs y.val ((HB.out.k.keep HO1.out.below).keep y.below) ((HB.out.p.keep HO1.out.below).keep y.below) NB.out.k NB.out.p (HFL.out.keep y.below) (SB.out.n _ HM.out) (SB.out.v _ HM.out))
   have MID:Hid (0<k→∃ m,k=m+1∧EntAt wr b (off+m*2) (eat es m)∧ascE es k=!geB (eat es m).name (eat es k).name):=fun hz=>by
    obtain ⟨m,rfl⟩:∃ m,k=m+1:=⟨k-1,by omega⟩
    obtain ⟨b',off',hbo,hcm'⟩:=HC.out m _ (bo (by omega))
    cases hbo
    exact ⟨m,rfl,hcm'.keep ho.below,ascE_succ es m⟩
   have BAD:Hid ((entB ks ps (eat es k).name (eat es k).fs&&ascE es k)=false→bookB ks ps es=false):=fun h=>by rw [HE2.out,ba hlt h]
   generalize hee:entB ks ps (eat es k).name (eat es k).fs=ee at *;have HEE:Hid (entB ks ps (eat es k).name (eat es k).fs=ee):=hee;clear hee ho hc
   cases ee
   ·go_wp2
    refine aq (by kernel_rfl) (by kernel_rfl) ?_
    repeat (go_big_quiet_step (first | (go_at_call 48;exact GE.out _)))
    refine wpQuiet_nil ?_;rintro _ ⟨x,rfl⟩;go_wp2;go_ret;exact ⟨aw (BAD.out rfl).symm,aa HO1.out.below x.below⟩
   ·by_cases hz:0<k
    ·obtain ⟨m,hkm,⟨fv',g0,g1,hfl'⟩,hh⟩:=MID.out hz
     obtain ⟨fa',fc',rfl,-,-,-⟩:=hfl';have HH:Hid (ascE es k=!geB (eat es m).name (eat es k).name):=hh
     have hz':decide (0<k)=true:=by simp [hz]
     have hi0:(0:Int)≤(m:Int):=by omega
     have hi1:(m:Int)<(es.length:Int):=by omega
     have hi2:(0:Int)<(m:Int)+1:=by omega
     have hw1:IntKind.i64.wrap (m:Int)=(m:Int):=by rw [IntKind.wrap_i64];omega
     have hw2:IntKind.i64.wrap ((m:Int)+1-1)=(m:Int):=by rw [IntKind.wrap_i64];omega
     clear hh;subst hkm;go_wp2
     refine aq (by kernel_rfl) (by kernel_rfl) ?_
     repeat (go_big_quiet_step (first | (go_at_call 48;exact GE.out _)))
     refine wpQuiet_nil ?_;rintro _ ⟨x,rfl⟩;go_wp2
     ·rename_i h
      go_ret
      exact ⟨aw (BAD.out (by rw [HH.out];unfold geB;rw [h];rfl)).symm,aa HO1.out.below x.below⟩
     ·rename_i h
      exact ⟨⟨m+1+1,by omega,by go_num,HO1.out.call x.below,fun j hj=>if e:j=m+1 then by rw [e,HEE.out,HH.out];unfold geB;rw [h];rfl else HA.out j (by omega)⟩,by simp [intOf];omega⟩
    ·have hz':decide (0<k)=false:=by simp;omega
     have HQ:Hid (ascE es k=true):=by
      show ascE es k=true
      obtain rfl:k=0:=by omega
      exact ascE_zero es
     go_wp2
     refine aq (by kernel_rfl) (by kernel_rfl) ?_
     repeat (go_big_quiet_step (first | (go_at_call 48;exact GE.out _)))
     refine wpQuiet_nil ?_;rintro _ ⟨x,rfl⟩;go_wp2
     exact ⟨⟨k+1,by omega,by go_num,HO1.out.call x.below,fun j hj=>if e:j=k then by rw [e,HEE.out,HQ.out];rfl else HA.out j (by omega)⟩,by simp [intOf];omega⟩
  ·clear ho
   go_wp2;go_ret
   exact ⟨aw (by rw [HE2.out];exact (aY fun j hj=>HA.out j (by omega)).symm),HO1.out.below⟩
end Go.Proofs.YtcmgddnckohdaaaGreatDoor
namespace Go.Proofs.YtcmgddnckohdaaaGreatDoor
open Go.RowKit
attribute [local go_sem] Later.cell Later.frozen
theorem am {P:Prop} (h:P):Hid P:=h
def mkV (c:Nat) (pat:Nat→Bool) (k p:Nat):Value:=if pat (p % c) then .string (mkT (k+p)) else .int .i64 ((k+p:Nat):Int)
structure MarkAt (w wr:World) (b N:Nat) (f:Nat→Value) (p:Nat):Prop where
 grown:w.grownBy wr (some b)
 big:b<w.heap.size
 room:wr.there b 0 N
 has:∀ q,q<p→wr.cell? ⟨b,q,none⟩=some (f q)
 stays:∀ o n,w.there b o n→wr.there b o n
theorem bX {w w':World} (h:Below w.heap.size w w') (r:Option Nat):w.grownBy w' r:=⟨h.1,h.2,h.3,h.4,fun k hk _=>h.5 k hk⟩
theorem grown_trans {w w1 w2:World} {r:Option Nat} (h:w.grownBy w1 r) (k:w1.grownBy w2 r):w.grownBy w2 r :=
 ⟨k.1.trans h.1,k.2.trans h.2,k.3.trans h.3,Nat.le_trans h.4 k.4,fun j hj hr=>(k.5 j (Nat.lt_of_lt_of_le hj h.4) hr).trans (h.5 j hj hr)⟩
theorem grown_set (w:World) (b o:Nat) (v:Value):w.grownBy (w.setCell ⟨b,o,none⟩ v) (some b) :=
 ⟨rfl,rfl,rfl,by simp,fun j _ hr=>Below.heap_setCell w ⟨b,o,none⟩ v j (fun e=>hr (by rw [e]))⟩
theorem MarkAt.start {w:World} {b N:Nat} (f:Nat→Value) (h:w.there b 0 N) (hb:b<w.heap.size):MarkAt w w b N f 0 :=
 ⟨bX (Below.refl _ _) _,hb,h,fun _ hq=>absurd hq (Nat.not_lt_zero _),fun _ _ h=>h⟩
theorem MarkAt.call {w wr w1:World} {b N:Nat} {f:Nat→Value} {p:Nat} (h:MarkAt w wr b N f p) (hb:Below wr.heap.size wr w1):MarkAt w w1 b N f p:=by
 have hbig:b<wr.heap.size:=Nat.lt_of_lt_of_le h.big h.grown.4
 exact ⟨grown_trans h.grown (bX hb _),h.big,bZ h.room hb hbig,fun q hq=>by
  rw [hb.cell (p:=⟨b,q,none⟩) hbig];exact h.has q hq,fun o n ho=>bZ (h.stays o n ho) hb hbig⟩
theorem MarkAt.free {w wr:World} {b N:Nat} {f:Nat→Value} {p:Nat} (h:MarkAt w wr b N f p) (q:Nat) (hq:q<N):(∃ v,wr.cell? ⟨b,q,none⟩=some v)∧wr.frozen? ⟨b,q,none⟩=false:=by
 have:=h.room q hq
 simpa [Option.isSome_iff_exists] using this
theorem MarkAt.set {w wr:World} {b N:Nat} {f:Nat→Value} {p:Nat} (h:MarkAt w wr b N f p) (hp:p<N) {v:Value} (hv:f p=v):MarkAt w (wr.setCell ⟨b,p,none⟩ v) b N f (p+1):=by
 refine ⟨grown_trans h.grown (grown_set wr b p v),h.big,World.there_setCells h.room b p [v],fun q hq=>?_,fun o n ho=>World.there_setCells (h.stays o n ho) b p [v]⟩
 by_cases e:q=p
 ·subst e
  obtain ⟨⟨u,hu⟩,_⟩:=h.free q hp;rw [World.cell?_setCell_same wr ⟨b,q,none⟩ v hu,hv]
 ·rw [World.cell?_setCell_other wr ⟨b,p,none⟩ ⟨b,q,none⟩ v (by simp <;> omega)]
  exact h.has q (by omega)
def patKind (j:Nat):Bool:=decide (j=0)
def patPoint (j:Nat):Bool:=decide (j=0)
def patField (j:Nat):Bool:=decide (j=2)
end Go.Proofs.YtcmgddnckohdaaaGreatDoor
namespace Go.Proofs.YtcmgddnckohdaaaGreatDoor
open Go.RowKit
structure Only (lo hi:Nat) (w w':World):Prop where
  below:Below lo w w'
  up:∀ k,hi≤k→k<w.heap.size→w'.heap[k]?=w.heap[k]?
  stays:∀ B o n,B<w.heap.size→w.there B o n→w'.there B o n
theorem Only.refl (lo hi:Nat) (w:World):Only lo hi w w:=⟨Below.refl _ _,fun _ _ _=>rfl,fun _ _ _ _ h=>h⟩
theorem Only.trans {lo hi:Nat} {w w1 w2:World} (h:Only lo hi w w1) (k:Only lo hi w1 w2):Only lo hi w w2 :=
  ⟨h.below.trans k.below,fun j hj hl=>(k.up j hj (Nat.lt_of_lt_of_le hl h.below.size)).trans (h.up j hj hl),fun B o n hB ht=>k.stays B o n (Nat.lt_of_lt_of_le hB h.below.size) (h.stays B o n hB ht)⟩
theorem Only.call {lo hi:Nat} {w w1:World} (hb:Below w.heap.size w w1) (hl:lo≤w.heap.size):Only lo hi w w1 :=
  ⟨hb.mono hl,fun j _ hj=>hb.block j hj,fun _ _ _ hB ht=>bZ ht hb hB⟩
theorem Only.mark {lo hi:Nat} {w w1:World} {b N p:Nat} {f:Nat→Value} (h:MarkAt w w1 b N f p) (hl:lo≤b) (hh:b<hi):Only lo hi w w1 :=
  ⟨⟨h.grown.os,h.grown.tape,h.grown.output,h.grown.size,fun j hj=>h.grown.block j (by have:=h.big;omega) (by simp;omega)⟩,
   fun j hj hl'=>h.grown.block j hl' (by simp;omega),
   fun B o n hB ht=>by
     by_cases e:B=b
     · subst e;exact h.stays o n ht
     · intro q hq
       have hblk:=h.grown.block B hB (by simp;exact e)
       have:=ht q hq;rw [World.cell?_of_block (w:=w) hblk,World.frozen?_of_block (w:=w) hblk]
       exact this⟩
theorem Only.set {lo hi:Nat} (w:World) {b o:Nat} (v:Value) (hl:lo≤b) (hh:b<hi):Only lo hi w (w.setCell ⟨b,o,none⟩ v) :=
  ⟨(Below.refl _ _).setCell (p:=⟨b,o,none⟩) hl v,fun j hj _=>Below.heap_setCell w ⟨b,o,none⟩ v j (by show j≠b;omega),fun _ _ _ _ ht=>World.there_setCells ht b o [v]⟩
structure EntsMk (lo hi:Nat) (w:World) (b:Nat) (es:List Ent):Prop where
  l:lo≤b
  h:b<hi
  z:b<w.heap.size
  t:w.there b 0 (es.length*2)
  f:∀ (i:Nat) (e:Ent),es[i]?=some e→∃ fb:Nat,fb≠b∧lo≤fb∧fb<hi∧fb<w.heap.size∧w.cell? ⟨b,i*2+1,none⟩=some (.slice (some ⟨fb,0,none⟩) e.fs.length e.fs.length)∧w.there fb 0 (e.fs.length*3)
theorem EntsMk.call {lo hi:Nat} {w w1:World} {b:Nat} {es:List Ent} (h:EntsMk lo hi w b es) (hb:Below w.heap.size w w1):EntsMk lo hi w1 b es :=
  ⟨h.l,h.h,Nat.lt_of_lt_of_le h.z hb.size,bZ h.t hb h.z,fun i e he=>by
    obtain ⟨fb,f0,f1,f2,f3,f4,f5⟩:=h.f i e he
    exact ⟨fb,f0,f1,f2,Nat.lt_of_lt_of_le f3 hb.size,ag hb aH f4,bZ f5 hb f3⟩⟩
theorem EntsMk.set {lo hi:Nat} {w:World} {b:Nat} {es:List Ent} (h:EntsMk lo hi w b es) (m:Nat) (v:Value):EntsMk lo hi (w.setCell ⟨b,m*2,none⟩ v) b es :=
  ⟨h.l,h.h,by simpa using h.z,World.there_setCells h.t b (m*2) [v],fun i e he=>by
    obtain ⟨fb,f0,f1,f2,f3,f4,f5⟩:=h.f i e he
    exact ⟨fb,f0,f1,f2,by simpa using f3,(World.cell?_setCell_other w ⟨b,m*2,none⟩ ⟨b,i*2+1,none⟩ v (by simp <;> omega)).trans f4,World.there_setCells f5 b (m*2) [v]⟩⟩
theorem EntsMk.mark {lo hi:Nat} {w w1:World} {b fb N p:Nat} {g:Nat→Value} {es:List Ent} (h:EntsMk lo hi w b es) (hM:MarkAt w w1 fb N g p) (hne:fb≠b) (hl:lo≤fb) (hh:fb<hi):EntsMk lo hi w1 b es:=by
  have ho:Only lo hi w w1:=Only.mark hM hl hh;refine ⟨h.l,h.h,Nat.lt_of_lt_of_le h.z hM.grown.size,ho.stays _ _ _ h.z h.t,fun i e he=>?_⟩;obtain ⟨fb',f0,f1,f2,f3,f4,f5⟩:=h.f i e he
  exact ⟨fb',f0,f1,f2,Nat.lt_of_lt_of_le f3 hM.grown.size,(World.cell?_of_block (w:=w) (hM.grown.block b h.z (by simp;omega))).trans f4,ho.stays _ _ _ f3 f5⟩
theorem there_same {w0 w:World} {B o n:Nat} (h:w0.there B o n) (he:w.heap[B]?=w0.heap[B]?):w.there B o n:=by
  intro q hq;have:=h q hq;rw [World.cell?_of_block (w:=w0) he,World.frozen?_of_block (w:=w0) he];exact this
theorem EntsMk.of {lo:Nat} {w0 w:World} {ve:Value} {es:List Ent} (h:EntsOwn lo w0 ve es) (hb:∀ k,lo≤k→k<w0.heap.size→w.heap[k]?=w0.heap[k]?) (hs:w0.heap.size≤w.heap.size):∃ b:Nat,ve=.slice (some ⟨b,0,none⟩) es.length es.length∧EntsMk lo w0.heap.size w b es:=by
  obtain ⟨b,rows,hl,hv,hh,_,hr⟩:=h;refine ⟨b,hv,hl,hh.big,Nat.lt_of_lt_of_le hh.big hs,there_same hh.room (hb b hl hh.big),fun i e he=>?_⟩;obtain ⟨fb,h0,h1,h2,h3⟩:=hr i e he;exact ⟨fb,h0,h1,h3.big,Nat.lt_of_lt_of_le h3.big hs,(World.cell?_of_block (w:=w0) (hb b hl hh.big)).trans (hh.cell h2 (j:=1) rfl),there_same h3.room (hb fb h1 h3.big)⟩
theorem EntsMk.only {lo hi:Nat} {w w1:World} {b:Nat} {es:List Ent} (h:EntsMk lo hi w b es) (ho:Only lo hi w w1) (hs:w1.heap[b]?=w.heap[b]?):EntsMk lo hi w1 b es :=
  ⟨h.l,h.h,Nat.lt_of_lt_of_le h.z ho.below.size,ho.stays _ _ _ h.z h.t,fun i e he=>by
    obtain ⟨fb,f0,f1,f2,f3,f4,f5⟩:=h.f i e he
    exact ⟨fb,f0,f1,f2,Nat.lt_of_lt_of_le f3 ho.below.size,(World.cell?_of_block (w:=w) hs).trans f4,ho.stays _ _ _ f3 f5⟩⟩
end Go.Proofs.YtcmgddnckohdaaaGreatDoor
