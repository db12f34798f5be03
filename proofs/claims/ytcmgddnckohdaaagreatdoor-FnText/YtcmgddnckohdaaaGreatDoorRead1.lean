import Derived.Test.YtcmgddnckohdaaaGreatDoorForm1
import Derived.Deep.RegionHeld3
import Derived.Test.YtcmgddnckohdaaaGreatDoorTkH
set_option maxRecDepth 100000
set_option maxHeartbeats 1600000
set_option linter.unusedSimpArgs false
namespace Go.Proofs.YtcmgddnckohdaaaGreatDoor
open Go.RowKit
theorem rP {a b:ByteArray} (h:a=b):Ending.returned (.string a)=.returned (.string b):=by rw [h]
def dW (n:Nat):ByteArray:=⟨(Lib.decDigits n).toArray⟩
def oz (n:Int):ByteArray:=⟨#[UInt8.ofNat n.toNat]⟩
theorem uw (n:Int):(oz n).size=1:=rfl
theorem uO {n:Nat} (h:n<10):dW n=oz (48+(n:Int)):=by
 unfold dW oz
 rw [Lib.decDigits_one h,show ((48:Int)+n).toNat=48+n by omega]
theorem Ct {n:Nat} (h:¬ n<10):dW n=dW (n / 10)++oz (48+(n:Int) % 10):=by
 unfold dW oz
 rw [Lib.decDigits,dif_neg h,show ((48:Int)+(n:Int) % 10).toNat=48+n % 10 by omega]
 apply ByteArray.ext
 simp [ByteArray.data_append]
theorem lh:∀ (k n:Nat),n<10 ^ (k+1)→Lib.nDigits n≤k+1
 | 0,n,h=>by rw [Lib.nDigits_small (by simpa using h)];omega
 | k+1,n,h=>by
  by_cases hs:n<10
  ·rw [Lib.nDigits_small hs];omega
  ·rw [Lib.nDigits_big hs]
   have:=lh k (n / 10) (by rw [Nat.pow_succ] at h;omega)
   omega
theorem aR (n:Nat) (h:n<10000000):(dW n).size≤7:=by
 have h1:=lh 6 n (by omega)
 show (Lib.decDigits n).toArray.size≤7
 rw [List.size_toArray,Lib.decDigits_length];exact h1
theorem Fe (w:World) (b:Nat) (n:Int) (h:w.cell? ⟨b,0,none⟩=some (.int .u8 n)) :
  (convert 22 9 (.slice (some ⟨b,0,none⟩) 1 1)).run Tryz.prog w=.ok (.string (oz n)) w:=by
 have:=run_convert_bytes_arg (P:=Tryz.prog) w 22 5 Tryz.underlying22 Tryz.underlying5 b 0 1 1 [n] rfl (fun i hi=>by
  obtain rfl:i=0:=by omega
  simpa using h) 9 Tryz.underlying9
 simpa [strOfNums,oz] using this
theorem oF (n:Nat) (h:n<10) (w:World) :
  Calls Tryz.prog 45 #[.int .i64 n] w fun e w'=>e=.returned (.string (dW n))∧Below w.heap.size w w':=by
 rw [uO h]
 have h1:(n:Int)<10:=by omega
 have kc:=Fe
 go_enter Tryz.func45,Tryz.ntmps45
 go_wp2;go_ret;exact ⟨rfl,(aM)⟩
theorem qW (n:Nat) (h:¬ n<10) (hn:n≤9999999) (ih:∀ w,Calls Tryz.prog 45 #[.int .i64 ((n:Int) / 10)] w fun e w'=>e=.returned (.string (dW (n / 10)))∧Below w.heap.size w w') (w:World) :
  Calls Tryz.prog 45 #[.int .i64 n] w fun e w'=>e=.returned (.string (dW n))∧Below w.heap.size w w':=by
 rw [Ct h]
 have h1:¬ (n:Int)<10:=by omega
 have kc:=Fe;have IH:Hid (∀ w,Calls Tryz.prog 45 #[.int .i64 ((n:Int) / 10)] w fun e w'=>e=.returned (.string (dW (n / 10)))∧Below w.heap.size w w'):=ih;clear ih
 have hsz:¬ 9223372036854775807<(dW (n / 10)).size+(oz (48+(n:Int) % 10)).size:=by
  have:=aR (n / 10) (by omega)
  rw [uw];omega
 generalize dW (n / 10)=ds at IH hsz
 have hw1:IntKind.i64.wrap ((n:Int) / 10)=(n:Int) / 10:=by rw [IntKind.wrap_i64];omega
 have hw3:IntKind.i64.wrap (48+(n:Int).tmod 10)=48+(n:Int) % 10:=by rw [Int.tmod_eq_emod_of_nonneg (by omega),IntKind.wrap_i64];omega
 have hw4:IntKind.u8.wrap (48+(n:Int) % 10)=48+(n:Int) % 10:=by rw [IntKind.wrap_u8];omega
 go_enter Tryz.func45,Tryz.ntmps45
 go_wp2
 go_region_with (go_at_call 45;refine (IH.out _).mono ?_;rintro e w1 ⟨rfl,hb1⟩;have hc1:=fun b o h=>hb1.cell (p:=⟨b,o,none⟩) h)
 all_goals go_wp2
 all_goals go_ret
 all_goals first | exact ⟨rfl,(aa (Below.refl _ _).drew hb1).alloc (aa (Below.refl w.heap.size w).drew hb1).size _⟩ | exact ⟨rfl,aa (aM).drew hb1⟩
theorem bv:∀ (n:Nat),n≤9999999→∀ w,Calls Tryz.prog 45 #[.int .i64 n] w fun e w'=>e=.returned (.string (dW n))∧Below w.heap.size w w':=by
 intro n
 induction n using Nat.strongRecOn with
 | ind n ih =>
  intro hn w
  by_cases h:n<10
  ·exact oF n h w
  ·refine qW n h hn (fun w=>?_) w
   have:=ih (n / 10) (by omega) (by omega) w
   simpa using this
open Go.RowKit
def dY:ByteArray:=⟨#[107,105,110,100]⟩
def ma:ByteArray:=⟨#[116,105,109,101]⟩
def jK:ByteArray:=⟨#[108,101,118,101,108]⟩
def jJ:ByteArray:=⟨#[114,111,117,116,101]⟩
def jI:ByteArray:=⟨#[115,116,97,116,101]⟩
def gG:Nat→ByteArray
 | 0=>dY
 | 1=>ma
 | 2=>jK
 | 3=>jJ
 | 4=>jI
 | _=>⟨#[]⟩
def iQ (what:Int):ByteArray:=if 1≤what then gG (what-1).toNat else ⟨#[]⟩
theorem wJ (k:Nat):iQ ((k:Int)+1)=gG k:=by
 unfold iQ
 rw [if_pos (by omega),show ((k:Int)+1-1).toNat=k by omega]
theorem FQ {what:Int} (h:eB what 1 5=false):iQ what=⟨#[]⟩:=by
 unfold iQ
 split
 ·have:¬ what≤5:=by simp [eB] at h;omega
  obtain ⟨k,hk⟩:∃ k,(what-1).toNat=k+5:=⟨(what-1).toNat-5,by omega⟩
  rw [hk];rfl
 ·rfl
def oh:Array Value:=#[.int .i64 1,.string dY,.int .i64 2,.string ma,.int .i64 3,.string jK,.int .i64 4,.string jJ,.int .i64 5,.string jI]
def ib (w:World):Prop:=∃ t fr,w.heap[2]?=some (.cells oh t fr)
theorem ib.lt {w:World} (h:ib w):2<w.heap.size:=by
 obtain ⟨t,fr,h⟩:=h;exact (Array.getElem?_eq_some_iff.1 h).1
theorem ib.keep {w w':World} (h:ib w) (hb:Below w.heap.size w w'):ib w':=by
 have hl:=h.lt;obtain ⟨t,fr,h⟩:=h
 exact ⟨t,fr,by rw [hb.block _ hl];exact h⟩
theorem idx0 (w:World):(Instr.index 182 (.agg oh) (.int .i64 0)).run Tryz.prog w=.ok (.agg #[.int .i64 1,.string dY]) w:=by kernel_rfl
theorem idx1 (w:World):(Instr.index 182 (.agg oh) (.int .i64 1)).run Tryz.prog w=.ok (.agg #[.int .i64 2,.string ma]) w:=by kernel_rfl
theorem idx2 (w:World):(Instr.index 182 (.agg oh) (.int .i64 2)).run Tryz.prog w=.ok (.agg #[.int .i64 3,.string jK]) w:=by kernel_rfl
theorem idx3 (w:World):(Instr.index 182 (.agg oh) (.int .i64 3)).run Tryz.prog w=.ok (.agg #[.int .i64 4,.string jJ]) w:=by kernel_rfl
theorem idx4 (w:World):(Instr.index 182 (.agg oh) (.int .i64 4)).run Tryz.prog w=.ok (.agg #[.int .i64 5,.string jI]) w:=by kernel_rfl
theorem idx (k:Nat) (hk:k<5) (w:World):(Instr.index 182 (.agg oh) (.int .i64 (k:Int))).run Tryz.prog w=.ok (.agg #[.int .i64 ((k:Int)+1),.string (gG k)]) w:=by
 have:k=0∨k=1∨k=2∨k=3∨k=4:=by omega
 rcases this with rfl | rfl | rfl | rfl | rfl
 ·exact idx0 w
 ·exact idx1 w
 ·exact idx2 w
 ·exact idx3 w
 ·exact idx4 w
theorem kX (what:Int) (w:World) (hs:ib w) :
  Calls Tryz.prog 73 #[.int .i64 what] w fun e w'=>e=.returned (.tuple #[.string (iQ what),.bool (eB what 1 5)])∧Below w.heap.size w w':=by
 obtain ⟨tt,fr,hg⟩:=hs
 go_enter Tryz.func73,Tryz.ntmps73
 go_wp2_with (refine wpList_load_row rfl 182 _ rfl 2 rfl tt oh fr _ hg Tryz.underlying182 rfl (by kernel_rfl) ?_)
 go_loopw [5,7] (fun _ i wr=>∃ k:Nat,k≤5∧i=.int .i64 k∧Below w.heap.size w wr∧Hid (∀ j:Nat,j<k→¬ what=(j:Int)+1)) (fun _ i _=>5-(intOf i).toNat)
 case atStart=>exact ⟨0,Nat.zero_le _,rfl,Below.refl _ _,fun j hj=>absurd hj (Nat.not_lt_zero _)⟩
 case round =>
  obtain ⟨k,hk,rfl,hb,HA⟩:=hrel
  by_cases hlt:k<5
  ·have hi:=idx k hlt
   have hk5:(k:Int)<5:=by omega
   by_cases hw:what=(k:Int)+1
   ·have h1:((k:Int)+1==what)=true:=by simp [hw]
    have HW:Hid (what=(k:Int)+1):=hw;clear hw;go_wp2
    go_ret2
    have e1:eB what 1 5=true:=by have:=HW.out;simp [eB];omega
    have e2:iQ what=gG k:=by rw [HW.out];exact wJ k
    rw [e1,e2];exact ⟨rfl,hb.alloc hb.size _⟩
   ·have h1:((k:Int)+1==what)=false:=by simp;omega
    have HW:Hid (¬ what=(k:Int)+1):=hw;clear hw;go_wp2
    exact ⟨⟨k+1,by omega,by go_num,hb.alloc hb.size _,fun j hj=>if e:j=k then by rw [e];exact HW.out else HA.out j (by omega)⟩,by simp [intOf];omega⟩
  ·have hk5:¬ (k:Int)<5:=by omega
   have e1:eB what 1 5=false:=by
    have h0:=HA.out 0 (by omega);have h1:=HA.out 1 (by omega);have h2:=HA.out 2 (by omega);have h3:=HA.out 3 (by omega);have h4:=HA.out 4 (by omega)
    simp [eB];omega
   have H1:Hid (eB what 1 5=false):=e1;have H2:Hid (iQ what=⟨#[]⟩):=FQ e1;clear e1;go_wp2
   go_ret2
   rw [H1.out,H2.out];exact ⟨rfl,hb⟩
theorem lN (w:World) :
  Calls Tryz.prog 86 #[] w fun e w'=>e=.returned (.slice (some ⟨w.heap.size,0,none⟩) 5 5)∧w'=w.alloc (.cells #[.string dY,.string ma,.string jK,.string jJ,.string jI] 9):=by
 go_enter Tryz.func86,Tryz.ntmps86
 go_wp2;go_ret;exact ⟨rfl,rfl⟩
open Go.RowKit
attribute [local go_sem] Later.cell Later.frozen
def cat (a b:ByteArray):ByteArray:=a++b
theorem mP (a b:ByteArray):(cat a b).size=a.size+b.size:=by unfold cat;exact ByteArray.size_append
def Small (s:ByteArray):Prop:=s.size≤4611686018427387903
theorem pV (P:Program) (a b:ByteArray) (w:World) (ha:Small a) (hb:Small b):(Op.stringOp .add a b).run P w=.ok (.string (cat a b)) w:=by
 unfold Small at ha hb
 exact run_string_add_sum w a b (by omega)
theorem GV (w:World) (k:Nat) (os:Array Obj):Below w.heap.size w (Sort.grow (w.drewN k) os) :=
 ⟨rfl,rfl,rfl,by simp [Sort.grow],fun i hi=>by simp [Sort.grow,Array.getElem?_append_left hi]⟩
theorem yw (n:Int) (h0:0≤n) (h1:n≤9223372036854775807) (w:World) (ht:Lib.TabIs Tryz.prog w "internal/strconv.uint64pow10" .u64 Lib.pow10Tab) :
  Calls Tryz.prog 71 #[.int .i64 n] w fun e w'=>e=.returned (.string (dW n.toNat))∧Below w.heap.size w w':=by
 refine (Tryz.strconv_Itoa n (by omega) h1 w ht).mono ?_
 rintro e w' ⟨rfl,k,os,rfl⟩;refine ⟨rP ?_,GV w k os⟩;obtain ⟨m,rfl⟩:=Int.eq_ofNat_of_zero_le h0;rw [Lib.itoa_nonneg,Int.toNat_natCast];rfl
theorem gPow:Tryz.prog.globalNamed "internal/strconv.uint64pow10"=some 4:=by kernel_rfl
theorem mi {w w':World} (h:Lib.TabIs Tryz.prog w "internal/strconv.uint64pow10" .u64 Lib.pow10Tab) (hb:Below w.heap.size w w'):Lib.TabIs Tryz.prog w' "internal/strconv.uint64pow10" .u64 Lib.pow10Tab:=by
 have hc:=h.cell gPow 0 (by decide)
 exact var?_below hb gPow (av hc) h
def qL:ByteArray:=⟨#[115,101,116,32]⟩
def jD:ByteArray:=⟨#[32]⟩
def gm (c:dP):Bool:=eB c.what 1 5&&(dD c.f&&(eB c.num 1 1000000&&lY c.v))
def gB (c:dP):ByteArray:=cat (cat (cat (cat (cat (cat (cat qL c.f) jD) (iQ c.what)) jD) (dW c.num.toNat)) jD) c.v
structure y5 (c:dP):Prop where
 s0:Small qL
 s1:Small c.f
 s2:Small (cat qL c.f)
 s3:Small jD
 s4:Small (cat (cat qL c.f) jD)
 s5:Small (iQ c.what)
 s6:Small (cat (cat (cat qL c.f) jD) (iQ c.what))
 s7:Small (cat (cat (cat (cat qL c.f) jD) (iQ c.what)) jD)
 s8:Small (dW c.num.toNat)
 s9:Small (cat (cat (cat (cat (cat qL c.f) jD) (iQ c.what)) jD) (dW c.num.toNat))
 sA:Small (cat (cat (cat (cat (cat (cat qL c.f) jD) (iQ c.what)) jD) (dW c.num.toNat)) jD)
 sB:Small c.v
theorem word_le (k:Nat):(gG k).size≤5:=by
 match k with
 | 0 | 1 | 2 | 3 | 4=>decide
 | k+5=>exact Nat.zero_le _
theorem CZ (what:Int):(iQ what).size≤5:=by
 unfold iQ;split
 ·exact word_le _
 ·exact Nat.zero_le _
theorem y5.of (c:dP) (hf:c.f.size≤1048576) (hv:c.v.size≤1048576) (hn:eB c.num 1 1000000=true):y5 c:=by
 have h1:qL.size=4:=rfl;have h2:jD.size=1:=rfl;have h3:=CZ c.what
 have h4:=aR c.num.toNat (by simp [eB] at hn;omega)
 constructor <;> unfold Small <;> (try simp only [mP]) <;> omega
theorem BJ (c:dP) (w:World) (hs:ib w) (ht:Lib.TabIs Tryz.prog w "internal/strconv.uint64pow10" .u64 Lib.pow10Tab) (hf:c.f.size≤1048576) (hv:c.v.size≤1048576) :
  Calls Tryz.prog 38 #[.agg #[.string c.f,.int .i64 c.what,.int .i64 c.num,.string c.v]] w fun e w'=>e=.returned (.string (bif gm c then gB c else ⟨#[]⟩))∧Below w.heap.size w w':=by
 have hfm:c.f.size≤maxLen:=by unfold maxLen;omega
 have HS:Hid (ib w):=hs;have HT:Hid (Lib.TabIs Tryz.prog w "internal/strconv.uint64pow10" .u64 Lib.pow10Tab):=ht;have MN:Hid (eB c.num 1 1000000=true→y5 c):=y5.of c hf hv;clear hs ht hf hv;obtain ⟨f,what,num,v⟩:=c;dsimp only at hfm ⊢
 cases hk:eB what 1 5
 ·have e:(bif gm ⟨f,what,num,v⟩ then gB ⟨f,what,num,v⟩ else ⟨#[]⟩)=⟨#[]⟩:=by simp [gm,hk]
  have HK:Hid (eB what 1 5=false):=hk;rw [e];clear e hk
  go_enter Tryz.func38,Tryz.ntmps38
  go_wp2_with fail;refine (kX _ _ (HS.out.keep (aM))).mono ?_;rw [HK.out];rintro e w1 ⟨rfl,hb1⟩;go_wp2;go_ret;exact ⟨rfl,aa (aM) hb1⟩
 have HK:Hid (eB what 1 5=true):=hk;clear hk
 cases hn:dD f
 ·have e:(bif gm ⟨f,what,num,v⟩ then gB ⟨f,what,num,v⟩ else ⟨#[]⟩)=⟨#[]⟩:=by simp [gm,hn]
  have HN:Hid (dD f=false):=hn;rw [e];clear e hn
  go_enter Tryz.func38,Tryz.ntmps38
  go_wp2_with fail;refine (kX _ _ (HS.out.keep (aM))).mono ?_;rw [HK.out];rintro e w1 ⟨rfl,hb1⟩
  have c0:w1.cell? ⟨w.heap.size,0,none⟩=some (.string f):=ag hb1 aG (by simp [go_sem])
  have hbw:=aa (aM) hb1;go_wp2_with fail;refine (cf f _ hfm).mono ?_;rw [HN.out];rintro e w2 ⟨rfl,hb2⟩;go_wp2;go_ret;exact ⟨rfl,aa hbw hb2⟩
 have HN:Hid (dD f=true):=hn;clear hn
 cases hu:eB num 1 1000000
 ·have e:(bif gm ⟨f,what,num,v⟩ then gB ⟨f,what,num,v⟩ else ⟨#[]⟩)=⟨#[]⟩:=by simp [gm,hu]
  have HU:Hid (eB num 1 1000000=false):=hu;rw [e];clear e hu
  go_enter Tryz.func38,Tryz.ntmps38
  go_wp2_with fail;refine (kX _ _ (HS.out.keep (aM))).mono ?_;rw [HK.out];rintro e w1 ⟨rfl,hb1⟩
  have c0:w1.cell? ⟨w.heap.size,0,none⟩=some (.string f):=ag hb1 aG (by simp [go_sem])
  have c2:w1.cell? ⟨w.heap.size,2,none⟩=some (.int .i64 num):=ag hb1 aG (by simp [go_sem])
  have hbw:=aa (aM) hb1;go_wp2_with fail;refine (cf f _ hfm).mono ?_;rw [HN.out];rintro e w2 ⟨rfl,hb2⟩;have d0:=ag hb2 aG c0;have d2:=ag hb2 aG c2;go_wp2_with fail;refine (cQ _ _).mono ?_;rw [HU.out];rintro e w3 ⟨rfl,rfl⟩;go_wp2;go_ret;exact ⟨rfl,aa hbw hb2⟩
 have SM:=MN.out hu;have HU:Hid (eB num 1 1000000=true):=hu
 have hn0:0≤num:=by simp [eB] at hu;omega
 have hn1:num≤9223372036854775807:=by simp [eB] at hu;omega
 clear hu
 cases hval:lY v
 ·have e:(bif gm ⟨f,what,num,v⟩ then gB ⟨f,what,num,v⟩ else ⟨#[]⟩)=⟨#[]⟩:=by simp [gm,hval]
  have HV:Hid (lY v=false):=hval;rw [e];clear e hval
  go_enter Tryz.func38,Tryz.ntmps38
  go_wp2_with fail;refine (kX _ _ (HS.out.keep (aM))).mono ?_;rw [HK.out];rintro e w1 ⟨rfl,hb1⟩
  have c0:w1.cell? ⟨w.heap.size,0,none⟩=some (.string f):=ag hb1 aG (by simp [go_sem])
  have c2:w1.cell? ⟨w.heap.size,2,none⟩=some (.int .i64 num):=ag hb1 aG (by simp [go_sem])
  have c3:w1.cell? ⟨w.heap.size,3,none⟩=some (.string v):=ag hb1 aG (by simp [go_sem])
  have hbw:=aa (aM) hb1;go_wp2_with fail;refine (cf f _ hfm).mono ?_;rw [HN.out];rintro e w2 ⟨rfl,hb2⟩;have d0:=ag hb2 aG c0;have d2:=ag hb2 aG c2;have d3:=ag hb2 aG c3;go_wp2_with fail;refine (cQ _ _).mono ?_;rw [HU.out];rintro e w3 ⟨rfl,rfl⟩;go_wp2_with fail;refine (jL _ _).mono ?_;rw [HV.out];rintro e w3 ⟨rfl,rfl⟩;go_wp2;go_ret;exact ⟨rfl,aa hbw hb2⟩
 ·have e:(bif gm ⟨f,what,num,v⟩ then gB ⟨f,what,num,v⟩ else ⟨#[]⟩)=gB ⟨f,what,num,v⟩:=by simp [gm,hval,HK.out,HN.out,HU.out]
  have HV:Hid (lY v=true):=hval;rw [e];clear e hval;have hadd:=pV Tryz.prog;obtain ⟨s0,s1,s2,s3,s4,s5,s6,s7,s8,s9,sA,sB⟩:=SM;dsimp only at s1 s2 s4 s5 s6 s7 s8 s9 sA sB;have HF:Hid (gB ⟨f,what,num,v⟩=cat (cat (cat (cat (cat (cat (cat qL f) jD) (iQ what)) jD) (dW num.toNat)) jD) v):=rfl
  go_enter Tryz.func38,Tryz.ntmps38
  go_wp2_with fail;refine (kX _ _ (HS.out.keep (aM))).mono ?_;rw [HK.out];rintro e w1 ⟨rfl,hb1⟩
  have c0:w1.cell? ⟨w.heap.size,0,none⟩=some (.string f):=ag hb1 aG (by simp [go_sem])
  have c2:w1.cell? ⟨w.heap.size,2,none⟩=some (.int .i64 num):=ag hb1 aG (by simp [go_sem])
  have c3:w1.cell? ⟨w.heap.size,3,none⟩=some (.string v):=ag hb1 aG (by simp [go_sem])
  have hbw:=aa (aM) hb1;go_wp2_with fail;refine (cf f _ hfm).mono ?_;rw [HN.out];rintro e w2 ⟨rfl,hb2⟩;have d0:=ag hb2 aG c0;have d2:=ag hb2 aG c2;have d3:=ag hb2 aG c3;have hbl:w.heap.size<w2.heap.size:=av d0;have HB2:Hid (Below w.heap.size w w2):=aa hbw hb2;clear c0 c2 c3 hb1 hb2 hbw;go_wp2_with fail;refine (cQ _ _).mono ?_;rw [HU.out];rintro e w3 ⟨rfl,rfl⟩;go_wp2_with fail;refine (jL _ _).mono ?_;rw [HV.out];rintro e w3 ⟨rfl,rfl⟩;go_wp2;have hne:=Later.some w3
  have GO:Hid (∀ x:Later w3,Calls Tryz.prog 71 #[.int .i64 num] x.val fun e w''=>e=.returned (.string (dW num.toNat))∧∃ y:Later w3,w''=y.val) :=
   fun x=>Calls.later (yw num hn0 hn1 x.val (mi HT.out (aa HB2.out x.below)))
  simp only [qL,jD] at s0 s2 s3 s4 s6 s7 s9 sA
  refine au (by kernel_rfl) (by kernel_rfl) ?_
  repeat (go_big_quiet_step (exact GO.out _))
  refine wpQuiet_nil ?_;rintro _ ⟨x,rfl⟩;go_wp2;go_ret;exact ⟨rfl,aa HB2.out x.below⟩
end Go.Proofs.YtcmgddnckohdaaaGreatDoor
namespace Go.Proofs.YtcmgddnckohdaaaGreatDoor
open Go.RowKit
attribute [local go_sem] Later.cell Later.frozen
theorem CY {P:Program} {ops:Array Oper} {Q:Exit→Act→World→Prop} {i:Nat} {K K':Act→World→Prop} {a:Act} {w:World} (h:∀ a w,K a w→K' a w) (hh:wpOp P ops Q i K a w):wpOp P ops Q i K' a w:=by
 exact wpOp_mono h hh
theorem nV {P:Program} {md:Region.Mode} {ops:Array Oper} {Q:Exit→Act→World→Prop} {S T:World→Prop} (hT:∀ w,T w→S w):∀ (fuel:Nat) (listed:Array Bool) (a:Act) (w:World),wpAnyH P md ops Q T fuel listed a w→wpAnyH P md ops Q S fuel listed a w
 | 0,_,_,_,h=>h
 | fuel+1,_,_,_,h=>⟨h.1,fun i hi=>CY (fun a' w' hh=>⟨hT _ hh.1,nV hT fuel _ a' w' hh.2⟩) (h.2 i hi)⟩
theorem Dp (c:dP) (w:World) (hf:c.f.size≤1048576) (hv:c.v.size≤1048576) (hok:gm c=true) :
  Calls Tryz.prog 46 #[.agg #[.string c.f,.int .i64 c.what,.int .i64 c.num,.string c.v]] w fun e w'=>e=.returned (.string (gB c))∧Below w.heap.size w w':=by
 have hfm:c.f.size≤maxLen:=by unfold maxLen;omega
 have LJ:c.v.size≤maxLen:=by unfold maxLen;omega
 simp only [gm,Bool.and_eq_true] at hok
 obtain ⟨hk,hn,hu,hval⟩:=hok;have SM:=y5.of c hf hv hu;obtain ⟨f,what,num,v⟩:=c;dsimp only at hfm LJ hk hn hu hval;have HK:Hid (eB what 1 5=true):=hk;have HN:Hid (dD f=true):=hn;have HU:Hid (eB num 1 1000000=true):=hu
 simp only [lY,Bool.and_eq_true,Bool.not_eq_true'] at hval
 obtain ⟨hv1,hv2⟩:=hval;have HV:Hid (uy v=false):=hv2
 have hn0:0≤num:=by simp [eB] at hu;omega
 obtain ⟨m,rfl⟩:=Int.eq_ofNat_of_zero_le hn0
 have hm:m≤9999999:=by simp [eB] at hu;omega
 obtain ⟨q,rfl,hq⟩:∃ q:Nat,what=(q:Int)+1∧q<5:=⟨(what-1).toNat,by simp [eB] at hk;omega,by simp [eB] at hk;omega⟩
 clear hk hn hu hv2 hf hv;have hadd:=pV Tryz.prog;obtain ⟨s0,s1,s2,s3,s4,s5,s6,s7,s8,s9,sA,sB⟩:=SM;dsimp only at s1 s2 s4 s5 s6 s7 s8 s9 sA sB
 have HF:Hid (gB ⟨f,(q:Int)+1,(m:Int),v⟩=cat (cat (cat (cat (cat (cat (cat qL f) jD) (gG q)) jD) (dW m)) jD) v):=by
  show gB _=_
  unfold gB;rw [wJ];rfl
 rw [HF.out];rw [wJ] at s5 s6 s7 s9 sA;rw [Int.toNat_natCast] at s8 s9 sA
 simp only [qL,jD] at s0 s2 s3 s4 s6 s7 s9 sA
 go_enter Tryz.func46,Tryz.ntmps46
 go_wp2_with fail;refine (bh f _ hfm).mono ?_;rw [HN.out];rintro e w1 ⟨rfl,rfl⟩;go_wp2_with fail;refine (bi _ _ _ _).mono ?_;rw [HU.out];rintro e w1 ⟨rfl,rfl⟩;go_wp2_with fail;refine (bi _ _ _ _).mono ?_;rw [HK.out];rintro e w1 ⟨rfl,rfl⟩;go_wp2_with fail;refine (Am v _ LJ).mono ?_;rw [HV.out];rintro e w1 ⟨rfl,rfl⟩;go_wp2;generalize hW:w.alloc (.cells #[.string f,.int .i64 ((q:Int)+1),.int .i64 (m:Int),.string v] 76)=W
 have c0:W.cell? ⟨w.heap.size,0,none⟩=some (.string f):=by rw [← hW];simp [go_sem]
 have c1:W.cell? ⟨w.heap.size,1,none⟩=some (.int .i64 ((q:Int)+1)):=by rw [← hW];simp [go_sem]
 have c2:W.cell? ⟨w.heap.size,2,none⟩=some (.int .i64 (m:Int)):=by rw [← hW];simp [go_sem]
 have c3:W.cell? ⟨w.heap.size,3,none⟩=some (.string v):=by rw [← hW];simp [go_sem]
 have HW:Hid (Below w.heap.size w W):=by rw [← hW];exact (aM)
 clear hW;refine wp_region_noPanic ?_
 refine wp_region_held_drew (S:=fun w'=>w'.cell? ⟨w.heap.size,0,none⟩=some (.string f)∧w'.cell? ⟨w.heap.size,1,none⟩=some (.int .i64 ((q:Int)+1))∧w'.cell? ⟨w.heap.size,2,none⟩=some (.int .i64 (m:Int))∧w'.cell? ⟨w.heap.size,3,none⟩=some (.string v)) (by kernel_rfl) ?_ (fun hHeld=>?_)
 ·exact ⟨by simpa using c0,by simpa using c1,by simpa using c2,by simpa using c3⟩
 refine aO 0 ?_ rfl ?_ (aO 1 ?_ rfl ?_ (aO 2 ?_ rfl ?_ (aO 3 ?_ rfl ?_ (aO 5 ?_ rfl ?_ (aO 6 ?_ rfl ?_ (aO 7 ?_ rfl ?_ (aO 12 ?_ rfl ?_ (aO 13 ?_ rfl ?_ (aO 17 ?_ rfl ?_ (aO 18 ?_ rfl ?_ ?_))))))))))
 iterate 11 (rotate_left;focus (intro w hSw;(try dsimp only at hSw);simp only [Act.put,aU];go_simp;try with_reducible rfl))
 simp only [Act.put,aU]
 refine bE 4 rfl (fun K hK=>?_);go_simp;refine (lN _).mono ?_;rintro e w1 ⟨rfl,hw1⟩;obtain ⟨a0,a1,a2,a3⟩:=hHeld
 have hb1:Below W.drew.heap.size W.drew w1:=by rw [hw1];exact (aM)
 have t0:w1.cell? ⟨W.heap.size,q,none⟩=some (.string (gG q)):=by
  rw [hw1]
  have h5:q=0∨q=1∨q=2∨q=3∨q=4:=by omega
  rcases h5 with rfl | rfl | rfl | rfl | rfl <;> simp [go_sem,gG]
 clear hw1
 have hS1:w1.cell? ⟨w.heap.size,0,none⟩=some (.string f)∧w1.cell? ⟨w.heap.size,1,none⟩=some (.int .i64 ((q:Int)+1))∧w1.cell? ⟨w.heap.size,2,none⟩=some (.int .i64 (m:Int))∧w1.cell? ⟨w.heap.size,3,none⟩=some (.string v) :=
  ⟨ag hb1 aG a0,ag hb1 aG a1,ag hb1 aG a2,ag hb1 aG a3⟩
 refine hK.out _ _ hS1 (fun _=>?_);refine nV (T:=fun w'=>(w'.cell? ⟨w.heap.size,0,none⟩=some (.string f)∧w'.cell? ⟨w.heap.size,1,none⟩=some (.int .i64 ((q:Int)+1))∧w'.cell? ⟨w.heap.size,2,none⟩=some (.int .i64 (m:Int))∧w'.cell? ⟨w.heap.size,3,none⟩=some (.string v))∧w'.cell? ⟨W.heap.size,q,none⟩=some (.string (gG q))) (fun _ h=>h.1) _ _ _ _ ?_;have hHeld1:=And.intro hS1 t0;clear hK K;have HB1:Hid (Below w.heap.size w w1):=aa HW.out.drew hb1
 have hq0:(0:Int)≤(q:Int):=by omega
 have hq1:(q:Int)<5:=by omega
 have hwq:IntKind.i64.wrap (q:Int)=(q:Int):=by rw [IntKind.wrap_i64];omega
 refine aO 8 ?_ rfl ?_ (aO 9 ?_ rfl ?_ (aO 10 ?_ rfl ?_ (aO 11 ?_ rfl ?_ ?_)))
 iterate 4 (rotate_left;focus (intro w hSw;(try dsimp only at hSw);simp only [Act.put,aU];go_simp;try with_reducible rfl))
 simp only [Act.put,aU]
 refine bE 14 rfl (fun K hK=>?_);go_simp;refine (bv m hm _).mono ?_;rintro e w2 ⟨rfl,hb2⟩;refine hK.out _ _ ⟨⟨ag hb2 aG hS1.1,ag hb2 aG hS1.2.1,ag hb2 aG hS1.2.2.1,ag hb2 aG hS1.2.2.2⟩,ag hb2 aG t0⟩ (fun hHeld2=>?_);clear hK K;refine aO 15 ?_ rfl ?_ (aO 16 ?_ rfl ?_ (aO 19 ?_ rfl ?_ (aO 20 ?_ rfl ?_ ?_)))
 iterate 4 (rotate_left;focus (intro w hSw;(try dsimp only at hSw);simp only [Act.put,aU];go_simp;try with_reducible rfl))
 simp only [Act.put,aU]
 refine wpAnyH_done (by kernel_rfl) ?_ _
 refine NoPanic.normal ?_;go_wp2;go_ret;exact ⟨rfl,aa HB1.out hb2⟩
end Go.Proofs.YtcmgddnckohdaaaGreatDoor
namespace Go.Proofs.YtcmgddnckohdaaaGreatDoor
open Go.RowKit
theorem Dq (c:dP) (w:World) (hf:c.f.size≤1048576) (hv:c.v.size≤1048576) (hok:gm c=false) :
  Calls Tryz.prog 46 #[.agg #[.string c.f,.int .i64 c.what,.int .i64 c.num,.string c.v]] w fun e w'=>e=.returned (.string ⟨#[]⟩)∧Below w.heap.size w w':=by
 have hfm:c.f.size≤maxLen:=by unfold maxLen;omega
 have LJ:c.v.size≤maxLen:=by unfold maxLen;omega
 obtain ⟨f,what,num,v⟩:=c;dsimp only at hfm LJ
 simp only [gm] at hok
 clear hf hv
 cases hn:dD f
 ·have HN:Hid (dD f=false):=hn
  clear hn hok
  go_enter Tryz.func46,Tryz.ntmps46
  go_wp2_with fail;refine (bh f _ hfm).mono ?_;rw [HN.out];rintro e w1 ⟨rfl,rfl⟩;go_wp2;go_ret;exact ⟨rfl,(aM)⟩
 have HN:Hid (dD f=true):=hn;rw [hn] at hok;clear hn
 cases hu:eB num 1 1000000
 ·have HU:Hid (eB num 1 1000000=false):=hu
  clear hu hok
  go_enter Tryz.func46,Tryz.ntmps46
  go_wp2_with fail;refine (bh f _ hfm).mono ?_;rw [HN.out];rintro e w1 ⟨rfl,rfl⟩;go_wp2_with fail;refine (bi _ _ _ _).mono ?_;rw [HU.out];rintro e w1 ⟨rfl,rfl⟩;go_wp2;go_ret;exact ⟨rfl,(aM)⟩
 have HU:Hid (eB num 1 1000000=true):=hu;rw [hu] at hok;clear hu
 cases hk:eB what 1 5
 ·have HK:Hid (eB what 1 5=false):=hk
  clear hk hok
  go_enter Tryz.func46,Tryz.ntmps46
  go_wp2_with fail;refine (bh f _ hfm).mono ?_;rw [HN.out];rintro e w1 ⟨rfl,rfl⟩;go_wp2_with fail;refine (bi _ _ _ _).mono ?_;rw [HU.out];rintro e w1 ⟨rfl,rfl⟩;go_wp2_with fail;refine (bi _ _ _ _).mono ?_;rw [HK.out];rintro e w1 ⟨rfl,rfl⟩;go_wp2;go_ret;exact ⟨rfl,(aM)⟩
 have HK:Hid (eB what 1 5=true):=hk;rw [hk] at hok;clear hk
 have hval:lY v=false:=by simpa using hok
 clear hok
 cases hv1:v.toList.isEmpty
 ·have hv2:uy v=true:=by simpa [lY,hv1] using hval
  have HV:Hid (uy v=true):=hv2;clear hv2 hval
  go_enter Tryz.func46,Tryz.ntmps46
  go_wp2_with fail;refine (bh f _ hfm).mono ?_;rw [HN.out];rintro e w1 ⟨rfl,rfl⟩;go_wp2_with fail;refine (bi _ _ _ _).mono ?_;rw [HU.out];rintro e w1 ⟨rfl,rfl⟩;go_wp2_with fail;refine (bi _ _ _ _).mono ?_;rw [HK.out];rintro e w1 ⟨rfl,rfl⟩;go_wp2_with fail;refine (Am v _ LJ).mono ?_;rw [HV.out];rintro e w1 ⟨rfl,rfl⟩;go_wp2;go_ret;exact ⟨rfl,(aM)⟩
 ·clear hval
  go_enter Tryz.func46,Tryz.ntmps46
  go_wp2_with fail;refine (bh f _ hfm).mono ?_;rw [HN.out];rintro e w1 ⟨rfl,rfl⟩;go_wp2_with fail;refine (bi _ _ _ _).mono ?_;rw [HU.out];rintro e w1 ⟨rfl,rfl⟩;go_wp2_with fail;refine (bi _ _ _ _).mono ?_;rw [HK.out];rintro e w1 ⟨rfl,rfl⟩;go_wp2;go_ret;exact ⟨rfl,(aM)⟩
def dR (c:dP):ByteArray:=bif gm c then gB c else ⟨#[]⟩
theorem rH (c:dP) (w:World) (hf:c.f.size≤1048576) (hv:c.v.size≤1048576) :
  Calls Tryz.prog 46 #[.agg #[.string c.f,.int .i64 c.what,.int .i64 c.num,.string c.v]] w fun e w'=>e=.returned (.string (dR c))∧Below w.heap.size w w':=by
 unfold dR
 cases h:gm c
 ·exact Dq c w hf hv h
 ·exact Dp c w hf hv h
open Go.RowKit
def gZ (l:List UInt8):Prop:=∀ c∈l,c≠32
theorem lq:∀ l:List UInt8,gZ l ∨ ∃ a r,l=a++32::r∧gZ a
 | []=>.inl (fun c hc=>by cases hc)
 | c::l=>by
  by_cases h:c=32
  ·exact .inr ⟨[],l,by simp [h],fun c hc=>by cases hc⟩
  ·rcases lq l with hl | ⟨a,r,rfl,ha⟩
   ·exact .inl (fun x hx=>(List.mem_cons.1 hx).elim (fun e=>by rw [e];exact h) (hl x))
   ·exact .inr ⟨c::a,r,rfl,fun x hx=>(List.mem_cons.1 hx).elim (fun e=>by rw [e];exact h) (ha x)⟩
theorem um:∀ {a b r t:List UInt8},gZ a→gZ b→a++32::r=b++32::t→a=b∧r=t
 | [],[],r,t,_,_,h=>by simpa using h
 | [],c::b,r,t,_,hb,h=>by
  simp at h
  exact absurd h.1.symm (hb c (by simp))
 | c::a,[],r,t,ha,_,h=>by
  simp at h
  exact absurd h.1 (ha c (by simp))
 | c::a,d::b,r,t,ha,hb,h=>by
  simp at h
  obtain ⟨rfl,h⟩:=h
  obtain ⟨rfl,rfl⟩:=um (fun x hx=>ha x (by simp [hx])) (fun x hx=>hb x (by simp [hx])) h
  exact ⟨rfl,rfl⟩
theorem lu:∀ (l cur:List UInt8),gZ l→iw cur l=[cur++l]
 | [],cur,_=>by simp [iw]
 | c::l,cur,h=>by
  rw [iw,if_neg (h c (by simp)),lu l _ (fun x hx=>h x (by simp [hx]))]
  simp
theorem bt:∀ (a cur r:List UInt8),gZ a→iw cur (a++32::r)=(cur++a)::iw [] r
 | [],cur,r,_=>by simp [iw]
 | c::a,cur,r,h=>by
  rw [List.cons_append,iw,if_neg (h c (by simp)),bt a _ r (fun x hx=>h x (by simp [hx]))]
  simp
theorem nI:∀ (l cur:List UInt8),1≤(iw cur l).length
 | [],_=>by simp [iw]
 | c::l,cur=>by
  rw [iw]
  split
  ·simp
  ·exact nI l _
theorem five (l:List UInt8):(iw [] l).length<5 ∨ ∃ a0 a1 a2 a3 r,l=a0++32::(a1++32::(a2++32::(a3++32::r)))∧gZ a0∧gZ a1∧gZ a2∧gZ a3:=by
 rcases lq l with h | ⟨a0,r0,rfl,h0⟩
 ·left;rw [lu _ _ h];simp
 rcases lq r0 with h | ⟨a1,r1,rfl,h1⟩
 ·left;rw [bt _ _ _ h0,lu _ _ h];simp
 rcases lq r1 with h | ⟨a2,r2,rfl,h2⟩
 ·left;rw [bt _ _ _ h0,bt _ _ _ h1,lu _ _ h];simp
 rcases lq r2 with h | ⟨a3,r3,rfl,h3⟩
 ·left;rw [bt _ _ _ h0,bt _ _ _ h1,bt _ _ _ h2,lu _ _ h];simp
 exact .inr ⟨a0,a1,a2,a3,r3,rfl,h0,h1,h2,h3⟩
def mkS (l:List UInt8):ByteArray:=⟨l.toArray⟩
theorem bS (l:List UInt8):bytes (mkS l)=l:=rfl
theorem bI (s:ByteArray):mkS (bytes s)=s:=bq (bS _)
theorem ch (l:List UInt8):(mkS l).size=l.length:=by rw [← aK];rfl
theorem yB:∀ l:List UInt8,gZ l→Lib.indexByte l 32=-1
 | [],_=>rfl
 | c::l,h=>by
  have hc:(c==32)=false:=by simpa using h c (by simp)
  rw [Lib.indexByte,hc,yB l (fun x hx=>h x (by simp [hx]))]
  rfl
theorem yA:∀ (a r:List UInt8),gZ a→Lib.indexByte (a++32::r) 32=a.length
 | [],r,_=>by simp [Lib.indexByte]
 | c::a,r,h=>by
  have hc:(c==32)=false:=by simpa using h c (by simp)
  have ih:=yA a r (fun x hx=>h x (by simp [hx]))
  rw [List.cons_append,Lib.indexByte,hc,ih]
  have:((a.length:Int)==-1)=false:=by simp
  simp [this]
def CL:ByteArray:=⟨#[32]⟩
theorem Aw (s:ByteArray):Lib.indexB s CL=Lib.indexByte (bytes s) 32:=Lib.index_one _ _
theorem Ga (k:Nat) (s:ByteArray) (h:gZ (bytes s)):Lib.splitB CL 0 k s=[s] :=
 Lib.splitB_miss CL 0 k s (by rw [Aw,yB _ h])
theorem kZ (k:Nat) (s:ByteArray) (a r:List UInt8) (hs:bytes s=a++32::r) (h:gZ a):Lib.splitB CL 0 (k+1) s=mkS a::Lib.splitB CL 0 k (mkS r):=by
 have hz:s.size=a.length+(r.length+1):=by rw [← aK,hs];simp
 rw [Lib.splitB_hit CL 0 k s a.length (by rw [Aw,hs,yA _ _ h])]
 have e1:s.extract 0 (a.length+0)=mkS a:=bq (by rw [bf,hs,bS];simp)
 have e2:s.extract (a.length+CL.size) s.size=mkS r:=bq (by
  have:CL.size=1:=rfl;rw [bf,hs,bS,this,hz]
  simp only [List.drop_append,List.drop_succ_cons,show a.length+1-a.length=1 by omega,List.drop_zero]
  rw [List.drop_of_length_le (by omega),List.nil_append,List.take_of_length_le (by omega)])
 rw [e1,e2]
theorem Dl:∀ (k:Nat) (s:ByteArray),(Lib.splitB CL 0 k s).length≤(iw [] (bytes s)).length
 | 0,s=>nI _ _
 | k+1,s=>by
  rcases lq (bytes s) with h | ⟨a,r,hs,h⟩
  ·rw [Ga _ _ h];exact nI _ _
  ·rw [kZ k s a r hs h,hs,bt _ _ _ h]
   have:=Dl k (mkS r);rw [bS] at this
   simpa using this
theorem Gb (s:ByteArray) {a0 a1 a2 a3 r:List UInt8} (hs:bytes s=a0++32::(a1++32::(a2++32::(a3++32::r)))) (h0:gZ a0) (h1:gZ a1) (h2:gZ a2) (h3:gZ a3) :
  Lib.splitB CL 0 (min 5 (s.size+1)-1) s=[mkS a0,mkS a1,mkS a2,mkS a3,mkS r]:=by
 have hz:4≤s.size:=by rw [← aK,hs];simp;omega
 rw [show min 5 (s.size+1)-1=4 by omega]
 rw [kZ 3 s _ _ hs h0,kZ 2 _ _ _ (bS _) h1,kZ 1 _ _ _ (bS _) h2,kZ 0 _ _ _ (bS _) h3]
 rfl
def fM (b:ByteArray):Int:=if b=dY then 1 else if b=ma then 2 else if b=jK then 3 else if b=jJ then 4 else if b=jI then 5 else 0
open Go.RowKit
theorem qG (b:ByteArray):(fM b=0∧b≠dY∧b≠ma∧b≠jK∧b≠jJ∧b≠jI)∨(fM b=1∧b=dY)∨(fM b=2∧b=ma)∨(fM b=3∧b=jK)∨(fM b=4∧b=jJ)∨(fM b=5∧b=jI):=by
 unfold fM
 split
 ·exact .inr (.inl ⟨rfl,by assumption⟩)
 split
 ·exact .inr (.inr (.inl ⟨rfl,by assumption⟩))
 split
 ·exact .inr (.inr (.inr (.inl ⟨rfl,by assumption⟩)))
 split
 ·exact .inr (.inr (.inr (.inr (.inl ⟨rfl,by assumption⟩))))
 split
 ·exact .inr (.inr (.inr (.inr (.inr ⟨rfl,by assumption⟩))))
 ·exact .inl ⟨rfl,by assumption,by assumption,by assumption,by assumption,by assumption⟩
theorem IY {b:ByteArray} (h:eB (fM b) 1 5=true):iQ (fM b)=b:=by
 rcases qG b with ⟨e,_⟩ | ⟨e,rfl⟩ | ⟨e,rfl⟩ | ⟨e,rfl⟩ | ⟨e,rfl⟩ | ⟨e,rfl⟩
 ·rw [e] at h;cases h
 all_goals (rw [e];rfl)
theorem Mj (m d:Nat) (hm:1≤m) (hd:d<10):Lib.decDigits (m*10+d)=Lib.decDigits m++[UInt8.ofNat (48+d)]:=by
 rw [Lib.decDigits,dif_neg (by omega),show (m*10+d) / 10=m by omega,show (m*10+d) % 10=d by omega]
theorem Hz (c:UInt8) (h:48≤c.toNat):UInt8.ofNat (48+(c.toNat-48))=c:=by
 rw [show 48+(c.toNat-48)=c.toNat by omega]
 exact UInt8.ofNat_toNat
theorem take_one (s:ByteArray) (k:Nat) (h:k<s.size):(bytes s).take (k+1)=(bytes s).take k++[s[k]]:=by
 have hl:k<(bytes s).length:=by rw [aK];exact h
 rw [List.take_succ_eq_append_getElem hl]
 rfl
theorem yK {s:ByteArray} (hd:∀ j (hj:j<s.size),oO (s[j].toNat)=true) (hl:1<s.size→∀ h0:0<s.size,s[0].toNat≠48):∀ k,k+1≤s.size→Lib.decDigits (fF s (k+1))=(bytes s).take (k+1)∧(1<s.size→1≤fF s (k+1))
 | 0,h=>by
  have hb:=oN.1 (hd 0 (by omega))
  rw [fF,fF,cm (by omega:0<s.size),take_one s 0 (by omega)]
  constructor
  ·rw [Lib.decDigits_one (by omega),show 48+(0*10+(s[0].toNat-48))=48+(s[0].toNat-48) by omega,Hz _ (by omega)]
   rfl
  ·intro h1
   have:=hl h1 (by omega)
   omega
 | k+1,h=>by
  obtain ⟨ih,ih1⟩:=yK hd hl k (by omega)
  have hb:=oN.1 (hd (k+1) (by omega))
  rw [fF,cm (by omega:k+1<s.size),take_one s (k+1) (by omega)]
  have h1:=ih1 (by omega)
  refine ⟨?_,fun _=>by omega⟩
  rw [Mj _ _ h1 (by omega),ih,Hz _ (by omega)]
theorem JX {s:ByteArray} (h:ik s=true):∀ j (hj:j<s.size),oO (s[j].toNat)=true:=by
 intro j hj;unfold ik at h;rw [List.all_eq_true] at h
 exact h s[j] (by simp [ByteArray.getElem_eq_getElem_data])
theorem dec_num {s:ByteArray} (h:eu s=true):dW (fF s s.size)=s:=by
 simp only [eu,Bool.and_eq_true,Bool.not_eq_true'] at h
 obtain ⟨hin,hl,hd⟩:=h
 have hz:0<s.size:=by simp [eB] at hin;omega
 have h1:=(yK (JX hd) (fun h1 h0 e=>by
  have:mJ s=true:=by
   simp only [mJ,Bool.and_eq_true,cm h0]
   exact ⟨by simpa using h1,by simpa using e⟩
  rw [this] at hl;cases hl) (s.size-1) (by omega)).1
 rw [show s.size-1+1=s.size by omega] at h1
 apply bq
 show Lib.decDigits (fF s s.size)=bytes s
 rw [h1,List.take_of_length_le (by rw [aK];omega)]
def iA (b:ByteArray):Int:=bif eu b then (fF b b.size:Int) else -1
theorem Lc {b:ByteArray} (h:eB (iA b) 1 1000000=true):eu b=true:=by
 unfold iA at h
 cases hd:eu b
 ·rw [hd] at h;cases h
 ·rfl
theorem Jk {b:ByteArray} (h:eB (iA b) 1 1000000=true):dW (iA b).toNat=b:=by
 have hd:=Lc h;unfold iA;rw [hd];exact dec_num hd
def rM:List UInt8:=[115,101,116]
theorem uT (a b:ByteArray):bytes (cat a b)=bytes a++bytes b:=by simp [bytes,cat,ByteArray.data_append]
theorem cF (c:dP):bytes (gB c)=rM++32::(bytes c.f++32::(bytes (iQ c.what)++32::(bytes (dW c.num.toNat)++32::bytes c.v))):=by
 unfold gB
 simp only [uT]
 have h1:bytes qL=[115,101,116,32]:=rfl;have h2:bytes jD=[32]:=rfl;rw [h1,h2]
 simp [rM]
def CO (a0 a1 a2 a3 r:List UInt8):Bool:=decide (a0=rM)&&gm ⟨mkS a1,fM (mkS a2),iA (mkS a3),mkS r⟩
theorem EN {s:ByteArray} {a0 a1 a2 a3 r:List UInt8} (hs:bytes s=a0++32::(a1++32::(a2++32::(a3++32::r)))) (h0:gZ a0) :
  (dR ⟨mkS a1,fM (mkS a2),iA (mkS a3),mkS r⟩=s) ↔ CO a0 a1 a2 a3 r=true:=by
 unfold CO dR
 cases hf:gm ⟨mkS a1,fM (mkS a2),iA (mkS a3),mkS r⟩
 ·simp only [cond_false,Bool.and_false]
  refine ⟨fun h=>?_,fun h=>by cases h⟩
  have:=congrArg bytes h;rw [hs] at this
  simp [bytes] at this
 ·simp only [cond_true,Bool.and_true,decide_eq_true_eq]
  have hparts:=hf
  simp only [gm,Bool.and_eq_true] at hparts
  obtain ⟨hk,_,hn,_⟩:=hparts;have e1:=IY hk;have e2:=Jk hn
  constructor
  ·intro h
   have hb:=congrArg bytes h;rw [cF,hs] at hb
   exact (um (by intro c hc;simp [rM] at hc;rcases hc with rfl | rfl | rfl <;> decide) h0 hb).1.symm
  ·intro h
   apply bq
   rw [cF,hs,h]
   simp only [e1,e2,bS]
open Go.RowKit
theorem Bj {a b:ByteArray} (h:a=b):(a.toList==b.toList)=true:=by subst h;simp
theorem wD {a b:ByteArray} (h:¬ a=b):(a.toList==b.toList)=false:=by
 rw [ByteArray.toList_eq,ByteArray.toList_eq]
 simp only [beq_eq_false_iff_ne,ne_eq]
 exact fun e=>h (bq e)
theorem what_at {b:ByteArray} {k:Nat} (hk:k<5) (h:gG k=b):fM b=(k:Int)+1:=by
 subst h
 have:k=0∨k=1∨k=2∨k=3∨k=4:=by omega
 rcases this with rfl | rfl | rfl | rfl | rfl <;> decide
theorem IZ {b:ByteArray} (h:∀ k:Nat,k<5→¬ gG k=b):fM b=0:=by
 have h0:=h 0 (by omega);have h1:=h 1 (by omega);have h2:=h 2 (by omega);have h3:=h 3 (by omega);have h4:=h 4 (by omega)
 rcases qG b with ⟨e,_⟩ | ⟨e,rfl⟩ | ⟨e,rfl⟩ | ⟨e,rfl⟩ | ⟨e,rfl⟩ | ⟨e,rfl⟩
 ·exact e
 ·exact absurd rfl h0
 ·exact absurd rfl h1
 ·exact absurd rfl h2
 ·exact absurd rfl h3
 ·exact absurd rfl h4
theorem FR (b:ByteArray) (w:World) (hs:ib w) :
  Calls Tryz.prog 215 #[.string b] w fun e w'=>e=.returned (.tuple #[.int .i64 (fM b),.bool (eB (fM b) 1 5)])∧Below w.heap.size w w':=by
 obtain ⟨tt,fr,hg⟩:=hs
 go_enter Tryz.func215,Tryz.ntmps215
 go_wp2_with (refine wpList_load_row rfl 182 _ rfl 2 rfl tt oh fr _ hg Tryz.underlying182 rfl (by kernel_rfl) ?_)
 go_loopw [5,7] (fun _ i wr=>∃ k:Nat,k≤5∧i=.int .i64 k∧Below w.heap.size w wr∧Hid (∀ j:Nat,j<k→¬ gG j=b)) (fun _ i _=>5-(intOf i).toNat)
 case atStart=>exact ⟨0,Nat.zero_le _,rfl,Below.refl _ _,fun j hj=>absurd hj (Nat.not_lt_zero _)⟩
 case round =>
  obtain ⟨k,hk,rfl,hb,HA⟩:=hrel
  by_cases hlt:k<5
  ·have hi:=idx k hlt
   have hk5:(k:Int)<5:=by omega
   by_cases hw:gG k=b
   ·have h1:((gG k).toList==b.toList)=true:=Bj hw
    have HW:Hid (gG k=b):=hw;clear hw;go_wp2
    go_ret2
    have e2:fM b=(k:Int)+1:=what_at hlt HW.out
    have e1:eB ((k:Int)+1) 1 5=true:=by simp [eB];omega
    rw [e2,e1];exact ⟨rfl,hb.alloc hb.size _⟩
   ·have h1:((gG k).toList==b.toList)=false:=wD hw
    have HW:Hid (¬ gG k=b):=hw;clear hw;go_wp2
    exact ⟨⟨k+1,by omega,by go_num,hb.alloc hb.size _,fun j hj=>if e:j=k then by rw [e];exact HW.out else HA.out j (by omega)⟩,by simp [intOf];omega⟩
  ·have hk5:¬ (k:Int)<5:=by omega
   have H1:Hid (fM b=0):=IZ fun j hj=>HA.out j (by omega)
   go_wp2
   go_ret2
   rw [H1.out];exact ⟨rfl,hb⟩
theorem yQ (s:ByteArray) (w:World) (hs:s.size≤1048576) :
  Calls Tryz.prog 209 #[.string s] w fun e w'=>e=.returned (.string s)∧Below w.heap.size w w':=by
 go_enter Tryz.func209,Tryz.ntmps209
 go_wp2_with fail
 refine (Tryz.stringslite_Clone s _ (by omega)).mono ?_
 rintro e w' ⟨rfl,hb⟩;go_wp2;go_ret;exact ⟨rfl,hb⟩
end Go.Proofs.YtcmgddnckohdaaaGreatDoor
