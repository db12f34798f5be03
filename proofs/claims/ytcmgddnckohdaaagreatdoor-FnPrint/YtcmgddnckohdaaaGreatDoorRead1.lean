import Derived.Test.YtcmgddnckohdaaaGreatDoorForm1
import Derived.Deep.RegionHeld3
import Derived.Test.YtcmgddnckohdaaaGreatDoorTkH
set_option maxRecDepth 100000
set_option maxHeartbeats 1600000
set_option linter.unusedSimpArgs false
namespace Go.Proofs.YtcmgddnckohdaaaGreatDoor
open Go.RowKit
theorem ret_str {a b:ByteArray} (h:a=b):Ending.returned (.string a)=.returned (.string b):=by rw [h]
def decS (n:Nat):ByteArray:=⟨(Lib.decDigits n).toArray⟩
def oneS (n:Int):ByteArray:=⟨#[UInt8.ofNat n.toNat]⟩
theorem oneS_size (n:Int):(oneS n).size=1:=rfl
theorem dec_small {n:Nat} (h:n<10):decS n=oneS (48+(n:Int)):=by
 unfold decS oneS
 rw [Lib.decDigits_one h,show ((48:Int)+n).toNat=48+n by omega]
theorem dec_big {n:Nat} (h:¬ n<10):decS n=decS (n / 10)++oneS (48+(n:Int) % 10):=by
 unfold decS oneS
 rw [Lib.decDigits,dif_neg h,show ((48:Int)+(n:Int) % 10).toNat=48+n % 10 by omega]
 apply ByteArray.ext
 simp [ByteArray.data_append]
theorem nDigits_le:∀ (k n:Nat),n<10 ^ (k+1)→Lib.nDigits n≤k+1
 | 0,n,h=>by rw [Lib.nDigits_small (by simpa using h)];omega
 | k+1,n,h=>by
  by_cases hs:n<10
  ·rw [Lib.nDigits_small hs];omega
  ·rw [Lib.nDigits_big hs]
   have:=nDigits_le k (n / 10) (by rw [Nat.pow_succ] at h;omega)
   omega
theorem aP (n:Nat) (h:n<10000000):(decS n).size≤7:=by
 have h1:=nDigits_le 6 n (by omega)
 show (Lib.decDigits n).toArray.size≤7
 rw [List.size_toArray,Lib.decDigits_length];exact h1
theorem conv1 (w:World) (b:Nat) (n:Int) (h:w.cell? ⟨b,0,none⟩=some (.int .u8 n)) :
  (convert 22 9 (.slice (some ⟨b,0,none⟩) 1 1)).run Tryz.prog w=.ok (.string (oneS n)) w:=by
 have:=run_convert_bytes_arg (P:=Tryz.prog) w 22 5 Tryz.underlying22 Tryz.underlying5 b 0 1 1 [n] rfl (fun i hi=>by
  obtain rfl:i=0:=by omega
  simpa using h) 9 Tryz.underlying9
 simpa [strOfNums,oneS] using this
theorem l2Dec_small (n:Nat) (h:n<10) (w:World) :
  Calls Tryz.prog 45 #[.int .i64 n] w fun e w'=>e=.returned (.string (decS n))∧Below w.heap.size w w':=by
 rw [dec_small h]
 have h1:(n:Int)<10:=by omega
 have kc:=conv1
 go_enter Tryz.func45,Tryz.ntmps45
 go_wp2;go_ret;exact ⟨rfl,(aO)⟩
theorem l2Dec_step (n:Nat) (h:¬ n<10) (hn:n≤9999999) (ih:∀ w,Calls Tryz.prog 45 #[.int .i64 ((n:Int) / 10)] w fun e w'=>e=.returned (.string (decS (n / 10)))∧Below w.heap.size w w') (w:World) :
  Calls Tryz.prog 45 #[.int .i64 n] w fun e w'=>e=.returned (.string (decS n))∧Below w.heap.size w w':=by
 rw [dec_big h]
 have h1:¬ (n:Int)<10:=by omega
 have kc:=conv1;have IH:Hid (∀ w,Calls Tryz.prog 45 #[.int .i64 ((n:Int) / 10)] w fun e w'=>e=.returned (.string (decS (n / 10)))∧Below w.heap.size w w'):=ih;clear ih
 have hsz:¬ 9223372036854775807<(decS (n / 10)).size+(oneS (48+(n:Int) % 10)).size:=by
  have:=aP (n / 10) (by omega)
  rw [oneS_size];omega
 generalize decS (n / 10)=ds at IH hsz
 have hw1:IntKind.i64.wrap ((n:Int) / 10)=(n:Int) / 10:=by rw [IntKind.wrap_i64];omega
 have hw3:IntKind.i64.wrap (48+(n:Int).tmod 10)=48+(n:Int) % 10:=by rw [Int.tmod_eq_emod_of_nonneg (by omega),IntKind.wrap_i64];omega
 have hw4:IntKind.u8.wrap (48+(n:Int) % 10)=48+(n:Int) % 10:=by rw [IntKind.wrap_u8];omega
 go_enter Tryz.func45,Tryz.ntmps45
 go_wp2
 go_region_with (go_at_call 45;refine (IH.out _).mono ?_;rintro e w1 ⟨rfl,hb1⟩;have hc1:=fun b o h=>hb1.cell (p:=⟨b,o,none⟩) h)
 all_goals go_wp2
 all_goals go_ret
 all_goals first | exact ⟨rfl,(aa (Below.refl _ _).drew hb1).alloc (aa (Below.refl w.heap.size w).drew hb1).size _⟩ | exact ⟨rfl,aa (aO).drew hb1⟩
theorem bq:∀ (n:Nat),n≤9999999→∀ w,Calls Tryz.prog 45 #[.int .i64 n] w fun e w'=>e=.returned (.string (decS n))∧Below w.heap.size w w':=by
 intro n
 induction n using Nat.strongRecOn with
 | ind n ih =>
  intro hn w
  by_cases h:n<10
  ·exact l2Dec_small n h w
  ·refine l2Dec_step n h hn (fun w=>?_) w
   have:=ih (n / 10) (by omega) (by omega) w
   simpa using this
open Go.RowKit
def wKind:ByteArray:=⟨#[107,105,110,100]⟩
def wTime:ByteArray:=⟨#[116,105,109,101]⟩
def wLevel:ByteArray:=⟨#[108,101,118,101,108]⟩
def wRoute:ByteArray:=⟨#[114,111,117,116,101]⟩
def wState:ByteArray:=⟨#[115,116,97,116,101]⟩
def wordAt:Nat→ByteArray
 | 0=>wKind
 | 1=>wTime
 | 2=>wLevel
 | 3=>wRoute
 | 4=>wState
 | _=>⟨#[]⟩
def wordS (what:Int):ByteArray:=if 1≤what then wordAt (what-1).toNat else ⟨#[]⟩
theorem wordS_at (k:Nat):wordS ((k:Int)+1)=wordAt k:=by
 unfold wordS
 rw [if_pos (by omega),show ((k:Int)+1-1).toNat=k by omega]
theorem wordS_none {what:Int} (h:inB what 1 5=false):wordS what=⟨#[]⟩:=by
 unfold wordS
 split
 ·have:¬ what≤5:=by simp [inB] at h;omega
  obtain ⟨k,hk⟩:∃ k,(what-1).toNat=k+5:=⟨(what-1).toNat-5,by omega⟩
  rw [hk];rfl
 ·rfl
def saidC:Array Value:=#[.int .i64 1,.string wKind,.int .i64 2,.string wTime,.int .i64 3,.string wLevel,.int .i64 4,.string wRoute,.int .i64 5,.string wState]
def SaidIn (w:World):Prop:=∃ t fr,w.heap[2]?=some (.cells saidC t fr)
theorem SaidIn.lt {w:World} (h:SaidIn w):2<w.heap.size:=by
 obtain ⟨t,fr,h⟩:=h;exact (Array.getElem?_eq_some_iff.1 h).1
theorem SaidIn.keep {w w':World} (h:SaidIn w) (hb:Below w.heap.size w w'):SaidIn w':=by
 have hl:=h.lt;obtain ⟨t,fr,h⟩:=h
 exact ⟨t,fr,by rw [hb.block _ hl];exact h⟩
theorem idx0 (w:World):(Instr.index 182 (.agg saidC) (.int .i64 0)).run Tryz.prog w=.ok (.agg #[.int .i64 1,.string wKind]) w:=by kernel_rfl
theorem idx1 (w:World):(Instr.index 182 (.agg saidC) (.int .i64 1)).run Tryz.prog w=.ok (.agg #[.int .i64 2,.string wTime]) w:=by kernel_rfl
theorem idx2 (w:World):(Instr.index 182 (.agg saidC) (.int .i64 2)).run Tryz.prog w=.ok (.agg #[.int .i64 3,.string wLevel]) w:=by kernel_rfl
theorem idx3 (w:World):(Instr.index 182 (.agg saidC) (.int .i64 3)).run Tryz.prog w=.ok (.agg #[.int .i64 4,.string wRoute]) w:=by kernel_rfl
theorem idx4 (w:World):(Instr.index 182 (.agg saidC) (.int .i64 4)).run Tryz.prog w=.ok (.agg #[.int .i64 5,.string wState]) w:=by kernel_rfl
theorem idx (k:Nat) (hk:k<5) (w:World):(Instr.index 182 (.agg saidC) (.int .i64 (k:Int))).run Tryz.prog w=.ok (.agg #[.int .i64 ((k:Int)+1),.string (wordAt k)]) w:=by
 have:k=0∨k=1∨k=2∨k=3∨k=4:=by omega
 rcases this with rfl | rfl | rfl | rfl | rfl
 ·exact idx0 w
 ·exact idx1 w
 ·exact idx2 w
 ·exact idx3 w
 ·exact idx4 w
theorem wordOf_any (what:Int) (w:World) (hs:SaidIn w) :
  Calls Tryz.prog 73 #[.int .i64 what] w fun e w'=>e=.returned (.tuple #[.string (wordS what),.bool (inB what 1 5)])∧Below w.heap.size w w':=by
 obtain ⟨tt,fr,hg⟩:=hs
 go_enter Tryz.func73,Tryz.ntmps73
 go_wp2_with (refine wpList_load_row rfl 182 _ rfl 2 rfl tt saidC fr _ hg Tryz.underlying182 rfl (by kernel_rfl) ?_)
 go_loopw [5,7] (fun _ i wr=>∃ k:Nat,k≤5∧i=.int .i64 k∧Below w.heap.size w wr∧Hid (∀ j:Nat,j<k→¬ what=(j:Int)+1)) (fun _ i _=>5-(intOf i).toNat)
 case atStart=>exact ⟨0,Nat.zero_le _,rfl,Below.refl _ _,fun j hj=>absurd hj (Nat.not_lt_zero _)⟩
 case round =>
  obtain ⟨k,hk,rfl,hb,HA⟩:=hrel
  by_cases hlt:k<5
  ·have hi:=idx k hlt
   have hk5:(k:Int)<5:=by omega
   by_cases hw:what=(k:Int)+1
   ·have h1:((k:Int)+1==what)=true:=by simp [hw]
    have HW:Hid (what=(k:Int)+1):=hw;clear hw;go_wp2
    go_ret2
    have e1:inB what 1 5=true:=by have:=HW.out;simp [inB];omega
    have e2:wordS what=wordAt k:=by rw [HW.out];exact wordS_at k
    rw [e1,e2];exact ⟨rfl,hb.alloc hb.size _⟩
   ·have h1:((k:Int)+1==what)=false:=by simp;omega
    have HW:Hid (¬ what=(k:Int)+1):=hw;clear hw;go_wp2
    exact ⟨⟨k+1,by omega,by go_num,hb.alloc hb.size _,fun j hj=>if e:j=k then by rw [e];exact HW.out else HA.out j (by omega)⟩,by simp [intOf];omega⟩
  ·have hk5:¬ (k:Int)<5:=by omega
   have e1:inB what 1 5=false:=by
    have h0:=HA.out 0 (by omega);have h1:=HA.out 1 (by omega);have h2:=HA.out 2 (by omega);have h3:=HA.out 3 (by omega);have h4:=HA.out 4 (by omega)
    simp [inB];omega
   have H1:Hid (inB what 1 5=false):=e1;have H2:Hid (wordS what=⟨#[]⟩):=wordS_none e1;clear e1;go_wp2
   go_ret2
   rw [H1.out,H2.out];exact ⟨rfl,hb⟩
theorem l2Words_any (w:World) :
  Calls Tryz.prog 86 #[] w fun e w'=>e=.returned (.slice (some ⟨w.heap.size,0,none⟩) 5 5)∧w'=w.alloc (.cells #[.string wKind,.string wTime,.string wLevel,.string wRoute,.string wState] 9):=by
 go_enter Tryz.func86,Tryz.ntmps86
 go_wp2;go_ret;exact ⟨rfl,rfl⟩
open Go.RowKit
attribute [local go_sem] Later.cell Later.frozen
def cat (a b:ByteArray):ByteArray:=a++b
theorem cat_size (a b:ByteArray):(cat a b).size=a.size+b.size:=by unfold cat;exact ByteArray.size_append
def Small (s:ByteArray):Prop:=s.size≤4611686018427387903
theorem add_small (P:Program) (a b:ByteArray) (w:World) (ha:Small a) (hb:Small b):(Op.stringOp .add a b).run P w=.ok (.string (cat a b)) w:=by
 unfold Small at ha hb
 exact run_string_add_sum w a b (by omega)
theorem grow_below (w:World) (k:Nat) (os:Array Obj):Below w.heap.size w (Sort.grow (w.drewN k) os) :=
 ⟨rfl,rfl,rfl,by simp [Sort.grow],fun i hi=>by simp [Sort.grow,Array.getElem?_append_left hi]⟩
theorem itoa_any (n:Int) (h0:0≤n) (h1:n≤9223372036854775807) (w:World) (ht:Lib.TabIs Tryz.prog w "internal/strconv.uint64pow10" .u64 Lib.pow10Tab) :
  Calls Tryz.prog 71 #[.int .i64 n] w fun e w'=>e=.returned (.string (decS n.toNat))∧Below w.heap.size w w':=by
 refine (Tryz.strconv_Itoa n (by omega) h1 w ht).mono ?_
 rintro e w' ⟨rfl,k,os,rfl⟩;refine ⟨ret_str ?_,grow_below w k os⟩;obtain ⟨m,rfl⟩:=Int.eq_ofNat_of_zero_le h0;rw [Lib.itoa_nonneg,Int.toNat_natCast];rfl
theorem gPow:Tryz.prog.globalNamed "internal/strconv.uint64pow10"=some 4:=by kernel_rfl
theorem tab_keep {w w':World} (h:Lib.TabIs Tryz.prog w "internal/strconv.uint64pow10" .u64 Lib.pow10Tab) (hb:Below w.heap.size w w'):Lib.TabIs Tryz.prog w' "internal/strconv.uint64pow10" .u64 Lib.pow10Tab:=by
 have hc:=h.cell gPow 0 (by decide)
 exact var?_below hb gPow (ar hc) h
def sSet:ByteArray:=⟨#[115,101,116,32]⟩
def sSp:ByteArray:=⟨#[32]⟩
def formB (c:Chg):Bool:=inB c.what 1 5&&(nameB c.f&&(inB c.num 1 1000000&&valB c.v))
def formS (c:Chg):ByteArray:=cat (cat (cat (cat (cat (cat (cat sSet c.f) sSp) (wordS c.what)) sSp) (decS c.num.toNat)) sSp) c.v
structure Smalls (c:Chg):Prop where
 s0:Small sSet
 s1:Small c.f
 s2:Small (cat sSet c.f)
 s3:Small sSp
 s4:Small (cat (cat sSet c.f) sSp)
 s5:Small (wordS c.what)
 s6:Small (cat (cat (cat sSet c.f) sSp) (wordS c.what))
 s7:Small (cat (cat (cat (cat sSet c.f) sSp) (wordS c.what)) sSp)
 s8:Small (decS c.num.toNat)
 s9:Small (cat (cat (cat (cat (cat sSet c.f) sSp) (wordS c.what)) sSp) (decS c.num.toNat))
 sA:Small (cat (cat (cat (cat (cat (cat sSet c.f) sSp) (wordS c.what)) sSp) (decS c.num.toNat)) sSp)
 sB:Small c.v
theorem word_le (k:Nat):(wordAt k).size≤5:=by
 match k with
 | 0 | 1 | 2 | 3 | 4=>decide
 | k+5=>exact Nat.zero_le _
theorem wordS_le (what:Int):(wordS what).size≤5:=by
 unfold wordS;split
 ·exact word_le _
 ·exact Nat.zero_le _
theorem Smalls.of (c:Chg) (hf:c.f.size≤1048576) (hv:c.v.size≤1048576) (hn:inB c.num 1 1000000=true):Smalls c:=by
 have h1:sSet.size=4:=rfl;have h2:sSp.size=1:=rfl;have h3:=wordS_le c.what
 have h4:=aP c.num.toNat (by simp [inB] at hn;omega)
 constructor <;> unfold Small <;> (try simp only [cat_size]) <;> omega
theorem planForm_any (c:Chg) (w:World) (hs:SaidIn w) (ht:Lib.TabIs Tryz.prog w "internal/strconv.uint64pow10" .u64 Lib.pow10Tab) (hf:c.f.size≤1048576) (hv:c.v.size≤1048576) :
  Calls Tryz.prog 38 #[.agg #[.string c.f,.int .i64 c.what,.int .i64 c.num,.string c.v]] w fun e w'=>e=.returned (.string (bif formB c then formS c else ⟨#[]⟩))∧Below w.heap.size w w':=by
 have hfm:c.f.size≤maxLen:=by unfold maxLen;omega
 have HS:Hid (SaidIn w):=hs;have HT:Hid (Lib.TabIs Tryz.prog w "internal/strconv.uint64pow10" .u64 Lib.pow10Tab):=ht;have HSM:Hid (inB c.num 1 1000000=true→Smalls c):=Smalls.of c hf hv;clear hs ht hf hv;obtain ⟨f,what,num,v⟩:=c;dsimp only at hfm ⊢
 cases hk:inB what 1 5
 ·have e:(bif formB ⟨f,what,num,v⟩ then formS ⟨f,what,num,v⟩ else ⟨#[]⟩)=⟨#[]⟩:=by simp [formB,hk]
  have HK:Hid (inB what 1 5=false):=hk;rw [e];clear e hk
  go_enter Tryz.func38,Tryz.ntmps38
  go_wp2_with fail;refine (wordOf_any _ _ (HS.out.keep (aO))).mono ?_;rw [HK.out];rintro e w1 ⟨rfl,hb1⟩;go_wp2;go_ret;exact ⟨rfl,aa (aO) hb1⟩
 have HK:Hid (inB what 1 5=true):=hk;clear hk
 cases hn:nameB f
 ·have e:(bif formB ⟨f,what,num,v⟩ then formS ⟨f,what,num,v⟩ else ⟨#[]⟩)=⟨#[]⟩:=by simp [formB,hn]
  have HN:Hid (nameB f=false):=hn;rw [e];clear e hn
  go_enter Tryz.func38,Tryz.ntmps38
  go_wp2_with fail;refine (wordOf_any _ _ (HS.out.keep (aO))).mono ?_;rw [HK.out];rintro e w1 ⟨rfl,hb1⟩
  have c0:w1.cell? ⟨w.heap.size,0,none⟩=some (.string f):=ag hb1 aH (by simp [go_sem])
  have hbw:=aa (aO) hb1;go_wp2_with fail;refine (b7 f _ hfm).mono ?_;rw [HN.out];rintro e w2 ⟨rfl,hb2⟩;go_wp2;go_ret;exact ⟨rfl,aa hbw hb2⟩
 have HN:Hid (nameB f=true):=hn;clear hn
 cases hu:inB num 1 1000000
 ·have e:(bif formB ⟨f,what,num,v⟩ then formS ⟨f,what,num,v⟩ else ⟨#[]⟩)=⟨#[]⟩:=by simp [formB,hu]
  have HU:Hid (inB num 1 1000000=false):=hu;rw [e];clear e hu
  go_enter Tryz.func38,Tryz.ntmps38
  go_wp2_with fail;refine (wordOf_any _ _ (HS.out.keep (aO))).mono ?_;rw [HK.out];rintro e w1 ⟨rfl,hb1⟩
  have c0:w1.cell? ⟨w.heap.size,0,none⟩=some (.string f):=ag hb1 aH (by simp [go_sem])
  have c2:w1.cell? ⟨w.heap.size,2,none⟩=some (.int .i64 num):=ag hb1 aH (by simp [go_sem])
  have hbw:=aa (aO) hb1;go_wp2_with fail;refine (b7 f _ hfm).mono ?_;rw [HN.out];rintro e w2 ⟨rfl,hb2⟩;have d0:=ag hb2 aH c0;have d2:=ag hb2 aH c2;go_wp2_with fail;refine (cJ _ _).mono ?_;rw [HU.out];rintro e w3 ⟨rfl,rfl⟩;go_wp2;go_ret;exact ⟨rfl,aa hbw hb2⟩
 have SM:=HSM.out hu;have HU:Hid (inB num 1 1000000=true):=hu
 have hn0:0≤num:=by simp [inB] at hu;omega
 have hn1:num≤9223372036854775807:=by simp [inB] at hu;omega
 clear hu
 cases hval:valB v
 ·have e:(bif formB ⟨f,what,num,v⟩ then formS ⟨f,what,num,v⟩ else ⟨#[]⟩)=⟨#[]⟩:=by simp [formB,hval]
  have HV:Hid (valB v=false):=hval;rw [e];clear e hval
  go_enter Tryz.func38,Tryz.ntmps38
  go_wp2_with fail;refine (wordOf_any _ _ (HS.out.keep (aO))).mono ?_;rw [HK.out];rintro e w1 ⟨rfl,hb1⟩
  have c0:w1.cell? ⟨w.heap.size,0,none⟩=some (.string f):=ag hb1 aH (by simp [go_sem])
  have c2:w1.cell? ⟨w.heap.size,2,none⟩=some (.int .i64 num):=ag hb1 aH (by simp [go_sem])
  have c3:w1.cell? ⟨w.heap.size,3,none⟩=some (.string v):=ag hb1 aH (by simp [go_sem])
  have hbw:=aa (aO) hb1;go_wp2_with fail;refine (b7 f _ hfm).mono ?_;rw [HN.out];rintro e w2 ⟨rfl,hb2⟩;have d0:=ag hb2 aH c0;have d2:=ag hb2 aH c2;have d3:=ag hb2 aH c3;go_wp2_with fail;refine (cJ _ _).mono ?_;rw [HU.out];rintro e w3 ⟨rfl,rfl⟩;go_wp2_with fail;refine (valueHasForm_any _ _).mono ?_;rw [HV.out];rintro e w3 ⟨rfl,rfl⟩;go_wp2;go_ret;exact ⟨rfl,aa hbw hb2⟩
 ·have e:(bif formB ⟨f,what,num,v⟩ then formS ⟨f,what,num,v⟩ else ⟨#[]⟩)=formS ⟨f,what,num,v⟩:=by simp [formB,hval,HK.out,HN.out,HU.out]
  have HV:Hid (valB v=true):=hval;rw [e];clear e hval;have hadd:=add_small Tryz.prog;obtain ⟨s0,s1,s2,s3,s4,s5,s6,s7,s8,s9,sA,sB⟩:=SM;dsimp only at s1 s2 s4 s5 s6 s7 s8 s9 sA sB;have HF:Hid (formS ⟨f,what,num,v⟩=cat (cat (cat (cat (cat (cat (cat sSet f) sSp) (wordS what)) sSp) (decS num.toNat)) sSp) v):=rfl
  go_enter Tryz.func38,Tryz.ntmps38
  go_wp2_with fail;refine (wordOf_any _ _ (HS.out.keep (aO))).mono ?_;rw [HK.out];rintro e w1 ⟨rfl,hb1⟩
  have c0:w1.cell? ⟨w.heap.size,0,none⟩=some (.string f):=ag hb1 aH (by simp [go_sem])
  have c2:w1.cell? ⟨w.heap.size,2,none⟩=some (.int .i64 num):=ag hb1 aH (by simp [go_sem])
  have c3:w1.cell? ⟨w.heap.size,3,none⟩=some (.string v):=ag hb1 aH (by simp [go_sem])
  have hbw:=aa (aO) hb1;go_wp2_with fail;refine (b7 f _ hfm).mono ?_;rw [HN.out];rintro e w2 ⟨rfl,hb2⟩;have d0:=ag hb2 aH c0;have d2:=ag hb2 aH c2;have d3:=ag hb2 aH c3;have hbl:w.heap.size<w2.heap.size:=ar d0;have HB2:Hid (Below w.heap.size w w2):=aa hbw hb2;clear c0 c2 c3 hb1 hb2 hbw;go_wp2_with fail;refine (cJ _ _).mono ?_;rw [HU.out];rintro e w3 ⟨rfl,rfl⟩;go_wp2_with fail;refine (valueHasForm_any _ _).mono ?_;rw [HV.out];rintro e w3 ⟨rfl,rfl⟩;go_wp2;have hne:=Later.some w3
  have GO:Hid (∀ x:Later w3,Calls Tryz.prog 71 #[.int .i64 num] x.val fun e w''=>e=.returned (.string (decS num.toNat))∧∃ y:Later w3,w''=y.val) :=
   fun x=>Calls.later (itoa_any num hn0 hn1 x.val (tab_keep HT.out (aa HB2.out x.below)))
  simp only [sSet,sSp] at s0 s2 s3 s4 s6 s7 s9 sA
  refine aq (by kernel_rfl) (by kernel_rfl) ?_
  repeat (go_big_quiet_step (exact GO.out _))
  refine wpQuiet_nil ?_;rintro _ ⟨x,rfl⟩;go_wp2;go_ret;exact ⟨rfl,aa HB2.out x.below⟩
end Go.Proofs.YtcmgddnckohdaaaGreatDoor
namespace Go.Proofs.YtcmgddnckohdaaaGreatDoor
open Go.RowKit
attribute [local go_sem] Later.cell Later.frozen
theorem wpOp_weaken {P:Program} {ops:Array Oper} {Q:Exit→Act→World→Prop} {i:Nat} {K K':Act→World→Prop} {a:Act} {w:World} (h:∀ a w,K a w→K' a w) (hh:wpOp P ops Q i K a w):wpOp P ops Q i K' a w:=by
 exact wpOp_mono h hh
theorem wpAnyH_more {P:Program} {md:Region.Mode} {ops:Array Oper} {Q:Exit→Act→World→Prop} {S T:World→Prop} (hT:∀ w,T w→S w):∀ (fuel:Nat) (listed:Array Bool) (a:Act) (w:World),wpAnyH P md ops Q T fuel listed a w→wpAnyH P md ops Q S fuel listed a w
 | 0,_,_,_,h=>h
 | fuel+1,_,_,_,h=>⟨h.1,fun i hi=>wpOp_weaken (fun a' w' hh=>⟨hT _ hh.1,wpAnyH_more hT fuel _ a' w' hh.2⟩) (h.2 i hi)⟩
theorem specForm_ok (c:Chg) (w:World) (hf:c.f.size≤1048576) (hv:c.v.size≤1048576) (hok:formB c=true) :
  Calls Tryz.prog 46 #[.agg #[.string c.f,.int .i64 c.what,.int .i64 c.num,.string c.v]] w fun e w'=>e=.returned (.string (formS c))∧Below w.heap.size w w':=by
 have hfm:c.f.size≤maxLen:=by unfold maxLen;omega
 have hvm:c.v.size≤maxLen:=by unfold maxLen;omega
 simp only [formB,Bool.and_eq_true] at hok
 obtain ⟨hk,hn,hu,hval⟩:=hok;have SM:=Smalls.of c hf hv hu;obtain ⟨f,what,num,v⟩:=c;dsimp only at hfm hvm hk hn hu hval;have HK:Hid (inB what 1 5=true):=hk;have HN:Hid (nameB f=true):=hn;have HU:Hid (inB num 1 1000000=true):=hu
 simp only [valB,Bool.and_eq_true,Bool.not_eq_true'] at hval
 obtain ⟨hv1,hv2⟩:=hval;have HV:Hid (oddB v=false):=hv2
 have hn0:0≤num:=by simp [inB] at hu;omega
 obtain ⟨m,rfl⟩:=Int.eq_ofNat_of_zero_le hn0
 have hm:m≤9999999:=by simp [inB] at hu;omega
 obtain ⟨q,rfl,hq⟩:∃ q:Nat,what=(q:Int)+1∧q<5:=⟨(what-1).toNat,by simp [inB] at hk;omega,by simp [inB] at hk;omega⟩
 clear hk hn hu hv2 hf hv;have hadd:=add_small Tryz.prog;obtain ⟨s0,s1,s2,s3,s4,s5,s6,s7,s8,s9,sA,sB⟩:=SM;dsimp only at s1 s2 s4 s5 s6 s7 s8 s9 sA sB
 have HF:Hid (formS ⟨f,(q:Int)+1,(m:Int),v⟩=cat (cat (cat (cat (cat (cat (cat sSet f) sSp) (wordAt q)) sSp) (decS m)) sSp) v):=by
  show formS _=_
  unfold formS;rw [wordS_at];rfl
 rw [HF.out];rw [wordS_at] at s5 s6 s7 s9 sA;rw [Int.toNat_natCast] at s8 s9 sA
 simp only [sSet,sSp] at s0 s2 s3 s4 s6 s7 s9 sA
 go_enter Tryz.func46,Tryz.ntmps46
 go_wp2_with fail;refine (bj f _ hfm).mono ?_;rw [HN.out];rintro e w1 ⟨rfl,rfl⟩;go_wp2_with fail;refine (bm _ _ _ _).mono ?_;rw [HU.out];rintro e w1 ⟨rfl,rfl⟩;go_wp2_with fail;refine (bm _ _ _ _).mono ?_;rw [HK.out];rintro e w1 ⟨rfl,rfl⟩;go_wp2_with fail;refine (l2Odd_any v _ hvm).mono ?_;rw [HV.out];rintro e w1 ⟨rfl,rfl⟩;go_wp2;generalize hW:w.alloc (.cells #[.string f,.int .i64 ((q:Int)+1),.int .i64 (m:Int),.string v] 76)=W
 have c0:W.cell? ⟨w.heap.size,0,none⟩=some (.string f):=by rw [← hW];simp [go_sem]
 have c1:W.cell? ⟨w.heap.size,1,none⟩=some (.int .i64 ((q:Int)+1)):=by rw [← hW];simp [go_sem]
 have c2:W.cell? ⟨w.heap.size,2,none⟩=some (.int .i64 (m:Int)):=by rw [← hW];simp [go_sem]
 have c3:W.cell? ⟨w.heap.size,3,none⟩=some (.string v):=by rw [← hW];simp [go_sem]
 have HW:Hid (Below w.heap.size w W):=by rw [← hW];exact (aO)
 clear hW;refine wp_region_noPanic ?_
 refine wp_region_held_drew (S:=fun w'=>w'.cell? ⟨w.heap.size,0,none⟩=some (.string f)∧w'.cell? ⟨w.heap.size,1,none⟩=some (.int .i64 ((q:Int)+1))∧w'.cell? ⟨w.heap.size,2,none⟩=some (.int .i64 (m:Int))∧w'.cell? ⟨w.heap.size,3,none⟩=some (.string v)) (by kernel_rfl) ?_ (fun hHeld=>?_)
 ·exact ⟨by simpa using c0,by simpa using c1,by simpa using c2,by simpa using c3⟩
 refine aJ 0 ?_ rfl ?_ (aJ 1 ?_ rfl ?_ (aJ 2 ?_ rfl ?_ (aJ 3 ?_ rfl ?_ (aJ 5 ?_ rfl ?_ (aJ 6 ?_ rfl ?_ (aJ 7 ?_ rfl ?_ (aJ 12 ?_ rfl ?_ (aJ 13 ?_ rfl ?_ (aJ 17 ?_ rfl ?_ (aJ 18 ?_ rfl ?_ ?_))))))))))
 iterate 11 (rotate_left;focus (intro w hSw;(try dsimp only at hSw);simp only [Act.put,aR];go_simp;try with_reducible rfl))
 simp only [Act.put,aR]
 refine bh 4 rfl (fun K hK=>?_);go_simp;refine (l2Words_any _).mono ?_;rintro e w1 ⟨rfl,hw1⟩;obtain ⟨a0,a1,a2,a3⟩:=hHeld
 have hb1:Below W.drew.heap.size W.drew w1:=by rw [hw1];exact (aO)
 have t0:w1.cell? ⟨W.heap.size,q,none⟩=some (.string (wordAt q)):=by
  rw [hw1]
  have h5:q=0∨q=1∨q=2∨q=3∨q=4:=by omega
  rcases h5 with rfl | rfl | rfl | rfl | rfl <;> simp [go_sem,wordAt]
 clear hw1
 have hS1:w1.cell? ⟨w.heap.size,0,none⟩=some (.string f)∧w1.cell? ⟨w.heap.size,1,none⟩=some (.int .i64 ((q:Int)+1))∧w1.cell? ⟨w.heap.size,2,none⟩=some (.int .i64 (m:Int))∧w1.cell? ⟨w.heap.size,3,none⟩=some (.string v) :=
  ⟨ag hb1 aH a0,ag hb1 aH a1,ag hb1 aH a2,ag hb1 aH a3⟩
 refine hK.out _ _ hS1 (fun _=>?_);refine wpAnyH_more (T:=fun w'=>(w'.cell? ⟨w.heap.size,0,none⟩=some (.string f)∧w'.cell? ⟨w.heap.size,1,none⟩=some (.int .i64 ((q:Int)+1))∧w'.cell? ⟨w.heap.size,2,none⟩=some (.int .i64 (m:Int))∧w'.cell? ⟨w.heap.size,3,none⟩=some (.string v))∧w'.cell? ⟨W.heap.size,q,none⟩=some (.string (wordAt q))) (fun _ h=>h.1) _ _ _ _ ?_;have hHeld1:=And.intro hS1 t0;clear hK K;have HB1:Hid (Below w.heap.size w w1):=aa HW.out.drew hb1
 have hq0:(0:Int)≤(q:Int):=by omega
 have hq1:(q:Int)<5:=by omega
 have hwq:IntKind.i64.wrap (q:Int)=(q:Int):=by rw [IntKind.wrap_i64];omega
 refine aJ 8 ?_ rfl ?_ (aJ 9 ?_ rfl ?_ (aJ 10 ?_ rfl ?_ (aJ 11 ?_ rfl ?_ ?_)))
 iterate 4 (rotate_left;focus (intro w hSw;(try dsimp only at hSw);simp only [Act.put,aR];go_simp;try with_reducible rfl))
 simp only [Act.put,aR]
 refine bh 14 rfl (fun K hK=>?_);go_simp;refine (bq m hm _).mono ?_;rintro e w2 ⟨rfl,hb2⟩;refine hK.out _ _ ⟨⟨ag hb2 aH hS1.1,ag hb2 aH hS1.2.1,ag hb2 aH hS1.2.2.1,ag hb2 aH hS1.2.2.2⟩,ag hb2 aH t0⟩ (fun hHeld2=>?_);clear hK K;refine aJ 15 ?_ rfl ?_ (aJ 16 ?_ rfl ?_ (aJ 19 ?_ rfl ?_ (aJ 20 ?_ rfl ?_ ?_)))
 iterate 4 (rotate_left;focus (intro w hSw;(try dsimp only at hSw);simp only [Act.put,aR];go_simp;try with_reducible rfl))
 simp only [Act.put,aR]
 refine wpAnyH_done (by kernel_rfl) ?_ _
 refine NoPanic.normal ?_;go_wp2;go_ret;exact ⟨rfl,aa HB1.out hb2⟩
end Go.Proofs.YtcmgddnckohdaaaGreatDoor
namespace Go.Proofs.YtcmgddnckohdaaaGreatDoor
open Go.RowKit
theorem specForm_no (c:Chg) (w:World) (hf:c.f.size≤1048576) (hv:c.v.size≤1048576) (hok:formB c=false) :
  Calls Tryz.prog 46 #[.agg #[.string c.f,.int .i64 c.what,.int .i64 c.num,.string c.v]] w fun e w'=>e=.returned (.string ⟨#[]⟩)∧Below w.heap.size w w':=by
 have hfm:c.f.size≤maxLen:=by unfold maxLen;omega
 have hvm:c.v.size≤maxLen:=by unfold maxLen;omega
 obtain ⟨f,what,num,v⟩:=c;dsimp only at hfm hvm
 simp only [formB] at hok
 clear hf hv
 cases hn:nameB f
 ·have HN:Hid (nameB f=false):=hn
  clear hn hok
  go_enter Tryz.func46,Tryz.ntmps46
  go_wp2_with fail;refine (bj f _ hfm).mono ?_;rw [HN.out];rintro e w1 ⟨rfl,rfl⟩;go_wp2;go_ret;exact ⟨rfl,(aO)⟩
 have HN:Hid (nameB f=true):=hn;rw [hn] at hok;clear hn
 cases hu:inB num 1 1000000
 ·have HU:Hid (inB num 1 1000000=false):=hu
  clear hu hok
  go_enter Tryz.func46,Tryz.ntmps46
  go_wp2_with fail;refine (bj f _ hfm).mono ?_;rw [HN.out];rintro e w1 ⟨rfl,rfl⟩;go_wp2_with fail;refine (bm _ _ _ _).mono ?_;rw [HU.out];rintro e w1 ⟨rfl,rfl⟩;go_wp2;go_ret;exact ⟨rfl,(aO)⟩
 have HU:Hid (inB num 1 1000000=true):=hu;rw [hu] at hok;clear hu
 cases hk:inB what 1 5
 ·have HK:Hid (inB what 1 5=false):=hk
  clear hk hok
  go_enter Tryz.func46,Tryz.ntmps46
  go_wp2_with fail;refine (bj f _ hfm).mono ?_;rw [HN.out];rintro e w1 ⟨rfl,rfl⟩;go_wp2_with fail;refine (bm _ _ _ _).mono ?_;rw [HU.out];rintro e w1 ⟨rfl,rfl⟩;go_wp2_with fail;refine (bm _ _ _ _).mono ?_;rw [HK.out];rintro e w1 ⟨rfl,rfl⟩;go_wp2;go_ret;exact ⟨rfl,(aO)⟩
 have HK:Hid (inB what 1 5=true):=hk;rw [hk] at hok;clear hk
 have hval:valB v=false:=by simpa using hok
 clear hok
 cases hv1:v.toList.isEmpty
 ·have hv2:oddB v=true:=by simpa [valB,hv1] using hval
  have HV:Hid (oddB v=true):=hv2;clear hv2 hval
  go_enter Tryz.func46,Tryz.ntmps46
  go_wp2_with fail;refine (bj f _ hfm).mono ?_;rw [HN.out];rintro e w1 ⟨rfl,rfl⟩;go_wp2_with fail;refine (bm _ _ _ _).mono ?_;rw [HU.out];rintro e w1 ⟨rfl,rfl⟩;go_wp2_with fail;refine (bm _ _ _ _).mono ?_;rw [HK.out];rintro e w1 ⟨rfl,rfl⟩;go_wp2_with fail;refine (l2Odd_any v _ hvm).mono ?_;rw [HV.out];rintro e w1 ⟨rfl,rfl⟩;go_wp2;go_ret;exact ⟨rfl,(aO)⟩
 ·clear hval
  go_enter Tryz.func46,Tryz.ntmps46
  go_wp2_with fail;refine (bj f _ hfm).mono ?_;rw [HN.out];rintro e w1 ⟨rfl,rfl⟩;go_wp2_with fail;refine (bm _ _ _ _).mono ?_;rw [HU.out];rintro e w1 ⟨rfl,rfl⟩;go_wp2_with fail;refine (bm _ _ _ _).mono ?_;rw [HK.out];rintro e w1 ⟨rfl,rfl⟩;go_wp2;go_ret;exact ⟨rfl,(aO)⟩
def theForm (c:Chg):ByteArray:=bif formB c then formS c else ⟨#[]⟩
theorem specForm_any (c:Chg) (w:World) (hf:c.f.size≤1048576) (hv:c.v.size≤1048576) :
  Calls Tryz.prog 46 #[.agg #[.string c.f,.int .i64 c.what,.int .i64 c.num,.string c.v]] w fun e w'=>e=.returned (.string (theForm c))∧Below w.heap.size w w':=by
 unfold theForm
 cases h:formB c
 ·exact specForm_no c w hf hv h
 ·exact specForm_ok c w hf hv h
open Go.RowKit
def NoSp (l:List UInt8):Prop:=∀ c∈l,c≠32
theorem first_sp:∀ l:List UInt8,NoSp l ∨ ∃ a r,l=a++32::r∧NoSp a
 | []=>.inl (fun c hc=>by cases hc)
 | c::l=>by
  by_cases h:c=32
  ·exact .inr ⟨[],l,by simp [h],fun c hc=>by cases hc⟩
  ·rcases first_sp l with hl | ⟨a,r,rfl,ha⟩
   ·exact .inl (fun x hx=>(List.mem_cons.1 hx).elim (fun e=>by rw [e];exact h) (hl x))
   ·exact .inr ⟨c::a,r,rfl,fun x hx=>(List.mem_cons.1 hx).elim (fun e=>by rw [e];exact h) (ha x)⟩
theorem sp_inj:∀ {a b r t:List UInt8},NoSp a→NoSp b→a++32::r=b++32::t→a=b∧r=t
 | [],[],r,t,_,_,h=>by simpa using h
 | [],c::b,r,t,_,hb,h=>by
  simp at h
  exact absurd h.1.symm (hb c (by simp))
 | c::a,[],r,t,ha,_,h=>by
  simp at h
  exact absurd h.1 (ha c (by simp))
 | c::a,d::b,r,t,ha,hb,h=>by
  simp at h
  obtain ⟨rfl,h⟩:=h
  obtain ⟨rfl,rfl⟩:=sp_inj (fun x hx=>ha x (by simp [hx])) (fun x hx=>hb x (by simp [hx])) h
  exact ⟨rfl,rfl⟩
theorem cut_none:∀ (l cur:List UInt8),NoSp l→cutA cur l=[cur++l]
 | [],cur,_=>by simp [cutA]
 | c::l,cur,h=>by
  rw [cutA,if_neg (h c (by simp)),cut_none l _ (fun x hx=>h x (by simp [hx]))]
  simp
theorem bu:∀ (a cur r:List UInt8),NoSp a→cutA cur (a++32::r)=(cur++a)::cutA [] r
 | [],cur,r,_=>by simp [cutA]
 | c::a,cur,r,h=>by
  rw [List.cons_append,cutA,if_neg (h c (by simp)),bu a _ r (fun x hx=>h x (by simp [hx]))]
  simp
theorem cut_pos:∀ (l cur:List UInt8),1≤(cutA cur l).length
 | [],_=>by simp [cutA]
 | c::l,cur=>by
  rw [cutA]
  split
  ·simp
  ·exact cut_pos l _
theorem five (l:List UInt8):(cutA [] l).length<5 ∨ ∃ a0 a1 a2 a3 r,l=a0++32::(a1++32::(a2++32::(a3++32::r)))∧NoSp a0∧NoSp a1∧NoSp a2∧NoSp a3:=by
 rcases first_sp l with h | ⟨a0,r0,rfl,h0⟩
 ·left;rw [cut_none _ _ h];simp
 rcases first_sp r0 with h | ⟨a1,r1,rfl,h1⟩
 ·left;rw [bu _ _ _ h0,cut_none _ _ h];simp
 rcases first_sp r1 with h | ⟨a2,r2,rfl,h2⟩
 ·left;rw [bu _ _ _ h0,bu _ _ _ h1,cut_none _ _ h];simp
 rcases first_sp r2 with h | ⟨a3,r3,rfl,h3⟩
 ·left;rw [bu _ _ _ h0,bu _ _ _ h1,bu _ _ _ h2,cut_none _ _ h];simp
 exact .inr ⟨a0,a1,a2,a3,r3,rfl,h0,h1,h2,h3⟩
def mkS (l:List UInt8):ByteArray:=⟨l.toArray⟩
theorem bK (l:List UInt8):bytes (mkS l)=l:=rfl
theorem bV (s:ByteArray):mkS (bytes s)=s:=br (bK _)
theorem b9 (l:List UInt8):(mkS l).size=l.length:=by rw [← aK];rfl
theorem idx_none:∀ l:List UInt8,NoSp l→Lib.indexByte l 32=-1
 | [],_=>rfl
 | c::l,h=>by
  have hc:(c==32)=false:=by simpa using h c (by simp)
  rw [Lib.indexByte,hc,idx_none l (fun x hx=>h x (by simp [hx]))]
  rfl
theorem idx_some:∀ (a r:List UInt8),NoSp a→Lib.indexByte (a++32::r) 32=a.length
 | [],r,_=>by simp [Lib.indexByte]
 | c::a,r,h=>by
  have hc:(c==32)=false:=by simpa using h c (by simp)
  have ih:=idx_some a r (fun x hx=>h x (by simp [hx]))
  rw [List.cons_append,Lib.indexByte,hc,ih]
  have:((a.length:Int)==-1)=false:=by simp
  simp [this]
def spS:ByteArray:=⟨#[32]⟩
theorem indexB_eq (s:ByteArray):Lib.indexB s spS=Lib.indexByte (bytes s) 32:=Lib.index_one _ _
theorem split_none (k:Nat) (s:ByteArray) (h:NoSp (bytes s)):Lib.splitB spS 0 k s=[s] :=
 Lib.splitB_miss spS 0 k s (by rw [indexB_eq,idx_none _ h])
theorem split_some (k:Nat) (s:ByteArray) (a r:List UInt8) (hs:bytes s=a++32::r) (h:NoSp a):Lib.splitB spS 0 (k+1) s=mkS a::Lib.splitB spS 0 k (mkS r):=by
 have hz:s.size=a.length+(r.length+1):=by rw [← aK,hs];simp
 rw [Lib.splitB_hit spS 0 k s a.length (by rw [indexB_eq,hs,idx_some _ _ h])]
 have e1:s.extract 0 (a.length+0)=mkS a:=br (by rw [bv,hs,bK];simp)
 have e2:s.extract (a.length+spS.size) s.size=mkS r:=br (by
  have:spS.size=1:=rfl;rw [bv,hs,bK,this,hz]
  simp only [List.drop_append,List.drop_succ_cons,show a.length+1-a.length=1 by omega,List.drop_zero]
  rw [List.drop_of_length_le (by omega),List.nil_append,List.take_of_length_le (by omega)])
 rw [e1,e2]
theorem split_le:∀ (k:Nat) (s:ByteArray),(Lib.splitB spS 0 k s).length≤(cutA [] (bytes s)).length
 | 0,s=>cut_pos _ _
 | k+1,s=>by
  rcases first_sp (bytes s) with h | ⟨a,r,hs,h⟩
  ·rw [split_none _ _ h];exact cut_pos _ _
  ·rw [split_some k s a r hs h,hs,bu _ _ _ h]
   have:=split_le k (mkS r);rw [bK] at this
   simpa using this
theorem split_five (s:ByteArray) {a0 a1 a2 a3 r:List UInt8} (hs:bytes s=a0++32::(a1++32::(a2++32::(a3++32::r)))) (h0:NoSp a0) (h1:NoSp a1) (h2:NoSp a2) (h3:NoSp a3) :
  Lib.splitB spS 0 (min 5 (s.size+1)-1) s=[mkS a0,mkS a1,mkS a2,mkS a3,mkS r]:=by
 have hz:4≤s.size:=by rw [← aK,hs];simp;omega
 rw [show min 5 (s.size+1)-1=4 by omega]
 rw [split_some 3 s _ _ hs h0,split_some 2 _ _ _ (bK _) h1,split_some 1 _ _ _ (bK _) h2,split_some 0 _ _ _ (bK _) h3]
 rfl
def whatI (b:ByteArray):Int:=if b=wKind then 1 else if b=wTime then 2 else if b=wLevel then 3 else if b=wRoute then 4 else if b=wState then 5 else 0
open Go.RowKit
theorem what_cases (b:ByteArray):(whatI b=0∧b≠wKind∧b≠wTime∧b≠wLevel∧b≠wRoute∧b≠wState)∨(whatI b=1∧b=wKind)∨(whatI b=2∧b=wTime)∨(whatI b=3∧b=wLevel)∨(whatI b=4∧b=wRoute)∨(whatI b=5∧b=wState):=by
 unfold whatI
 split
 ·exact .inr (.inl ⟨rfl,by assumption⟩)
 split
 ·exact .inr (.inr (.inl ⟨rfl,by assumption⟩))
 split
 ·exact .inr (.inr (.inr (.inl ⟨rfl,by assumption⟩)))
 split
 ·exact .inr (.inr (.inr (.inr (.inl ⟨rfl,by assumption⟩))))
 split
 ·exact .inr (.inr (.inr (.inr (.inr ⟨rfl,by assumption⟩))))
 ·exact .inl ⟨rfl,by assumption,by assumption,by assumption,by assumption,by assumption⟩
theorem what_word {b:ByteArray} (h:inB (whatI b) 1 5=true):wordS (whatI b)=b:=by
 rcases what_cases b with ⟨e,_⟩ | ⟨e,rfl⟩ | ⟨e,rfl⟩ | ⟨e,rfl⟩ | ⟨e,rfl⟩ | ⟨e,rfl⟩
 ·rw [e] at h;cases h
 all_goals (rw [e];rfl)
theorem dec_step (m d:Nat) (hm:1≤m) (hd:d<10):Lib.decDigits (m*10+d)=Lib.decDigits m++[UInt8.ofNat (48+d)]:=by
 rw [Lib.decDigits,dif_neg (by omega),show (m*10+d) / 10=m by omega,show (m*10+d) % 10=d by omega]
theorem u8_back (c:UInt8) (h:48≤c.toNat):UInt8.ofNat (48+(c.toNat-48))=c:=by
 rw [show 48+(c.toNat-48)=c.toNat by omega]
 exact UInt8.ofNat_toNat
theorem take_one (s:ByteArray) (k:Nat) (h:k<s.size):(bytes s).take (k+1)=(bytes s).take k++[s[k]]:=by
 have hl:k<(bytes s).length:=by rw [aK];exact h
 rw [List.take_succ_eq_append_getElem hl]
 rfl
theorem dec_num_to {s:ByteArray} (hd:∀ j (hj:j<s.size),digB (s[j].toNat)=true) (hl:1<s.size→∀ h0:0<s.size,s[0].toNat≠48):∀ k,k+1≤s.size→Lib.decDigits (numTo s (k+1))=(bytes s).take (k+1)∧(1<s.size→1≤numTo s (k+1))
 | 0,h=>by
  have hb:=digB_iff.1 (hd 0 (by omega))
  rw [numTo,numTo,cd (by omega:0<s.size),take_one s 0 (by omega)]
  constructor
  ·rw [Lib.decDigits_one (by omega),show 48+(0*10+(s[0].toNat-48))=48+(s[0].toNat-48) by omega,u8_back _ (by omega)]
   rfl
  ·intro h1
   have:=hl h1 (by omega)
   omega
 | k+1,h=>by
  obtain ⟨ih,ih1⟩:=dec_num_to hd hl k (by omega)
  have hb:=digB_iff.1 (hd (k+1) (by omega))
  rw [numTo,cd (by omega:k+1<s.size),take_one s (k+1) (by omega)]
  have h1:=ih1 (by omega)
  refine ⟨?_,fun _=>by omega⟩
  rw [dec_step _ _ h1 (by omega),ih,u8_back _ (by omega)]
theorem digits_at {s:ByteArray} (h:digitsB s=true):∀ j (hj:j<s.size),digB (s[j].toNat)=true:=by
 intro j hj;unfold digitsB at h;rw [List.all_eq_true] at h
 exact h s[j] (by simp [ByteArray.getElem_eq_getElem_data])
theorem dec_num {s:ByteArray} (h:decB s=true):decS (numTo s s.size)=s:=by
 simp only [decB,Bool.and_eq_true,Bool.not_eq_true'] at h
 obtain ⟨hin,hl,hd⟩:=h
 have hz:0<s.size:=by simp [inB] at hin;omega
 have h1:=(dec_num_to (digits_at hd) (fun h1 h0 e=>by
  have:leadB s=true:=by
   simp only [leadB,Bool.and_eq_true,cd h0]
   exact ⟨by simpa using h1,by simpa using e⟩
  rw [this] at hl;cases hl) (s.size-1) (by omega)).1
 rw [show s.size-1+1=s.size by omega] at h1
 apply br
 show Lib.decDigits (numTo s s.size)=bytes s
 rw [h1,List.take_of_length_le (by rw [aK];omega)]
def numR (b:ByteArray):Int:=bif decB b then (numTo b b.size:Int) else -1
theorem numR_dec {b:ByteArray} (h:inB (numR b) 1 1000000=true):decB b=true:=by
 unfold numR at h
 cases hd:decB b
 ·rw [hd] at h;cases h
 ·rfl
theorem numR_text {b:ByteArray} (h:inB (numR b) 1 1000000=true):decS (numR b).toNat=b:=by
 have hd:=numR_dec h;unfold numR;rw [hd];exact dec_num hd
def setL:List UInt8:=[115,101,116]
theorem bytes_cat (a b:ByteArray):bytes (cat a b)=bytes a++bytes b:=by simp [bytes,cat,ByteArray.data_append]
theorem cw (c:Chg):bytes (formS c)=setL++32::(bytes c.f++32::(bytes (wordS c.what)++32::(bytes (decS c.num.toNat)++32::bytes c.v))):=by
 unfold formS
 simp only [bytes_cat]
 have h1:bytes sSet=[115,101,116,32]:=rfl;have h2:bytes sSp=[32]:=rfl;rw [h1,h2]
 simp [setL]
def okR (a0 a1 a2 a3 r:List UInt8):Bool:=decide (a0=setL)&&formB ⟨mkS a1,whatI (mkS a2),numR (mkS a3),mkS r⟩
theorem form_iff {s:ByteArray} {a0 a1 a2 a3 r:List UInt8} (hs:bytes s=a0++32::(a1++32::(a2++32::(a3++32::r)))) (h0:NoSp a0) :
  (theForm ⟨mkS a1,whatI (mkS a2),numR (mkS a3),mkS r⟩=s) ↔ okR a0 a1 a2 a3 r=true:=by
 unfold okR theForm
 cases hf:formB ⟨mkS a1,whatI (mkS a2),numR (mkS a3),mkS r⟩
 ·simp only [cond_false,Bool.and_false]
  refine ⟨fun h=>?_,fun h=>by cases h⟩
  have:=congrArg bytes h;rw [hs] at this
  simp [bytes] at this
 ·simp only [cond_true,Bool.and_true,decide_eq_true_eq]
  have hparts:=hf
  simp only [formB,Bool.and_eq_true] at hparts
  obtain ⟨hk,_,hn,_⟩:=hparts;have e1:=what_word hk;have e2:=numR_text hn
  constructor
  ·intro h
   have hb:=congrArg bytes h;rw [cw,hs] at hb
   exact (sp_inj (by intro c hc;simp [setL] at hc;rcases hc with rfl | rfl | rfl <;> decide) h0 hb).1.symm
  ·intro h
   apply br
   rw [cw,hs,h]
   simp only [e1,e2,bK]
open Go.RowKit
theorem strR_eq {a b:ByteArray} (h:a=b):(a.toList==b.toList)=true:=by subst h;simp
theorem strR_ne {a b:ByteArray} (h:¬ a=b):(a.toList==b.toList)=false:=by
 rw [ByteArray.toList_eq,ByteArray.toList_eq]
 simp only [beq_eq_false_iff_ne,ne_eq]
 exact fun e=>h (br e)
theorem what_at {b:ByteArray} {k:Nat} (hk:k<5) (h:wordAt k=b):whatI b=(k:Int)+1:=by
 subst h
 have:k=0∨k=1∨k=2∨k=3∨k=4:=by omega
 rcases this with rfl | rfl | rfl | rfl | rfl <;> decide
theorem what_none {b:ByteArray} (h:∀ k:Nat,k<5→¬ wordAt k=b):whatI b=0:=by
 have h0:=h 0 (by omega);have h1:=h 1 (by omega);have h2:=h 2 (by omega);have h3:=h 3 (by omega);have h4:=h 4 (by omega)
 rcases what_cases b with ⟨e,_⟩ | ⟨e,rfl⟩ | ⟨e,rfl⟩ | ⟨e,rfl⟩ | ⟨e,rfl⟩ | ⟨e,rfl⟩
 ·exact e
 ·exact absurd rfl h0
 ·exact absurd rfl h1
 ·exact absurd rfl h2
 ·exact absurd rfl h3
 ·exact absurd rfl h4
theorem whatOf_any (b:ByteArray) (w:World) (hs:SaidIn w) :
  Calls Tryz.prog 215 #[.string b] w fun e w'=>e=.returned (.tuple #[.int .i64 (whatI b),.bool (inB (whatI b) 1 5)])∧Below w.heap.size w w':=by
 obtain ⟨tt,fr,hg⟩:=hs
 go_enter Tryz.func215,Tryz.ntmps215
 go_wp2_with (refine wpList_load_row rfl 182 _ rfl 2 rfl tt saidC fr _ hg Tryz.underlying182 rfl (by kernel_rfl) ?_)
 go_loopw [5,7] (fun _ i wr=>∃ k:Nat,k≤5∧i=.int .i64 k∧Below w.heap.size w wr∧Hid (∀ j:Nat,j<k→¬ wordAt j=b)) (fun _ i _=>5-(intOf i).toNat)
 case atStart=>exact ⟨0,Nat.zero_le _,rfl,Below.refl _ _,fun j hj=>absurd hj (Nat.not_lt_zero _)⟩
 case round =>
  obtain ⟨k,hk,rfl,hb,HA⟩:=hrel
  by_cases hlt:k<5
  ·have hi:=idx k hlt
   have hk5:(k:Int)<5:=by omega
   by_cases hw:wordAt k=b
   ·have h1:((wordAt k).toList==b.toList)=true:=strR_eq hw
    have HW:Hid (wordAt k=b):=hw;clear hw;go_wp2
    go_ret2
    have e2:whatI b=(k:Int)+1:=what_at hlt HW.out
    have e1:inB ((k:Int)+1) 1 5=true:=by simp [inB];omega
    rw [e2,e1];exact ⟨rfl,hb.alloc hb.size _⟩
   ·have h1:((wordAt k).toList==b.toList)=false:=strR_ne hw
    have HW:Hid (¬ wordAt k=b):=hw;clear hw;go_wp2
    exact ⟨⟨k+1,by omega,by go_num,hb.alloc hb.size _,fun j hj=>if e:j=k then by rw [e];exact HW.out else HA.out j (by omega)⟩,by simp [intOf];omega⟩
  ·have hk5:¬ (k:Int)<5:=by omega
   have H1:Hid (whatI b=0):=what_none fun j hj=>HA.out j (by omega)
   go_wp2
   go_ret2
   rw [H1.out];exact ⟨rfl,hb⟩
theorem cloneR_any (s:ByteArray) (w:World) (hs:s.size≤1048576) :
  Calls Tryz.prog 209 #[.string s] w fun e w'=>e=.returned (.string s)∧Below w.heap.size w w':=by
 go_enter Tryz.func209,Tryz.ntmps209
 go_wp2_with fail
 refine (Tryz.stringslite_Clone s _ (by omega)).mono ?_
 rintro e w' ⟨rfl,hb⟩;go_wp2;go_ret;exact ⟨rfl,hb⟩
end Go.Proofs.YtcmgddnckohdaaaGreatDoor
