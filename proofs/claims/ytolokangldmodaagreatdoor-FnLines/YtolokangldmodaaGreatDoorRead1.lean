import Derived.Test.YtolokangldmodaaGreatDoorForm1
import Derived.Deep.RegionHeld3
import Derived.Test.YtolokangldmodaaGreatDoorTkH
set_option maxRecDepth 100000
set_option maxHeartbeats 1600000
set_option linter.unusedSimpArgs false
open Go.Value renaming int->J,string->I,agg->AE
open Option renaming none->AD,some->U
open Go.IntKind renaming i64->R,wrap_i64->AM
open Bool renaming and_eq_true->AL,not_eq_true'->AJ
open Go Go.Proofs.YtolokangldmodaaGreatDoor
variable {a b s:ByteArray} {n:Nat} {w w':World} {P:Program} {ops:Array Oper} {Q:Exit->Act->World->Prop} {a0 a1 a2 a3 r:List UInt8}
open Go.Proofs.Tryz
namespace Go.Proofs.YtolokangldmodaaGreatDoor
open Go.RowKit
theorem cn(h:a=b):Ending.returned (I a)=.returned (I b):=by rw[h]
def dL(n:Nat):ByteArray:=⟨(Lib.decDigits n).toArray⟩
def rT(n:Int):ByteArray:=⟨#[UInt8.ofNat n.toNat]⟩
theorem yo(n:Int):(rT n).size=1:=rfl
theorem yO(h:n<10):dL n=rT (48+(n:Int)):=by
 unfold dL rT
 rw[Lib.decDigits_one h,show((48:Int)+n).toNat=48+n by omega]
theorem Iq(h:¬n<10):dL n=dL (n / 10)++rT (48+(n:Int) % 10):=by
 unfold dL rT
 rw[Lib.decDigits,dif_neg h,show((48:Int)+(n:Int) % 10).toNat=48+n % 10 by omega]
 apply ByteArray.ext
 simp[ByteArray.data_append]
theorem nE:∀(k n:Nat),n<10 ^ (k+1)->Lib.nDigits n<=k+1
 |0,n,h=>by rw[Lib.nDigits_small (by simpa using h)];omega
 |k+1,n,h=>by
  by_cases hs:n<10
  .rw [Lib.nDigits_small hs];omega
  .rw [Lib.nDigits_big hs]
   have:=nE k (n / 10) (by rw[Nat.pow_succ] at h;omega)
   omega
theorem aR(n:Nat)(h:n<10000000):(dL n).size<=7:=by
 have h1:=nE 6 n (by omega)
 show(Lib.decDigits n).toArray.size<=7
 rw[List.size_toArray,Lib.decDigits_length];exact h1
theorem Ll(w:World)(b:Nat)(n:Int)(h:w.cell? ⟨b,0,AD⟩=U (.int .u8 n)) :
 (convert 22 9 (.slice (U ⟨b,0,AD⟩) 1 1)).run prog w=.ok (I (rT n)) w:=by
 have:=run_convert_bytes_arg (P:=prog) w 22 5 underlying22 underlying5 b 0 1 1 [n] rfl (λi hi=>by
  obtain rfl:i=0:=by omega
  simpa using h) 9 underlying9
 simpa[strOfNums,rT] using this
theorem rX(n:Nat)(h:n<10)(w:World) :
 Rb 25 #[J R n] w (I (dL n)):=by
 rw[yO h]
 have h1:(n:Int)<10:=by omega
 have kc:=Ll
 go_enter func25,ntmps25
 go_wp2;go_ret;exact⟨rfl,(aG)⟩
theorem uZ(n:Nat)(h:¬n<10)(hn:n<=9999999)(ih:∀w,Rb 25 #[J R ((n:Int) / 10)] w (I (dL (n / 10))))(w:World) :
 Rb 25 #[J R n] w (I (dL n)):=by
 rw[Iq h]
 have h1:¬(n:Int)<10:=by omega
 have kc:=Ll;have IH:Hid (∀w,Rb 25 #[J R ((n:Int) / 10)] w (I (dL (n / 10)))):=ih;clear ih
 have aT:¬9223372036854775807<(dL (n / 10)).size+(rT (48+(n:Int) % 10)).size:=by
  have:=aR (n / 10) (by omega)
  rw[yo];omega
 generalize dL (n / 10)=ds at IH aT
 have au:IntKind.i64.wrap ((n:Int) / 10)=(n:Int) / 10:=by rw[AM];omega
 have hw3:IntKind.i64.wrap (48+(n:Int).tmod 10)=48+(n:Int) % 10:=by rw[Int.tmod_eq_emod_of_nonneg (by omega),AM];omega
 have hw4:IntKind.u8.wrap (48+(n:Int) % 10)=48+(n:Int) % 10:=by rw[IntKind.wrap_u8];omega
 go_enter func25,ntmps25
 go_wp2
 go_region_with (go_at_call 25;refine(IH.out _).mono ?_;rintro e w1⟨rfl,ad⟩;have hc1:=λb o h=>ad.cell (p:=⟨b,o,AD⟩) h)
 all_goals go_wp2
 all_goals go_ret
 all_goals first|exact⟨rfl,(aa (Below.refl _ _).drew ad).alloc (aa (Below.refl w.heap.size w).drew ad).size _⟩|exact⟨rfl,aa (aG).drew ad⟩
theorem bE:∀(n:Nat),n<=9999999->∀w,Rb 25 #[J R n] w (I (dL n)):=by
 intro n
 induction n using Nat.strongRecOn with
 |ind n ih =>
  intro hn w
  by_cases h:n<10
  .exact rX n h w
  .refine uZ n h hn (λw=>?_) w
   have:=ih (n / 10) (by omega) (by omega) w
   simpa using this
open Go.RowKit
def ik:ByteArray:=⟨#[107,105,110,100]⟩
def oQ:ByteArray:=⟨#[116,105,109,101]⟩
def lF:ByteArray:=⟨#[108,101,118,101,108]⟩
def lD:ByteArray:=⟨#[114,111,117,116,101]⟩
def lC:ByteArray:=⟨#[115,116,97,116,101]⟩
def iA:Nat->ByteArray
 |0=>ik
 |1=>oQ
 |2=>lF
 |3=>lD
 |4=>lC
 |_=>⟨#[]⟩
def kN(what:Int):ByteArray:=if 1<=what then iA (what-1).toNat else⟨#[]⟩
theorem Jf(k:Nat):kN ((k:Int)+1)=iA k:=by
 unfold kN
 rw[if_pos (by omega),show((k:Int)+1-1).toNat=k by omega]
def uD:Array Value:=#[J R 1,I ik,J R 2,I oQ,J R 3,I lF,J R 4,I lD,J R 5,I lC]
def jh(w:World):Prop:=∃t fr,w.heap[6]?=U (.cells uD t fr)
theorem jh.lt(h:jh w):6<w.heap.size:=by
 obtain⟨t,fr,h⟩:=h;exact(Array.getElem?_eq_some_iff.1 h).1
theorem jh.keep(h:jh w)(hb:Bw w w'):jh w':=by
 have hl:=h.lt;obtain⟨t,fr,h⟩:=h
 exact⟨t,fr,by rw[hb.block _ hl];exact h⟩
theorem idx0(w:World):(Instr.index 292 (AE uD) (J R 0)).run prog w=.ok (AE #[J R 1,I ik]) w:=by kernel_rfl
theorem idx1(w:World):(Instr.index 292 (AE uD) (J R 1)).run prog w=.ok (AE #[J R 2,I oQ]) w:=by kernel_rfl
theorem idx2(w:World):(Instr.index 292 (AE uD) (J R 2)).run prog w=.ok (AE #[J R 3,I lF]) w:=by kernel_rfl
theorem idx3(w:World):(Instr.index 292 (AE uD) (J R 3)).run prog w=.ok (AE #[J R 4,I lD]) w:=by kernel_rfl
theorem idx4(w:World):(Instr.index 292 (AE uD) (J R 4)).run prog w=.ok (AE #[J R 5,I lC]) w:=by kernel_rfl
theorem idx(k:Nat)(hk:k<5)(w:World):(Instr.index 292 (AE uD) (J R (k:Int))).run prog w=.ok (AE #[J R ((k:Int)+1),I (iA k)]) w:=by
 have:k=0\/k=1\/k=2\/k=3\/k=4:=by omega
 rcases this with rfl|rfl|rfl|rfl|rfl
 .exact idx0 w
 .exact idx1 w
 .exact idx2 w
 .exact idx3 w
 .exact idx4 w
theorem nX(w:World) :
 Calls prog 76 #[] w λe w'=>e=.returned (.slice (U ⟨w.heap.size,0,AD⟩) 5 5)/\w'=w.alloc (.cells #[I ik,I oQ,I lF,I lD,I lC] 9):=by
 go_enter func76,ntmps76
 go_wp2;go_ret;exact⟨rfl,rfl⟩
open Go.RowKit
attribute [local go_sem] Later.cell Later.frozen
def cat(a b:ByteArray):ByteArray:=a++b
theorem aU(a b:ByteArray):(cat a b).size=a.size+b.size:=by unfold cat;exact ByteArray.size_append
def Small(s:ByteArray):Prop:=s.size<=4611686018427387903
theorem cI(P:Program)(a b:ByteArray)(w:World)(ha:Small a)(hb:Small b):(Op.stringOp .add a b).run P w=.ok (I (cat a b)) w:=by
 unfold Small at ha hb
 exact run_string_add_sum w a b (by omega)
theorem NT(w:World)(k:Nat)(os:Array Obj):Bw w (Sort.grow (w.drewN k) os) :=
 ⟨rfl,rfl,rfl,by simp[Sort.grow],λi hi=>by simp[Sort.grow,Array.getElem?_append_left hi]⟩
theorem TW(n:Int)(h0:0<=n)(h1:n<=9223372036854775807)(w:World)(ht:Lib.TabIs prog w "internal/strconv.uint64pow10" .u64 Lib.pow10Tab) :
 Rb 103 #[J R n] w (I (dL n.toNat)):=by
 refine(strconv_Itoa n (by omega) h1 w ht).mono ?_
 rintro e w'⟨rfl,k,os,rfl⟩;refine⟨cn ?_,NT w k os⟩;obtain⟨m,rfl⟩:=Int.eq_ofNat_of_zero_le h0;rw[Lib.itoa_nonneg,Int.toNat_natCast];rfl
theorem gPow:prog.globalNamed "internal/strconv.uint64pow10"=U 7:=by kernel_rfl
theorem Sc(h:Lib.TabIs prog w "internal/strconv.uint64pow10" .u64 Lib.pow10Tab)(hb:Bw w w'):Lib.TabIs prog w' "internal/strconv.uint64pow10" .u64 Lib.pow10Tab:=by
 have hc:=h.cell gPow 0 (by decide)
 exact var?_below hb gPow (am hc) h
def x8:ByteArray:=⟨#[115,101,116,32]⟩
def mD:ByteArray:=⟨#[32]⟩
def jA(c:eH):Bool:=fE c.what 1 5&&(dJ c.f&&(fE c.num 1 1000000&&rz c.v))
def jE(c:eH):ByteArray:=cat (cat (cat (cat (cat (cat (cat x8 c.f) mD) (kN c.what)) mD) (dL c.num.toNat)) mD) c.v
structure Oq (c:eH):Prop where
 s0:Small x8
 s1:Small c.f
 s2:Small (cat x8 c.f)
 s3:Small mD
 s4:Small (cat (cat x8 c.f) mD)
 s5:Small (kN c.what)
 s6:Small (cat (cat (cat x8 c.f) mD) (kN c.what))
 s7:Small (cat (cat (cat (cat x8 c.f) mD) (kN c.what)) mD)
 s8:Small (dL c.num.toNat)
 s9:Small (cat (cat (cat (cat (cat x8 c.f) mD) (kN c.what)) mD) (dL c.num.toNat))
 sA:Small (cat (cat (cat (cat (cat (cat x8 c.f) mD) (kN c.what)) mD) (dL c.num.toNat)) mD)
 sB:Small c.v
theorem word_le(k:Nat):(iA k).size<=5:=by
 match k with
 |0|1|2|3|4=>decide
 |k+5=>exact Nat.zero_le _
theorem Je(what:Int):(kN what).size<=5:=by
 unfold kN;split
 .exact word_le _
 .exact Nat.zero_le _
theorem Oq.of(c:eH)(hf:c.f.size<=1048576)(hv:c.v.size<=1048576)(hn:fE c.num 1 1000000=true):Oq c:=by
 have h1:x8.size=4:=rfl;have h2:mD.size=1:=rfl;have h3:=Je c.what
 have h4:=aR c.num.toNat (by simp[fE] at hn;omega)
 constructor<;>unfold Small<;>(try simp only[aU])<;>omega
end Go.Proofs.YtolokangldmodaaGreatDoor
namespace Go.Proofs.YtolokangldmodaaGreatDoor
open Go.RowKit
attribute [local go_sem] Later.cell Later.frozen
theorem Jd{i:Nat}{K K':Act->World->Prop}{a:Act}(h:∀a w,K a w->K' a w)(hh:wpOp P ops Q i K a w):wpOp P ops Q i K' a w:=by
 exact wpOp_mono h hh
theorem ry{md:Region.Mode}{S T:World->Prop}(hT:∀w,T w->S w):∀(fuel:Nat) (listed:Array Bool) (a:Act) (w:World),wpAnyH P md ops Q T fuel listed a w->wpAnyH P md ops Q S fuel listed a w
 |0,_,_,_,h=>h
 |fuel+1,_,_,_,h=>⟨h.1,λi hi=>Jd (λa' w' hh=>⟨hT _ hh.1,ry hT fuel _ a' w' hh.2⟩) (h.2 i hi)⟩
theorem Jw(c:eH)(w:World)(hf:c.f.size<=1048576)(hv:c.v.size<=1048576)(hok:jA c=true) :
 Rb 46 #[AE #[I c.f,J R c.what,J R c.num,I c.v]] w (I (jE c)):=by
 have ae:c.f.size<=maxLen:=by unfold maxLen;omega
 have Uc:c.v.size<=maxLen:=by unfold maxLen;omega
 simp only[jA,AL] at hok
 obtain⟨hk,hn,hu,hval⟩:=hok;have SM:=Oq.of c hf hv hu;obtain⟨f,what,num,v⟩:=c;dsimp only at ae Uc hk hn hu hval;have HK:Hid (fE what 1 5=true):=hk;have HN:Hid (dJ f=true):=hn;have HU:Hid (fE num 1 1000000=true):=hu
 simp only[rz,AL,AJ] at hval
 obtain⟨ax,ak⟩:=hval;have HV:Hid (yu v=false):=ak
 have ba:0<=num:=by simp[fE] at hu;omega
 obtain⟨m,rfl⟩:=Int.eq_ofNat_of_zero_le ba
 have hm:m<=9999999:=by simp[fE] at hu;omega
 obtain⟨q,rfl,hq⟩:∃q:Nat,what=(q:Int)+1/\q<5:=⟨(what-1).toNat,by simp[fE] at hk;omega,by simp[fE] at hk;omega⟩
 clear hk hn hu ak hf hv;have bP:=cI prog;obtain⟨s0,s1,s2,s3,s4,s5,s6,s7,s8,s9,sA,sB⟩:=SM;dsimp only at s1 s2 s4 s5 s6 s7 s8 s9 sA sB
 have HF:Hid (jE ⟨f,(q:Int)+1,(m:Int),v⟩=cat (cat (cat (cat (cat (cat (cat x8 f) mD) (iA q)) mD) (dL m)) mD) v):=by
  show jE _=_
  unfold jE;rw[Jf];rfl
 rw[HF.out];rw[Jf] at s5 s6 s7 s9 sA;rw[Int.toNat_natCast] at s8 s9 sA
 simp only[x8,mD] at s0 s2 s3 s4 s6 s7 s9 sA
 go_enter func46,ntmps46
 go_wp2_with fail;refine(bu f _ ae).mono ?_;rw[HN.out];rintro e w1⟨rfl,rfl⟩;go_wp2_with fail;refine(bh _ _ _ _).mono ?_;rw[HU.out];rintro e w1⟨rfl,rfl⟩;go_wp2_with fail;refine(bh _ _ _ _).mono ?_;rw[HK.out];rintro e w1⟨rfl,rfl⟩;go_wp2_with fail;refine(FK v _ Uc).mono ?_;rw[HV.out];rintro e w1⟨rfl,rfl⟩;go_wp2;generalize hW:w.alloc (.cells #[I f,J R ((q:Int)+1),J R (m:Int),I v] 94)=W
 have c0:W.cell? ⟨w.heap.size,0,AD⟩=U (I f):=by rw[<-hW];simp[go_sem]
 have c1:W.cell? ⟨w.heap.size,1,AD⟩=U (J R ((q:Int)+1)):=by rw[<-hW];simp[go_sem]
 have c2:W.cell? ⟨w.heap.size,2,AD⟩=U (J R (m:Int)):=by rw[<-hW];simp[go_sem]
 have c3:W.cell? ⟨w.heap.size,3,AD⟩=U (I v):=by rw[<-hW];simp[go_sem]
 have HW:Hid (Bw w W):=by rw[<-hW];exact(aG)
 clear hW;refine wp_region_noPanic ?_
 refine wp_region_held_drew (S:=λw'=>w'.cell? ⟨w.heap.size,0,AD⟩=U (I f)/\w'.cell? ⟨w.heap.size,1,AD⟩=U (J R ((q:Int)+1))/\w'.cell? ⟨w.heap.size,2,AD⟩=U (J R (m:Int))/\w'.cell? ⟨w.heap.size,3,AD⟩=U (I v)) (by kernel_rfl) ?_ (λao=>?_)
 .exact ⟨by simpa using c0,by simpa using c1,by simpa using c2,by simpa using c3⟩
 refine aM 0 ?_ rfl ?_ (aM 1 ?_ rfl ?_ (aM 2 ?_ rfl ?_ (aM 3 ?_ rfl ?_ (aM 5 ?_ rfl ?_ (aM 6 ?_ rfl ?_ (aM 7 ?_ rfl ?_ (aM 12 ?_ rfl ?_ (aM 13 ?_ rfl ?_ (aM 17 ?_ rfl ?_ (aM 18 ?_ rfl ?_ ?_))))))))))
 iterate 11(rotate_left;focus(intro w an;(try dsimp only at an);simp only[Act.put,aK];go_simp;try with_reducible rfl))
 simp only[Act.put,aK]
 refine be 4 (λK hK=>?_);go_simp;refine(nX _).mono ?_;rintro e w1⟨rfl,au⟩;obtain⟨a0,a1,a2,a3⟩:=ao
 have ad:Bw W.drew w1:=by rw[au];exact(aG)
 have t0:w1.cell? ⟨W.heap.size,q,AD⟩=U (I (iA q)):=by
  rw[au]
  have h5:q=0\/q=1\/q=2\/q=3\/q=4:=by omega
  rcases h5 with rfl|rfl|rfl|rfl|rfl<;>simp[go_sem,iA]
 clear au
 have ai:w1.cell? ⟨w.heap.size,0,AD⟩=U (I f)/\w1.cell? ⟨w.heap.size,1,AD⟩=U (J R ((q:Int)+1))/\w1.cell? ⟨w.heap.size,2,AD⟩=U (J R (m:Int))/\w1.cell? ⟨w.heap.size,3,AD⟩=U (I v) :=
  ⟨ac ad aE a0,ac ad aE a1,ac ad aE a2,ac ad aE a3⟩
 refine hK.out _ _ ai (λ_=>?_);refine ry (T:=λw'=>(w'.cell? ⟨w.heap.size,0,AD⟩=U (I f)/\w'.cell? ⟨w.heap.size,1,AD⟩=U (J R ((q:Int)+1))/\w'.cell? ⟨w.heap.size,2,AD⟩=U (J R (m:Int))/\w'.cell? ⟨w.heap.size,3,AD⟩=U (I v))/\w'.cell? ⟨W.heap.size,q,AD⟩=U (I (iA q))) (λ_ h=>h.1) _ _ _ _ ?_;have av:=And.intro ai t0;clear hK K;have bV:Hid (Bw w w1):=aa HW.out.drew ad
 have hq0:(0:Int)<=(q:Int):=by omega
 have hq1:(q:Int)<5:=by omega
 have hwq:IntKind.i64.wrap (q:Int)=(q:Int):=by rw[AM];omega
 refine aM 8 ?_ rfl ?_ (aM 9 ?_ rfl ?_ (aM 10 ?_ rfl ?_ (aM 11 ?_ rfl ?_ ?_)))
 iterate 4(rotate_left;focus(intro w an;(try dsimp only at an);simp only[Act.put,aK];go_simp;try with_reducible rfl))
 simp only[Act.put,aK]
 refine be 14 (λK hK=>?_);go_simp;refine(bE m hm _).mono ?_;rintro e w2⟨rfl,af⟩;refine hK.out _ _ ⟨⟨ac af aE ai.1,ac af aE ai.2.1,ac af aE ai.2.2.1,ac af aE ai.2.2.2⟩,ac af aE t0⟩ (λIj=>?_);clear hK K;refine aM 15 ?_ rfl ?_ (aM 16 ?_ rfl ?_ (aM 19 ?_ rfl ?_ (aM 20 ?_ rfl ?_ ?_)))
 iterate 4(rotate_left;focus(intro w an;(try dsimp only at an);simp only[Act.put,aK];go_simp;try with_reducible rfl))
 simp only[Act.put,aK]
 refine wpAnyH_done (by kernel_rfl) ?_ _
 refine NoPanic.normal ?_;go_wp2;go_ret;exact⟨rfl,aa bV.out af⟩
end Go.Proofs.YtolokangldmodaaGreatDoor
namespace Go.Proofs.YtolokangldmodaaGreatDoor
open Go.RowKit
theorem Jy(c:eH)(w:World)(hf:c.f.size<=1048576)(hv:c.v.size<=1048576)(hok:jA c=false) :
 Rb 46 #[AE #[I c.f,J R c.what,J R c.num,I c.v]] w (I ⟨#[]⟩):=by
 have ae:c.f.size<=maxLen:=by unfold maxLen;omega
 have Uc:c.v.size<=maxLen:=by unfold maxLen;omega
 obtain⟨f,what,num,v⟩:=c;dsimp only at ae Uc
 simp only[jA] at hok
 clear hf hv
 cases hn:dJ f
 .have HN:Hid (dJ f=false):=hn
  clear hn hok
  go_enter func46,ntmps46
  go_wp2_with fail;refine(bu f _ ae).mono ?_;rw[HN.out];rintro e w1⟨rfl,rfl⟩;go_wp2;go_ret;exact⟨rfl,(aG)⟩
 have HN:Hid (dJ f=true):=hn;rw[hn] at hok;clear hn
 cases hu:fE num 1 1000000
 .have HU:Hid (fE num 1 1000000=false):=hu
  clear hu hok
  go_enter func46,ntmps46
  go_wp2_with fail;refine(bu f _ ae).mono ?_;rw[HN.out];rintro e w1⟨rfl,rfl⟩;go_wp2_with fail;refine(bh _ _ _ _).mono ?_;rw[HU.out];rintro e w1⟨rfl,rfl⟩;go_wp2;go_ret;exact⟨rfl,(aG)⟩
 have HU:Hid (fE num 1 1000000=true):=hu;rw[hu] at hok;clear hu
 cases hk:fE what 1 5
 .have HK:Hid (fE what 1 5=false):=hk
  clear hk hok
  go_enter func46,ntmps46
  go_wp2_with fail;refine(bu f _ ae).mono ?_;rw[HN.out];rintro e w1⟨rfl,rfl⟩;go_wp2_with fail;refine(bh _ _ _ _).mono ?_;rw[HU.out];rintro e w1⟨rfl,rfl⟩;go_wp2_with fail;refine(bh _ _ _ _).mono ?_;rw[HK.out];rintro e w1⟨rfl,rfl⟩;go_wp2;go_ret;exact⟨rfl,(aG)⟩
 have HK:Hid (fE what 1 5=true):=hk;rw[hk] at hok;clear hk
 have hval:rz v=false:=by simpa using hok
 clear hok
 cases ax:v.toList.isEmpty
 focus
  have ak:yu v=true:=by simpa[rz,ax] using hval
  have HV:Hid (yu v=true):=ak;clear ak hval
  go_enter func46,ntmps46
  go_wp2_with fail;refine(bu f _ ae).mono ?_;rw[HN.out];rintro e w1⟨rfl,rfl⟩;go_wp2_with fail;refine(bh _ _ _ _).mono ?_;rw[HU.out];rintro e w1⟨rfl,rfl⟩;go_wp2_with fail;refine(bh _ _ _ _).mono ?_;rw[HK.out];rintro e w1⟨rfl,rfl⟩;go_wp2_with fail;refine(FK v _ Uc).mono ?_;rw[HV.out]
 rotate_left
 focus
  clear hval
  go_enter func46,ntmps46
  go_wp2_with fail;refine(bu f _ ae).mono ?_;rw[HN.out];rintro e w1⟨rfl,rfl⟩;go_wp2_with fail;refine(bh _ _ _ _).mono ?_;rw[HU.out];rintro e w1⟨rfl,rfl⟩;go_wp2_with fail;refine(bh _ _ _ _).mono ?_;rw[HK.out]
 rotate_left
 all_goals
  rintro e w1⟨rfl,rfl⟩;go_wp2;go_ret;exact⟨rfl,(aG)⟩
def fe(c:eH):ByteArray:=bif jA c then jE c else⟨#[]⟩
theorem vX(c:eH)(w:World)(hf:c.f.size<=1048576)(hv:c.v.size<=1048576) :
 Rb 46 #[AE #[I c.f,J R c.what,J R c.num,I c.v]] w (I (fe c)):=by
 unfold fe
 cases h:jA c
 .exact Jy c w hf hv h
 .exact Jw c w hf hv h
open Go.RowKit
def iW(l:List UInt8):Prop:=∀c∈l,c≠32
theorem nL:∀l:List UInt8,iW l \/ ∃a r,l=a++32::r/\iW a
 |[]=>.inl (λc hc=>by cases hc)
 |c::l=>by
  by_cases h:c=32
  .exact .inr ⟨[],l,by simp[h],λc hc=>by cases hc⟩
  .rcases nL l with hl|⟨a,r,rfl,ha⟩
   .exact .inl (λx hx=>(List.mem_cons.1 hx).elim (λe=>by rw[e];exact h) (hl x))
   .exact .inr ⟨c::a,r,rfl,λx hx=>(List.mem_cons.1 hx).elim (λe=>by rw[e];exact h) (ha x)⟩
theorem xX:∀{a b r t:List UInt8},iW a->iW b->a++32::r=b++32::t->a=b/\r=t
 |[],[],r,t,_,_,h=>by simpa using h
 |[],c::b,r,t,_,hb,h=>by
  simp at h
  exact absurd h.1.symm (hb c (by simp))
 |c::a,[],r,t,ha,_,h=>by
  simp at h
  exact absurd h.1 (ha c (by simp))
 |c::a,d::b,r,t,ha,hb,h=>by
  simp at h
  obtain⟨rfl,h⟩:=h
  obtain⟨rfl,rfl⟩:=xX (λx hx=>ha x (by simp[hx])) (λx hx=>hb x (by simp[hx])) h
  exact⟨rfl,rfl⟩
theorem dp:∀(l cur:List UInt8),iW l->gU cur l=[cur++l]
 |[],cur,_=>by simp[gU]
 |c::l,cur,h=>by
  rw[gU,if_neg (h c (by simp)),dp l _ (λx hx=>h x (by simp[hx]))]
  simp
theorem bi:∀(a cur r:List UInt8),iW a->gU cur (a++32::r)=(cur++a)::gU [] r
 |[],cur,r,_=>by simp[gU]
 |c::a,cur,r,h=>by
  rw[List.cons_append,gU,if_neg (h c (by simp)),bi a _ r (λx hx=>h x (by simp[hx]))]
  simp
theorem oh:∀(l cur:List UInt8),1<=(gU cur l).length
 |[],_=>by simp[gU]
 |c::l,cur=>by
  rw[gU]
  split
  .simp
  .exact oh l _
theorem five(l:List UInt8):(gU [] l).length<5 \/ ∃a0 a1 a2 a3 r,l=a0++32::(a1++32::(a2++32::(a3++32::r)))/\iW a0/\iW a1/\iW a2/\iW a3:=by
 rcases nL l with h|⟨a0,r0,rfl,h0⟩
 .left;rw[dp _ _ h];simp
 rcases nL r0 with h|⟨a1,r1,rfl,h1⟩
 .left;rw[bi _ _ _ h0,dp _ _ h];simp
 rcases nL r1 with h|⟨a2,r2,rfl,h2⟩
 .left;rw[bi _ _ _ h0,bi _ _ _ h1,dp _ _ h];simp
 rcases nL r2 with h|⟨a3,r3,rfl,h3⟩
 .left;rw[bi _ _ _ h0,bi _ _ _ h1,bi _ _ _ h2,dp _ _ h];simp
 exact .inr ⟨a0,a1,a2,a3,r3,rfl,h0,h1,h2,h3⟩
def mkS(l:List UInt8):ByteArray:=⟨l.toArray⟩
theorem b8(l:List UInt8):bytes (mkS l)=l:=rfl
theorem cA(s:ByteArray):mkS (bytes s)=s:=bd (b8 _)
theorem cM(l:List UInt8):(mkS l).size=l.length:=by rw[<-aF];rfl
theorem CR:∀l:List UInt8,iW l->Lib.indexByte l 32=-1
 |[],_=>rfl
 |c::l,h=>by
  have hc:(c==32)=false:=by simpa using h c (by simp)
  rw[Lib.indexByte,hc,CR l (λx hx=>h x (by simp[hx]))]
  rfl
theorem CQ:∀(a r:List UInt8),iW a->Lib.indexByte (a++32::r) 32=a.length
 |[],r,_=>by simp[Lib.indexByte]
 |c::a,r,h=>by
  have hc:(c==32)=false:=by simpa using h c (by simp)
  have ih:=CQ a r (λx hx=>h x (by simp[hx]))
  rw[List.cons_append,Lib.indexByte,hc,ih]
  have:((a.length:Int)==-1)=false:=by simp
  simp[this]
def IM:ByteArray:=⟨#[32]⟩
theorem FT(s:ByteArray):Lib.indexB s IM=Lib.indexByte (bytes s) 32:=Lib.index_one _ _
theorem MQ(k:Nat)(s:ByteArray)(h:iW (bytes s)):Lib.splitB IM 0 k s=[s] :=
 Lib.splitB_miss IM 0 k s (by rw[FT,CR _ h])
theorem nu(k:Nat)(s:ByteArray)(a r:List UInt8)(hs:bytes s=a++32::r)(h:iW a):Lib.splitB IM 0 (k+1) s=mkS a::Lib.splitB IM 0 k (mkS r):=by
 have hz:s.size=a.length+(r.length+1):=by rw[<-aF,hs];simp
 rw[Lib.splitB_hit IM 0 k s a.length (by rw[FT,hs,CQ _ _ h])]
 have e1:s.extract 0 (a.length+0)=mkS a:=bd (by rw[aP,hs,b8];simp)
 have e2:s.extract (a.length+IM.size) s.size=mkS r:=bd (by
  have:IM.size=1:=rfl;rw[aP,hs,b8,this,hz]
  simp only[List.drop_append,List.drop_succ_cons,show a.length+1-a.length=1 by omega,List.drop_zero]
  rw[List.drop_of_length_le (by omega),List.nil_append,List.take_of_length_le (by omega)])
 rw[e1,e2]
theorem Jt:∀(k:Nat) (s:ByteArray),(Lib.splitB IM 0 k s).length<=(gU [] (bytes s)).length
 |0,s=>oh _ _
 |k+1,s=>by
  rcases nL (bytes s) with h|⟨a,r,hs,h⟩
  .rw [MQ _ _ h];exact oh _ _
  .rw [nu k s a r hs h,hs,bi _ _ _ h]
   have:=Jt k (mkS r);rw[b8] at this
   simpa using this
theorem MR(s:ByteArray)(hs:bytes s=a0++32::(a1++32::(a2++32::(a3++32::r))))(h0:iW a0)(h1:iW a1)(h2:iW a2)(h3:iW a3) :
 Lib.splitB IM 0 (min 5 (s.size+1)-1) s=[mkS a0,mkS a1,mkS a2,mkS a3,mkS r]:=by
 have hz:4<=s.size:=by rw[<-aF,hs];simp;omega
 rw[show min 5 (s.size+1)-1=4 by omega]
 rw[nu 3 s _ _ hs h0,nu 2 _ _ _ (b8 _) h1,nu 1 _ _ _ (b8 _) h2,nu 0 _ _ _ (b8 _) h3]
 rfl
def gP(b:ByteArray):Int:=if b=ik then 1 else if b=oQ then 2 else if b=lF then 3 else if b=lD then 4 else if b=lC then 5 else 0
open Go.RowKit
theorem uN(b:ByteArray):(gP b=0/\b≠ik/\b≠oQ/\b≠lF/\b≠lD/\b≠lC)\/(gP b=1/\b=ik)\/(gP b=2/\b=oQ)\/(gP b=3/\b=lF)\/(gP b=4/\b=lD)\/(gP b=5/\b=lC):=by
 unfold gP
 split
 .exact .inr (.inl ⟨rfl,by assumption⟩)
 split
 .exact .inr (.inr (.inl ⟨rfl,by assumption⟩))
 split
 .exact .inr (.inr (.inr (.inl ⟨rfl,by assumption⟩)))
 split
 .exact .inr (.inr (.inr (.inr (.inl ⟨rfl,by assumption⟩))))
 split
 .exact .inr (.inr (.inr (.inr (.inr ⟨rfl,by assumption⟩))))
 .exact .inl ⟨rfl,by assumption,by assumption,by assumption,by assumption,by assumption⟩
theorem PI(h:fE (gP b) 1 5=true):kN (gP b)=b:=by
 rcases uN b with⟨e,_⟩|⟨e,rfl⟩|⟨e,rfl⟩|⟨e,rfl⟩|⟨e,rfl⟩|⟨e,rfl⟩
 .rw [e] at h;cases h
 all_goals(rw[e];rfl)
theorem UE(m d:Nat)(hm:1<=m)(hd:d<10):Lib.decDigits (m*10+d)=Lib.decDigits m++[UInt8.ofNat (48+d)]:=by
 rw[Lib.decDigits,dif_neg (by omega),show(m*10+d) / 10=m by omega,show(m*10+d) % 10=d by omega]
theorem OC(c:UInt8)(h:48<=c.toNat):UInt8.ofNat (48+(c.toNat-48))=c:=by
 rw[show 48+(c.toNat-48)=c.toNat by omega]
 exact UInt8.ofNat_toNat
theorem take_one(s:ByteArray)(k:Nat)(h:k<s.size):(bytes s).take (k+1)=(bytes s).take k++[s[k]]:=by
 have hl:k<(bytes s).length:=by rw[aF];exact h
 rw[List.take_succ_eq_append_getElem hl]
 rfl
theorem Db(hd:∀j (hj:j<s.size),q8 (s[j].toNat)=true)(hl:1<s.size->∀h0:0<s.size,s[0].toNat≠48):∀k,k+1<=s.size->Lib.decDigits (fV s (k+1))=(bytes s).take (k+1)/\(1<s.size->1<=fV s (k+1))
 |0,h=>by
  have hb:=sJ.1 (hd 0 (by omega))
  rw[fV,fV,cH (by omega:0<s.size),take_one s 0 (by omega)]
  constructor
  .rw [Lib.decDigits_one (by omega),show 48+(0*10+(s[0].toNat-48))=48+(s[0].toNat-48) by omega,OC _ (by omega)]
   rfl
  .intro h1
   have:=hl h1 (by omega)
   omega
 |k+1,h=>by
  obtain⟨ih,aL⟩:=Db hd hl k (by omega)
  have hb:=sJ.1 (hd (k+1) (by omega))
  rw[fV,cH (by omega:k+1<s.size),take_one s (k+1) (by omega)]
  have h1:=aL (by omega)
  refine⟨?_,λ_=>by omega⟩
  rw[UE _ _ h1 (by omega),ih,OC _ (by omega)]
theorem Q8(h:ja s=true):∀j (hj:j<s.size),q8 (s[j].toNat)=true:=by
 intro j hj;unfold ja at h;rw[List.all_eq_true] at h
 exact h s[j] (by simp[ByteArray.getElem_eq_getElem_data])
theorem bO(h:eY s=true):dL (fV s s.size)=s:=by
 simp only[eY,AL,AJ] at h
 obtain⟨bn,hl,hd⟩:=h
 have hz:0<s.size:=by simp[fE] at bn;omega
 have h1:=(Db (Q8 hd) (λh1 h0 e=>by
  have:pz s=true:=by
   simp only[pz,AL,cH h0]
   exact⟨by simpa using h1,by simpa using e⟩
  rw[this] at hl;cases hl) (s.size-1) (by omega)).1
 rw[show s.size-1+1=s.size by omega] at h1
 apply bd
 show Lib.decDigits (fV s s.size)=bytes s
 rw[h1,List.take_of_length_le (by rw[aF];omega)]
def jO(b:ByteArray):Int:=bif eY b then(fV b b.size:Int) else -1
theorem Tv(h:fE (jO b) 1 1000000=true):eY b=true:=by
 unfold jO at h
 cases hd:eY b
 .rw [hd] at h;cases h
 .rfl
theorem Qj(h:fE (jO b) 1 1000000=true):dL (jO b).toNat=b:=by
 have hd:=Tv h;unfold jO;rw[hd];exact bO hd
def zZ:List UInt8:=[115,101,116]
theorem yV(a b:ByteArray):bytes (cat a b)=bytes a++bytes b:=by simp[bytes,cat,ByteArray.data_append]
theorem cE(c:eH):bytes (jE c)=zZ++32::(bytes c.f++32::(bytes (kN c.what)++32::(bytes (dL c.num.toNat)++32::bytes c.v))):=by
 unfold jE
 simp only[yV]
 have h1:bytes x8=[115,101,116,32]:=rfl;have h2:bytes mD=[32]:=rfl;rw[h1,h2]
 simp[zZ]
def Mm(a0 a1 a2 a3 r:List UInt8):Bool:=decide (a0=zZ)&&jA ⟨mkS a1,gP (mkS a2),jO (mkS a3),mkS r⟩
theorem K5(hs:bytes s=a0++32::(a1++32::(a2++32::(a3++32::r))))(h0:iW a0) :
 (fe ⟨mkS a1,gP (mkS a2),jO (mkS a3),mkS r⟩=s)↔Mm a0 a1 a2 a3 r=true:=by
 unfold Mm fe
 cases hf:jA ⟨mkS a1,gP (mkS a2),jO (mkS a3),mkS r⟩
 .simp only [cond_false,Bool.and_false]
  refine⟨λh=>?_,λh=>by cases h⟩
  have:=congrArg bytes h;rw[hs] at this
  simp[bytes] at this
 .simp only [cond_true,Bool.and_true,decide_eq_true_eq]
  have ab:=hf
  simp only[jA,AL] at ab
  obtain⟨hk,_,hn,_⟩:=ab;have e1:=PI hk;have e2:=Qj hn
  constructor
  .intro h
   have hb:=congrArg bytes h;rw[cE,hs] at hb
   exact(xX (by intro c hc;simp[zZ] at hc;rcases hc with rfl|rfl|rfl<;>decide) h0 hb).1.symm
  .intro h
   apply bd
   rw[cE,hs,h]
   simp only[e1,e2,b8]
open Go.RowKit
theorem GG(h:a=b):(a.toList==b.toList)=true:=by subst h;simp
theorem Am(h:¬a=b):(a.toList==b.toList)=false:=by
 rw[ByteArray.toList_eq,ByteArray.toList_eq]
 simp only[beq_eq_false_iff_ne,ne_eq]
 exact λe=>h (bd e)
theorem what_at{k:Nat}(hk:k<5)(h:iA k=b):gP b=(k:Int)+1:=by
 subst h
 have:k=0\/k=1\/k=2\/k=3\/k=4:=by omega
 rcases this with rfl|rfl|rfl|rfl|rfl<;>decide
theorem PK(h:∀k:Nat,k<5->¬iA k=b):gP b=0:=by
 have h0:=h 0 (by omega);have h1:=h 1 (by omega);have h2:=h 2 (by omega);have h3:=h 3 (by omega);have h4:=h 4 (by omega)
 rcases uN b with⟨e,_⟩|⟨e,rfl⟩|⟨e,rfl⟩|⟨e,rfl⟩|⟨e,rfl⟩|⟨e,rfl⟩
 .exact e
 .exact absurd rfl h0
 .exact absurd rfl h1
 .exact absurd rfl h2
 .exact absurd rfl h3
 .exact absurd rfl h4
theorem ME(b:ByteArray)(w:World)(hs:jh w) :
 Rb 182 #[I b] w (.tuple #[J R (gP b),.bool (fE (gP b) 1 5)]):=by
 obtain⟨tt,fr,hg⟩:=hs
 go_enter func182,ntmps182
 go_wp2_with (refine wpList_load_row rfl 292 _ rfl 6 rfl tt uD fr _ hg underlying292 rfl (by kernel_rfl) ?_)
 go_loopw [5,7] (λ_ i wr=>∃k:Nat,k<=5/\i=J R k/\Bw w wr/\Hid (∀j:Nat,j<k->¬iA j=b)) (λ_ i _=>5-(intOf i).toNat)
 case atStart=>exact⟨0,Nat.zero_le _,rfl,Below.refl _ _,λj hj=>absurd hj (Nat.not_lt_zero _)⟩
 case round =>
  obtain⟨k,hk,rfl,hb,HA⟩:=hrel
  by_cases ay:k<5
  .have hi:=idx k ay
   have bb:(k:Int)<5:=by omega
   by_cases hw:iA k=b
   .have h1:((iA k).toList==b.toList)=true:=GG hw
    have HW:Hid (iA k=b):=hw;clear hw;go_wp2
    go_ret2
    have e2:gP b=(k:Int)+1:=what_at ay HW.out
    have e1:fE ((k:Int)+1) 1 5=true:=by simp[fE];omega
    rw[e2,e1];exact⟨rfl,hb.alloc hb.size _⟩
   .have h1:((iA k).toList==b.toList)=false:=Am hw
    have HW:Hid (¬iA k=b):=hw;clear hw;go_wp2
    exact⟨⟨k+1,by omega,by go_num,hb.alloc hb.size _,λj hj=>if e:j=k then by rw[e];exact HW.out else HA.out j (by omega)⟩,by simp[intOf];omega⟩
  .have bb:¬(k:Int)<5:=by omega
   have H1:Hid (gP b=0):=PK λj hj=>HA.out j (by omega)
   go_wp2
   go_ret2
   rw[H1.out];exact⟨rfl,hb⟩
theorem Dk(s:ByteArray)(w:World)(hs:s.size<=1048576) :
 Rb 172 #[I s] w (I s):=by
 go_enter func172,ntmps172
 go_wp2_with fail
 refine(stringslite_Clone s _ (by omega)).mono ?_
 rintro e w'⟨rfl,hb⟩;go_wp2;go_ret;exact⟨rfl,hb⟩
end Go.Proofs.YtolokangldmodaaGreatDoor
