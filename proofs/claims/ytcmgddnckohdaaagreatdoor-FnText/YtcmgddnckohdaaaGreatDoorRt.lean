import Derived.Test.YtcmgddnckohdaaaGreatDoorRead1
import Derived.Laws.CopyOwn
set_option maxRecDepth 100000
set_option maxHeartbeats 1600000
set_option linter.unusedSimpArgs false
set_option linter.unusedVariables false
namespace Go.Proofs.YtcmgddnckohdaaaGreatDoor
open Go.RowKit
set_option maxRecDepth 20000
def uR (c:dP):Value:=.agg #[.string c.f,.int .i64 c.what,.int .i64 c.num,.string c.v]
def iR:dP:=⟨⟨#[]⟩,0,0,⟨#[]⟩⟩
def iG (b:Bool) (c:dP):Value:=.tuple #[bif b then uR c else uR iR,.bool b]
def jo (w:World):Prop:=∃ m:Int,w.cell? ⟨3,0,none⟩=some (.int .i64 m)
theorem jo.keep {w w':World} (h:jo w) (hb:Below w.heap.size w w'):jo w':=by
 obtain ⟨m,h⟩:=h;exact ⟨m,ag hb aG h⟩
theorem jW (f v:ByteArray) (a n:Int):(#[.string f,.int .i64 a,.int .i64 n,.string v]:Array Value).all (·.oneCell')=true:=by simp [Value.oneCell']
theorem wS (s:ByteArray) (w:World) (hs:s.size≤1048576) (hm:jo w) :
  Calls Tryz.prog 214 #[.string s,.string ⟨#[32]⟩,.int .i64 5] w fun e w' =>
   e=.returned (.slice (some ⟨w.heap.size,0,none⟩) (Lib.splitB CL 0 (min 5 (s.size+1)-1) s).length (min 5 (s.size+1)))∧w'=w.alloc (.cells (Lib.cellsOf (Lib.splitB CL 0 (min 5 (s.size+1)-1) s) (min 5 (s.size+1))) 9):=by
 obtain ⟨m,hm⟩:=hm
 exact Tryz.strings_SplitN s CL 5 m w (by omega) hm (by decide) (by decide) (by decide)
theorem xC (s:ByteArray) (w:World) (hs:s.size≤1048576) (hm:jo w) (h5:(iw [] (bytes s)).length<5) :
  Calls Tryz.prog 186 #[.string s] w fun e w'=>e=.returned (iG false iR)∧Below w.heap.size w w':=by
 have hlen:(Lib.splitB CL 0 (min 5 (s.size+1)-1) s).length<5:=Nat.lt_of_le_of_lt (Dl _ s) h5;have HM:Hid (jo w):=hm;clear hm h5
 go_enter Tryz.func186,Tryz.ntmps186
 go_wp2_with fail;refine (wS s _ hs (HM.out.keep (aM))).mono ?_;rintro e w1 ⟨rfl,hw1⟩
 have hb1:Below w.heap.size w w1:=by rw [hw1];exact (aM).alloc (by simp) _
 generalize (Lib.splitB CL 0 (min 5 (s.size+1)-1) s).length=n at hlen
 have h1:(((n:Nat):Int)==5)=false:=by simp;omega
 go_wp2
 refine bodyPost_ret (v:=iG false iR) (by simp [results,Tryz.results186,go_sem,iG,uR,iR]) rfl ⟨rfl,(aM).alloc (by simp) _⟩
theorem qh (s:ByteArray) (w:World) (hs:s.size≤1048576) (hm:jo w) (hsaid:ib w) {a0 a1 a2 a3 r:List UInt8} (h5:bytes s=a0++32::(a1++32::(a2++32::(a3++32::r)))) (h0:gZ a0) (h1:gZ a1) (h2:gZ a2) (h3:gZ a3) :
  Calls Tryz.prog 186 #[.string s] w fun e w'=>e=.returned (iG (CO a0 a1 a2 a3 r) ⟨mkS a1,fM (mkS a2),iA (mkS a3),mkS r⟩)∧Below w.heap.size w w':=by
 have hL:=Gb s h5 h0 h1 h2 h3;have hz:=congrArg List.length h5;rw [aK] at hz
 simp at hz
 have z0:a0.length≤1048576:=by omega
 have z1:(mkS a1).size≤1048576:=by rw [ch];omega
 have z2:(mkS a2).size≤1048576:=by rw [ch];omega
 have z3:(mkS a3).size≤maxLen:=by rw [ch];unfold maxLen;omega
 have z4:(mkS r).size≤1048576:=by rw [ch];omega
 have z1m:(mkS a1).size≤maxLen:=by unfold maxLen;omega
 have hmin:min 5 (s.size+1)=5:=by omega
 have HM:Hid (jo w):=hm;have HS:Hid (ib w):=hsaid;have HR:Hid (CO a0 a1 a2 a3 r=(decide (a0=rM)&&(eB (fM (mkS a2)) 1 5&&(dD (mkS a1)&&(eB (iA (mkS a3)) 1 1000000&&lY (mkS r)))))):=rfl;clear hm hsaid h5 h0 h1 h2 h3 hz
 have HW0:Hid (a0=rM ↔ mkS a0=mkS rM):=⟨fun e=>congrArg mkS e,fun e=>by simpa [bS] using congrArg bytes e⟩
 generalize mkS a0=s0 at *;generalize mkS a1=s1 at *;generalize mkS a2=s2 at *;generalize mkS a3=s3 at *;generalize mkS r=s4 at *;have hSp:=wS s;rw [hL,hmin] at hSp;have HSP:Hid (∀ (w:World),s.size≤1048576→jo w→Calls Tryz.prog 214 #[.string s,.string ⟨#[32]⟩,.int .i64 5] w fun e w'=>e=.returned (.slice (some ⟨w.heap.size,0,none⟩) 5 5)∧w'=w.alloc (.cells #[.string s0,.string s1,.string s2,.string s3,.string s4] 9)):=hSp;clear hSp hL hmin
 go_enter Tryz.func186,Tryz.ntmps186
 go_wp2_with fail;refine (HSP.out _ hs (HM.out.keep (aM))).mono ?_;rintro e w1 ⟨rfl,rfl⟩
 by_cases hset:a0=rM
 ·have e0:s0=⟨#[115,101,116]⟩:=HW0.out.1 hset
  have HE:Hid (decide (a0=rM)=true):=decide_eq_true hset;subst e0;clear hset;go_wp2_with fail
  refine (FR s2 _ (HS.out.keep ((aM).alloc (by simp) _))).mono ?_
  rintro e w1 ⟨rfl,hb1⟩
  have p0:w1.cell? ⟨w.heap.size,0,none⟩=some (.string ⟨#[]⟩):=ag hb1 aG (by simp [go_sem])
  have p1:w1.cell? ⟨w.heap.size,1,none⟩=some (.int .i64 0):=ag hb1 aG (by simp [go_sem])
  have p2:w1.cell? ⟨w.heap.size,2,none⟩=some (.int .i64 0):=ag hb1 aG (by simp [go_sem])
  have p3:w1.cell? ⟨w.heap.size,3,none⟩=some (.string ⟨#[]⟩):=ag hb1 aG (by simp [go_sem])
  have hrow:w1.heap[w.heap.size]?=some (.cells #[.string ⟨#[]⟩,.int .i64 0,.int .i64 0,.string ⟨#[]⟩] 76):=by
   rw [hb1.block _ (by simp;omega),Below.heap_alloc _ _ _ (by simp)]
   show (w.heap.push _)[w.heap.size]?=_
   simp
  have c1:w1.cell? ⟨w.heap.size+1,1,none⟩=some (.string s1):=ag hb1 aG (by simp [go_sem])
  have c3:w1.cell? ⟨w.heap.size+1,3,none⟩=some (.string s3):=ag hb1 aG (by simp [go_sem])
  have c4:w1.cell? ⟨w.heap.size+1,4,none⟩=some (.string s4):=ag hb1 aG (by simp [go_sem])
  have HB1:Hid (Below w.heap.size w w1):=aa ((aM).alloc (by simp) _) hb1
  clear hb1;go_wp2_with fail;refine (bW s3 _ z3).mono ?_;rintro e w2 ⟨rfl,hb2⟩
  have hrow2:w2.heap[w.heap.size]?=some (.cells #[.string ⟨#[]⟩,.int .i64 0,.int .i64 0,.string ⟨#[]⟩] 76):=by rw [hb2.block _ (av p0)];exact hrow
  have d1:=ag hb2 aG c1;have d4:=ag hb2 aG c4;have hgl:w.heap.size<w2.heap.size:=Nat.lt_of_lt_of_le (av p0) hb2.size;have HB2:Hid (Below w.heap.size w w2):=aa HB1.out hb2;have HNR:Hid (iA s3=bif eu s3 then (fF s3 s3.size:Int) else -1):=rfl;clear hb2 hrow p0 p1 p2 p3 c1 c3 c4 HB1
  cases hk:eB (fM s2) 1 5
  ·have HK:Hid (eB (fM s2) 1 5=false):=hk
   clear hk
   go_wp2_with (refine wpList_store_row rfl 76 _ _ rfl w.heap.size #[.string ⟨#[]⟩,.int .i64 0,.int .i64 0,.string ⟨#[]⟩] rfl rfl 76 _ hrow2 (by kernel_rfl) rfl (jW _ _ _ _) ?_)
   have e:CO a0 a1 a2 a3 r=false:=by rw [HR.out,HK.out];simp
   rw [e]
   exact bodyPost_ret (v:=iG false iR) (by simp [results,Tryz.results186,go_sem,iG,uR,iR,cell_setRow_same _ _ _ _ _ _ _ hrow2]) rfl ⟨rfl,below_setRow HB2.out aG _⟩
  have HK:Hid (eB (fM s2) 1 5=true):=hk;clear hk
  cases hd:eu s3
  ·have HD:Hid (eB (iA s3) 1 1000000=false):=by show eB (iA s3) 1 1000000=false;rw [HNR.out,hd];rfl
   clear hd
   simp only [cond_false]
   go_wp2_with (refine wpList_store_row rfl 76 _ _ rfl w.heap.size #[.string ⟨#[]⟩,.int .i64 0,.int .i64 0,.string ⟨#[]⟩] rfl rfl 76 _ hrow2 (by kernel_rfl) rfl (jW _ _ _ _) ?_)
   have e:CO a0 a1 a2 a3 r=false:=by rw [HR.out,HD.out];simp
   rw [e]
   exact bodyPost_ret (v:=iG false iR) (by simp [results,Tryz.results186,go_sem,iG,uR,iR,cell_setRow_same _ _ _ _ _ _ _ hrow2]) rfl ⟨rfl,below_setRow HB2.out aG _⟩
  have HD:Hid (iA s3=(fF s3 s3.size:Int)):=by show iA s3=_;rw [HNR.out,hd];rfl
  clear hd
  simp only [cond_true]
  rw [HD.out] at HR;generalize ((fF s3 s3.size:Nat):Int)=n at HR HD ⊢;clear HNR;go_wp2_with fail;refine (cf s1 _ z1m).mono ?_;rintro e w3 ⟨rfl,hb3⟩
  have hrow3:w3.heap[w.heap.size]?=some (.cells #[.string ⟨#[]⟩,.int .i64 0,.int .i64 0,.string ⟨#[]⟩] 76):=by rw [hb3.block _ hgl];exact hrow2
  have f1:=ag hb3 aG d1;have f4:=ag hb3 aG d4;have hgl3:w.heap.size<w3.heap.size:=Nat.lt_of_lt_of_le hgl hb3.size;have HB3:Hid (Below w.heap.size w w3):=aa HB2.out hb3;clear hb3 hrow2 d1 d4 HB2 hgl
  cases hn:dD s1
  ·have HN:Hid (dD s1=false):=hn
   clear hn
   go_wp2_with (refine wpList_store_row rfl 76 _ _ rfl w.heap.size #[.string ⟨#[]⟩,.int .i64 0,.int .i64 0,.string ⟨#[]⟩] rfl rfl 76 _ hrow3 (by kernel_rfl) rfl (jW _ _ _ _) ?_)
   have e:CO a0 a1 a2 a3 r=false:=by rw [HR.out,HN.out];simp
   rw [e]
   exact bodyPost_ret (v:=iG false iR) (by simp [results,Tryz.results186,go_sem,iG,uR,iR,cell_setRow_same _ _ _ _ _ _ _ hrow3]) rfl ⟨rfl,below_setRow HB3.out aG _⟩
  have HN:Hid (dD s1=true):=hn;clear hn;go_wp2_with fail;refine (cQ _ _).mono ?_;rintro e w4 ⟨rfl,rfl⟩
  cases hu:eB n 1 1000000
  ·have HU:Hid (eB n 1 1000000=false):=hu
   clear hu
   go_wp2_with (refine wpList_store_row rfl 76 _ _ rfl w.heap.size #[.string ⟨#[]⟩,.int .i64 0,.int .i64 0,.string ⟨#[]⟩] rfl rfl 76 _ hrow3 (by kernel_rfl) rfl (jW _ _ _ _) ?_)
   have e:CO a0 a1 a2 a3 r=false:=by rw [HR.out,HU.out];simp
   rw [e]
   exact bodyPost_ret (v:=iG false iR) (by simp [results,Tryz.results186,go_sem,iG,uR,iR,cell_setRow_same _ _ _ _ _ _ _ hrow3]) rfl ⟨rfl,below_setRow HB3.out aG _⟩
  have HU:Hid (eB n 1 1000000=true):=hu;clear hu;go_wp2_with fail;refine (jL _ _).mono ?_;rintro e w4 ⟨rfl,rfl⟩
  cases hv:lY s4
  ·have HV:Hid (lY s4=false):=hv
   clear hv
   go_wp2_with (refine wpList_store_row rfl 76 _ _ rfl w.heap.size #[.string ⟨#[]⟩,.int .i64 0,.int .i64 0,.string ⟨#[]⟩] rfl rfl 76 _ hrow3 (by kernel_rfl) rfl (jW _ _ _ _) ?_)
   have e:CO a0 a1 a2 a3 r=false:=by rw [HR.out,HV.out];simp
   rw [e]
   exact bodyPost_ret (v:=iG false iR) (by simp [results,Tryz.results186,go_sem,iG,uR,iR,cell_setRow_same _ _ _ _ _ _ _ hrow3]) rfl ⟨rfl,below_setRow HB3.out aG _⟩
  have HV:Hid (lY s4=true):=hv;clear hv
  have e:CO a0 a1 a2 a3 r=true:=by rw [HR.out,HE.out,HK.out,HN.out,HU.out,HV.out];rfl
  have HOK:Hid (CO a0 a1 a2 a3 r=true):=e;clear e HSP HS HM;go_wp2;refine wp_region_noPanic ?_
  refine wp_region_held_drew (S:=fun w'=>w'.cell? ⟨w.heap.size+1,1,none⟩=some (.string s1)∧w'.cell? ⟨w.heap.size+1,4,none⟩=some (.string s4)∧∃ cs:Array Value,w'.heap[w.heap.size]?=some (.cells cs 76)∧cs.size=4) (by kernel_rfl) ?_ (fun hHeld=>?_)
  ·exact ⟨by simpa using f1,by simpa using f4,_,hrow3,rfl⟩
  refine aO 0 ?_ rfl ?_ (aO 1 ?_ rfl ?_ (aO 2 ?_ rfl ?_ (aO 4 ?_ rfl ?_ (aO 5 ?_ rfl ?_ (aO 6 ?_ rfl ?_ (aO 7 ?_ rfl ?_ (aO 8 ?_ rfl ?_ ?_)))))))
  iterate 8 (rotate_left;focus (intro w hSw;(try dsimp only at hSw);simp only [Act.put,aU];go_simp;try with_reducible rfl))
  simp only [Act.put,aU]
  refine bE 3 rfl (fun K hK=>?_);go_simp;refine (yQ s1 _ z1).mono ?_;rintro e w5 ⟨rfl,hb5⟩;have JK:Below w4.heap.size w4 w5:=⟨hb5.os,hb5.tape,hb5.output,hb5.size,hb5.block⟩
  have LK:w5.heap[w.heap.size]?=some (.cells #[.string ⟨#[]⟩,.int .i64 0,.int .i64 0,.string ⟨#[]⟩] 76):=by rw [JK.block _ hgl3];exact hrow3
  have g1:=ag JK aG f1;have g4:=ag JK aG f4;have hgl5:w.heap.size<w5.heap.size:=Nat.lt_of_lt_of_le hgl3 JK.size;have HB5:Hid (Below w.heap.size w w5):=aa HB3.out JK;refine hK.out _ _ ⟨g1,g4,_,LK,rfl⟩ (fun GM=>?_);clear hK K hb5 JK hrow3 f1 f4 hgl3 HB3 hHeld;refine bE 9 rfl (fun K hK=>?_);go_simp;refine (yQ s4 _ z4).mono ?_;rintro e w6 ⟨rfl,hb6⟩
  have IE:w6.heap[w.heap.size]?=some (.cells #[.string ⟨#[]⟩,.int .i64 0,.int .i64 0,.string ⟨#[]⟩] 76):=by rw [hb6.block _ hgl5];exact LK
  have k1:=ag hb6 aG g1;have k4:=ag hb6 aG g4;have HB6:Hid (Below w.heap.size w w6):=aa HB5.out hb6;refine hK.out _ _ ⟨k1,k4,_,IE,rfl⟩ (fun Cj=>?_);clear hK K hb6 LK g1 g4 HB5 GM;refine aO 10 ?_ rfl ?_ ?_;rotate_left
  ·intro w hSw;(try dsimp only at hSw);go_simp;try with_reducible rfl
  simp only [Act.put,aU]
  refine bE 11 rfl (fun K hK=>?_)
  refine wp_store_row 76 _ _ rfl w.heap.size #[.string s1,.int .i64 (fM s2),.int .i64 n,.string s4] rfl rfl 76 _ IE (by kernel_rfl) rfl (jW _ _ _ _) ?_
  have hrow7:=setRow_heap _ _ _ #[.string s1,.int .i64 (fM s2),.int .i64 n,.string s4] _ _ IE
  refine hK.out _ _ ⟨by rw [cell_setRow_other _ _ _ _ (by simp)];exact k1,by rw [cell_setRow_other _ _ _ _ (by simp)];exact k4,_,hrow7,rfl⟩ (fun Ci=>?_)
  clear hK K;refine aO 12 ?_ rfl ?_ ?_;rotate_left
  ·intro w hSw;(try dsimp only at hSw);go_simp;try with_reducible rfl
  simp only [Act.put,aU]
  refine wpAnyH_done (by kernel_rfl) ?_ _
  refine NoPanic.normal ?_;go_wp2;rw [HOK.out,HD.out]
  exact bodyPost_ret (v:=iG true ⟨s1,fM s2,n,s4⟩) (by simp [results,Tryz.results186,go_sem,iG,uR,cell_setRow_same _ _ _ _ _ _ _ IE]) rfl ⟨rfl,below_setRow HB6.out aG _⟩
 ·have hne:¬ s0=mkS rM:=fun e=>hset (HW0.out.2 e)
  have hneq:=wD hne;have HE:Hid (decide (a0=rM)=false):=decide_eq_false hset
  have e1:(mkS rM).toList=[115,101,116]:=by rw [ByteArray.toList_eq];rfl
  rw [e1] at hneq;clear hset hne e1;go_wp2;rw [HR.out,HE.out]
  refine bodyPost_ret (v:=iG false iR) (by simp [results,Tryz.results186,go_sem,iG,uR,iR]) rfl ⟨rfl,(aM).alloc (by simp) _⟩
open Go.RowKit
theorem wV (s:ByteArray) (w:World) (hs:s.size≤1048576) (h5:(iw [] (bytes s)).length<5) :
  Calls Tryz.prog 123 #[.string s] w fun e w'=>e=.returned (iG false iR)∧Below w.heap.size w w':=by
 go_enter Tryz.func123,Tryz.ntmps123
 go_wp2_with fail;refine (uH s _ hs).mono ?_;rintro e w1 ⟨v,ws,rfl,⟨g,off,cap,rfl,_,_,_⟩,hws,hb1⟩
 have hlen:ws.length<5:=by rw [← hws,List.length_map] at h5;exact h5
 clear hws h5;generalize ws.length=n at *
 have hrow:w1.heap[w.heap.size]?=some (.cells #[.string ⟨#[]⟩,.int .i64 0,.int .i64 0,.string ⟨#[]⟩] 76):=by
  rw [hb1.block _ (by simp)]
  show (w.heap.push _)[w.heap.size]?=_
  simp
 have HB1:Hid (Below w.heap.size w w1):=aa (aM) hb1
 have h1:((n:Nat):Int)<5:=by omega
 clear hb1
 go_wp2_with (refine wpList_store_row rfl 76 _ _ rfl w.heap.size #[.string ⟨#[]⟩,.int .i64 0,.int .i64 0,.string ⟨#[]⟩] rfl rfl 76 _ hrow (by kernel_rfl) rfl (jW _ _ _ _) ?_)
 exact bodyPost_ret (v:=iG false iR) (by simp [results,Tryz.results123,go_sem,iG,uR,iR,cell_setRow_same _ _ _ _ _ _ _ hrow]) rfl ⟨rfl,below_setRow HB1.out aG _⟩
def jr:Nat→ByteArray→Int
 | 0,_=>0
 | k+1,b=>if gG k=b then (k:Int)+1 else jr k b
theorem C8 (b:ByteArray):jr 5 b=fM b:=by
 have h01:¬ jI=dY:=by decide
 have h02:¬ jI=ma:=by decide
 have h03:¬ jI=jK:=by decide
 have h04:¬ jI=jJ:=by decide
 have h11:¬ jJ=dY:=by decide
 have h12:¬ jJ=ma:=by decide
 have h13:¬ jJ=jK:=by decide
 have h21:¬ jK=dY:=by decide
 have h22:¬ jK=ma:=by decide
 have h31:¬ ma=dY:=by decide
 rcases qG b with ⟨e,e0,e1,e2,e3,e4⟩ | ⟨e,rfl⟩ | ⟨e,rfl⟩ | ⟨e,rfl⟩ | ⟨e,rfl⟩ | ⟨e,rfl⟩
 ·rw [e]
  simp only [jr,gG]
  rw [if_neg (Ne.symm e4),if_neg (Ne.symm e3),if_neg (Ne.symm e2),if_neg (Ne.symm e1),if_neg (Ne.symm e0)]
 all_goals (rw [e];simp [jr,gG, *])
theorem rT {ws:List ByteArray} {l:List (List UInt8)} (h:ws.map bytes=l) {i:Nat} {a:List UInt8} (ha:l[i]?=some a):ws[i]?=some (mkS a):=by
 rw [← h,List.getElem?_map] at ha
 cases hx:ws[i]? with
 | none=>rw [hx] at ha;cases ha
 | some x =>
  rw [hx] at ha
  have e:bytes x=a:=by simpa using ha
  rw [← e,bI]
theorem ws_five {s:ByteArray} {ws:List ByteArray} {a0 a1 a2 a3 r:List UInt8} (hws:ws.map bytes=iw [] (bytes s)) (h5:bytes s=a0++32::(a1++32::(a2++32::(a3++32::r)))) (h0:gZ a0) (h1:gZ a1) (h2:gZ a2) (h3:gZ a3) :
  5≤ws.length∧ws[0]?=some (mkS a0)∧ws[1]?=some (mkS a1)∧ws[2]?=some (mkS a2)∧ws[3]?=some (mkS a3):=by
 rw [h5,bt _ _ _ h0,bt _ _ _ h1,bt _ _ _ h2,bt _ _ _ h3] at hws
 simp only [List.nil_append] at hws
 refine ⟨?_,rT hws rfl,rT hws rfl,rT hws rfl,rT hws rfl⟩;have h4:=nI r [];have h6:=congrArg List.length hws;rw [List.length_map] at h6
 simp only [List.length_cons] at h6
 omega
theorem Hu {P:Program} {c:Code} {Q:Exit→Act→World→Prop} {a:Act} {w:World} (F:World→Prop) (a':Act) (h:c.wp P (fun e b z=>e=.normal∧b=a'∧F z) a w) (k:∀ z,F z→Q .normal a' z):c.wp P Q a w :=
 Code.wp_mono (fun e b z ⟨he,hb,hz⟩=>by subst he;subst hb;exact k z hz) h
structure lL (w:World) (g off C:Nat) (s0 s1 s2 s3:ByteArray) (cs:Array Value) (z:World):Prop where
 gC:g≠C
 bC:w.heap.size<C
 c0:z.cell? ⟨g,off,none⟩=some (.string s0)
 c1:z.cell? ⟨g,off+1,none⟩=some (.string s1)
 c2:z.cell? ⟨g,off+2,none⟩=some (.string s2)
 c3:z.cell? ⟨g,off+3,none⟩=some (.string s3)
 rowB:z.heap[w.heap.size]?=some (.cells #[.string ⟨#[]⟩,.int .i64 0,.int .i64 0,.string ⟨#[]⟩] 76)
 Bu:z.heap[C]?=some (.cells cs 76)
 bel:Below w.heap.size w z
theorem KW {z:World} {C:Nat} {o:Obj} (h:z.heap[C]?=some o):C<z.heap.size:=(Array.getElem?_eq_some_iff.1 h).1
theorem lL.step {w z z':World} {g off C:Nat} {s0 s1 s2 s3:ByteArray} {cs:Array Value} (h:lL w g off C s0 s1 s2 s3 cs z) (hb:Below z.heap.size z z'):lL w g off C s0 s1 s2 s3 cs z' :=
 ⟨h.gC,h.bC,ag hb aG h.c0,ag hb aG h.c1,ag hb aG h.c2,ag hb aG h.c3,by rw [hb.block _ (KW h.rowB)];exact h.rowB,by rw [hb.block _ (KW h.Bu)];exact h.Bu,aa h.bel hb⟩
theorem lL.set {w z:World} {g off C:Nat} {s0 s1 s2 s3:ByteArray} {cs:Array Value} (h:lL w g off C s0 s1 s2 s3 cs z) (cs':Array Value):lL w g off C s0 s1 s2 s3 cs' (z.setRow C cs') :=
 ⟨h.gC,h.bC,by rw [cell_setRow_other _ _ _ _ h.gC];exact h.c0,by rw [cell_setRow_other _ _ _ _ h.gC];exact h.c1,by rw [cell_setRow_other _ _ _ _ h.gC];exact h.c2,by rw [cell_setRow_other _ _ _ _ h.gC];exact h.c3,by rw [setRow_other _ _ _ _ (by have:=h.bC;omega)];exact h.rowB,setRow_heap _ _ _ _ _ _ h.Bu,below_setRow h.bel (Nat.le_of_lt h.bC) _⟩
theorem lL.cell {w z:World} {g off C:Nat} {s0 s1 s2 s3:ByteArray} {cs:Array Value} (h:lL w g off C s0 s1 s2 s3 cs z) (j:Nat):z.cell? ⟨C,j,none⟩=cs[j]?:=by
 simp [World.cell?,h.Bu]
theorem lL.open {w z:World} {g off C:Nat} {s0 s1 s2 s3:ByteArray} {cs:Array Value} (h:lL w g off C s0 s1 s2 s3 cs z) (j:Nat):z.frozen? ⟨C,j,none⟩=false:=by
 simp [World.frozen?,h.Bu]
theorem Im (s:ByteArray) (w:World) (hs:s.size≤maxLen) :
  Calls Tryz.prog 120 #[.string s] w fun e w'=>e=.returned (.int .i64 (iA s))∧w'=w:=cg s w hs
theorem p9 (s:ByteArray) (w:World) (hs:s.size≤1048576) {a0 a1 a2 a3 r:List UInt8} (h5:bytes s=a0++32::(a1++32::(a2++32::(a3++32::r)))) (h0:gZ a0) (h1:gZ a1) (h2:gZ a2) (h3:gZ a3) :
  Calls Tryz.prog 123 #[.string s] w fun e w'=>e=.returned (iG (CO a0 a1 a2 a3 r) ⟨mkS a1,fM (mkS a2),iA (mkS a3),mkS r⟩)∧Below w.heap.size w w':=by
 have HWS:Hid (∀ ws:List ByteArray,ws.map bytes=iw [] (bytes s)→5≤ws.length∧ws[0]?=some (mkS a0)∧ws[1]?=some (mkS a1)∧ws[2]?=some (mkS a2)∧ws[3]?=some (mkS a3)):=fun ws hws=>ws_five hws h5 h0 h1 h2 h3;have qF:Hid (dR ⟨mkS a1,fM (mkS a2),iA (mkS a3),mkS r⟩=s ↔ CO a0 a1 a2 a3 r=true):=EN h5 h0;have hz:=congrArg List.length h5;rw [aK] at hz
 simp at hz
 have z1:(mkS a1).size≤1048576:=by rw [ch];omega
 have z3:(mkS a3).size≤maxLen:=by rw [ch];unfold maxLen;omega
 have z4:(mkS r).size≤1048576:=by rw [ch];omega
 have hsz:(mkS a0).size+(mkS a1).size+(mkS a2).size+(mkS a3).size+4≤s.size:=by simp only [ch];omega
 have HX:Hid (s.extract ((mkS a0).size+(mkS a1).size+(mkS a2).size+(mkS a3).size+4) s.size=mkS r):=by
  show s.extract _ _=_
  apply bq
  rw [bf,bS,h5]
  simp only [ch]
  have e:a0++32::(a1++32::(a2++32::(a3++32::r)))=(a0++[32]++a1++[32]++a2++[32]++a3++[32])++r:=by simp
  rw [e,List.drop_left' (by simp;omega),List.take_of_length_le (by omega)]
 clear hz h5 h0 h1 h2 h3;generalize CO a0 a1 a2 a3 r=okb at *;generalize mkS a0=s0 at *;generalize mkS a1=s1 at *;generalize mkS a2=s2 at *;generalize mkS a3=s3 at *;generalize mkS r=s4 at *
 go_enter Tryz.func123,Tryz.ntmps123
 go_wp2_with fail;refine (uH s _ hs).mono ?_;rintro e w1 ⟨v,ws,rfl,⟨g,off,cap,rfl,_,_,hcell⟩,hws,hb1⟩;obtain ⟨hlen,q0,q1,q2,q3⟩:=HWS.out ws hws;have c0:=hcell 0 s0 q0;have c1:=hcell 1 s1 q1;have c2:=hcell 2 s2 q2;have c3:=hcell 3 s3 q3;clear hws hcell q0 q1 q2 q3 HWS;generalize ws.length=n at *
 have hrow:w1.heap[w.heap.size]?=some (.cells #[.string ⟨#[]⟩,.int .i64 0,.int .i64 0,.string ⟨#[]⟩] 76):=by
  rw [hb1.block _ (by simp)]
  show (w.heap.push _)[w.heap.size]?=_
  simp
 have hgl:w.heap.size<w1.heap.size:=Nat.lt_of_lt_of_le (by simp) hb1.size
 have HB1:Hid (Below w.heap.size w w1):=aa (aM) hb1
 have n5:¬ ((n:Nat):Int)<5:=by omega
 have n0:(0:Int)<n:=by omega
 have n1:(1:Int)<n:=by omega
 have n2:(2:Int)<n:=by omega
 have n3:(3:Int)<n:=by omega
 clear hb1;go_wp2;have hgw:g<w1.heap.size:=av c0
 apply Hu (lL w g off w1.heap.size s0 s1 s2 s3 #[.string s1,.int .i64 0,.int .i64 (iA s3),.string ⟨#[]⟩])
 ·refine wp_region_noPanic ?_
  refine wp_region_held_drew (S:=fun w'=>w'.cell? ⟨g,off+1,none⟩=some (.string s1)∧w'.cell? ⟨g,off+3,none⟩=some (.string s3)) (by kernel_rfl) ?_ (fun hHeld=>?_)
  ·exact ⟨by simpa using c1,by simpa using c3⟩
  refine aO 0 ?_ rfl ?_ (aO 1 ?_ rfl ?_ (aO 2 ?_ rfl ?_ (aO 3 ?_ rfl ?_ (aO 4 ?_ rfl ?_ (aO 5 ?_ rfl ?_ ?_)))))
  iterate 6 (rotate_left;focus (intro w hSw;(try dsimp only at hSw);simp only [Act.put,aU];go_simp;try with_reducible rfl))
  simp only [Act.put,aU]
  have GK:(w1.drew.alloc (.cells #[.string ⟨#[]⟩,.int .i64 0,.int .i64 0,.string ⟨#[]⟩] 76)).cell? ⟨g,off+1,none⟩=some (.string s1)∧(w1.drew.alloc (.cells #[.string ⟨#[]⟩,.int .i64 0,.int .i64 0,.string ⟨#[]⟩] 76)).cell? ⟨g,off+3,none⟩=some (.string s3) :=
   ⟨ag (aM) aG hHeld.1,ag (aM) aG hHeld.2⟩
  have hrowA:(w1.drew.alloc (.cells #[.string ⟨#[]⟩,.int .i64 0,.int .i64 0,.string ⟨#[]⟩] 76)).heap[w1.heap.size]?=some (.cells #[.string ⟨#[]⟩,.int .i64 0,.int .i64 0,.string ⟨#[]⟩] 76):=by
   show (w1.heap.push _)[w1.heap.size]?=_
   simp
  have hRA:lL w g off w1.heap.size s0 s1 s2 s3 #[.string ⟨#[]⟩,.int .i64 0,.int .i64 0,.string ⟨#[]⟩] (w1.drew.alloc (.cells #[.string ⟨#[]⟩,.int .i64 0,.int .i64 0,.string ⟨#[]⟩] 76)):=by
   have Km:Below w1.heap.size w1 (w1.drew.alloc (.cells #[.string ⟨#[]⟩,.int .i64 0,.int .i64 0,.string ⟨#[]⟩] 76)):=(Below.refl _ _).drew.alloc aG _
   exact ⟨by omega,hgl,ag Km aG c0,ag Km aG c1,ag Km aG c2,ag Km aG c3,by rw [Km.block _ hgl];exact hrow,hrowA,aa HB1.out Km⟩
  have hRB:=hRA.set #[.string s1,.int .i64 0,.int .i64 (iA s3),.string ⟨#[]⟩];refine lZ 6 8 rfl rfl (fun K hK=>?_) (fun K hK=>?_)
  focus
   go_simp;refine (Im s3 _ z3).mono ?_;rintro e w2 ⟨rfl,rfl⟩;refine hK.out _ _ hHeld (fun _=>?_);clear hK K;refine aO 7 ?_ rfl ?_ ?_;rotate_left
   ·intro w hSw;(try dsimp only at hSw);go_simp;try with_reducible rfl
   simp only [Act.put,aU]
   refine bE 8 rfl (fun K hK=>?_);go_simp;refine hK.out _ _ GK (fun _=>?_);clear hK K
  rotate_left
  focus
   go_simp;refine hK.out _ _ GK (fun _=>?_);clear hK K;refine bE 6 rfl (fun K hK=>?_);go_simp;refine (Im s3 _ z3).mono ?_;rintro e w2 ⟨rfl,rfl⟩;refine hK.out _ _ GK (fun _=>?_);clear hK K;refine aO 7 ?_ rfl ?_ ?_;rotate_left
   ·intro w hSw;(try dsimp only at hSw);go_simp;try with_reducible rfl
   simp only [Act.put,aU]
  rotate_left
  all_goals
   refine bE 9 rfl (fun K hK=>?_)
   refine wp_store_row 76 _ _ rfl w1.heap.size #[.string s1,.int .i64 0,.int .i64 (iA s3),.string ⟨#[]⟩] rfl rfl 76 _ hrowA (by kernel_rfl) rfl (jW _ _ _ _) ?_
   refine hK.out _ _ ⟨hRB.c1,hRB.c3⟩ (fun _=>?_);clear hK K
   refine wpAnyH_done (by kernel_rfl) ?_ _
   refine NoPanic.normal ?_;refine ⟨rfl,?_,hRB⟩
   simp only [Act.put,List.getElem_toArray,List.getElem_cons_succ,List.getElem_cons_zero]
   all_goals rfl
 ·intro z hR
  clear c0 c1 c2 c3 hrow HB1;generalize w1.heap.size=C at *;have jH:Hid (lL w g off C s0 s1 s2 s3 #[.string s1,.int .i64 (jr 0 s2),.int .i64 (iA s3),.string ⟨#[]⟩] z):=hR;clear hR hgw;go_wp2
  go_loopw [6] (fun i wr=>∃ k:Nat,k≤5∧i=.int .i64 k∧Hid (lL w g off C s0 s1 s2 s3 #[.string s1,.int .i64 (jr k s2),.int .i64 (iA s3),.string ⟨#[]⟩] wr)) (fun i _=>5-(intOf i).toNat)
  case atStart=>exact ⟨0,Nat.zero_le _,rfl,jH⟩
  case round =>
   obtain ⟨k,hk,rfl,HR⟩:=hrel;clear jH
   by_cases hlt:k<5
   ·have hk5:(k:Int)<5:=by omega
    go_wp2_with fail;refine (lN _).mono ?_;rintro e w2 ⟨rfl,hw2⟩
    have HR2:Hid (lL w g off C s0 s1 s2 s3 #[.string s1,.int .i64 (jr k s2),.int .i64 (iA s3),.string ⟨#[]⟩] w2):=HR.out.step (by rw [hw2];exact (aM))
    clear hw2 HR;have c2:=HR2.out.c2
    have hb2l:∀ w3:World,w3=w2.drew.alloc (.cells #[.string dY,.string ma,.string jK,.string jJ,.string jI] 9)→Below w2.heap.size w2 w3:=by
     rintro w3 rfl;exact (Below.refl _ _).drew.alloc aG _
    have HL:Hid (∀ w3:World,w3=w2.drew.alloc (.cells #[.string dY,.string ma,.string jK,.string jJ,.string jI] 9)→Below w2.heap.size w2 w3):=hb2l;clear hb2l
    have hk0:(0:Int)≤(k:Int):=by omega
    go_wp2
    apply Hu (fun w3=>lL w g off C s0 s1 s2 s3 #[.string s1,.int .i64 (jr k s2),.int .i64 (iA s3),.string ⟨#[]⟩] w3)
    ·refine wp_region_noPanic ?_
     refine wp_region_held_drew (S:=fun w'=>w'.cell? ⟨g,off+2,none⟩=some (.string s2)) (by kernel_rfl) (by simpa using c2) (fun hHeld=>?_)
     refine aO 1 ?_ rfl ?_ (aO 4 ?_ rfl ?_ (aO 5 ?_ rfl ?_ (aO 6 ?_ rfl ?_ ?_)))
     iterate 4 (rotate_left;focus (intro w hSw;(try dsimp only at hSw);simp only [Act.put,aU];go_simp;try with_reducible rfl))
     simp only [Act.put,aU]
     refine bE 0 rfl (fun K hK=>?_);go_simp;refine (lN _).mono ?_;rintro e w3 ⟨rfl,hw3⟩;have hb3:Below w2.heap.size w2 w3:=HL.out w3 hw3
     have t0:w3.cell? ⟨w2.heap.size,k,none⟩=some (.string (gG k)):=by
      rw [hw3]
      have h5:k=0∨k=1∨k=2∨k=3∨k=4:=by omega
      rcases h5 with rfl | rfl | rfl | rfl | rfl <;> simp [go_sem,gG]
     clear hw3;have HR3:=HR2.out.step hb3;have d2:=HR3.c2;refine hK.out _ _ d2 (fun _=>?_);refine nV (T:=fun w'=>w'.cell? ⟨g,off+2,none⟩=some (.string s2)∧w'.cell? ⟨w2.heap.size,k,none⟩=some (.string (gG k))) (fun _ h=>h.1) _ _ _ _ ?_;have hHeld1:=And.intro d2 t0;clear hK K;refine aO 2 ?_ rfl ?_ (aO 3 ?_ rfl ?_ (aO 7 ?_ rfl ?_ ?_))
     iterate 3 (rotate_left;focus (intro w hSw;(try dsimp only at hSw);simp only [Act.put,aU];go_simp;try with_reducible rfl))
     simp only [Act.put,aU]
     refine wpAnyH_done (by kernel_rfl) ?_ _
     refine NoPanic.normal ?_;exact ⟨rfl,rfl,HR3⟩
    ·intro w3 hR3
     clear c2 HR2 HL;have HR3:Hid (lL w g off C s0 s1 s2 s3 #[.string s1,.int .i64 (jr k s2),.int .i64 (iA s3),.string ⟨#[]⟩] w3):=hR3
     by_cases hw:gG k=s2
     ·have h1:((gG k).toList==s2.toList)=true:=Bj hw
      have HW:Hid (jr (k+1) s2=(k:Int)+1):=if_pos hw;have x0:w3.cell? ⟨C,0,none⟩=some (.string s1):=hR3.cell 0;have x1:w3.cell? ⟨C,1,none⟩=some (.int .i64 (jr k s2)):=hR3.cell 1;have x2:w3.frozen? ⟨C,1,none⟩=false:=hR3.open 1;clear hw hR3;rw [h1];go_wp2
      refine ⟨⟨k+1,by omega,by go_num,?_⟩,by simp [intOf];omega⟩
      rw [HW.out,setCell_eq_setRow _ _ _ _ _ _ _ HR3.out.Bu];exact HR3.out.set _
     ·have h1:((gG k).toList==s2.toList)=false:=wD hw
      have HW:Hid (jr (k+1) s2=jr k s2):=if_neg hw;clear hw hR3;rw [h1];go_wp2
      exact ⟨⟨k+1,by omega,by go_num,by rw [HW.out];exact HR3⟩,by simp [intOf];omega⟩
   ·have HK:Hid (k=5):=by show k=5;omega
    have hk5:¬ (k:Int)<5:=by omega
    go_wp2_with fail;refine (lN _).mono ?_;rintro e w2 ⟨rfl,hw2⟩
    have HR2:Hid (lL w g off C s0 s1 s2 s3 #[.string s1,.int .i64 (jr k s2),.int .i64 (iA s3),.string ⟨#[]⟩] w2):=HR.out.step (by rw [hw2];exact (aM))
    clear hw2 HR;rw [HK.out,C8] at HR2;have c0:=HR2.out.c0;have c1:=HR2.out.c1;have c2:=HR2.out.c2;have c3:=HR2.out.c3
    have v1:IntKind.i64.wrap ((s0.size:Int)+(s1.size:Int))=(s0.size:Int)+(s1.size:Int):=by rw [IntKind.wrap_i64];omega
    have v2:IntKind.i64.wrap ((s0.size:Int)+(s1.size:Int)+(s2.size:Int))=(s0.size:Int)+(s1.size:Int)+(s2.size:Int):=by rw [IntKind.wrap_i64];omega
    have v3:IntKind.i64.wrap ((s0.size:Int)+(s1.size:Int)+(s2.size:Int)+(s3.size:Int))=(s0.size:Int)+(s1.size:Int)+(s2.size:Int)+(s3.size:Int):=by rw [IntKind.wrap_i64];omega
    have v4:IntKind.i64.wrap ((s0.size:Int)+(s1.size:Int)+(s2.size:Int)+(s3.size:Int)+4)=(s0.size:Int)+(s1.size:Int)+(s2.size:Int)+(s3.size:Int)+4:=by rw [IntKind.wrap_i64];omega
    go_wp2
    go_quiet (fail)
    have HR3:Hid (lL w g off C s0 s1 s2 s3 #[.string s1,.int .i64 (fM s2),.int .i64 (iA s3),.string ⟨#[]⟩] (w2.drewN nq)):=HR2.out.step (below_drewN (Below.refl _ _) _);clear c0 c1 c2 c3 v1 v2 v3 v4 HR2;generalize w2.drewN nq=w3 at HR3 ⊢;obtain ⟨m,hm⟩:∃ m:Nat,m=s0.size+s1.size+s2.size+s3.size+4:=⟨_,rfl⟩
    have hcast:((s0.size:Int)+(s1.size:Int)+(s2.size:Int)+(s3.size:Int)+4)=(m:Int):=by omega
    rw [hcast];rw [← hm] at HX hsz;have hX:s.extract m s.size=s4:=HX.out;have HM:Hid (m=s0.size+s1.size+s2.size+s3.size+4):=hm;clear hm hcast HX;have x0:w3.cell? ⟨C,0,none⟩=some (.string s1):=HR3.out.cell 0;have x1:w3.cell? ⟨C,1,none⟩=some (.int .i64 (fM s2)):=HR3.out.cell 1;have x2:w3.cell? ⟨C,2,none⟩=some (.int .i64 (iA s3)):=HR3.out.cell 2;have x3:w3.cell? ⟨C,3,none⟩=some (.string ⟨#[]⟩):=HR3.out.cell 3;have x4:w3.frozen? ⟨C,3,none⟩=false:=HR3.out.open 3
    have HR4:Hid (lL w g off C s0 s1 s2 s3 #[.string s1,.int .i64 (fM s2),.int .i64 (iA s3),.string s4] (w3.setCell ⟨C,3,none⟩ (.string s4))):=by
     show lL _ _ _ _ _ _ _ _ _ _
     rw [setCell_eq_setRow _ _ _ _ _ _ _ HR3.out.Bu];exact HR3.out.set _
    have hrow4:=HR4.out.Bu
    go_wp2_with (refine wpList_load_row rfl 76 _ rfl C rfl 76 _ _ _ hrow4 Tryz.underlying76 rfl (by kernel_rfl) ?_)
    refine (rH ⟨s1,fM s2,iA s3,s4⟩ _ z1 z4).mono ?_;rintro e w4 ⟨rfl,hb4⟩;have HR5:Hid (lL w g off C s0 s1 s2 s3 #[.string s1,.int .i64 (fM s2),.int .i64 (iA s3),.string s4] w4):=HR4.out.step hb4;have IB:=HR5.out.rowB;have hrowC:=HR5.out.Bu;clear HR3 HR4 hrow4 hb4 x0 x1 x2 x3 x4 hX HM
    cases okb
    ·have h1:((dR ⟨s1,fM s2,iA s3,s4⟩).toList==s.toList)=false:=wD fun e=>by cases qF.out.1 e
     go_wp2_with (refine wpList_store_row rfl 76 _ _ rfl w.heap.size #[.string ⟨#[]⟩,.int .i64 0,.int .i64 0,.string ⟨#[]⟩] rfl rfl 76 _ IB (by kernel_rfl) rfl (jW _ _ _ _) ?_)
     exact bodyPost_ret (v:=iG false iR) (by simp [results,Tryz.results123,go_sem,iG,uR,iR,cell_setRow_same _ _ _ _ _ _ _ IB]) rfl ⟨rfl,below_setRow HR5.out.bel aG _⟩
    ·have h1:((dR ⟨s1,fM s2,iA s3,s4⟩).toList==s.toList)=true:=Bj (qF.out.2 rfl)
     go_wp2_with (first | refine wpList_load_row rfl 76 _ rfl C rfl 76 _ _ _ hrowC Tryz.underlying76 rfl (by kernel_rfl) ?_ | refine wpList_store_row rfl 76 _ _ rfl w.heap.size #[.string s1,.int .i64 (fM s2),.int .i64 (iA s3),.string s4] rfl rfl 76 _ IB (by kernel_rfl) rfl (jW _ _ _ _) ?_)
     exact bodyPost_ret (v:=iG true ⟨s1,fM s2,iA s3,s4⟩) (by simp [results,Tryz.results123,go_sem,iG,uR,cell_setRow_same _ _ _ _ _ _ _ IB]) rfl ⟨rfl,below_setRow HR5.out.bel aG _⟩
open Go.RowKit
open Go.RowKit
theorem yI {i:Nat} (h:i<10):(UInt8.ofNat (48+i)).toNat=48+i:=by
 rw [UInt8.toNat_ofNat']
 exact Nat.mod_eq_of_lt (by omega)
theorem sU:∀ n:Nat,∀ c∈Lib.decDigits n,48≤c.toNat∧c.toNat≤57:=by
 intro n
 induction n using Nat.strongRecOn with
 | _ n ih =>
  intro c hc
  by_cases h:n<10
  ·rw [Lib.decDigits_one h] at hc
   rw [List.mem_singleton.1 hc,yI h];omega
  ·rw [Lib.decDigits,dif_neg h] at hc
   rcases List.mem_append.1 hc with hc | hc
   ·exact ih (n / 10) (by omega) c hc
   ·rw [List.mem_singleton.1 hc,yI (by omega)];omega
theorem Mk (n:Nat):Lib.decDigits n≠[]:=by
 by_cases h:n<10
 ·rw [Lib.decDigits_one h];simp
 ·rw [Lib.decDigits,dif_neg h];simp
theorem Ml:∀ n:Nat,1≤n→((Lib.decDigits n).getD 0 0).toNat≠48:=by
 intro n
 induction n using Nat.strongRecOn with
 | _ n ih =>
  intro hn
  by_cases h:n<10
  ·rw [Lib.decDigits_one h]
   show (UInt8.ofNat (48+n)).toNat≠48
   rw [yI h];omega
  ·rw [Lib.decDigits,dif_neg h]
   have h1:=ih (n / 10) (by omega) (by omega)
   have h2:=Mk (n / 10)
   cases hl:Lib.decDigits (n / 10) with
   | nil=>exact absurd hl h2
   | cons a l=>rw [hl] at h1;exact h1
theorem Ad (l m:List UInt8):∀ k,k≤l.length→fF (mkS (l++m)) k=fF (mkS l) k
 | 0,_=>rfl
 | k+1,h=>by
  show fF (mkS (l++m)) k*10+(((l++m).getD k 0).toNat-48)=fF (mkS l) k*10+((l.getD k 0).toNat-48)
  rw [Ad l m k (by omega)]
  congr 3
  simp [List.getD,List.getElem?_append_left (show k<l.length by omega)]
theorem Ac:∀ n:Nat,fF (mkS (Lib.decDigits n)) (Lib.decDigits n).length=n:=by
 intro n
 induction n using Nat.strongRecOn with
 | _ n ih =>
  by_cases h:n<10
  ·rw [Lib.decDigits_one h]
   show 0*10+((UInt8.ofNat (48+n)).toNat-48)=n
   rw [yI h];omega
  ·have h1:=ih (n / 10) (by omega)
   rw [Lib.decDigits,dif_neg h];rw [List.length_append,List.length_singleton]
   show fF (mkS (Lib.decDigits (n / 10)++[UInt8.ofNat (48+n % 10)])) (Lib.decDigits (n / 10)).length*10+(((Lib.decDigits (n / 10)++[UInt8.ofNat (48+n % 10)]).getD (Lib.decDigits (n / 10)).length 0).toNat-48)=n
   rw [Ad _ _ _ aG,h1]
   rw [show (Lib.decDigits (n / 10)++[UInt8.ofNat (48+n % 10)]).getD (Lib.decDigits (n / 10)).length 0=UInt8.ofNat (48+n % 10) by simp [List.getD]]
   rw [yI (by omega)]
   omega
theorem E9 {n:Nat} (h1:1≤n) (h2:n<10000000):eu (dW n)=true:=by
 have hz:=aR n h2
 have hp:0<(dW n).size:=by
  show 0<(Lib.decDigits n).toArray.size
  rw [List.size_toArray];exact List.length_pos_iff.2 (Mk n)
 unfold eu;rw [Bool.and_eq_true,Bool.and_eq_true]
 refine ⟨by simp [eB];omega,?_,?_⟩
 ·unfold mJ
  rw [Bool.not_eq_true',Bool.and_eq_false_iff]
  right
  have:=Ml n h1
  show (((Lib.decDigits n).getD 0 0).toNat==48)=false
  exact beq_eq_false_iff_ne.2 this
 ·unfold ik
  rw [List.all_eq_true];intro c hc;have:=sU n c hc;unfold oO
  simp
  omega
theorem Jl {n:Int} (h:eB n 1 1000000=true):iA (dW n.toNat)=n:=by
 have hn:1≤n∧n≤1000000:=by simpa [eB] using h
 unfold iA
 rw [E9 (by omega) (by omega)]
 show ((fF (dW n.toNat) (dW n.toNat).size:Nat):Int)=n
 have h1:=Ac n.toNat
 rw [show (dW n.toNat).size=(Lib.decDigits n.toNat).length from List.size_toArray,show dW n.toNat=mkS (Lib.decDigits n.toNat) from rfl,h1]
 omega
theorem uz {f:ByteArray} (h:dD f=true):gZ (bytes f):=by
 intro c hc e;unfold dD at h;rw [Bool.and_eq_true] at h;have h2:=List.all_eq_true.1 h.2 c hc;rw [e] at h2
 revert h2
 decide
theorem oD (n:Nat):gZ (bytes (dW n)):=by
 intro c hc e;have:=sU n c hc;rw [e] at this
 revert this
 decide
theorem Ae (what:Int):gZ (bytes (iQ what)):=by
 unfold iQ
 split
 ·generalize (what-1).toNat=k
  match k with
  | 0 | 1 | 2 | 3 | 4=>exact fun c hc e=>by subst e;revert hc;decide
  | k+5=>exact fun c hc=>by cases hc
 ·exact fun c hc=>by cases hc
theorem DZ:gZ rM:=fun c hc e=>by subst e;revert hc;decide
theorem what_of {what:Int} (h:eB what 1 5=true):fM (iQ what)=what:=by
 have h1:1≤what∧what≤5:=by simpa [eB] using h
 rcases (show what=1∨what=2∨what=3∨what=4∨what=5 by omega) with rfl | rfl | rfl | rfl | rfl <;> decide
theorem AJ {c:dP} (h:gm c=true) {a0 a1 a2 a3 r:List UInt8} (h5:bytes (gB c)=a0++32::(a1++32::(a2++32::(a3++32::r)))) (h0:gZ a0) (h1:gZ a1) (h2:gZ a2) (h3:gZ a3) :
  (⟨mkS a1,fM (mkS a2),iA (mkS a3),mkS r⟩:dP)=c∧CO a0 a1 a2 a3 r=true:=by
 have hB:=h;unfold gm at h;rw [Bool.and_eq_true,Bool.and_eq_true,Bool.and_eq_true] at h;obtain ⟨hw,hf,hn,hv⟩:=h;rw [cF] at h5;obtain ⟨e0,h6⟩:=um DZ h0 h5;obtain ⟨e1,h7⟩:=um (uz hf) h1 h6;obtain ⟨e2,h8⟩:=um (Ae _) h2 h7;obtain ⟨e3,e4⟩:=um (oD _) h3 h8;clear h5 h6 h7 h8;subst e0 e1 e2 e3 e4
 have he:(⟨mkS (bytes c.f),fM (mkS (bytes (iQ c.what))),iA (mkS (bytes (dW c.num.toNat))),mkS (bytes c.v)⟩:dP)=c:=by
  rw [bI,bI,bI,bI,what_of hw,Jl hn]
 refine ⟨he,?_⟩;unfold CO;rw [he,hB]
 simp
theorem JQ {c:dP} (h:gm c=true):5≤(iw [] (bytes (gB c))).length:=by
 unfold gm at h;rw [Bool.and_eq_true,Bool.and_eq_true,Bool.and_eq_true] at h;obtain ⟨hw,hf,hn,hv⟩:=h;rw [cF,bt _ _ _ DZ,bt _ _ _ (uz hf),bt _ _ _ (Ae _),bt _ _ _ (oD _)];have:=nI (bytes c.v) []
 simp only [List.length_cons]
 omega
theorem oq (s:ByteArray) (hs:s.size≤1048576):∃ (d:dP) (b:Bool),
  (∀ w:World,Calls Tryz.prog 123 #[.string s] w fun e w'=>e=.returned (.tuple #[.agg #[.string d.f,.int .i64 d.what,.int .i64 d.num,.string d.v],.bool b])∧Below w.heap.size w w') ∧
  (∀ w:World,ib w→jo w→Calls Tryz.prog 186 #[.string s] w fun e w'=>e=.returned (.tuple #[.agg #[.string d.f,.int .i64 d.what,.int .i64 d.num,.string d.v],.bool b])∧Below w.heap.size w w') ∧
  (b=true→gm d=true∧dR d=s)∧(∀ c,gm c=true→gB c=s→b=true∧d=c)∧d.f.size≤s.size∧d.v.size≤s.size:=by
 rcases five (bytes s) with h | ⟨a0,a1,a2,a3,r,h5,h0,h1,h2,h3⟩
 ·refine ⟨iR,false,fun w=>?_,fun w _ hm=>?_,(fun e=>by cases e),fun c hc e=>?_,Nat.zero_le _,Nat.zero_le _⟩
  ·exact wV s w hs h
  ·exact xC s w hs hm h
  ·have:=JQ hc
   rw [e] at this
   omega
 ·have hl:s.size=a0.length+1+(a1.length+1+(a2.length+1+(a3.length+1+r.length))):=by
   rw [← aK,h5]
   simp only [List.length_append,List.length_cons]
   omega
  cases hok:CO a0 a1 a2 a3 r
  ·refine ⟨iR,false,fun w=>?_,fun w hsd hm=>?_,(fun e=>by cases e),fun c hc e=>?_,Nat.zero_le _,Nat.zero_le _⟩
   ·have hh:=p9 s w hs h5 h0 h1 h2 h3
    rw [hok] at hh;exact hh
   ·have hh:=qh s w hs hm hsd h5 h0 h1 h2 h3
    rw [hok] at hh;exact hh
   ·subst e
    have:=(AJ hc h5 h0 h1 h2 h3).2;rw [hok] at this
    cases this
  ·refine ⟨⟨mkS a1,fM (mkS a2),iA (mkS a3),mkS r⟩,true,fun w=>?_,fun w hsd hm=>?_,fun _=>⟨?_,(EN h5 h0).2 hok⟩,fun c hc e=>⟨rfl,?_⟩,?_,?_⟩
   ·have hh:=p9 s w hs h5 h0 h1 h2 h3
    rw [hok] at hh;exact hh
   ·have hh:=qh s w hs hm hsd h5 h0 h1 h2 h3
    rw [hok] at hh;exact hh
   ·unfold CO at hok
    rw [Bool.and_eq_true] at hok;exact hok.2
   ·subst e
    exact (AJ hc h5 h0 h1 h2 h3).1
   ·show (mkS a1).size≤_
    rw [ch];omega
   ·show (mkS r).size≤_
    rw [ch];omega
end Go.Proofs.YtcmgddnckohdaaaGreatDoor
