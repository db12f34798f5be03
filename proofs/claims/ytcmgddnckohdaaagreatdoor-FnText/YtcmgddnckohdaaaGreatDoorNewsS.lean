import Derived.Test.YtcmgddnckohdaaaGreatDoorMark3
import Derived.Test.YtcmgddnckohdaaaGreatDoorShelf2
set_option maxHeartbeats 1600000

namespace Go.Proofs.YtcmgddnckohdaaaGreatDoor
open Go.RowKit
attribute [local go_sem] Later.cell Later.frozen
theorem Mo:∀ a b:List UInt8,Lib.compareBytes a b=if Op.bytesLess a b then -1 else if a=b then 0 else 1
 | [],[]=>rfl
 | [],_::_=>rfl
 | _::_,[]=>rfl
 | a::x,b::y=>by
  rw [Lib.compareBytes,Mo x y]
  by_cases h:a<b
  ·simp [Op.bytesLess,h]
  ·by_cases k:b<a
   ·have hne:¬ a=b:=fun e=>by rw [e] at k;exact UInt8.lt_irrefl b k
    simp [Op.bytesLess,h,k,hne]
   ·have e:a=b:=UInt8.le_antisymm (UInt8.not_lt.1 k) (UInt8.not_lt.1 h)
    subst e
    simp [Op.bytesLess,h]
def Cw (a b:ByteArray):Int:=if iU a b then -1 else if a=b then 0 else 1
def yO (a b:Int):Int:=if a<b then -1 else if b<a then 1 else 0
def Mr (a b:dP):Int:=if Cw a.f b.f≠0 then Cw a.f b.f else yO a.what b.what
theorem cmpS_eq (a b:ByteArray):Lib.compareBytes a.data.toList b.data.toList=Cw a b:=by
 rw [Mo];unfold Cw iU;rw [ByteArray.toList_eq,ByteArray.toList_eq]
 have:(a.data.toList=b.data.toList) ↔ a=b:=⟨fun h=>bq h,fun h=>by rw [h]⟩
 simp only [this]
theorem cmpK_eq (a b:dP):Mr a b=if gz a b then -1 else if eX a b then 0 else 1:=by
 unfold Mr Cw yO gz eX
 by_cases h:iU a.f b.f=true
 ·simp [h]
 ·by_cases e:a.f=b.f
  ·simp only [e,if_true]
   rw [e] at h
   by_cases h1:a.what<b.what
   ·simp [h,h1]
   ·by_cases h2:b.what<a.what
    ·have:¬ a.what=b.what:=by omega
     simp [h,h1,h2,this]
    ·have:a.what=b.what:=by omega
     simp [h,this]
  ·simp [h,e]
theorem wQ (a b:ByteArray) (w:World):Calls Tryz.prog 275 #[.string a,.string b] w fun e w'=>e=.returned (.int .i64 (Cw a b))∧w'=w:=by
 have:=Tryz.strings_Compare a b w;rw [cmpS_eq] at this;exact this
theorem uI (a:Int) (w:World):Calls Tryz.prog 289 #[.int .i64 a] w fun e w'=>e=.returned (.bool false)∧w'=w:=by
 have h:(a != a)=false:=by simp
 go_enter Tryz.func289,Tryz.ntmps289
 go_wp2;go_ret;exact ⟨rfl,rfl⟩
theorem yP (a b:Int) (w:World):Calls Tryz.prog 276 #[.int .i64 a,.int .i64 b] w fun e w'=>e=.returned (.int .i64 (yO a b))∧w'=w:=by
 by_cases h1:a<b
 ·have e:yO a b=-1:=if_pos h1
  rw [e];clear e
  go_enter Tryz.func276,Tryz.ntmps276
  go_wp2_with (go_at_call 289;refine (uI _ _).mono ?_;rintro e w' ⟨rfl,rfl⟩)
  go_ret;exact ⟨rfl,rfl⟩
 ·by_cases h2:b<a
  ·have e:yO a b=1:=by unfold yO;rw [if_neg h1,if_pos h2]
   rw [e];clear e
   go_enter Tryz.func276,Tryz.ntmps276
   go_wp2_with (go_at_call 289;refine (uI _ _).mono ?_;rintro e w' ⟨rfl,rfl⟩)
   go_ret;exact ⟨rfl,rfl⟩
  ·have e:yO a b=0:=by unfold yO;rw [if_neg h1,if_neg h2]
   rw [e];clear e
   go_enter Tryz.func276,Tryz.ntmps276
   go_wp2_with (go_at_call 289;refine (uI _ _).mono ?_;rintro e w' ⟨rfl,rfl⟩)
   go_ret;exact ⟨rfl,rfl⟩
def orI (a b:Int):Int:=if a≠0 then a else b
theorem J2 (B:Nat) (a b:Int) (w:World) (h0:w.cell? ⟨B,0,none⟩=some (.int .i64 a)) (h1:w.cell? ⟨B,1,none⟩=some (.int .i64 b)) :
  Calls Tryz.prog 274 #[.slice (some ⟨B,0,none⟩) 2 2] w fun e w'=>e=.returned (.int .i64 (orI a b))∧w'=w:=by
 go_enter Tryz.func274,Tryz.ntmps274
 go_wp2
 go_loopw [5,8] (fun _ i wr=>wr=w∧(i=.int .i64 0∨(i=.int .i64 1∧a=0)∨(i=.int .i64 2∧a=0∧b=0))) (fun _ i _=>2-(intOf i).toNat)
 case atStart=>exact ⟨rfl,.inl rfl⟩
 case round =>
  obtain ⟨rfl,rfl | ⟨rfl,ha⟩ | ⟨rfl,ha,hb⟩⟩:=hrel
  ·by_cases hz:a=0
   ·have hq:(a != 0)=false:=by simp [hz]
    have HZ:Hid (a=0):=hz;clear hz;go_wp2
    exact ⟨⟨by trivial,.inr (.inl ⟨by go_num,HZ.out⟩)⟩,by simp [intOf]⟩
   ·have hq:(a != 0)=true:=by simp [hz]
    have HZ:Hid (¬ a=0):=hz;clear hz;go_wp2;go_ret
    exact ⟨lM (by unfold orI;rw [if_pos HZ.out]),rfl⟩
  ·have HA:Hid (a=0):=ha
   clear ha
   by_cases hz:b=0
   ·have hq:(b != 0)=false:=by simp [hz]
    have HZ:Hid (b=0):=hz;clear hz;go_wp2
    exact ⟨⟨by trivial,.inr (.inr ⟨by go_num,HA.out,HZ.out⟩)⟩,by simp [intOf]⟩
   ·have hq:(b != 0)=true:=by simp [hz]
    have HZ:Hid (¬ b=0):=hz;clear hz;go_wp2;go_ret
    exact ⟨lM (by unfold orI;rw [if_neg (by simp [HA.out])]),rfl⟩
  ·have HA:Hid (a=0∧b=0):=⟨ha,hb⟩
   clear ha hb;go_wp2;go_ret
   exact ⟨lM (by unfold orI;rw [if_neg (by simp [HA.out.1]),HA.out.2]),rfl⟩
theorem gt_bl (a b:ByteArray):(!Op.bytesLess a.toList b.toList&&!a.toList==b.toList)=iU b a:=by
 unfold iU
 cases h:Op.bytesLess b.toList a.toList with
 | true =>
  have h1:Op.bytesLess a.toList b.toList=false:=by
   cases h1:Op.bytesLess a.toList b.toList with
   | false=>rfl
   | true=>have:=yV _ _ _ h h1;rw [pR] at this;cases this
  have h2:(a.toList==b.toList)=false:=by
   rw [beq_eq_false_iff_ne];intro e;rw [e,pR] at h;cases h
  rw [h1,h2];rfl
 | false =>
  cases h1:Op.bytesLess a.toList b.toList with
  | true=>rfl
  | false =>
   have e:=yX _ _ h1 h;rw [e];simp
theorem Av (c:dP) (w:World):Calls Tryz.prog 238 #[.agg #[.string c.f,.int .i64 c.what,.int .i64 c.num,.string c.v]] w fun e w'=>e=.returned (.agg #[.string c.f,.int .i64 c.what])∧Below w.heap.size w w':=by
 go_enter Tryz.func238,Tryz.ntmps238
 go_wp2
 exact bodyPost_ret (v:=.agg #[.string c.f,.int .i64 c.what]) (by simp [results,Tryz.results238,go_sem]) rfl ⟨rfl,(aM).alloc (by simp) _⟩
theorem EU (c:dP) (w:World):Calls Tryz.prog 236 #[.agg #[.string c.f,.int .i64 c.what,.int .i64 c.num,.string c.v]] w fun e w'=>e=.returned (.agg #[.int .i64 c.what,.int .i64 c.num,.string c.v])∧Below w.heap.size w w':=by
 go_enter Tryz.func236,Tryz.ntmps236
 go_wp2
 exact bodyPost_ret (v:=.agg #[.int .i64 c.what,.int .i64 c.num,.string c.v]) (by simp [results,Tryz.results236,go_sem]) rfl ⟨rfl,(aM).alloc (by simp) _⟩
theorem Jt (x y:dP) (w:World):Calls Tryz.prog 237 #[.agg #[.int .i64 x.what,.int .i64 x.num,.string x.v],.agg #[.int .i64 y.what,.int .i64 y.num,.string y.v]] w fun e w'=>e=.returned (.bool (mM x y))∧Below w.heap.size w w':=by
 have HB:Hid (∀ o o':Obj,Below w.heap.size w ((w.alloc o).alloc o')):=fun o o'=>(aM).alloc (by simp) _
 by_cases h:x.num=y.num
 ·have e:mM x y=iU y.v x.v:=by unfold mM;rw [if_pos h]
  have hq:(x.num != y.num)=false:=by simp [h]
  rw [e];clear e h
  go_enter Tryz.func237,Tryz.ntmps237
  go_wp2;go_ret;exact ⟨ax (gt_bl _ _),HB.out _ _⟩
 ·have e:mM x y=decide (y.num<x.num):=by unfold mM;rw [if_neg h]
  have hq:(x.num != y.num)=true:=by simp [h]
  rw [e];clear e h
  go_enter Tryz.func237,Tryz.ntmps237
  go_wp2;go_ret;exact ⟨rfl,HB.out _ _⟩
theorem Ew (x y:dP) (w:World):Calls Tryz.prog 203 #[.agg #[.int .i64 x.what,.int .i64 x.num,.string x.v],.agg #[.int .i64 y.what,.int .i64 y.num,.string y.v]] w fun e w'=>e=.returned (.bool (mM x y))∧Below w.heap.size w w':=by
 have HB:Hid (∀ o o':Obj,Below w.heap.size w ((w.alloc o).alloc o')):=fun o o'=>(aM).alloc (by simp) _
 by_cases h:x.num=y.num
 ·have e:mM x y=iU y.v x.v:=by unfold mM;rw [if_pos h]
  have hq:(x.num != y.num)=false:=by simp [h]
  rw [e];clear e h
  go_enter Tryz.func203,Tryz.ntmps203
  go_wp2;go_ret;exact ⟨ax (gt_bl _ _),HB.out _ _⟩
 ·have e:mM x y=decide (y.num<x.num):=by unfold mM;rw [if_neg h]
  have hq:(x.num != y.num)=true:=by simp [h]
  rw [e];clear e h
  go_enter Tryz.func203,Tryz.ntmps203
  go_wp2;go_ret;exact ⟨rfl,HB.out _ _⟩
theorem jm (s:ByteArray) (w:World) (hs:s.size≤1048576) :
  Calls Tryz.prog 209 #[.string s] w fun e w'=>e=.returned (.string s)∧Below w.heap.size w w':=by
 go_enter Tryz.func209,Tryz.ntmps209
 go_wp2_with fail
 refine (Tryz.stringslite_Clone s _ (by omega)).mono ?_
 rintro e w' ⟨rfl,hb⟩;go_wp2;go_ret;exact ⟨rfl,hb⟩
end Go.Proofs.YtcmgddnckohdaaaGreatDoor
namespace Go.Proofs.YtcmgddnckohdaaaGreatDoor
open Go.RowKit
open Go.RowKit
attribute [local go_sem] Later.cell Later.frozen
theorem Co {α:Type} {p:α→Bool} {l:List α} {k:Nat} {x:α} (hk:l[k]?=some x) (hp:p x=true) (hn:∀ (j:Nat) (y:α),j<k→l[j]?=some y→p y=false):l.find? p=some x:=by
 obtain ⟨hlt,rfl⟩:=List.getElem?_eq_some_iff.1 hk;rw [List.find?_eq_some_iff_getElem]
 exact ⟨hp,k,hlt,rfl,fun j hj=>by simp [hn j _ hj (List.getElem?_eq_getElem (by omega))]⟩
theorem Cn {α:Type} {p:α→Bool} {l:List α} (hn:∀ (j:Nat) (y:α),l[j]?=some y→p y=false):l.find? p=none:=by
 rw [List.find?_eq_none];intro x hx;obtain ⟨i,hi,rfl⟩:=List.getElem_of_mem hx
 simp [hn i _ (List.getElem?_eq_getElem hi)]
theorem xZ (vk vp ve:Value) (es:List dU) (n:ByteArray) (w:World) (he:je w ve es) :
  Calls Tryz.prog 151 #[.agg #[vk,vp,ve],.string n] w fun e w'=>∃ r:Int,e=.returned (.int .i64 r)∧((r=-1∧es.find? (fun e=>decide (e.name=n))=none) ∨ ∃ k:Nat,k<es.length∧r=(k:Int)∧es.find? (fun e=>decide (e.name=n))=some (eZ es k))∧Below w.heap.size w w':=by
 obtain ⟨ae,ce,rfl,hlc,hcm,hc⟩:=he;unfold maxLen at hcm;have HC:Hid (∀ i f,es[i]?=some f→∃ b off,ae=some ⟨b,off,none⟩∧lH w b (off+i*2) f):=hc;clear hc;have HX0:Hid (OwnAt w (w.alloc (.cells #[vk,vp,.slice ae es.length ce] 30)) [[vk,vp,.slice ae es.length ce]]):=(OwnAt.start w).push rfl _ _
 have y0:(w.alloc (.cells #[vk,vp,.slice ae es.length ce] 30)).cell? ⟨w.heap.size,0,none⟩=some vk:=by simp
 have y1:(w.alloc (.cells #[vk,vp,.slice ae es.length ce] 30)).cell? ⟨w.heap.size,1,none⟩=some vp:=by simp
 have y2:(w.alloc (.cells #[vk,vp,.slice ae es.length ce] 30)).cell? ⟨w.heap.size,2,none⟩=some (.slice ae es.length ce):=by simp
 go_enter Tryz.func151,Tryz.ntmps151
 go_wp2;generalize w.alloc (.cells #[vk,vp,.slice ae es.length ce] 30)=w1 at *
 go_loopw [5] (fun i wr=>wr=w1∧∃ k:Nat,k≤es.length∧i=.int .i64 k∧Hid (∀ j y,j<k→es[j]?=some y→decide (y.name=n)=false)) (fun i _=>es.length-(intOf i).toNat)
 case atStart=>exact ⟨rfl,0,Nat.zero_le _,rfl,fun j y hj=>absurd hj (Nat.not_lt_zero _)⟩
 case round =>
  obtain ⟨rfl,k,hk,rfl,HA⟩:=hrel
  by_cases hlt:k<es.length
  ·obtain ⟨b,off,rfl,hc⟩:=HC.out k _ (bp hlt)
   obtain ⟨fv,d0,d1,hfl⟩:=hc.keep HX0.out.below;obtain ⟨fa,fc,rfl,-,-,-⟩:=hfl
   have hk0:(0:Int)≤(k:Int):=by omega
   have hk1:(k:Int)<(es.length:Int):=by omega
   have HG:Hid (es[k]?=some (eZ es k)):=bp hlt
   by_cases hx:(eZ es k).name=n
   ·have h1:((eZ es k).name.toList==n.toList)=true:=cA hx
    have HX:Hid ((eZ es k).name=n):=hx;clear hx hc;go_wp2;go_ret
    exact ⟨_,rfl,.inr ⟨k,hlt,rfl,Co HG.out (by simp [HX.out]) HA.out⟩,HX0.out.below⟩
   ·have h1:((eZ es k).name.toList==n.toList)=false:=b9 hx
    have HX:Hid (¬ (eZ es k).name=n):=hx;clear hx hc;go_wp2
    exact ⟨⟨by trivial,k+1,by omega,by go_num,fun j y hj hy=>if e:j=k then by subst e;rw [HG.out] at hy;cases hy;simp [HX.out] else HA.out j y (by omega) hy⟩,by simp [intOf];omega⟩
  ·go_wp2
   go_ret
   exact ⟨_,rfl,.inl ⟨rfl,Cn fun j y hy=>HA.out j y (by have:=(List.getElem?_eq_some_iff.1 hy).1;omega) hy⟩,HX0.out.below⟩
end Go.Proofs.YtcmgddnckohdaaaGreatDoor
