import Derived.Test.YtbjmgglpiakgdaaGreatDoorBook7
import Derived.Test.YtbjmgglpiakgdaaGreatDoorShelf4

namespace Go.Proofs.YtbjmgglpiakgdaaGreatDoor
open Go.RowKit
attribute [local go_sem] Later.cell Later.frozen
theorem gt_bl (a b:ByteArray):(!Op.bytesLess a.toList b.toList && !a.toList == b.toList)=blS b a:=by
 unfold blS
 cases h:Op.bytesLess b.toList a.toList with
 | true =>
  have h1:Op.bytesLess a.toList b.toList=false:=by
   cases h1:Op.bytesLess a.toList b.toList with
   | false=>rfl
   | true=>have:=bl_trans _ _ _ h h1; rw [bl_irrefl] at this; cases this
  have h2:(a.toList == b.toList)=false:=by
   rw [beq_eq_false_iff_ne]
   intro e; rw [e,bl_irrefl] at h; cases h
  rw [h1,h2]; rfl
 | false =>
  cases h1:Op.bytesLess a.toList b.toList with
  | true=>rfl
  | false =>
   have e:=bl_total _ _ h1 h
   rw [e]; simp
set_option maxHeartbeats 800000 in
theorem l3Later_any (x y:Chg) (w:World):Calls Tryz.prog 132 #[.agg #[.int .i64 x.what,.int .i64 x.num,.string x.v],.agg #[.int .i64 y.what,.int .i64 y.num,.string y.v]] w fun e w'=>e=.returned (.bool (latC x y))∧Below w.heap.size w w':=by
 have HB:Hid (∀ o o':Obj,Below w.heap.size w ((w.alloc o).alloc o')):=fun o o'=>((Below.refl _ _).alloc (Nat.le_refl _) _).alloc (by simp) _
 by_cases h:x.num=y.num
 ·have e:latC x y=blS y.v x.v:=by unfold latC; rw [if_pos h]
  have hq:(x.num != y.num)=false:=by simp [h]
  rw [e]; clear e h
  go_enter Tryz.func132,Tryz.ntmps132
  go_wp2
  go_ret
  exact ⟨ret_bool (gt_bl _ _),HB.out _ _⟩
 ·have e:latC x y=decide (y.num < x.num):=by unfold latC; rw [if_neg h]
  have hq:(x.num != y.num)=true:=by simp [h]
  rw [e]; clear e h
  go_enter Tryz.func132,Tryz.ntmps132
  go_wp2
  go_ret
  exact ⟨rfl,HB.out _ _⟩
theorem clone_any (s:ByteArray) (w:World) (hs:s.size≤1048576) :
  Calls Tryz.prog 107 #[.string s] w fun e w'=>e=.returned (.string s)∧Below w.heap.size w w':=by
 go_enter Tryz.func107,Tryz.ntmps107
 go_wp2_with fail
 refine (Tryz.stringslite_Clone s _ (by omega)).mono ?_
 rintro e w' ⟨rfl,hb⟩
 go_wp2
 go_ret
 exact ⟨rfl,hb⟩
end Go.Proofs.YtbjmgglpiakgdaaGreatDoor
namespace Go.Proofs.YtbjmgglpiakgdaaGreatDoor
open Go.RowKit
open Go.RowKit
attribute [local go_sem] Later.cell Later.frozen
theorem find_at {α:Type} {p:α→Bool} {l:List α} {k:Nat} {x:α} (hk:l[k]?=some x) (hp:p x=true) (hn:∀ (j:Nat) (y:α),j < k→l[j]?=some y→p y=false):l.find? p=some x:=by
 obtain ⟨hlt,rfl⟩:=List.getElem?_eq_some_iff.1 hk
 rw [List.find?_eq_some_iff_getElem]
 exact ⟨hp,k,hlt,rfl,fun j hj=>by simp [hn j _ hj (List.getElem?_eq_getElem (by omega))]⟩
theorem find_no {α:Type} {p:α→Bool} {l:List α} (hn:∀ (j:Nat) (y:α),l[j]?=some y→p y=false):l.find? p=none:=by
 rw [List.find?_eq_none]
 intro x hx
 obtain ⟨i,hi,rfl⟩:=List.getElem_of_mem hx
 simp [hn i _ (List.getElem?_eq_getElem hi)]
set_option maxHeartbeats 1600000 in
theorem l3At_any (vk vp ve:Value) (es:List Ent) (n:ByteArray) (w:World) (he:EntsAt w ve es) :
  Calls Tryz.prog 62 #[.agg #[vk,vp,ve],.string n] w fun e w'=>∃ r:Int,e=.returned (.int .i64 r)∧((r=-1∧es.find? (fun e=>decide (e.name=n))=none) ∨ ∃ k:Nat,k < es.length∧r=(k:Int)∧es.find? (fun e=>decide (e.name=n))=some (eat es k))∧Below w.heap.size w w':=by
 obtain ⟨ae,ce,rfl,hlc,hcm,hc⟩:=he
 unfold maxLen at hcm
 have HC:Hid (∀ i f,es[i]?=some f→∃ b off,ae=some ⟨b,off,none⟩∧EntAt w b (off+i * 2) f):=hc
 clear hc
 have HX0:Hid (OwnAt w (w.alloc (.cells #[vk,vp,.slice ae es.length ce] 29)) [[vk,vp,.slice ae es.length ce]]):=(OwnAt.start w).push rfl _ _
 have y0:(w.alloc (.cells #[vk,vp,.slice ae es.length ce] 29)).cell? ⟨w.heap.size,0,none⟩=some vk:=by simp
 have y1:(w.alloc (.cells #[vk,vp,.slice ae es.length ce] 29)).cell? ⟨w.heap.size,1,none⟩=some vp:=by simp
 have y2:(w.alloc (.cells #[vk,vp,.slice ae es.length ce] 29)).cell? ⟨w.heap.size,2,none⟩=some (.slice ae es.length ce):=by simp
 go_enter Tryz.func62,Tryz.ntmps62
 go_wp2
 generalize w.alloc (.cells #[vk,vp,.slice ae es.length ce] 29)=w1 at *
 go_loopw [5] (fun i wr=>wr=w1∧∃ k:Nat,k≤es.length∧i=.int .i64 k∧Hid (∀ j y,j < k→es[j]?=some y→decide (y.name=n)=false)) (fun i _=>es.length - (intOf i).toNat)
 case atStart=>exact ⟨rfl,0,Nat.zero_le _,rfl,fun j y hj=>absurd hj (Nat.not_lt_zero _)⟩
 case round =>
  obtain ⟨rfl,k,hk,rfl,HA⟩:=hrel
  by_cases hlt:k < es.length
  ·obtain ⟨b,off,rfl,hc⟩:=HC.out k _ (eat_get hlt)
   obtain ⟨fv,d0,d1,hfl⟩:=hc.keep HX0.out.below
   obtain ⟨fa,fc,rfl,-,-,-⟩:=hfl
   have hk0:(0:Int)≤(k:Int):=by omega
   have hk1:(k:Int) < (es.length:Int):=by omega
   have HG:Hid (es[k]?=some (eat es k)):=eat_get hlt
   by_cases hx:(eat es k).name=n
   ·have h1:((eat es k).name.toList == n.toList)=true:=str_eq hx
    have HX:Hid ((eat es k).name=n):=hx
    clear hx hc
    go_wp2
    go_ret
    exact ⟨_,rfl,.inr ⟨k,hlt,rfl,find_at HG.out (by simp [HX.out]) HA.out⟩,HX0.out.below⟩
   ·have h1:((eat es k).name.toList == n.toList)=false:=str_ne hx
    have HX:Hid (¬ (eat es k).name=n):=hx
    clear hx hc
    go_wp2
    exact ⟨⟨by trivial,k+1,by omega,by go_num,fun j y hj hy=>if e:j=k then by subst e; rw [HG.out] at hy; cases hy; simp [HX.out] else HA.out j y (by omega) hy⟩,by simp [intOf]; omega⟩
  ·go_wp2
   go_ret
   exact ⟨_,rfl,.inl ⟨rfl,find_no fun j y hy=>HA.out j y (by have:=(List.getElem?_eq_some_iff.1 hy).1; omega) hy⟩,HX0.out.below⟩
end Go.Proofs.YtbjmgglpiakgdaaGreatDoor
