import Derived.Test.YtcmgddnckohdaaaGreatDoorDec2
import Derived.Deep.RegionHeld3

namespace Go.Proofs.YtcmgddnckohdaaaGreatDoor
open Go.RowKit
end Go.Proofs.YtcmgddnckohdaaaGreatDoor
namespace Go.Proofs.YtcmgddnckohdaaaGreatDoor
open Go.RowKit
def fA (t:dx):List Value:=[.string t.s,.int .i64 t.x,.int .i64 t.y]
structure kF (w wr:World) (B n:Nat) (l:List dx) (k:Nat):Prop where
 below:Below w.heap.size w wr
 big:B<wr.heap.size
 old:w.heap.size≤B
 room:wr.there B 0 (n*3)
 has:∀ i t,i<k→l[i]?=some t→wr.rangeAt B (i*3) (fA t)
theorem b8 {w w':World} {B o n:Nat} (h:w.there B o n) (hb:Below w.heap.size w w') (hB:B<w.heap.size):w'.there B o n:=fun j hj=>by
 rw [hb.cell (p:=⟨B,o+j,none⟩) hB,hb.frozen (p:=⟨B,o+j,none⟩) hB];exact h j hj
theorem qM {w w':World} {B o:Nat} {cs:List Value} (h:w.rangeAt B o cs) (hb:Below w.heap.size w w') (hB:B<w.heap.size):w'.rangeAt B o cs:=fun j v hv=>by
 rw [hb.cell (p:=⟨B,o+j,none⟩) hB];exact h j v hv
theorem kF.call {w wr w1:World} {B n:Nat} {l:List dx} {k:Nat} (h:kF w wr B n l k) (hb:Below wr.heap.size wr w1):kF w w1 B n l k :=
 ⟨aa h.below hb,Nat.lt_of_lt_of_le h.big hb.size,h.old,b8 h.room hb h.big,fun i t hi ht=>qM (h.has i t hi ht) hb h.big⟩
theorem cO {w:World} {B o:Nat} {vs:List Value} (C:Nat) (h:C≤B):Below C w (w.setCells B o vs):=by
 induction vs generalizing w o with
 | nil=>exact Below.refl _ _
 | cons v vs ih =>
  have:=(Below.setCell (p:=⟨B,o,none⟩) (Below.refl C w) h v).trans (ih (w:=w.setCell ⟨B,o,none⟩ v) (o:=o+1))
  simpa [World.setCells] using this
theorem kF.store {w wr:World} {B n:Nat} {l:List dx} {k:Nat} (h:kF w wr B n l k) (hk:k<n) {t:dx} (ht:l[k]?=some t) :
  kF w (wr.setCells B (k*3) (fA t)) B n l (k+1):=by
 have GH:wr.there B (k*3) (fA t).length:=fun j hj=>by
  have:=h.room (k*3+j) (by simp [fA] at hj;omega)
  simpa using this
 refine ⟨h.below.trans (cO _ h.old),?_,h.old,World.there_setCells h.room _ _ _,fun i u hi hu=>?_⟩
 ·exact Nat.lt_of_lt_of_le h.big (cO (w:=wr) (B:=B) (o:=k*3) (vs:=fA t) 0 (Nat.zero_le _)).size
 ·by_cases e:i=k
  ·subst e
   rw [ht] at hu;cases hu;exact World.rangeAt_setCells_same _ _ _ _ GH
  ·exact World.rangeAt_setCells_apart (h.has i u (by omega) hu) _ _ _ (.inr (.inl (by simp [fA];omega)))
theorem kF.tris {w wr:World} {B:Nat} {l:List dx} (h:kF w wr B l.length l l.length) (hm:l.length≤maxLen):dA wr (.slice (some ⟨B,0,none⟩) l.length l.length) l :=
 ⟨_,_,rfl,Nat.le_refl _,hm,fun i t ht=>by
  have hi:i<l.length:=(List.getElem?_eq_some_iff.1 ht).1;have hr:=h.has i t hi ht;refine ⟨B,0,rfl,?_,?_,?_⟩
  ·simpa using hr 0 (.string t.s) rfl
  ·simpa using hr 1 (.int .i64 t.x) rfl
  ·simpa using hr 2 (.int .i64 t.y) rfl⟩
theorem xS (w:World) (C:Array Value) (T n:Nat) (hC:C.size=n):(w.alloc (.cells C T)).there w.heap.size 0 n:=fun j hj=>by
 have h1:=World.cell?_alloc_at (w:=w) C T w.heap.size j rfl;have h2:=World.frozen?_alloc_at (w:=w) C T w.heap.size j rfl
 simp only [Nat.zero_add]
 rw [h1,h2]
 simp;omega
theorem kF.start (w:World) (C:Array Value) (T n:Nat) (l:List dx) (hC:C.size=n*3):kF w (w.alloc (.cells C T)) w.heap.size n l 0 :=
 ⟨(aM),by simp,Nat.le_refl _,xS w C T _ hC,fun i _ hi=>absurd hi (Nat.not_lt_zero _)⟩
theorem LG:(Tryz.prog.info? 69).map (fun i=>(i.zero,i.size,i.bytes))=some (some (.agg #[.string ByteArray.empty,.int .i64 0,.int .i64 0]),3,32):=by kernel_rfl
theorem JD:(Tryz.prog.info? 72).map (fun i=>(i.zero,i.size,i.bytes))=some (some (.agg #[.string ByteArray.empty,.int .i64 0,.int .i64 0]),3,32):=by kernel_rfl
open Go.RowKit
structure il (w wr:World) (B n c:Nat) (rows:List (List Value)):Prop where
 below:Below w.heap.size w wr
 big:B<wr.heap.size
 old:w.heap.size≤B
 room:wr.there B 0 (n*c)
 wide:∀ r∈rows,r.length=c
 has:∀ i r,rows[i]?=some r→wr.rangeAt B (i*c) r
theorem il.call {w wr w1:World} {B n c:Nat} {rows:List (List Value)} (h:il w wr B n c rows) (hb:Below wr.heap.size wr w1):il w w1 B n c rows :=
 ⟨aa h.below hb,Nat.lt_of_lt_of_le h.big hb.size,h.old,b8 h.room hb h.big,h.wide,fun i r hr=>qM (h.has i r hr) hb h.big⟩
theorem o7 {k n c j:Nat} (hk:k<n) (hj:j<c):k*c+j<n*c :=
 Nat.lt_of_lt_of_le (Nat.add_lt_add_left hj _) (by rw [← Nat.succ_mul];exact Nat.mul_le_mul_right c hk)
theorem il.store {w wr:World} {B n c:Nat} {rows:List (List Value)} (h:il w wr B n c rows) (hk:rows.length<n) {r:List Value} (hr:r.length=c) :
  il w (wr.setCells B (rows.length*c) r) B n c (rows++[r]):=by
 have GH:wr.there B (rows.length*c) r.length:=fun j hj=>by
  have:=h.room (rows.length*c+j) (o7 hk (hr ▸ hj))
  simpa using this
 refine ⟨h.below.trans (cO _ h.old),?_,h.old,World.there_setCells h.room _ _ _,fun x hx=>?_,fun i x hx=>?_⟩
 ·exact Nat.lt_of_lt_of_le h.big (cO (w:=wr) (B:=B) (o:=rows.length*c) (vs:=r) 0 (Nat.zero_le _)).size
 ·rcases List.mem_append.1 hx with hx | hx
  ·exact h.wide x hx
  ·simp at hx;subst hx;exact hr
 ·by_cases e:i<rows.length
  ·rw [List.getElem?_append_left e] at hx
   refine World.rangeAt_setCells_apart (h.has i x hx) _ _ _ (.inr (.inl ?_));have h1:=h.wide x (List.mem_of_getElem? hx);have h2:(i+1)*c≤rows.length*c:=Nat.mul_le_mul_right c e;rw [Nat.succ_mul] at h2
   omega
  ·rw [List.getElem?_append_right (by omega)] at hx
   have hi0:i-rows.length=0:=by
    have:=(List.getElem?_eq_some_iff.1 hx).1
    simp at this;omega
   rw [hi0] at hx
   simp at hx;subst hx
   have e1:i=rows.length:=by omega
   subst e1;exact World.rangeAt_setCells_same _ _ _ _ GH
theorem il.start (w:World) (C:Array Value) (T n c:Nat) (hC:C.size=n*c):il w (w.alloc (.cells C T)) w.heap.size n c [] :=
 ⟨(aM),by simp,Nat.le_refl _,xS w C T _ hC,fun r hr=>by simp at hr,fun i r hr=>by simp at hr⟩
theorem il.free {w wr:World} {B n c:Nat} {rows:List (List Value)} (h:il w wr B n c rows) {k j:Nat} (hk:k<n) (hj:j<c):(∃ v,wr.cell? ⟨B,k*c+j,none⟩=some v)∧wr.frozen? ⟨B,k*c+j,none⟩=false:=by
 have:=h.room (k*c+j) (o7 hk hj)
 simpa [Option.isSome_iff_exists] using this
theorem il.cell {w wr:World} {B n c:Nat} {rows:List (List Value)} (h:il w wr B n c rows) {i j:Nat} {r:List Value} {v:Value} (hr:rows[i]?=some r) (hv:r[j]?=some v):wr.cell? ⟨B,i*c+j,none⟩=some v:=h.has i r hr j v hv
end Go.Proofs.YtcmgddnckohdaaaGreatDoor
