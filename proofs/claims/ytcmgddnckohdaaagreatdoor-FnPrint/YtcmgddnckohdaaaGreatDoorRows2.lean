import Derived.Test.YtcmgddnckohdaaaGreatDoorDec2
import Derived.Deep.RegionHeld3

namespace Go.Proofs.YtcmgddnckohdaaaGreatDoor
open Go.RowKit
end Go.Proofs.YtcmgddnckohdaaaGreatDoor
namespace Go.Proofs.YtcmgddnckohdaaaGreatDoor
open Go.RowKit
def triRow (t:Tri):List Value:=[.string t.s,.int .i64 t.x,.int .i64 t.y]
structure Filled (w wr:World) (B n:Nat) (l:List Tri) (k:Nat):Prop where
 below:Below w.heap.size w wr
 big:B<wr.heap.size
 old:w.heap.size≤B
 room:wr.there B 0 (n*3)
 has:∀ i t,i<k→l[i]?=some t→wr.rangeAt B (i*3) (triRow t)
theorem bZ {w w':World} {B o n:Nat} (h:w.there B o n) (hb:Below w.heap.size w w') (hB:B<w.heap.size):w'.there B o n:=fun j hj=>by
 rw [hb.cell (p:=⟨B,o+j,none⟩) hB,hb.frozen (p:=⟨B,o+j,none⟩) hB];exact h j hj
theorem range_keep {w w':World} {B o:Nat} {cs:List Value} (h:w.rangeAt B o cs) (hb:Below w.heap.size w w') (hB:B<w.heap.size):w'.rangeAt B o cs:=fun j v hv=>by
 rw [hb.cell (p:=⟨B,o+j,none⟩) hB];exact h j v hv
theorem Filled.call {w wr w1:World} {B n:Nat} {l:List Tri} {k:Nat} (h:Filled w wr B n l k) (hb:Below wr.heap.size wr w1):Filled w w1 B n l k :=
 ⟨aa h.below hb,Nat.lt_of_lt_of_le h.big hb.size,h.old,bZ h.room hb h.big,fun i t hi ht=>range_keep (h.has i t hi ht) hb h.big⟩
theorem cH {w:World} {B o:Nat} {vs:List Value} (C:Nat) (h:C≤B):Below C w (w.setCells B o vs):=by
 induction vs generalizing w o with
 | nil=>exact Below.refl _ _
 | cons v vs ih =>
  have:=(Below.setCell (p:=⟨B,o,none⟩) (Below.refl C w) h v).trans (ih (w:=w.setCell ⟨B,o,none⟩ v) (o:=o+1))
  simpa [World.setCells] using this
theorem Filled.store {w wr:World} {B n:Nat} {l:List Tri} {k:Nat} (h:Filled w wr B n l k) (hk:k<n) {t:Tri} (ht:l[k]?=some t) :
  Filled w (wr.setCells B (k*3) (triRow t)) B n l (k+1):=by
 have hthere:wr.there B (k*3) (triRow t).length:=fun j hj=>by
  have:=h.room (k*3+j) (by simp [triRow] at hj;omega)
  simpa using this
 refine ⟨h.below.trans (cH _ h.old),?_,h.old,World.there_setCells h.room _ _ _,fun i u hi hu=>?_⟩
 ·exact Nat.lt_of_lt_of_le h.big (cH (w:=wr) (B:=B) (o:=k*3) (vs:=triRow t) 0 (Nat.zero_le _)).size
 ·by_cases e:i=k
  ·subst e
   rw [ht] at hu;cases hu;exact World.rangeAt_setCells_same _ _ _ _ hthere
  ·exact World.rangeAt_setCells_apart (h.has i u (by omega) hu) _ _ _ (.inr (.inl (by simp [triRow];omega)))
theorem Filled.tris {w wr:World} {B:Nat} {l:List Tri} (h:Filled w wr B l.length l l.length) (hm:l.length≤maxLen):TrisAt wr (.slice (some ⟨B,0,none⟩) l.length l.length) l :=
 ⟨_,_,rfl,Nat.le_refl _,hm,fun i t ht=>by
  have hi:i<l.length:=(List.getElem?_eq_some_iff.1 ht).1;have hr:=h.has i t hi ht;refine ⟨B,0,rfl,?_,?_,?_⟩
  ·simpa using hr 0 (.string t.s) rfl
  ·simpa using hr 1 (.int .i64 t.x) rfl
  ·simpa using hr 2 (.int .i64 t.y) rfl⟩
theorem made_there (w:World) (C:Array Value) (T n:Nat) (hC:C.size=n):(w.alloc (.cells C T)).there w.heap.size 0 n:=fun j hj=>by
 have h1:=World.cell?_alloc_at (w:=w) C T w.heap.size j rfl;have h2:=World.frozen?_alloc_at (w:=w) C T w.heap.size j rfl
 simp only [Nat.zero_add]
 rw [h1,h2]
 simp;omega
theorem Filled.start (w:World) (C:Array Value) (T n:Nat) (l:List Tri) (hC:C.size=n*3):Filled w (w.alloc (.cells C T)) w.heap.size n l 0 :=
 ⟨(aO),by simp,Nat.le_refl _,made_there w C T _ hC,fun i _ hi=>absurd hi (Nat.not_lt_zero _)⟩
theorem infoKind:(Tryz.prog.info? 69).map (fun i=>(i.zero,i.size,i.bytes))=some (some (.agg #[.string ByteArray.empty,.int .i64 0,.int .i64 0]),3,32):=by kernel_rfl
theorem infoPoint:(Tryz.prog.info? 72).map (fun i=>(i.zero,i.size,i.bytes))=some (some (.agg #[.string ByteArray.empty,.int .i64 0,.int .i64 0]),3,32):=by kernel_rfl
open Go.RowKit
structure FilledL (w wr:World) (B n c:Nat) (rows:List (List Value)):Prop where
 below:Below w.heap.size w wr
 big:B<wr.heap.size
 old:w.heap.size≤B
 room:wr.there B 0 (n*c)
 wide:∀ r∈rows,r.length=c
 has:∀ i r,rows[i]?=some r→wr.rangeAt B (i*c) r
theorem FilledL.call {w wr w1:World} {B n c:Nat} {rows:List (List Value)} (h:FilledL w wr B n c rows) (hb:Below wr.heap.size wr w1):FilledL w w1 B n c rows :=
 ⟨aa h.below hb,Nat.lt_of_lt_of_le h.big hb.size,h.old,bZ h.room hb h.big,h.wide,fun i r hr=>range_keep (h.has i r hr) hb h.big⟩
theorem rows_room {k n c j:Nat} (hk:k<n) (hj:j<c):k*c+j<n*c :=
 Nat.lt_of_lt_of_le (Nat.add_lt_add_left hj _) (by rw [← Nat.succ_mul];exact Nat.mul_le_mul_right c hk)
theorem FilledL.store {w wr:World} {B n c:Nat} {rows:List (List Value)} (h:FilledL w wr B n c rows) (hk:rows.length<n) {r:List Value} (hr:r.length=c) :
  FilledL w (wr.setCells B (rows.length*c) r) B n c (rows++[r]):=by
 have hthere:wr.there B (rows.length*c) r.length:=fun j hj=>by
  have:=h.room (rows.length*c+j) (rows_room hk (hr ▸ hj))
  simpa using this
 refine ⟨h.below.trans (cH _ h.old),?_,h.old,World.there_setCells h.room _ _ _,fun x hx=>?_,fun i x hx=>?_⟩
 ·exact Nat.lt_of_lt_of_le h.big (cH (w:=wr) (B:=B) (o:=rows.length*c) (vs:=r) 0 (Nat.zero_le _)).size
 ·rcases List.mem_append.1 hx with hx | hx
  ·exact h.wide x hx
  ·simp at hx;subst hx;exact hr
 ·by_cases e:i<rows.length
  ·rw [List.getElem?_append_left e] at hx
   refine World.rangeAt_setCells_apart (h.has i x hx) _ _ _ (.inr (.inl ?_));have h1:=h.wide x (List.mem_of_getElem? hx);have h2:(i+1)*c≤rows.length*c:=Nat.mul_le_mul_right c e;rw [Nat.succ_mul] at h2
   omega
  ·rw [List.getElem?_append_right (by omega)] at hx
   have hi0:i-rows.length=0:=by
    have:=(List.getElem?_eq_some_iff.1 hx).1
    simp at this;omega
   rw [hi0] at hx
   simp at hx;subst hx
   have e1:i=rows.length:=by omega
   subst e1;exact World.rangeAt_setCells_same _ _ _ _ hthere
theorem FilledL.start (w:World) (C:Array Value) (T n c:Nat) (hC:C.size=n*c):FilledL w (w.alloc (.cells C T)) w.heap.size n c [] :=
 ⟨(aO),by simp,Nat.le_refl _,made_there w C T _ hC,fun r hr=>by simp at hr,fun i r hr=>by simp at hr⟩
theorem FilledL.free {w wr:World} {B n c:Nat} {rows:List (List Value)} (h:FilledL w wr B n c rows) {k j:Nat} (hk:k<n) (hj:j<c):(∃ v,wr.cell? ⟨B,k*c+j,none⟩=some v)∧wr.frozen? ⟨B,k*c+j,none⟩=false:=by
 have:=h.room (k*c+j) (rows_room hk hj)
 simpa [Option.isSome_iff_exists] using this
theorem FilledL.cell {w wr:World} {B n c:Nat} {rows:List (List Value)} (h:FilledL w wr B n c rows) {i j:Nat} {r:List Value} {v:Value} (hr:rows[i]?=some r) (hv:r[j]?=some v):wr.cell? ⟨B,i*c+j,none⟩=some v:=h.has i r hr j v hv
end Go.Proofs.YtcmgddnckohdaaaGreatDoor
