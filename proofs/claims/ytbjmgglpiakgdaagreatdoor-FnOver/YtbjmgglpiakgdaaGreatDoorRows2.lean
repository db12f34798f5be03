import Derived.Test.YtbjmgglpiakgdaaGreatDoorDec2
import Derived.Deep.RegionHeld3

namespace Go.Proofs.YtbjmgglpiakgdaaGreatDoor
open Go.RowKit
end Go.Proofs.YtbjmgglpiakgdaaGreatDoor
namespace Go.Proofs.YtbjmgglpiakgdaaGreatDoor
open Go.RowKit
def triRow (t:Tri):List Value:=[.string t.s,.int .i64 t.x,.int .i64 t.y]
structure Filled (w wr:World) (B n:Nat) (l:List Tri) (k:Nat):Prop where
 below:Below w.heap.size w wr
 big:B < wr.heap.size
 old:w.heap.size≤B
 room:wr.there B 0 (n * 3)
 has:∀ i t,i < k→l[i]?=some t→wr.rangeAt B (i * 3) (triRow t)
theorem there_keep {w w':World} {B o n:Nat} (h:w.there B o n) (hb:Below w.heap.size w w') (hB:B < w.heap.size):w'.there B o n:=fun j hj=>by
 rw [hb.cell (p:=⟨B,o+j,none⟩) hB,hb.frozen (p:=⟨B,o+j,none⟩) hB]; exact h j hj
theorem range_keep {w w':World} {B o:Nat} {cs:List Value} (h:w.rangeAt B o cs) (hb:Below w.heap.size w w') (hB:B < w.heap.size):w'.rangeAt B o cs:=fun j v hv=>by
 rw [hb.cell (p:=⟨B,o+j,none⟩) hB]; exact h j v hv
theorem Filled.call {w wr w1:World} {B n:Nat} {l:List Tri} {k:Nat} (h:Filled w wr B n l k) (hb:Below wr.heap.size wr w1):Filled w w1 B n l k :=
 ⟨below_step h.below hb,Nat.lt_of_lt_of_le h.big hb.size,h.old,there_keep h.room hb h.big,fun i t hi ht=>range_keep (h.has i t hi ht) hb h.big⟩
theorem Filled.tris {w wr:World} {B:Nat} {l:List Tri} (h:Filled w wr B l.length l l.length) (hm:l.length≤maxLen):TrisAt wr (.slice (some ⟨B,0,none⟩) l.length l.length) l :=
 ⟨_,_,rfl,Nat.le_refl _,hm,fun i t ht=>by
  have hi:i < l.length:=(List.getElem?_eq_some_iff.1 ht).1
  have hr:=h.has i t hi ht
  refine ⟨B,0,rfl,?_,?_,?_⟩
  ·simpa using hr 0 (.string t.s) rfl
  ·simpa using hr 1 (.int .i64 t.x) rfl
  ·simpa using hr 2 (.int .i64 t.y) rfl⟩
theorem made_there (w:World) (C:Array Value) (T n:Nat) (hC:C.size=n):(w.alloc (.cells C T)).there w.heap.size 0 n:=fun j hj=>by
 have h1:=World.cell?_alloc_at (w:=w) C T w.heap.size j rfl
 have h2:=World.frozen?_alloc_at (w:=w) C T w.heap.size j rfl
 simp only [Nat.zero_add]
 rw [h1,h2]
 simp; omega
theorem Filled.start (w:World) (C:Array Value) (T n:Nat) (l:List Tri) (hC:C.size=n * 3):Filled w (w.alloc (.cells C T)) w.heap.size n l 0 :=
 ⟨(Below.refl _ _).alloc (Nat.le_refl _) _,by simp,Nat.le_refl _,made_there w C T _ hC,fun i _ hi=>absurd hi (Nat.not_lt_zero _)⟩
theorem infoKind:(Tryz.prog.info? 44).map (fun i=>(i.zero,i.size,i.bytes))=some (some (.agg #[.string ByteArray.empty,.int .i64 0,.int .i64 0]),3,32):=by kernel_rfl
theorem infoPoint:(Tryz.prog.info? 110).map (fun i=>(i.zero,i.size,i.bytes))=some (some (.agg #[.string ByteArray.empty,.int .i64 0,.int .i64 0]),3,32):=by kernel_rfl
open Go.RowKit
structure FilledL (w wr:World) (B n c:Nat) (rows:List (List Value)):Prop where
 below:Below w.heap.size w wr
 big:B < wr.heap.size
 old:w.heap.size≤B
 room:wr.there B 0 (n * c)
 wide:∀ r ∈ rows,r.length=c
 has:∀ i r,rows[i]?=some r→wr.rangeAt B (i * c) r
theorem FilledL.call {w wr w1:World} {B n c:Nat} {rows:List (List Value)} (h:FilledL w wr B n c rows) (hb:Below wr.heap.size wr w1):FilledL w w1 B n c rows :=
 ⟨below_step h.below hb,Nat.lt_of_lt_of_le h.big hb.size,h.old,there_keep h.room hb h.big,h.wide,fun i r hr=>range_keep (h.has i r hr) hb h.big⟩
theorem rows_room {k n c j:Nat} (hk:k < n) (hj:j < c):k * c+j < n * c :=
 Nat.lt_of_lt_of_le (Nat.add_lt_add_left hj _) (by rw [← Nat.succ_mul]; exact Nat.mul_le_mul_right c hk)
theorem FilledL.start (w:World) (C:Array Value) (T n c:Nat) (hC:C.size=n * c):FilledL w (w.alloc (.cells C T)) w.heap.size n c [] :=
 ⟨(Below.refl _ _).alloc (Nat.le_refl _) _,by simp,Nat.le_refl _,made_there w C T _ hC,fun r hr=>by simp at hr,fun i r hr=>by simp at hr⟩
theorem FilledL.cell {w wr:World} {B n c:Nat} {rows:List (List Value)} (h:FilledL w wr B n c rows) {i j:Nat} {r:List Value} {v:Value} (hr:rows[i]?=some r) (hv:r[j]?=some v):wr.cell? ⟨B,i * c+j,none⟩=some v:=h.has i r hr j v hv
end Go.Proofs.YtbjmgglpiakgdaaGreatDoor
