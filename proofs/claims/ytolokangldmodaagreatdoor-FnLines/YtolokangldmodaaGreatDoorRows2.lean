import Derived.Test.YtolokangldmodaaGreatDoorDec2
import Derived.Deep.RegionHeld3

namespace Go.Proofs.YtolokangldmodaaGreatDoor
open Go.RowKit
end Go.Proofs.YtolokangldmodaaGreatDoor
namespace Go.Proofs.YtolokangldmodaaGreatDoor
open Go.RowKit
def gH(t:dE):List Value:=[.string t.s,.int .i64 t.x,.int .i64 t.y]
structure IL (w wr:World) (B n:Nat) (l:List dE) (k:Nat):Prop where
 below:Bw w wr
 big:B<wr.heap.size
 old:w.heap.size<=B
 room:wr.there B 0 (n*3)
 has:∀i t,i<k->l[i]?=some t->wr.rangeAt B (i*3) (gH t)
theorem IL.tris{w wr:World}{B:Nat}{l:List dE}(h:IL w wr B l.length l l.length)(hm:l.length<=maxLen):dF wr (.slice (some ⟨B,0,none⟩) l.length l.length) l :=
 ⟨_,_,rfl,Nat.le_refl _,hm,λi t ht=>by
  have hi:i<l.length:=(List.getElem?_eq_some_iff.1 ht).1;have hr:=h.has i t hi ht;refine⟨B,0,rfl,?_,?_,?_⟩
  .simpa using hr 0 (.string t.s) rfl
  .simpa using hr 1 (.int .i64 t.x) rfl
  .simpa using hr 2 (.int .i64 t.y) rfl⟩
theorem T9:(Tryz.prog.info? 79).map (λi=>(i.zero,i.size,i.bytes))=some (some (.agg #[.string ByteArray.empty,.int .i64 0,.int .i64 0]),3,32):=by kernel_rfl
theorem QK:(Tryz.prog.info? 101).map (λi=>(i.zero,i.size,i.bytes))=some (some (.agg #[.string ByteArray.empty,.int .i64 0,.int .i64 0]),3,32):=by kernel_rfl
open Go.RowKit
structure qM (w wr:World) (B n c:Nat) (rows:List (List Value)):Prop where
 below:Below w.heap.size w wr
 big:B<wr.heap.size
 old:w.heap.size<=B
 room:wr.there B 0 (n*c)
 wide:∀r∈rows,r.length=c
 has:∀i r,rows[i]?=some r->wr.rangeAt B (i*c) r
theorem PW{k n c j:Nat}(hk:k<n)(hj:j<c):k*c+j<n*c :=
 Nat.lt_of_lt_of_le (Nat.add_lt_add_left hj _) (by rw[<-Nat.succ_mul];exact Nat.mul_le_mul_right c hk)
theorem qM.cell{w wr:World}{B n c:Nat}{rows:List (List Value)}(h:qM w wr B n c rows){i j:Nat}{r:List Value}{v:Value}(hr:rows[i]?=some r)(hv:r[j]?=some v):wr.cell? ⟨B,i*c+j,none⟩=some v:=h.has i r hr j v hv
end Go.Proofs.YtolokangldmodaaGreatDoor
