import Derived.Test.YtbjmgglpiakgdaaGreatDoorFill0
import Derived.Laws.CopyOwn
set_option linter.unusedSimpArgs false
set_option linter.unusedVariables false
namespace Go.Proofs.YtbjmgglpiakgdaaGreatDoor
open Go.RowKit
open Go.RowKit
def triRows (l:List Tri):List Value:=l.flatMap triRow
theorem triRows_snoc (l:List Tri) (t:Tri):triRows (l ++ [t])=triRows l ++ triRow t:=by simp [triRows]
theorem infoKindC:(Tryz.prog.info? 44).map (fun i=>(i.zero,i.size,i.bytes))=some (some (.agg #[.string ByteArray.empty,.int .i64 0,.int .i64 0]),3,32):=by kernel_rfl
theorem infoPointC:(Tryz.prog.info? 110).map (fun i=>(i.zero,i.size,i.bytes))=some (some (.agg #[.string ByteArray.empty,.int .i64 0,.int .i64 0]),3,32):=by kernel_rfl
structure CB (w wr:World) (A:Array Value) (v u:Value) (l m:List Tri):Prop where
 below:Below w.heap.size w wr
 a:wr.heap[w.heap.size]?=some (.cells A 26 (0,0))
 r:wr.heap[w.heap.size+1]?=some (.cells #[.slice none 0 0,.slice none 0 0] 26 (0,0))
 c:wr.heap[w.heap.size+1+1]?=some (.cells #[v,u] 26 (0,0))
 k:wr.ownsRow (w.heap.size+3) 44 3 v l.length (triRows l)
 p:wr.ownsRow (w.heap.size+3) 110 3 u m.length (triRows m)
theorem CB.z {w wr:World} {A:Array Value} {v u:Value} {l m:List Tri} (h:CB w wr A v u l m):w.heap.size+2 < wr.heap.size:=(Array.getElem?_eq_some_iff.1 h.c).1
theorem CB.call {w wr wy:World} {A:Array Value} {v u:Value} {l m:List Tri} (h:CB w wr A v u l m) (hb:Below wr.heap.size wr wy):CB w wy A v u l m:=by
 have hz:=h.z
 exact ⟨below_step h.below hb,(hb.block _ (by omega)).trans h.a,(hb.block _ (by omega)).trans h.r,(hb.block _ (by omega)).trans h.c,ownsRow_keep h.k hb,ownsRow_keep h.p hb⟩
theorem CB.start (w:World) (A:Array Value):CB w (((w.alloc (.cells A 26)).alloc (.cells #[.slice none 0 0,.slice none 0 0] 26)).alloc (.cells #[.slice none 0 0,.slice none 0 0] 26)) A (.slice none 0 0) (.slice none 0 0) [] []:=by
 have s1:(w.alloc (.cells A 26)).heap.size=w.heap.size+1:=by simp
 have s2:((w.alloc (.cells A 26)).alloc (.cells #[.slice none 0 0,.slice none 0 0] 26)).heap.size=w.heap.size+1+1:=by simp
 have h1:=heap_newF w (.cells A 26)
 have h2:=heap_newF (w.alloc (.cells A 26)) (.cells #[.slice none 0 0,.slice none 0 0] 26)
 have h3:=heap_newF ((w.alloc (.cells A 26)).alloc (.cells #[.slice none 0 0,.slice none 0 0] 26)) (.cells #[.slice none 0 0,.slice none 0 0] 26)
 rw [s1] at h2
 rw [s2] at h3
 refine ⟨(((Below.refl _ _).alloc (Nat.le_refl _) _).alloc (by simp) _).alloc (by simp; omega) _,?_,?_,h3,⟨rfl,.inl ⟨rfl,rfl⟩⟩,⟨rfl,.inl ⟨rfl,rfl⟩⟩⟩
 ·exact (Below.heap_alloc _ _ _ (by omega)).trans ((Below.heap_alloc _ _ _ (by omega)).trans h1)
 ·exact (Below.heap_alloc _ _ _ (by omega)).trans h2
theorem grown_setF (w:World) (b o:Nat) (v:Value):w.grownBy (w.setCell ⟨b,o,none⟩ v) (some b):=⟨rfl,rfl,rfl,by simp,fun k _ hk=>Below.heap_setCell w ⟨b,o,none⟩ v k (fun e=>hk (by rw [e]))⟩
theorem ownsRow_farF {W W':World} {row:Option Nat} {base:Nat} {e:TypeId} {size:Nat} {v:Value} {n:Nat} {xs:List Value} (h:W.ownsRow base e size v n xs) (hg:W.grownBy W' row) (hr:∀ k,v.ownBlock=some k→some k ≠ row):W'.ownsRow base e size v n xs:=by
 refine ⟨h.1,?_⟩
 rcases h.2 with h2 | ⟨g,cap,cur,hv,hb,hc,rest⟩
 ·exact .inl h2
 ·refine .inr ⟨g,cap,cur,hv,hb,?_,rest⟩
  exact (hg.block g (Array.getElem?_eq_some_iff.1 hc).1 (hr g (by rw [hv]; rfl))).trans hc
theorem own_apart {W:World} {b1 b2:Nat} {e1 e2:TypeId} {s1 s2:Nat} {v u:Value} {n1 n2:Nat} {xs ys:List Value} (h:W.ownsRow b1 e1 s1 v n1 xs) (k:W.ownsRow b2 e2 s2 u n2 ys) (hne:e1 ≠ e2):∀ j,u.ownBlock=some j→some j ≠ v.ownBlock:=by
 intro j hj
 rcases k.2 with ⟨rfl,_⟩ | ⟨g,cap,cur,rfl,_,hc,_⟩
 ·cases hj
 ·cases hj; exact own_other h hc hne
end Go.Proofs.YtbjmgglpiakgdaaGreatDoor
