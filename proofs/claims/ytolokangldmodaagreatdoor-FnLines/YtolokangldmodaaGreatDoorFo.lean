import Derived.Test.YtolokangldmodaaGreatDoorEr0
import Derived.Test.YtolokangldmodaaGreatDoorDec2
import Derived.Laws.CopyOwn
import Derived.Deep.WholeRow
set_option maxRecDepth 100000
set_option maxHeartbeats 3200000
open Go.Value renaming int->I
open Go.Obj renaming cells->R
open Option renaming some->U
open Go.IntKind renaming i64->J
namespace Go.Proofs.YtolokangldmodaaGreatDoor
open Go.RowKit
set_option linter.unusedSimpArgs false
set_option linter.unusedVariables false
def pV(w:World):Prop:=w.cell? ⟨1,0,none⟩=U (.iface 210 (.agg #[.pointer (U ⟨10,64,none⟩)]))
theorem pV.keep{w w':World}(h:pV w)(hb:Bw w w'):pV w':=ac hb aE h
theorem Lc(l c:Int)(w:World)(hg:pV w):Rb 53 #[.iface 158 (.agg #[I J l,I J c])] w (.agg #[I J l,I J c]):=by
 go_enter Tryz.func53,Tryz.ntmps53
 go_wp2_with fail
 have hb:Bw w ((w.alloc (R #[I J 0,I J 0] 118)).alloc (R #[I J 0,I J 0] 158)):=(aG).alloc (by simp) _
 have k1:((w.alloc (R #[I J 0,I J 0] 118)).alloc (R #[I J 0,I J 0] 158)).heap[w.heap.size+1]?=U (R #[I J 0,I J 0] 158 (0,0)):=by
  have h:∀(z:World) (o:Obj),(z.alloc o).heap[z.heap.size]?=U o:=λz o=>by show(z.heap.push o)[z.heap.size]?=U o;simp
  have h2:=h (w.alloc (R #[I J 0,I J 0] 118)) (R #[I J 0,I J 0] 158)
  rw[show(w.alloc (R #[I J 0,I J 0] 118)).heap.size=w.heap.size+1 by simp] at h2
  exact h2
 have k0:((w.alloc (R #[I J 0,I J 0] 118)).alloc (R #[I J 0,I J 0] 158)).heap[w.heap.size]?=U (R #[I J 0,I J 0] 118 (0,0)):=by
  have h:∀(z:World) (o:Obj),(z.alloc o).heap[z.heap.size]?=U o:=λz o=>by show(z.heap.push o)[z.heap.size]?=U o;simp
  have b:Bw (w.alloc (R #[I J 0,I J 0] 118)) ((w.alloc (R #[I J 0,I J 0] 118)).alloc (R #[I J 0,I J 0] 158)):=(aG)
  exact(b.block _ (by simp)).trans (h w _)
 have hz:((w.alloc (R #[I J 0,I J 0] 118)).alloc (R #[I J 0,I J 0] 158)).heap.size=w.heap.size+1+1:=by simp
 refine(Er.as_hit (w.heap.size+1) l c _ (hg.keep hb) k1).mono ?_;rintro e w'⟨rfl,w4,ab,hr,rfl⟩
 have h0:w4.heap[w.heap.size]?=U (R #[I J 0,I J 0] 118 (0,0)):=(ab.block _ (by rw[hz];omega)).trans k0
 have r1:=setRow_heap w4 (w.heap.size+1) _ #[I J l,I J c] _ _ hr
 have r0:(w4.setRow (w.heap.size+1) #[I J l,I J c]).heap[w.heap.size]?=U (R #[I J 0,I J 0] 118 (0,0)):=(setRow_other _ _ _ _ (by omega)).trans h0
 have HB:Hid (Bw w (w4.setRow (w.heap.size+1) #[I J l,I J c])):=below_setRow (aa hb ab) (by omega) _
 have s0:(w4.setRow (w.heap.size+1) #[I J l,I J c]).cell? ⟨w.heap.size+1,0,none⟩=U (I J l):=by simp[World.cell?,r1]
 have s1:(w4.setRow (w.heap.size+1) #[I J l,I J c]).cell? ⟨w.heap.size+1,1,none⟩=U (I J c):=by simp[World.cell?,r1]
 clear hb ab hr h0 k0 k1 r1 hz;generalize(w4.setRow (w.heap.size+1) #[I J l,I J c])=w5 at *
 go_wp2_with (refine wpList_store_row rfl 118 _ _ rfl w.heap.size #[I J l,I J c] rfl rfl 118 _ r0 (by kernel_rfl) rfl (by simp[Value.oneCell']) ?_)
 have q0:=setRow_heap w5 w.heap.size _ #[I J l,I J c] _ _ r0
 have t0:(w5.setRow w.heap.size #[I J l,I J c]).cell? ⟨w.heap.size,0,none⟩=U (I J l):=by simp[World.cell?,q0]
 have t1:(w5.setRow w.heap.size #[I J l,I J c]).cell? ⟨w.heap.size,1,none⟩=U (I J c):=by simp[World.cell?,q0]
 exact bodyPost_ret (v:=.agg #[I J l,I J c]) (by simp[results,Tryz.results53,go_sem,t0,t1]) rfl ⟨rfl,below_setRow HB.out aE _⟩
end Go.Proofs.YtolokangldmodaaGreatDoor
