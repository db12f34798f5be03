import Derived.Test.YtcmgddnckohdaaaGreatDoorEr0
import Derived.Test.YtcmgddnckohdaaaGreatDoorDec2
import Derived.Laws.CopyOwn
import Derived.Deep.WholeRow
set_option maxRecDepth 100000
set_option maxHeartbeats 3200000
namespace Go.Proofs.YtcmgddnckohdaaaGreatDoor
open Go.RowKit
set_option linter.unusedSimpArgs false
set_option linter.unusedVariables false
def tT (w:World):Prop:=w.cell? ⟨1,0,none⟩=some (.iface 217 (.agg #[.pointer (some ⟨10,54,none⟩)]))
theorem tT.keep {w w':World} (h:tT w) (hb:Below w.heap.size w w'):tT w':=ag hb aG h
theorem EW (w:World):Calls Tryz.prog 31 #[.nilIface] w fun e w'=>e=.returned (.agg #[.int .i64 0,.int .i64 0])∧Below w.heap.size w w':=by
 go_enter Tryz.func31,Tryz.ntmps31
 go_wp2_with fail;refine (Er.as_nil _ _).mono ?_;rintro e w' ⟨rfl,rfl⟩
 have hb:Hid (Below w.heap.size w ((w.alloc (.cells #[.int .i64 0,.int .i64 0] 32)).alloc (.cells #[.int .i64 0,.int .i64 0] 102))):=(aM).alloc (by simp) _
 go_wp2_with fail
 exact bodyPost_ret (v:=.agg #[.int .i64 0,.int .i64 0]) (by simp [results,Tryz.results31,go_sem]) rfl ⟨rfl,hb.out⟩
theorem EX (l c:Int) (w:World) (hg:tT w):Calls Tryz.prog 31 #[.iface 102 (.agg #[.int .i64 l,.int .i64 c])] w fun e w'=>e=.returned (.agg #[.int .i64 l,.int .i64 c])∧Below w.heap.size w w':=by
 go_enter Tryz.func31,Tryz.ntmps31
 go_wp2_with fail
 have hb:Below w.heap.size w ((w.alloc (.cells #[.int .i64 0,.int .i64 0] 32)).alloc (.cells #[.int .i64 0,.int .i64 0] 102)):=(aM).alloc (by simp) _
 have k1:((w.alloc (.cells #[.int .i64 0,.int .i64 0] 32)).alloc (.cells #[.int .i64 0,.int .i64 0] 102)).heap[w.heap.size+1]?=some (.cells #[.int .i64 0,.int .i64 0] 102 (0,0)):=by
  have h:∀ (z:World) (o:Obj),(z.alloc o).heap[z.heap.size]?=some o:=fun z o=>by show (z.heap.push o)[z.heap.size]?=some o;simp
  have h2:=h (w.alloc (.cells #[.int .i64 0,.int .i64 0] 32)) (.cells #[.int .i64 0,.int .i64 0] 102)
  rw [show (w.alloc (.cells #[.int .i64 0,.int .i64 0] 32)).heap.size=w.heap.size+1 by simp] at h2
  exact h2
 have k0:((w.alloc (.cells #[.int .i64 0,.int .i64 0] 32)).alloc (.cells #[.int .i64 0,.int .i64 0] 102)).heap[w.heap.size]?=some (.cells #[.int .i64 0,.int .i64 0] 32 (0,0)):=by
  have h:∀ (z:World) (o:Obj),(z.alloc o).heap[z.heap.size]?=some o:=fun z o=>by show (z.heap.push o)[z.heap.size]?=some o;simp
  have b:Below (w.alloc (.cells #[.int .i64 0,.int .i64 0] 32)).heap.size (w.alloc (.cells #[.int .i64 0,.int .i64 0] 32)) ((w.alloc (.cells #[.int .i64 0,.int .i64 0] 32)).alloc (.cells #[.int .i64 0,.int .i64 0] 102)):=(aM)
  exact (b.block _ (by simp)).trans (h w _)
 have hz:((w.alloc (.cells #[.int .i64 0,.int .i64 0] 32)).alloc (.cells #[.int .i64 0,.int .i64 0] 102)).heap.size=w.heap.size+1+1:=by simp
 refine (Er.as_hit (w.heap.size+1) l c _ (hg.keep hb) k1).mono ?_;rintro e w' ⟨rfl,w4,hb4,hr,rfl⟩
 have h0:w4.heap[w.heap.size]?=some (.cells #[.int .i64 0,.int .i64 0] 32 (0,0)):=(hb4.block _ (by rw [hz];omega)).trans k0
 have r1:=setRow_heap w4 (w.heap.size+1) _ #[.int .i64 l,.int .i64 c] _ _ hr
 have r0:(w4.setRow (w.heap.size+1) #[.int .i64 l,.int .i64 c]).heap[w.heap.size]?=some (.cells #[.int .i64 0,.int .i64 0] 32 (0,0)):=(setRow_other _ _ _ _ (by omega)).trans h0
 have HB:Hid (Below w.heap.size w (w4.setRow (w.heap.size+1) #[.int .i64 l,.int .i64 c])):=below_setRow (aa hb hb4) (by omega) _
 have s0:(w4.setRow (w.heap.size+1) #[.int .i64 l,.int .i64 c]).cell? ⟨w.heap.size+1,0,none⟩=some (.int .i64 l):=by simp [World.cell?,r1]
 have s1:(w4.setRow (w.heap.size+1) #[.int .i64 l,.int .i64 c]).cell? ⟨w.heap.size+1,1,none⟩=some (.int .i64 c):=by simp [World.cell?,r1]
 clear hb hb4 hr h0 k0 k1 r1 hz;generalize (w4.setRow (w.heap.size+1) #[.int .i64 l,.int .i64 c])=w5 at *
 go_wp2_with (refine wpList_store_row rfl 32 _ _ rfl w.heap.size #[.int .i64 l,.int .i64 c] rfl rfl 32 _ r0 (by kernel_rfl) rfl (by simp [Value.oneCell']) ?_)
 have q0:=setRow_heap w5 w.heap.size _ #[.int .i64 l,.int .i64 c] _ _ r0
 have t0:(w5.setRow w.heap.size #[.int .i64 l,.int .i64 c]).cell? ⟨w.heap.size,0,none⟩=some (.int .i64 l):=by simp [World.cell?,q0]
 have t1:(w5.setRow w.heap.size #[.int .i64 l,.int .i64 c]).cell? ⟨w.heap.size,1,none⟩=some (.int .i64 c):=by simp [World.cell?,q0]
 exact bodyPost_ret (v:=.agg #[.int .i64 l,.int .i64 c]) (by simp [results,Tryz.results31,go_sem,t0,t1]) rfl ⟨rfl,below_setRow HB.out aG _⟩
end Go.Proofs.YtcmgddnckohdaaaGreatDoor
