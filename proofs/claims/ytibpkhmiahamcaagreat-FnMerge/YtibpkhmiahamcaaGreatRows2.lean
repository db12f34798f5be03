import Derived.Test.YtibpkhmiahamcaaGreatDec2
import Derived.Deep.RegionHeld3

namespace Go.Proofs.YtibpkhmiahamcaaGreat
open Go.RowKit
end Go.Proofs.YtibpkhmiahamcaaGreat
namespace Go.Proofs.YtibpkhmiahamcaaGreat
open Go.RowKit
def triRow (t : Tri) : List Value := [.string t.s, .int .i64 t.x, .int .i64 t.y]
structure Filled (w wr : World) (B n : Nat) (l : List Tri) (k : Nat) : Prop where
 below : Below w.heap.size w wr
 big : B < wr.heap.size
 old : w.heap.size ≤ B
 room : wr.there B 0 (n * 3)
 has : ∀ i t, i < k → l[i]? = some t → wr.rangeAt B (i * 3) (triRow t)
theorem infoKind : (Tryz.prog.info? 107).map (fun i => (i.zero, i.size, i.bytes)) = some (some (.agg #[.string ByteArray.empty, .int .i64 0, .int .i64 0]), 3, 32) := by kernel_rfl
theorem infoPoint : (Tryz.prog.info? 109).map (fun i => (i.zero, i.size, i.bytes)) = some (some (.agg #[.string ByteArray.empty, .int .i64 0, .int .i64 0]), 3, 32) := by kernel_rfl
open Go.RowKit
structure FilledL (w wr : World) (B n c : Nat) (rows : List (List Value)) : Prop where
 below : Below w.heap.size w wr
 big : B < wr.heap.size
 old : w.heap.size ≤ B
 room : wr.there B 0 (n * c)
 wide : ∀ r ∈ rows, r.length = c
 has : ∀ i r, rows[i]? = some r → wr.rangeAt B (i * c) r
theorem rows_room {k n c j : Nat} (hk : k < n) (hj : j < c) : k * c + j < n * c :=
 Nat.lt_of_lt_of_le (Nat.add_lt_add_left hj _) (by rw [← Nat.succ_mul]; exact Nat.mul_le_mul_right c hk)
end Go.Proofs.YtibpkhmiahamcaaGreat
