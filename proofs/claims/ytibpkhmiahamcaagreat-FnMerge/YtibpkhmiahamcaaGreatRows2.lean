import Derived.Test.YtibpkhmiahamcaaGreatDec2
import Derived.Deep.RegionHeld3

namespace Go.Proofs.YtibpkhmiahamcaaGreat
open Go.RowKit
end Go.Proofs.YtibpkhmiahamcaaGreat
namespace Go.Proofs.YtibpkhmiahamcaaGreat
open Go.RowKit
def triRow (t : Tri) : List Value := [.string t.s, .int .i64 t.x, .int .i64 t.y]
theorem infoKind : (Tryz.prog.info? 107).map (fun i => (i.zero, i.size, i.bytes)) = some (some (.agg #[.string ByteArray.empty, .int .i64 0, .int .i64 0]), 3, 32) := by kernel_rfl
theorem infoPoint : (Tryz.prog.info? 109).map (fun i => (i.zero, i.size, i.bytes)) = some (some (.agg #[.string ByteArray.empty, .int .i64 0, .int .i64 0]), 3, 32) := by kernel_rfl
open Go.RowKit
theorem rows_room {k n c j : Nat} (hk : k < n) (hj : j < c) : k * c + j < n * c :=
 Nat.lt_of_lt_of_le (Nat.add_lt_add_left hj _) (by rw [← Nat.succ_mul]; exact Nat.mul_le_mul_right c hk)
end Go.Proofs.YtibpkhmiahamcaaGreat
