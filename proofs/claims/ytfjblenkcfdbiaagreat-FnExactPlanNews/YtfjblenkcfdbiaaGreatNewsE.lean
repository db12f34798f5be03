
/-
  The law's comparison of changes.
-/
import Derived.Test.YtfjblenkcfdbiaaGreatNews5
namespace Go.Proofs.YtfjblenkcfdbiaaGreat
open Go.RowKit

theorem eqChange_same (c : Chg) (w : World) :
    Calls Tryz.prog 48 #[.agg #[.string c.f, .int .i64 c.what, .int .i64 c.num, .string c.v], .agg #[.string c.f, .int .i64 c.what, .int .i64 c.num, .string c.v]] w fun e w' => e = .returned (.bool true) ∧ Below w.heap.size w w' := by
  go_enter Tryz.func48, Tryz.ntmps48
  go_wp2
  go_ret
  exact ⟨rfl, ((Below.refl _ _).alloc (Nat.le_refl _) _).alloc (by simp) _⟩

set_option maxHeartbeats 1600000 in
theorem eqChanges_any (v v' : Value) (l : List Chg) (w : World) (hv : ChgsAt w v l) (hv' : ChgsAt w v' l) :
    Calls Tryz.prog 19 #[v, v'] w fun e w' => e = .returned (.bool true) ∧ Below w.heap.size w w' := by
  obtain ⟨a, cap, rfl, hlc, hcm, hc⟩ := hv
  obtain ⟨a', cap', rfl, hlc', hcm', hc'⟩ := hv'
  unfold maxLen at hcm hcm'
  have HC : Hid (∀ i f, l[i]? = some f → ∃ b off, a = some ⟨b, off, none⟩ ∧ ChgAt w b (off + i * 4) f) := hc
  have HC' : Hid (∀ i f, l[i]? = some f → ∃ b off, a' = some ⟨b, off, none⟩ ∧ ChgAt w b (off + i * 4) f) := hc'
  clear hc hc'
  go_enter Tryz.func19, Tryz.ntmps19
  go_wp2
  go_loopw [5] (fun i w' => ∃ k : Nat, k ≤ l.length ∧ i = .int .i64 k ∧ Below w.heap.size w w') (fun i _ => l.length - (intOf i).toNat)
  case atStart => exact ⟨0, Nat.zero_le _, rfl, Below.refl _ _⟩
  case round =>
    obtain ⟨k, hk, rfl, hb⟩ := hrel
    by_cases hlt : k < l.length
    · obtain ⟨b, off, rfl, hc⟩ := HC.out k _ (cat_get hlt)
      obtain ⟨b', off', rfl, hc'⟩ := HC'.out k _ (cat_get hlt)
      obtain ⟨d0, d1, d2, d3⟩ := hc.keep hb (Nat.le_refl _)
      obtain ⟨d0', d1', d2', d3'⟩ := hc'.keep hb (Nat.le_refl _)
      clear hc hc' HC HC'
      generalize cat' l k = t at *
      have hk0 : (0 : Int) ≤ (k : Int) := by omega
      have hk1 : (k : Int) < (l.length : Int) := by omega
      go_wp2
      go_region_held3 (fun w' => w'.cell? ⟨b, off + k * 4, none⟩ = some (.string t.f) ∧ w'.cell? ⟨b, off + k * 4 + 1, none⟩ = some (.int .i64 t.what) ∧ w'.cell? ⟨b, off + k * 4 + 2, none⟩ = some (.int .i64 t.num) ∧ w'.cell? ⟨b, off + k * 4 + 3, none⟩ = some (.string t.v) ∧
          w'.cell? ⟨b', off' + k * 4, none⟩ = some (.string t.f) ∧ w'.cell? ⟨b', off' + k * 4 + 1, none⟩ = some (.int .i64 t.what) ∧ w'.cell? ⟨b', off' + k * 4 + 2, none⟩ = some (.int .i64 t.num) ∧ w'.cell? ⟨b', off' + k * 4 + 3, none⟩ = some (.string t.v))
        (first | (simp [*, go_sem]; done) | (refine ⟨cell_keep hb1 (by simp) ?_, cell_keep hb1 (by simp) ?_, cell_keep hb1 (by simp) ?_, cell_keep hb1 (by simp) ?_, cell_keep hb1 (by simp) ?_, cell_keep hb1 (by simp) ?_, cell_keep hb1 (by simp) ?_, cell_keep hb1 (by simp) ?_⟩ <;> simp [*, go_sem]))
        (first | (go_at_call 48; refine (eqChange_same t _).mono ?_; rintro e w1 ⟨rfl, hb1⟩))
      go_wp2
      exact ⟨⟨k + 1, by omega, by go_num, below_step hb.drew hb1⟩, by simp [intOf]; omega⟩
    · go_wp2
      go_ret
      exact ⟨rfl, hb⟩
end Go.Proofs.YtfjblenkcfdbiaaGreat
