
/-
  impl: a book that is ok.
-/
import Derived.Test.YtfjblenkcfdbiaaBook4
import Derived.Test.YtfjblenkcfdbiaaFits4
namespace Go.Proofs.Ytfjblenkcfdbiaa
open Go.RowKit
attribute [local go_sem] Later.cell Later.frozen

def ascE (l : List Ent) (i : Nat) : Bool := !(decide (0 < i) && geB (eat l (i - 1)).name (eat l i).name)
theorem ascE_zero (l : List Ent) : ascE l 0 = true := by simp [ascE]
theorem ascE_succ (l : List Ent) (m : Nat) : ascE l (m + 1) = !geB (eat l m).name (eat l (m + 1)).name := by simp [ascE]
def namesE (l : List Ent) : Bool := decide (l.length ≤ 12) && allB l.length fun i => nameB (eat l i).name && ascE l i
def chgOf (n : ByteArray) (f : Fld) : Chg := ⟨n, f.what, f.num, f.v⟩
def ascF (l : List Fld) (i : Nat) : Bool := !(decide (0 < i) && decide ((fat l i).what ≤ (fat l (i - 1)).what))
def fieldsB (ks ps : List Tri) (n : ByteArray) (l : List Fld) : Bool := (allB l.length fun i => ascF l i && fitB ks ps (chgOf n (fat l i))) && decide (0 < l.length)
def bookB (ks ps : List Tri) (es : List Ent) : Bool := baseB ks ps && (namesE es && allB es.length fun i => fieldsB ks ps (eat es i).name (eat es i).fs)

theorem entryName_any (n : ByteArray) (fv : Value) (w : World) :
    Calls Try.prog 55 #[.agg #[.string n, fv]] w fun e w' => e = .returned (.string n) ∧ Below w.heap.size w w' := by
  go_enter Try.func55, Try.ntmps55
  go_wp2
  go_ret
  exact ⟨rfl, (Below.refl _ _).alloc (Nat.le_refl _) _⟩

set_option maxHeartbeats 3200000 in
theorem namesEntry_any (v : Value) (l : List Ent) (w : World) (hv : EntsAt w v l) (hs : ENames l) :
    Calls Try.prog 54 #[v, .int .i64 12, .func (.func 55) #[] #[]] w fun e w' => e = .returned (.bool (namesE l)) ∧ Below w.heap.size w w' := by
  obtain ⟨a, cap, rfl, hlc, hcm, hc⟩ := hv
  unfold maxLen at hcm
  have HC : Hid (∀ i f, l[i]? = some f → ∃ b off, a = some ⟨b, off, none⟩ ∧ EntAt w b (off + i * 2) f) := hc
  have HS : Hid (ENames l) := hs
  clear hc hs
  by_cases hn : (12 : Int) < (l.length : Int)
  · have e : namesE l = false := by simp [namesE]; omega
    rw [e]; clear e
    go_enter Try.func54, Try.ntmps54
    go_wp2
    go_ret
    exact ⟨rfl, Below.refl _ _⟩
  · have e : namesE l = allB l.length fun i => nameB (eat l i).name && ascE l i := by
      have : l.length ≤ 12 := by omega
      simp [namesE, this]
    rw [e]; clear e
    go_enter Try.func54, Try.ntmps54
    go_wp2
    go_loopw [7, 8, 15] (fun _ _ i wr => ∃ k : Nat, k ≤ l.length ∧ i = .int .i64 k ∧ Below w.heap.size w wr ∧ Hid (∀ j, j < k → (nameB (eat l j).name && ascE l j) = true)) (fun _ _ i _ => l.length - (intOf i).toNat)
    case atStart => exact ⟨0, Nat.zero_le _, rfl, Below.refl _ _, fun j hj => absurd hj (Nat.not_lt_zero _)⟩
    case round =>
      obtain ⟨k, hk, rfl, hb, HA⟩ := hrel
      by_cases hlt : k < l.length
      · obtain ⟨b, off, rfl, hc⟩ := HC.out k _ (eat_get hlt)
        obtain ⟨fv, d0, d1, hfl⟩ := hc.keep hb
        obtain ⟨fa, fc, rfl, -, -, -⟩ := hfl
        have hsk : (eat l k).name.size ≤ maxLen := (HS.out _ (List.mem_of_getElem? (eat_get hlt))).1
        have BAD : Hid (nameB (eat l k).name = false → allB l.length (fun i => nameB (eat l i).name && ascE l i) = false) := fun h => allB_false hlt (by simp [h])
        have BAD' : Hid (ascE l k = false → allB l.length (fun i => nameB (eat l i).name && ascE l i) = false) := fun h => allB_false hlt (by simp [h])
        have hk0 : (0 : Int) ≤ (k : Int) := by omega
        have hk1 : (k : Int) < (l.length : Int) := by omega
        have HO0 : Hid (OwnAt wr (wr.alloc (.cells #[.string (eat l k).name, .slice fa (eat l k).fs.length fc] 90)) [[.string (eat l k).name, .slice fa (eat l k).fs.length fc]]) := (OwnAt.start wr).push rfl _ _
        generalize hnl : (eat l k).fs.length = nl at *
        clear hnl
        go_wp2_with fail
        refine (entryName_any (eat l k).name _ _).mono ?_
        rintro e w1 ⟨rfl, hb1⟩
        go_wp2_with fail
        refine (nameOk_any (eat l k).name _ hsk).mono ?_
        rintro e w2 ⟨rfl, hb2⟩
        have HO2 : Hid (OwnAt wr w2 _) := (HO0.out.call hb1).call hb2
        have HBW : Hid (Below w.heap.size w w2) := below_step hb HO2.out.below
        have n0 : w2.cell? ⟨wr.heap.size, 0, none⟩ = some (.string (eat l k).name) := (HO2.out.has 0 _ rfl 0 _ rfl).1
        have n1 : w2.cell? ⟨wr.heap.size, 1, none⟩ = some (.slice fa nl fc) := (HO2.out.has 0 _ rfl 1 _ rfl).1
        have nz : wr.heap.size < w2.heap.size := lt_of_cell n0
        clear d0 d1 hb1 hb2 HO0 HO2
        cases hnm : nameB (eat l k).name
        · have HN : Hid (nameB (eat l k).name = false) := hnm
          clear hnm
          go_wp2
          go_ret
          exact ⟨ret_bool (BAD.out HN.out).symm, HBW.out⟩
        · have HN : Hid (nameB (eat l k).name = true) := hnm
          clear hnm
          have hne := Later.some w2
          have GN : Hid (∀ (n : ByteArray) (u : Value) (y : Later w2), Calls Try.prog 55 #[.agg #[.string n, u]] y.val fun e w'' => e = .returned (.string n) ∧ ∃ z : Later w2, w'' = z.val) := fun n u y => Calls.later (entryName_any n u y.val)
          by_cases hkz : k = 0
          · subst hkz
            go_wp2
            refine wp_region_later (by kernel_rfl) (by kernel_rfl) ?_
            repeat (go_big_quiet_step (first | (go_at_call 55; exact GN.out _ _ _)))
            refine wpQuiet_nil ?_
            rintro _ ⟨x, rfl⟩
            go_wp2
            exact ⟨⟨1, by omega, by go_num, below_step HBW.out x.below, fun j hj => by
              obtain rfl : j = 0 := by omega
              rw [HN.out, ascE_zero]; rfl⟩, by simp [intOf]; omega⟩
          · obtain ⟨m, rfl⟩ : ∃ m, k = m + 1 := ⟨k - 1, by omega⟩
            obtain ⟨b', off', hbo, hcm'⟩ := HC.out m _ (eat_get (by omega))
            cases hbo
            obtain ⟨fv', m0, m1, hfl'⟩ := hcm'.keep HBW.out
            obtain ⟨fa', fc', rfl, -, -, -⟩ := hfl'
            have mz : b < w2.heap.size := lt_of_cell m0
            have HE : Hid (ascE l (m + 1) = !geB (eat l m).name (eat l (m + 1)).name) := ascE_succ l m
            have hi0 : (0 : Int) ≤ (m : Int) := by omega
            have hi1 : (m : Int) < (l.length : Int) := by omega
            have hi2 : (0 : Int) < (m : Int) + 1 := by omega
            have hw1 : IntKind.i64.wrap (m : Int) = (m : Int) := by rw [IntKind.wrap_i64]; omega
            have hw2 : IntKind.i64.wrap ((m : Int) + 1 - 1) = (m : Int) := by rw [IntKind.wrap_i64]; omega
            clear hc hcm'
            go_wp2
            refine wp_region_later (by kernel_rfl) (by kernel_rfl) ?_
            repeat (go_big_quiet_step (first | (go_at_call 55; exact GN.out _ _ _)))
            refine wpQuiet_nil ?_
            rintro _ ⟨x, rfl⟩
            go_wp2
            · rename_i h
              go_ret
              exact ⟨ret_bool (BAD'.out (by rw [HE.out]; unfold geB; rw [h]; rfl)).symm, below_step HBW.out x.below⟩
            · rename_i h
              exact ⟨⟨m + 1 + 1, by omega, by go_num, below_step HBW.out x.below, fun j hj => if e : j = m + 1 then by rw [e, HN.out, HE.out]; unfold geB; rw [h]; rfl else HA.out j (by omega)⟩, by simp [intOf]; omega⟩
      · go_wp2
        go_ret
        exact ⟨ret_bool (allB_true fun j hj => HA.out j (by omega)).symm, hb⟩
end Go.Proofs.Ytfjblenkcfdbiaa
