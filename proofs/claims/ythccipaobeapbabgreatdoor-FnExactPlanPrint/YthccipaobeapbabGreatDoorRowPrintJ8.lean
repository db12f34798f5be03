/-
  For the proof of print_card: part 8 (LaidForm, Tri).
-/
import Derived.OpenShut
import Derived.Lib.LaidU8
import Derived.Deep.Fields
import Derived.Test.YthccipaobeapbabGreatDoorRowPrintJ7
/-
  What the listed package-level variables hold: the table of words, cell by cell; the table of powers of ten.
-/
namespace Go.Proofs.YthccipaobeapbabGreatDoor
open Go.RowKit Go.ChangeShapes Go.WideShapes Go.Deep

theorem gSaid : Tryz.prog.globalNamed "loop.example/lapplan/impl.saidWords" = some 1 := by kernel_rfl
theorem tSaid : (Tryz.prog.globals[1]?).map (·.type) = some 197 := by kernel_rfl
theorem cSaid : Tryz.prog.cellsOf 196 = 2 := by kernel_rfl
theorem cSaids : Tryz.prog.cellsOf 197 = 10 := by kernel_rfl
theorem cInt : Tryz.prog.cellsOf 3 = 1 := by kernel_rfl
theorem cStr : Tryz.prog.cellsOf 9 = 1 := by kernel_rfl
theorem tPow : (Tryz.prog.globals[4]?).map (·.type) = some 296 := by kernel_rfl

theorem str_of {l : List UInt8} {s : ByteArray} (h : s.data.toList = l) : s = ⟨l.toArray⟩ := by
  subst h; rfl

/-- One row of the table. -/
theorem said_row {H : Type} {enc : TypeId × Value → H} {w : World} {base : Nat} {sp : Nat → Bool} {held : Bool} {fuel : Nat} {cs : List Value} {n : Int} {l : List UInt8} {p : List MemPlace}
    (h : DataW.trod enc Tryz.prog w base sp held fuel 196 cs = some (.agg [.lit (.int .i64 n), .lit (.string l)], p)) : cs = [.int .i64 n, .string ⟨l.toArray⟩] := by
  obtain ⟨y0, y1, m, hx, hl, h0, h1⟩ := trod_struct2 Tryz.underlying196 h
  dsimp only at h0 h1
  rw [cInt] at h0
  rw [cStr] at h1
  rw [cSaid] at hl
  match cs, hl with
  | [c0, c1], _ =>
    obtain ⟨z, e0, e1, _⟩ := DataW.trod_int Tryz.underlying3 h0
    obtain ⟨s, e2, e3, _⟩ := DataW.trod_string Tryz.underlying9 h1
    rw [e1, e3] at hx
    simp only [Prod.mk.injEq, DataW.agg.injEq, List.cons.injEq, DataW.lit.injEq, Lit.int.injEq, Lit.string.injEq, true_and, and_true] at hx
    obtain ⟨⟨rfl, hs⟩, _⟩ := hx
    have f0 : c0 = .int .i64 n := by simpa using e0
    have f1 : c1 = .string s := by simpa using e2
    rw [f0, f1, str_of hs.symm]

theorem said_of {w : World} (h : Lib.VarReads Tryz.prog w "loop.example/lapplan/impl.saidWords" Rows.laid_loop_example_lapplan_impl_saidWords) : SaidIn w := by
  obtain ⟨g, t, cs, fuel, p, hg, ht, hvar, hd⟩ := h
  obtain rfl := Option.some.inj (gSaid.symm.trans hg)
  obtain rfl := Option.some.inj (tSaid.symm.trans ht)
  obtain ⟨xs, m, _, hx, hl, hxl, hall⟩ := DataW.trod_array Tryz.underlying197 hd
  rw [cSaids] at hl
  rw [cSaid] at hall
  match xs, hxl with
  | [x0, x1, x2, x3, x4], _ =>
    have q0 := hall 0 (by omega); have q1 := hall 1 (by omega); have q2 := hall 2 (by omega); have q3 := hall 3 (by omega); have q4 := hall 4 (by omega)
    simp only [Rows.laid_loop_example_lapplan_impl_saidWords, Prod.mk.injEq, DataW.agg.injEq, List.map_cons, List.map_nil, List.cons.injEq, and_true] at hx
    obtain ⟨⟨r0, r1, r2, r3, r4⟩, _⟩ := hx
    obtain ⟨d0, p0⟩ := x0; obtain ⟨d1, p1⟩ := x1; obtain ⟨d2, p2⟩ := x2; obtain ⟨d3, p3⟩ := x3; obtain ⟨d4, p4⟩ := x4
    dsimp only at r0 r1 r2 r3 r4
    subst r0 r1 r2 r3 r4
    have k0 := said_row q0; have k1 := said_row q1; have k2 := said_row q2; have k3 := said_row q3; have k4 := said_row q4
    have hcs : cs.toList = saidC.toList := by
      generalize cs.toList = l at *
      match l, hl with
      | [a0, a1, a2, a3, a4, a5, a6, a7, a8, a9], _ =>
        simp at k0 k1 k2 k3 k4
        obtain ⟨rfl, rfl⟩ := k0; obtain ⟨rfl, rfl⟩ := k1; obtain ⟨rfl, rfl⟩ := k2; obtain ⟨rfl, rfl⟩ := k3; obtain ⟨rfl, rfl⟩ := k4
        rfl
    have hc : cs = saidC := Array.toList_inj.1 hcs
    subst hc
    simp only [World.var?, gSaid, Option.bind_some] at hvar
    split at hvar
    · rename_i c t fr hb
      cases hvar
      exact ⟨t, fr, hb⟩
    · cases hvar

theorem pow_of {w : World} (h : Lib.VarReads Tryz.prog w "internal/strconv.uint64pow10" Rows.laid_internal_strconv_uint64pow10) : Lib.TabIs Tryz.prog w "internal/strconv.uint64pow10" .u64 Lib.pow10Tab := by
  obtain ⟨g, t, cs, fuel, p, hg, ht, hvar, hd⟩ := h
  obtain rfl := Option.some.inj (gPow.symm.trans hg)
  obtain rfl := Option.some.inj (tPow.symm.trans ht)
  have e : (Rows.laid_internal_strconv_uint64pow10 : DataW Unit) = Lib.tabData .u64 Lib.pow10Tab := rfl
  rw [e] at hd
  have hc := Lib.cells_of_tab Tryz.underlying296 Tryz.underlying275 (by kernel_rfl) (by kernel_rfl) hd
  unfold Lib.TabIs
  rw [hvar, ← hc]
end Go.Proofs.YthccipaobeapbabGreatDoor

/-
  Kinds and points one by one: sizes, copies, comparisons, names.
-/
namespace Go.Proofs.YthccipaobeapbabGreatDoor
open Go.RowKit

set_option maxHeartbeats 400000 in
theorem szKind_any (t : Tri) (left : Int) (w : World) (hs : t.s.size ≤ maxLen) (hl : 0 ≤ left) (hl' : left ≤ 1048576) :
    Calls Tryz.prog 123 #[.agg #[.string t.s, .int .i64 t.x, .int .i64 t.y], .int .i64 left] w fun e w' => e = .returned (.int .i64 (szR t.s.size left)) ∧ Below w.heap.size w w' := by
  unfold maxLen at hs
  by_cases h : left - (t.s.size : Int) < 0
  · rw [szR_neg (by omega)]
    go_enter Tryz.func123, Tryz.ntmps123
    go_wp2
    go_ret
    exact ⟨rfl, (Below.refl _ _).alloc (Nat.le_refl _) _⟩
  · rw [szR_pos (by omega)]
    go_enter Tryz.func123, Tryz.ntmps123
    go_wp2
    go_ret
    exact ⟨rfl, (Below.refl _ _).alloc (Nat.le_refl _) _⟩

set_option maxHeartbeats 400000 in
theorem toKind_any (t : Tri) (w : World) :
    Calls Tryz.prog 127 #[.agg #[.string t.s, .int .i64 t.x, .int .i64 t.y]] w fun e w' => e = .returned (.agg #[.string t.s, .int .i64 t.x, .int .i64 t.y]) ∧ Below w.heap.size w w' := by
  go_enter Tryz.func127, Tryz.ntmps127
  go_wp2
  exact bodyPost_ret (v := .agg #[.string t.s, .int .i64 t.x, .int .i64 t.y]) (by simp [results, Tryz.results127, go_sem]) rfl ⟨rfl, (((Below.refl _ _).alloc (Nat.le_refl _) _).alloc (by simp) _).alloc (by simp; omega) _⟩

set_option maxHeartbeats 400000 in
theorem eqKind_any (t : Tri) (w : World) :
    Calls Tryz.prog 55 #[.agg #[.string t.s, .int .i64 t.x, .int .i64 t.y], .agg #[.string t.s, .int .i64 t.x, .int .i64 t.y]] w fun e w' => e = .returned (.bool true) ∧ Below w.heap.size w w' := by
  go_enter Tryz.func55, Tryz.ntmps55
  go_wp2
  all_goals go_ret
  all_goals exact ⟨rfl, ((Below.refl _ _).alloc (Nat.le_refl _) _).alloc (by simp) _⟩
set_option maxHeartbeats 400000 in
theorem szPoint_any (t : Tri) (left : Int) (w : World) (hs : t.s.size ≤ maxLen) (hl : 0 ≤ left) (hl' : left ≤ 1048576) :
    Calls Tryz.prog 124 #[.agg #[.string t.s, .int .i64 t.x, .int .i64 t.y], .int .i64 left] w fun e w' => e = .returned (.int .i64 (szR t.s.size left)) ∧ Below w.heap.size w w' := by
  unfold maxLen at hs
  by_cases h : left - (t.s.size : Int) < 0
  · rw [szR_neg (by omega)]
    go_enter Tryz.func124, Tryz.ntmps124
    go_wp2
    go_ret
    exact ⟨rfl, (Below.refl _ _).alloc (Nat.le_refl _) _⟩
  · rw [szR_pos (by omega)]
    go_enter Tryz.func124, Tryz.ntmps124
    go_wp2
    go_ret
    exact ⟨rfl, (Below.refl _ _).alloc (Nat.le_refl _) _⟩

set_option maxHeartbeats 400000 in
theorem toPoint_any (t : Tri) (w : World) :
    Calls Tryz.prog 128 #[.agg #[.string t.s, .int .i64 t.x, .int .i64 t.y]] w fun e w' => e = .returned (.agg #[.string t.s, .int .i64 t.x, .int .i64 t.y]) ∧ Below w.heap.size w w' := by
  go_enter Tryz.func128, Tryz.ntmps128
  go_wp2
  exact bodyPost_ret (v := .agg #[.string t.s, .int .i64 t.x, .int .i64 t.y]) (by simp [results, Tryz.results128, go_sem]) rfl ⟨rfl, (((Below.refl _ _).alloc (Nat.le_refl _) _).alloc (by simp) _).alloc (by simp; omega) _⟩

set_option maxHeartbeats 400000 in
theorem eqPoint_any (t : Tri) (w : World) :
    Calls Tryz.prog 121 #[.agg #[.string t.s, .int .i64 t.x, .int .i64 t.y], .agg #[.string t.s, .int .i64 t.x, .int .i64 t.y]] w fun e w' => e = .returned (.bool true) ∧ Below w.heap.size w w' := by
  go_enter Tryz.func121, Tryz.ntmps121
  go_wp2
  all_goals go_ret
  all_goals exact ⟨rfl, ((Below.refl _ _).alloc (Nat.le_refl _) _).alloc (by simp) _⟩

set_option maxHeartbeats 400000 in
theorem kindName_any (t : Tri) (w : World) :
    Calls Tryz.prog 155 #[.agg #[.string t.s, .int .i64 t.x, .int .i64 t.y]] w fun e w' => e = .returned (.string t.s) ∧ Below w.heap.size w w' := by
  go_enter Tryz.func155, Tryz.ntmps155
  go_wp2
  go_ret
  exact ⟨rfl, (Below.refl _ _).alloc (Nat.le_refl _) _⟩
set_option maxHeartbeats 400000 in
theorem pointName_any (t : Tri) (w : World) :
    Calls Tryz.prog 158 #[.agg #[.string t.s, .int .i64 t.x, .int .i64 t.y]] w fun e w' => e = .returned (.string t.s) ∧ Below w.heap.size w w' := by
  go_enter Tryz.func158, Tryz.ntmps158
  go_wp2
  go_ret
  exact ⟨rfl, (Below.refl _ _).alloc (Nat.le_refl _) _⟩

set_option maxHeartbeats 400000 in
theorem paceOk_any (t : Tri) (w : World) :
    Calls Tryz.prog 156 #[.agg #[.string t.s, .int .i64 t.x, .int .i64 t.y]] w fun e w' => e = .returned (.bool (paceB t)) ∧ Below w.heap.size w w' := by
  obtain ⟨s, x, y⟩ := t
  dsimp only
  by_cases h1 : 1 ≤ x
  · by_cases h2 : x ≤ y
    · by_cases h3 : y ≤ 50
      · have e : paceB ⟨s, x, y⟩ = true := by simp [paceB, h1, h2, h3]
        rw [e]; clear e
        go_enter Tryz.func156, Tryz.ntmps156
        go_wp2
        go_ret
        exact ⟨rfl, (Below.refl _ _).alloc (Nat.le_refl _) _⟩
      · have e : paceB ⟨s, x, y⟩ = false := by simp [paceB, h3]
        rw [e]; clear e
        go_enter Tryz.func156, Tryz.ntmps156
        go_wp2
        go_ret
        exact ⟨rfl, (Below.refl _ _).alloc (Nat.le_refl _) _⟩
    · have e : paceB ⟨s, x, y⟩ = false := by simp [paceB, h2]
      rw [e]; clear e
      go_enter Tryz.func156, Tryz.ntmps156
      go_wp2
      go_ret
      exact ⟨rfl, (Below.refl _ _).alloc (Nat.le_refl _) _⟩
  · have e : paceB ⟨s, x, y⟩ = false := by simp [paceB, h1]
    rw [e]; clear e
    go_enter Tryz.func156, Tryz.ntmps156
    go_wp2
    go_ret
    exact ⟨rfl, (Below.refl _ _).alloc (Nat.le_refl _) _⟩

set_option maxHeartbeats 400000 in
theorem inside_any (t : Tri) (w : World) :
    Calls Tryz.prog 159 #[.agg #[.string t.s, .int .i64 t.x, .int .i64 t.y]] w fun e w' => e = .returned (.bool (insideB t)) ∧ Below w.heap.size w w' := by
  obtain ⟨s, x, y⟩ := t
  dsimp only
  cases h1 : inB x 0 15
  · have e : insideB ⟨s, x, y⟩ = false := by simp [insideB, h1]
    rw [e]; clear e
    have H1 : Hid (inB x 0 15 = false) := h1
    clear h1
    go_enter Tryz.func159, Tryz.ntmps159
    go_wp2_with (go_at_call 185; refine (onSide_any _ _).mono ?_; rw [H1.out]; rintro e w' ⟨rfl, rfl⟩)
    go_ret
    exact ⟨rfl, (Below.refl _ _).alloc (Nat.le_refl _) _⟩
  · have H1 : Hid (inB x 0 15 = true) := h1
    have e : insideB ⟨s, x, y⟩ = inB y 0 15 := by simp [insideB, h1]
    rw [e]; clear e h1
    go_enter Tryz.func159, Tryz.ntmps159
    go_wp2_with fail
    refine (onSide_any _ _).mono ?_; rw [H1.out]; rintro e w' ⟨rfl, rfl⟩
    go_wp2_with fail
    refine (onSide_any _ _).mono ?_; rintro e w' ⟨rfl, rfl⟩
    go_wp2
    go_ret
    exact ⟨rfl, (Below.refl _ _).alloc (Nat.le_refl _) _⟩

set_option maxHeartbeats 400000 in
theorem l1KindOk_any (t : Tri) (w : World) (hs : t.s.size ≤ maxLen) :
    Calls Tryz.prog 108 #[.agg #[.string t.s, .int .i64 t.x, .int .i64 t.y]] w fun e w' => e = .returned (.bool (kindOkB t)) ∧ Below w.heap.size w w' := by
  obtain ⟨s, x, y⟩ := t
  dsimp only at hs ⊢
  cases h0 : nameB s
  · have e : kindOkB ⟨s, x, y⟩ = false := by simp [kindOkB, h0]
    have H0 : Hid (nameB s = false) := h0
    rw [e]; clear e h0
    go_enter Tryz.func108, Tryz.ntmps108
    go_wp2_with fail
    refine (l1NameOk_any _ _ hs).mono ?_; rw [H0.out]; rintro e w' ⟨rfl, rfl⟩
    go_wp2
    go_ret
    exact ⟨rfl, (Below.refl _ _).alloc (Nat.le_refl _) _⟩
  · have H0 : Hid (nameB s = true) := h0
    cases h1 : inB x 1 y
    · have H1 : Hid (inB x 1 y = false) := h1
      have e : kindOkB ⟨s, x, y⟩ = false := by simp [kindOkB, paceB]; simp [inB] at h1; omega
      rw [e]; clear e h0 h1
      go_enter Tryz.func108, Tryz.ntmps108
      go_wp2_with fail
      refine (l1NameOk_any _ _ hs).mono ?_; rw [H0.out]; rintro e w' ⟨rfl, rfl⟩
      go_wp2_with fail
      refine (l1In_any _ _ _ _).mono ?_; rw [H1.out]; rintro e w' ⟨rfl, rfl⟩
      go_wp2
      go_ret
      exact ⟨rfl, (Below.refl _ _).alloc (Nat.le_refl _) _⟩
    · have H1 : Hid (inB x 1 y = true) := h1
      have e : kindOkB ⟨s, x, y⟩ = decide (y ≤ 50) := by simp [inB] at h1; simp [kindOkB, paceB, h0, h1]
      rw [e]; clear e h0 h1
      go_enter Tryz.func108, Tryz.ntmps108
      go_wp2_with fail
      refine (l1NameOk_any _ _ hs).mono ?_; rw [H0.out]; rintro e w' ⟨rfl, rfl⟩
      go_wp2_with fail
      refine (l1In_any _ _ _ _).mono ?_; rw [H1.out]; rintro e w' ⟨rfl, rfl⟩
      go_wp2
      go_ret
      exact ⟨rfl, (Below.refl _ _).alloc (Nat.le_refl _) _⟩

set_option maxHeartbeats 400000 in
theorem l1PointOk_any (t : Tri) (w : World) (hs : t.s.size ≤ maxLen) :
    Calls Tryz.prog 109 #[.agg #[.string t.s, .int .i64 t.x, .int .i64 t.y]] w fun e w' => e = .returned (.bool (pointOkB t)) ∧ Below w.heap.size w w' := by
  obtain ⟨s, x, y⟩ := t
  dsimp only at hs ⊢
  cases h0 : nameB s
  · have e : pointOkB ⟨s, x, y⟩ = false := by simp [pointOkB, h0]
    have H0 : Hid (nameB s = false) := h0
    rw [e]; clear e h0
    go_enter Tryz.func109, Tryz.ntmps109
    go_wp2_with fail
    refine (l1NameOk_any _ _ hs).mono ?_; rw [H0.out]; rintro e w' ⟨rfl, rfl⟩
    go_wp2
    go_ret
    exact ⟨rfl, (Below.refl _ _).alloc (Nat.le_refl _) _⟩
  · have H0 : Hid (nameB s = true) := h0
    cases h1 : inB x 0 15
    · have H1 : Hid (inB x 0 15 = false) := h1
      have e : pointOkB ⟨s, x, y⟩ = false := by simp [pointOkB, insideB, h1]
      rw [e]; clear e h0 h1
      go_enter Tryz.func109, Tryz.ntmps109
      go_wp2_with fail
      refine (l1NameOk_any _ _ hs).mono ?_; rw [H0.out]; rintro e w' ⟨rfl, rfl⟩
      go_wp2_with fail
      refine (l1In_any _ _ _ _).mono ?_; rw [H1.out]; rintro e w' ⟨rfl, rfl⟩
      go_wp2
      go_ret
      exact ⟨rfl, (Below.refl _ _).alloc (Nat.le_refl _) _⟩
    · have H1 : Hid (inB x 0 15 = true) := h1
      have e : pointOkB ⟨s, x, y⟩ = inB y 0 15 := by simp [pointOkB, insideB, h0, h1]
      rw [e]; clear e h0 h1
      go_enter Tryz.func109, Tryz.ntmps109
      go_wp2_with fail
      refine (l1NameOk_any _ _ hs).mono ?_; rw [H0.out]; rintro e w' ⟨rfl, rfl⟩
      go_wp2_with fail
      refine (l1In_any _ _ _ _).mono ?_; rw [H1.out]; rintro e w' ⟨rfl, rfl⟩
      go_wp2_with fail
      refine (l1In_any _ _ _ _).mono ?_; rintro e w' ⟨rfl, rfl⟩
      go_wp2
      go_ret
      exact ⟨rfl, (Below.refl _ _).alloc (Nat.le_refl _) _⟩
end Go.Proofs.YthccipaobeapbabGreatDoor
