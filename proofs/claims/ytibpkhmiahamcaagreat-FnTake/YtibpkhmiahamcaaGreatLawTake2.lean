
/-
 The law FnTake: whatever bytes the book and the change are drawn from, it answers true.
-/
import Derived.Test.YtibpkhmiahamcaaGreatDt1
import Derived.Test.YtibpkhmiahamcaaGreatWF
import Derived.Test.YtibpkhmiahamcaaGreatTake1
import Derived.Test.YtibpkhmiahamcaaGreatTakeS
import Derived.Test.YtibpkhmiahamcaaGreatBook7
import Derived.Test.YtibpkhmiahamcaaGreatTkH
namespace Go.Proofs.YtibpkhmiahamcaaGreat.Dr
open Go.RowKit Go.Proofs.YtibpkhmiahamcaaGreat
attribute [local go_sem] Later.cell Later.frozen
set_option linter.unusedSimpArgs false
set_option linter.unusedVariables false

/-- The boxes, the drawn book and the one that came of it. -/
structure TX (w z : World) (bs : List Bx) (v1 v2 v3 u1 u2 u3 : Value) (ks ps : List Tri) (es : List Ent) (kt pt : List Tri) (et : List Ent) : Prop where
 bx : Bxs w z bs
 b : BookAt z v1 v2 v3 ks ps es
 x : BookAt z u1 u2 u3 kt pt et
theorem TX.call {w z z' : World} {bs : List Bx} {v1 v2 v3 u1 u2 u3 : Value} {ks ps : List Tri} {es : List Ent} {kt pt : List Tri} {et : List Ent} (h : TX w z bs v1 v2 v3 u1 u2 u3 ks ps es kt pt et) (hb : Below z.heap.size z z') : TX w z' bs v1 v2 v3 u1 u2 u3 ks ps es kt pt et := ⟨h.bx.call hb, h.b.keep hb, h.x.keep hb⟩
theorem TX.alloc {w z : World} {bs : List Bx} {v1 v2 v3 u1 u2 u3 : Value} {ks ps : List Tri} {es : List Ent} {kt pt : List Tri} {et : List Ent} (h : TX w z bs v1 v2 v3 u1 u2 u3 ks ps es kt pt et) (o : Obj) : TX w (z.alloc o) bs v1 v2 v3 u1 u2 u3 ks ps es kt pt et := h.call ((Below.refl _ _).alloc (Nat.le_refl _) o)
theorem bx3 {w z : World} {bs : List Bx} (h : Bxs w z bs) (i : Nat) {X : Nat} {a b c : Value} {T : TypeId} (hi : bs[i]? = some (X, #[a, b, c], T)) : z.cell? ⟨X, 0, none⟩ = some a ∧ z.cell? ⟨X, 1, none⟩ = some b ∧ z.cell? ⟨X, 2, none⟩ = some c := ⟨h.cell i hi 0, h.cell i hi 1, h.cell i hi 2⟩
theorem bx4 {w z : World} {bs : List Bx} (h : Bxs w z bs) (i : Nat) {X : Nat} {a b c d : Value} {T : TypeId} (hi : bs[i]? = some (X, #[a, b, c, d], T)) : z.cell? ⟨X, 0, none⟩ = some a ∧ z.cell? ⟨X, 1, none⟩ = some b ∧ z.cell? ⟨X, 2, none⟩ = some c ∧ z.cell? ⟨X, 3, none⟩ = some d := ⟨h.cell i hi 0, h.cell i hi 1, h.cell i hi 2, h.cell i hi 3⟩
theorem bookAt_none (w : World) : BookAt w (.slice none 0 0) (.slice none 0 0) (.slice none 0 0) [] [] [] := ⟨⟨none, 0, rfl, Nat.le_refl _, Nat.zero_le _, fun i e he => by simp at he⟩, ⟨none, 0, rfl, Nat.le_refl _, Nat.zero_le _, fun i e he => by simp at he⟩, ⟨none, 0, rfl, Nat.le_refl _, Nat.zero_le _, fun i e he => by simp at he⟩⟩
theorem take_cases (ks ps : List Tri) (es : List Ent) (c : Chg) : (takeC ks ps es c = 1 ∧ takeT ks ps es ks = [] ∧ takeT ks ps es ps = [] ∧ takeE ks ps es c = []) ∨ ((takeC ks ps es c = 2 ∨ takeC ks ps es c = 3) ∧ takeT ks ps es ks = ks ∧ takeT ks ps es ps = ps ∧ takeE ks ps es c = es) ∨ (takeC ks ps es c = 0 ∧ takeT ks ps es ks = ks ∧ takeT ks ps es ps = ps ∧ takeE ks ps es c = putE es c.f (fldC c)) := by
 unfold takeC takeT takeE
 cases bookB ks ps es
 ·exact .inl ⟨rfl, rfl, rfl, rfl⟩
 ·cases fitB ks ps c
  ·exact .inr (.inl ⟨.inl rfl, rfl, rfl, rfl⟩)
  ·cases decide (12 < (putE es c.f (fldC c)).length)
   ·exact .inr (.inr ⟨rfl, rfl, rfl, rfl⟩)
   ·exact .inr (.inl ⟨.inr rfl, rfl, rfl, rfl⟩)
set_option maxRecDepth 100000 in
set_option maxHeartbeats 6400000 in
theorem lawTake2_walk (v : Value) (n : Nat) (w : World) (h : BysArg w v n) :
  Calls Tryz.prog 3 #[v] w fun e w' => e = .returned (.bool true) ∧ Below w.heap.size w w' := by
 have HA := toHid h
 obtain ⟨a, cap, rfl, -⟩ := h
 by_cases hl1 : (1048576 : Int) < (n : Int)
 ·go_enter Tryz.func3, Tryz.ntmps3
  go_wp2_with fail
  exact bodyPost_ret (v := .bool true) (by simp [results, Tryz.results3, go_sem]) rfl ⟨rfl, Below.refl _ _⟩
 go_enter Tryz.func3, Tryz.ntmps3
 go_wp2_with fail
 refine (drawTake_any _ n _ HA.out).mono ?_
 rintro e w1 ⟨vx, vy, vz, ks, ps, es, ⟨f, wh, num, s⟩, rfl, hat, hsp, hf, hs, hb1⟩
 dsimp only at hf hs
 obtain ⟨a1, c1, a2, c2, a3, c3, rfl, rfl, rfl⟩ := BookAt.slices hat
 have SM : Hid (SmB (ks, ps, es)) := hsp.1
 have X1 : Hid (Bxs w ((w1.alloc (.cells #[.slice a1 ks.length c1, .slice a2 ps.length c2, .slice a3 es.length c3] 29)).alloc (.cells #[.string f, .int .i64 wh, .int .i64 num, .string s] 31)) [(w1.heap.size, #[.slice a1 ks.length c1, .slice a2 ps.length c2, .slice a3 es.length c3], 29), (w1.heap.size + 1, #[.string f, .int .i64 wh, .int .i64 num, .string s], 31)] ∧ BookAt ((w1.alloc (.cells #[.slice a1 ks.length c1, .slice a2 ps.length c2, .slice a3 es.length c3] 29)).alloc (.cells #[.string f, .int .i64 wh, .int .i64 num, .string s] 31)) (.slice a1 ks.length c1) (.slice a2 ps.length c2) (.slice a3 es.length c3) ks ps es) := by
  have h1 := Bxs.start2 w1 #[.slice a1 ks.length c1, .slice a2 ps.length c2, .slice a3 es.length c3] #[.string f, .int .i64 wh, .int .i64 num, .string s] 29 31
  exact ⟨⟨below_step hb1 h1.below, h1.has⟩, hat.keep h1.below⟩
 clear hat hsp hb1
 go_wp2_with fail
 generalize ((w1.alloc (.cells #[.slice a1 ks.length c1, .slice a2 ps.length c2, .slice a3 es.length c3] 29)).alloc (.cells #[.string f, .int .i64 wh, .int .i64 num, .string s] 31)) = w2 at *
 generalize w1.heap.size = B at *
 refine (planTake_any _ _ _ ks ps es ⟨f, wh, num, s⟩ _ X1.out.2 SM.out.n SM.out.s SM.out.u (by show f.size ≤ _; omega) (by show s.size ≤ _; omega)).mono ?_
 rintro e w3 ⟨vx, vy, vz, rfl, hbn, hb3⟩
 have hcase := take_cases ks ps es ⟨f, wh, num, s⟩
 have SMT : Hid (SmB (takeT ks ps es ks, takeT ks ps es ps, takeE ks ps es ⟨f, wh, num, s⟩)) := SM.out.step (c := ⟨f, wh, num, s⟩) (by show f.size ≤ _; omega) (by show s.size ≤ _; omega)
 have HSP : Hid (∀ wx : World, BookAt wx (.slice a1 ks.length c1) (.slice a2 ps.length c2) (.slice a3 es.length c3) ks ps es → Calls Tryz.prog 7 #[.agg #[.slice a1 ks.length c1, .slice a2 ps.length c2, .slice a3 es.length c3], .agg #[.string f, .int .i64 wh, .int .i64 num, .string s]] wx fun e w' => ∃ x y z, e = .returned (.tuple #[.agg #[x, y, z], .int .i64 (takeC ks ps es ⟨f, wh, num, s⟩)]) ∧ BookNew wx.heap.size w' x y z (takeT ks ps es ks) (takeT ks ps es ps) (takeE ks ps es ⟨f, wh, num, s⟩) ∧ Below wx.heap.size wx w') := fun wx hx => specTake_any _ _ _ ks ps es ⟨f, wh, num, s⟩ wx hx SM.out.n SM.out.s (by show f.size ≤ _; omega) (by show s.size ≤ _; omega)
 have HAG : Hid (takeC ks ps es ⟨f, wh, num, s⟩ = 0 → bookB ks ps es = true ∧ bookB (takeT ks ps es ks) (takeT ks ps es ps) (takeE ks ps es ⟨f, wh, num, s⟩) = true ∧ takeT (takeT ks ps es ks) (takeT ks ps es ps) (takeE ks ps es ⟨f, wh, num, s⟩) (takeT ks ps es ks) = takeT ks ps es ks ∧ takeT (takeT ks ps es ks) (takeT ks ps es ps) (takeE ks ps es ⟨f, wh, num, s⟩) (takeT ks ps es ps) = takeT ks ps es ps ∧ takeE (takeT ks ps es ks) (takeT ks ps es ps) (takeE ks ps es ⟨f, wh, num, s⟩) ⟨f, wh, num, s⟩ = takeE ks ps es ⟨f, wh, num, s⟩) := fun h => by
  obtain ⟨h1, h2, h3, h4, h5⟩ := take_again h
  rw [h1, takeT_ok h2, takeT_ok h2]
  exact ⟨h2, h4, takeT_ok h4 _, takeT_ok h4 _, h5⟩
 have HC := toHid hcase
 clear hcase
 generalize takeC ks ps es ⟨f, wh, num, s⟩ = k at *
 generalize takeT ks ps es ks = kt at *
 generalize takeT ks ps es ps = pt at *
 generalize takeE ks ps es ⟨f, wh, num, s⟩ = et at *
 obtain ⟨x1, d1, x2, d2, x3, d3, rfl, rfl, rfl⟩ := hbn.slices
 have X4 : Hid (TX w (w3.alloc (.cells #[.slice x1 kt.length d1, .slice x2 pt.length d2, .slice x3 et.length d3] 29)) [(w3.heap.size, #[.slice x1 kt.length d1, .slice x2 pt.length d2, .slice x3 et.length d3], 29), (B, #[.slice a1 ks.length c1, .slice a2 ps.length c2, .slice a3 es.length c3], 29), (B + 1, #[.string f, .int .i64 wh, .int .i64 num, .string s], 31)] (.slice a1 ks.length c1) (.slice a2 ps.length c2) (.slice a3 es.length c3) (.slice x1 kt.length d1) (.slice x2 pt.length d2) (.slice x3 et.length d3) ks ps es kt pt et) := by
  have h1 : Below w3.heap.size w3 (w3.alloc (.cells #[.slice x1 kt.length d1, .slice x2 pt.length d2, .slice x3 et.length d3] 29)) := (Below.refl _ _).alloc (Nat.le_refl _) _
  exact ⟨((X1.out.1.call hb3).call h1).push (heap_newD w3 _), (X1.out.2.keep hb3).keep h1, hbn.at.keep h1⟩
 clear hbn hb3 X1
 obtain ⟨p0, p1, p2⟩ := bx3 X4.out.bx 1 rfl
 obtain ⟨q0, q1, q2, q3⟩ := bx4 X4.out.bx 2 rfl
 go_wp2_with fail
 clear p0 p1 p2 q0 q1 q2 q3
 generalize (w3.alloc (.cells #[.slice x1 kt.length d1, .slice x2 pt.length d2, .slice x3 et.length d3] 29)) = w4 at *
 generalize w3.heap.size = X at *
 refine (HSP.out _ X4.out.b).mono ?_
 rintro e w5 ⟨vx, vy, vz, rfl, hbn, hb5⟩
 obtain ⟨y1, e1, y2, e2, y3, e3, rfl, rfl, rfl⟩ := hbn.slices
 have X6 : Hid (TX w (w5.alloc (.cells #[.slice y1 kt.length e1, .slice y2 pt.length e2, .slice y3 et.length e3] 29)) ((w5.heap.size, #[.slice y1 kt.length e1, .slice y2 pt.length e2, .slice y3 et.length e3], 29) :: [(X, #[.slice x1 kt.length d1, .slice x2 pt.length d2, .slice x3 et.length d3], 29), (B, #[.slice a1 ks.length c1, .slice a2 ps.length c2, .slice a3 es.length c3], 29), (B + 1, #[.string f, .int .i64 wh, .int .i64 num, .string s], 31)]) (.slice a1 ks.length c1) (.slice a2 ps.length c2) (.slice a3 es.length c3) (.slice x1 kt.length d1) (.slice x2 pt.length d2) (.slice x3 et.length d3) ks ps es kt pt et ∧ BookAt (w5.alloc (.cells #[.slice y1 kt.length e1, .slice y2 pt.length e2, .slice y3 et.length e3] 29)) (.slice y1 kt.length e1) (.slice y2 pt.length e2) (.slice y3 et.length e3) kt pt et) := by
  have h1 : Below w5.heap.size w5 (w5.alloc (.cells #[.slice y1 kt.length e1, .slice y2 pt.length e2, .slice y3 et.length e3] 29)) := (Below.refl _ _).alloc (Nat.le_refl _) _
  have h2 := (X4.out.call hb5).call h1
  exact ⟨⟨h2.bx.push (heap_newD w5 _), h2.b, h2.x⟩, hbn.at.keep h1⟩
 clear hbn hb5 X4 HSP
 obtain ⟨p0, p1, p2⟩ := bx3 X6.out.1.bx 1 rfl
 obtain ⟨q0, q1, q2⟩ := bx3 X6.out.1.bx 0 rfl
 go_wp2_with fail
 clear p0 p1 p2 q0 q1 q2
 generalize (w5.alloc (.cells #[.slice y1 kt.length e1, .slice y2 pt.length e2, .slice y3 et.length e3] 29)) = w6 at *
 generalize w5.heap.size = Y at *
 have GW : Hid (∀ (y : Later w6), Calls Tryz.prog 8 #[.agg #[.slice x1 kt.length d1, .slice x2 pt.length d2, .slice x3 et.length d3], .agg #[.slice y1 kt.length e1, .slice y2 pt.length e2, .slice y3 et.length e3]] y.val fun e w'' => e = .returned (.bool true) ∧ ∃ z : Later w6, w'' = z.val) := fun y => Calls.later (wBook_same _ _ _ _ _ _ kt pt et y.val (X6.out.1.x.keep y.below) (X6.out.2.keep y.below) SMT.out.s)
 have GP : Hid (∀ (y : Later w6), Calls Tryz.prog 9 #[.agg #[.slice a1 ks.length c1, .slice a2 ps.length c2, .slice a3 es.length c3]] y.val fun e w'' => e = .returned (.bool (bookB ks ps es)) ∧ ∃ z : Later w6, w'' = z.val) := fun y => Calls.later (bookOk_any _ _ _ ks ps es y.val (X6.out.1.b.keep y.below) SM.out.n SM.out.s)
 have GS : Hid (∀ (y : Later w6), Calls Tryz.prog 10 #[.agg #[.slice a1 ks.length c1, .slice a2 ps.length c2, .slice a3 es.length c3]] y.val fun e w'' => e = .returned (.bool (bookB ks ps es)) ∧ ∃ z : Later w6, w'' = z.val) := fun y => Calls.later (specBookOk_any _ _ _ ks ps es y.val (X6.out.1.b.keep y.below) SM.out.n SM.out.s)
 obtain ⟨p0, p1, p2⟩ := bx3 X6.out.1.bx 1 rfl
 obtain ⟨q0, q1, q2⟩ := bx3 X6.out.1.bx 0 rfl
 obtain ⟨r0, r1, r2⟩ := bx3 X6.out.1.bx 2 rfl
 have z1 := lt_of_cell p0
 have z2 := lt_of_cell q0
 have z3 := lt_of_cell r0
 have hne := Later.some w6
 generalize bookB ks ps es = bb at GP GS
 have hbb : (bb != bb) = false := by cases bb <;> rfl
 refine wp_region_later (by kernel_rfl) (by kernel_rfl) ?_
 repeat (go_big_quiet_step (first | (go_at_call 8; exact GW.out _) | (go_at_call 9; exact GP.out _) | (go_at_call 10; exact GS.out _)))
 refine wpQuiet_nil ?_
 rintro _ ⟨x, rfl⟩
 have X7 : Hid (TX w x.val [(X, #[.slice x1 kt.length d1, .slice x2 pt.length d2, .slice x3 et.length d3], 29), (B, #[.slice a1 ks.length c1, .slice a2 ps.length c2, .slice a3 es.length c3], 29), (B + 1, #[.string f, .int .i64 wh, .int .i64 num, .string s], 31)] (.slice a1 ks.length c1) (.slice a2 ps.length c2) (.slice a3 es.length c3) (.slice x1 kt.length d1) (.slice x2 pt.length d2) (.slice x3 et.length d3) ks ps es kt pt et) := by
  have h1 := X6.out.1.call x.below
  exact ⟨⟨h1.bx.below, fun p hp => h1.bx.has p (List.mem_cons_of_mem _ hp)⟩, h1.b, h1.x⟩
 clear p0 p1 p2 q0 q1 q2 r0 r1 r2 z1 z2 z3 hne hbb GW GP GS X6
 generalize x.val = w7 at *
 clear x
 obtain ⟨p0, p1, p2⟩ := bx3 X7.out.bx 0 rfl
 obtain ⟨r0, r1, r2⟩ := bx3 X7.out.bx 1 rfl
 have z1 := lt_of_cell p0
 have z3 := lt_of_cell r0
 rcases HC.out with ⟨hk, h1, h2, h3⟩ | ⟨hk, h1, h2, h3⟩ | ⟨hk, h1, h2, h3⟩
 ·have GE : Hid (∀ (y : Later w7), Calls Tryz.prog 8 #[.agg #[.slice x1 kt.length d1, .slice x2 pt.length d2, .slice x3 et.length d3], .agg #[.slice none 0 0, .slice none 0 0, .slice none 0 0]] y.val fun e w'' => e = .returned (.bool true) ∧ ∃ z : Later w7, w'' = z.val) := fun y => by
   have hx := X7.out.x.keep y.below
   have hy := bookAt_none y.val
   have hz : BookAt y.val (.slice none 0 0) (.slice none 0 0) (.slice none 0 0) kt pt et := by rw [h1, h2, h3]; exact hy
   exact Calls.later (wBook_same _ _ _ _ _ _ kt pt et y.val hx hz SMT.out.s)
  have HBL := toHid X7.out.bx.below
  subst hk
  clear h1 h2 h3 HC HAG SMT X7
  have hne := Later.some w7
  go_wp2_with fail
  refine (GE.out ⟨w7, Below.refl _ _⟩).mono ?_
  rintro e w8 ⟨rfl, x, rfl⟩
  clear p0 p1 p2 r0 r1 r2 z1 z3 hne
  go_wp2_with fail
  exact bodyPost_ret (v := .bool true) (by simp [results, Tryz.results3, go_sem]) rfl ⟨rfl, below_step HBL.out x.below⟩
 ·have GE : Hid (∀ (y : Later w7), Calls Tryz.prog 8 #[.agg #[.slice x1 kt.length d1, .slice x2 pt.length d2, .slice x3 et.length d3], .agg #[.slice a1 ks.length c1, .slice a2 ps.length c2, .slice a3 es.length c3]] y.val fun e w'' => e = .returned (.bool true) ∧ ∃ z : Later w7, w'' = z.val) := fun y => by
   have hx := X7.out.x.keep y.below
   have hy := X7.out.b.keep y.below
   have hz : BookAt y.val (.slice a1 ks.length c1) (.slice a2 ps.length c2) (.slice a3 es.length c3) kt pt et := by rw [h1, h2, h3]; exact hy
   exact Calls.later (wBook_same _ _ _ _ _ _ kt pt et y.val hx hz SMT.out.s)
  have HBL := toHid X7.out.bx.below
  have hk0 : (k == 0) = false := by rw [beq_eq_false_iff_ne]; omega
  have hk1 : (k == 1) = false := by rw [beq_eq_false_iff_ne]; omega
  clear h1 h2 h3 hk HC HAG SMT X7
  have hne := Later.some w7
  go_wp2_with fail
  refine (GE.out ⟨w7, Below.refl _ _⟩).mono ?_
  rintro e w8 ⟨rfl, x, rfl⟩
  clear p0 p1 p2 r0 r1 r2 z1 z3 hne
  go_wp2_with fail
  exact bodyPost_ret (v := .bool true) (by simp [results, Tryz.results3, go_sem]) rfl ⟨rfl, below_step HBL.out x.below⟩
 ·clear z1 z3
  obtain ⟨g1, g2, g3, g4, g5⟩ := HAG.out hk
  subst hk
  have OK : Hid (bookB ks ps es = true ∧ kt = ks ∧ pt = ps ∧ et = putE es f (fldC ⟨f, wh, num, s⟩)) := ⟨g1, h1, h2, h3⟩
  have OKX := toHid g2
  have HPT : Hid (∀ wx : World, BookAt wx (.slice x1 kt.length d1) (.slice x2 pt.length d2) (.slice x3 et.length d3) kt pt et → Calls Tryz.prog 6 #[.agg #[.slice x1 kt.length d1, .slice x2 pt.length d2, .slice x3 et.length d3], .agg #[.string f, .int .i64 wh, .int .i64 num, .string s]] wx fun e w' => ∃ x y z, e = .returned (.tuple #[.agg #[x, y, z], .int .i64 (takeC kt pt et ⟨f, wh, num, s⟩)]) ∧ BookNew wx.heap.size w' x y z kt pt et ∧ Below wx.heap.size wx w') := fun wx hx => by
   have h := planTake_any _ _ _ kt pt et ⟨f, wh, num, s⟩ wx hx SMT.out.n SMT.out.s SMT.out.u (by show f.size ≤ _; omega) (by show s.size ≤ _; omega)
   rw [g3, g4, g5] at h
   exact h
  clear h1 h2 h3 g1 g2 g3 g4 g5 HC HAG
  obtain ⟨q0, q1, q2, q3⟩ := bx4 X7.out.bx 2 rfl
  go_wp2_with fail
  clear p0 p1 p2 q0 q1 q2 q3 r0 r1 r2
  refine (HPT.out _ X7.out.x).mono ?_
  rintro e w8 ⟨vx, vy, vz, rfl, hbn, hb8⟩
  clear HPT
  generalize takeC kt pt et ⟨f, wh, num, s⟩ = k2
  obtain ⟨t1, e4, t2, e5, t3, e6, rfl, rfl, rfl⟩ := hbn.slices
  have X9 : Hid (TX w (w8.alloc (.cells #[.slice t1 kt.length e4, .slice t2 pt.length e5, .slice t3 et.length e6] 29)) ((w8.heap.size, #[.slice t1 kt.length e4, .slice t2 pt.length e5, .slice t3 et.length e6], 29) :: [(X, #[.slice x1 kt.length d1, .slice x2 pt.length d2, .slice x3 et.length d3], 29), (B, #[.slice a1 ks.length c1, .slice a2 ps.length c2, .slice a3 es.length c3], 29), (B + 1, #[.string f, .int .i64 wh, .int .i64 num, .string s], 31)]) (.slice a1 ks.length c1) (.slice a2 ps.length c2) (.slice a3 es.length c3) (.slice x1 kt.length d1) (.slice x2 pt.length d2) (.slice x3 et.length d3) ks ps es kt pt et ∧ BookAt (w8.alloc (.cells #[.slice t1 kt.length e4, .slice t2 pt.length e5, .slice t3 et.length e6] 29)) (.slice t1 kt.length e4) (.slice t2 pt.length e5) (.slice t3 et.length e6) kt pt et) := by
   have h1 : Below w8.heap.size w8 (w8.alloc (.cells #[.slice t1 kt.length e4, .slice t2 pt.length e5, .slice t3 et.length e6] 29)) := (Below.refl _ _).alloc (Nat.le_refl _) _
   have h2 := (X7.out.call hb8).call h1
   exact ⟨⟨h2.bx.push (heap_newD w8 _), h2.b, h2.x⟩, hbn.at.keep h1⟩
  clear hbn hb8 X7
  obtain ⟨p0, p1, p2⟩ := bx3 X9.out.1.bx 0 rfl
  obtain ⟨r0, r1, r2⟩ := bx3 X9.out.1.bx 1 rfl
  go_wp2_with fail
  clear p0 p1 p2 r0 r1 r2
  generalize (w8.alloc (.cells #[.slice t1 kt.length e4, .slice t2 pt.length e5, .slice t3 et.length e6] 29)) = w9 at *
  generalize w8.heap.size = T at *
  refine (wBook_same _ _ _ _ _ _ kt pt et _ X9.out.2 X9.out.1.x SMT.out.s).mono ?_
  rintro e w10 ⟨rfl, hb10⟩
  have XA : Hid (TX w w10 [(X, #[.slice x1 kt.length d1, .slice x2 pt.length d2, .slice x3 et.length d3], 29), (B, #[.slice a1 ks.length c1, .slice a2 ps.length c2, .slice a3 es.length c3], 29), (B + 1, #[.string f, .int .i64 wh, .int .i64 num, .string s], 31)] (.slice a1 ks.length c1) (.slice a2 ps.length c2) (.slice a3 es.length c3) (.slice x1 kt.length d1) (.slice x2 pt.length d2) (.slice x3 et.length d3) ks ps es kt pt et) := by
   have h1 := X9.out.1.call hb10
   exact ⟨⟨h1.bx.below, fun p hp => h1.bx.has p (List.mem_cons_of_mem _ hp)⟩, h1.b, h1.x⟩
  clear X9 hb10
  obtain ⟨r0, r1, r2⟩ := bx3 XA.out.bx 0 rfl
  go_wp2_with fail
  clear r0 r1 r2
  refine (bookOk_any _ _ _ kt pt et _ XA.out.x SMT.out.n SMT.out.s).mono ?_
  rintro e w11 ⟨rfl, hb11⟩
  rw [OKX.out]
  have XB := toHid (XA.out.call hb11)
  clear XA hb11
  go_wp2_with fail
  have les := SM.out.s.e
  have HSY : Hid (∀ i, i < es.length → ∀ j, j < (eat es i).fs.length → ∃ g : Fld, (∀ wx : World, BookAt wx (.slice x1 kt.length d1) (.slice x2 pt.length d2) (.slice x3 et.length d3) kt pt et → Calls Tryz.prog 11 #[.agg #[.slice x1 kt.length d1, .slice x2 pt.length d2, .slice x3 et.length d3], .string (eat es i).name, .int .i64 (fat (eat es i).fs j).what] wx fun e w' => e = .returned (.tuple #[.agg #[.int .i64 g.what, .int .i64 g.num, .string g.v], .bool true]) ∧ Below wx.heap.size wx w') ∧ g.what = (fat (eat es i).fs j).what ∧ (g = fat (eat es i).fs j ∨ ((eat es i).name = f ∧ (fat (eat es i).fs j).what = wh ∧ g.num = num ∧ g.v = s ∧ (fat (eat es i).fs j).num ≤ num))) := fun i hi j hj => by
   obtain ⟨g1, rfl, rfl, rfl⟩ := OK.out
   obtain ⟨g, h1, h2⟩ := says_put (c := ⟨f, wh, num, s⟩) g1 (List.mem_of_getElem? (eat_get hi)) (List.mem_of_getElem? (fat_get hj))
   have hb := OKX.out
   obtain ⟨h3, h4⟩ := says_all (book_sorted hb) h1
   have h5 := List.find?_some h1
   refine ⟨fldC g, fun wx hx => wField_hit _ _ _ kt pt _ _ _ (fldC g) wx hx SMT.out.s h3 h4, (keyEq_iff.1 h5).2, ?_⟩
   rcases h2 with h2 | h2
   ·exact .inl h2
   ·exact .inr h2
  clear OK OKX
  go_loopw [11] (fun i wr => ∃ k : Nat, k ≤ es.length ∧ i = .int .i64 k ∧ Hid (TX w wr [(X, #[.slice x1 kt.length d1, .slice x2 pt.length d2, .slice x3 et.length d3], 29), (B, #[.slice a1 ks.length c1, .slice a2 ps.length c2, .slice a3 es.length c3], 29), (B + 1, #[.string f, .int .i64 wh, .int .i64 num, .string s], 31)] (.slice a1 ks.length c1) (.slice a2 ps.length c2) (.slice a3 es.length c3) (.slice x1 kt.length d1) (.slice x2 pt.length d2) (.slice x3 et.length d3) ks ps es kt pt et)) (fun i _ => es.length - (intOf i).toNat)
  case atStart => exact ⟨0, Nat.zero_le _, rfl, XB.out⟩
  case round =>
   clear XB
   obtain ⟨k, hk, rfl, HX⟩ := hrel
   obtain ⟨r0, r1, r2⟩ := bx3 HX.out.bx 1 rfl
   by_cases hlt : k < es.length
   ·obtain ⟨W0, rfl⟩ : ∃ W0, W0 = wr := ⟨_, rfl⟩
    obtain ⟨ae, ce, hve, -, mE, hE⟩ := HX.out.b.e
    cases hve
    obtain ⟨b, off, ha, fv, dd0, dd1, hf⟩ := hE k _ (eat_get hlt)
    subst ha
    have HSK : Hid (∀ j, j < (eat es k).fs.length → ∃ g : Fld, (∀ wx : World, BookAt wx (.slice x1 kt.length d1) (.slice x2 pt.length d2) (.slice x3 et.length d3) kt pt et → Calls Tryz.prog 11 #[.agg #[.slice x1 kt.length d1, .slice x2 pt.length d2, .slice x3 et.length d3], .string (eat es k).name, .int .i64 (fat (eat es k).fs j).what] wx fun e w' => e = .returned (.tuple #[.agg #[.int .i64 g.what, .int .i64 g.num, .string g.v], .bool true]) ∧ Below wx.heap.size wx w') ∧ g.what = (fat (eat es k).fs j).what ∧ (g = fat (eat es k).fs j ∨ ((eat es k).name = f ∧ (fat (eat es k).fs j).what = wh ∧ g.num = num ∧ g.v = s ∧ (fat (eat es k).fs j).num ≤ num))) := HSY.out k hlt
    have HFL : (eat es k).fs.length ≤ 1048576 := SM.out.s.f _ (List.mem_of_getElem? (eat_get hlt))
    clear hE
    generalize eat es k = en at *
    obtain ⟨fa, fc, rfl, -, fm, hF⟩ := hf
    unfold maxLen at fm mE
    have HF : Hid (∀ i f, en.fs[i]? = some f → ∃ b off, fa = some ⟨b, off, none⟩ ∧ FldAt W0 b (off + i * 3) f) := hF
    have HD : Hid (W0.cell? ⟨b, off + k * 2, none⟩ = some (.string en.name) ∧ W0.cell? ⟨b, off + k * 2 + 1, none⟩ = some (.slice fa en.fs.length fc)) := ⟨dd0, dd1⟩
    clear hF dd0 dd1
    have hk0 : (0 : Int) ≤ (k : Int) := by omega
    have hk1 : (k : Int) < (es.length : Int) := by omega
    go_wp2_with fail
    clear r0 r1 r2
    go_loopw [12] (fun i wx => ∃ j : Nat, j ≤ en.fs.length ∧ i = .int .i64 j ∧ Hid (Below W0.heap.size W0 wx)) (fun i _ => en.fs.length - (intOf i).toNat)
    case atStart => exact ⟨0, Nat.zero_le _, rfl, Below.refl _ _⟩
    case round =>
     obtain ⟨j, hj, rfl, HB⟩ := hrel
     obtain ⟨r0, r1, r2⟩ := bx3 (HX.out.call HB.out).bx 1 rfl
     have c0 := cell_keep HB.out (Nat.le_refl _) HD.out.1
     have c1' := cell_keep HB.out (Nat.le_refl _) HD.out.2
     by_cases hjl : j < en.fs.length
     ·obtain ⟨bf, o, hga, g0, g1, g2⟩ := HF.out j _ (fat_get hjl)
      subst hga
      obtain ⟨g, hg1, hg2, hg3⟩ := HSK.out j hjl
      have HG1 := toHid hg1
      have HG3 := toHid hg3
      have HG2 := toHid hg2
      clear hg1 hg2 hg3
      generalize fat en.fs j = fd at *
      have s0 := cell_keep HB.out (Nat.le_refl _) g0
      have s1 := cell_keep HB.out (Nat.le_refl _) g1
      have s2 := cell_keep HB.out (Nat.le_refl _) g2
      clear g0 g1 g2
      have hj0 : (0 : Int) ≤ (j : Int) := by omega
      have hj1 : (j : Int) < (en.fs.length : Int) := by omega
      have HB2 : Hid (Below wr.heap.size wr (wr.alloc (.cells #[.int .i64 fd.what, .int .i64 fd.num, .string fd.v] 42))) := (Below.refl _ _).alloc (Nat.le_refl _) _
      have HBN : Hid (Below W0.heap.size W0 (wr.alloc (.cells #[.int .i64 fd.what, .int .i64 fd.num, .string fd.v] 42))) := below_step HB.out HB2.out
      have HNW : Hid ((wr.alloc (.cells #[.int .i64 fd.what, .int .i64 fd.num, .string fd.v] 42)).heap[wr.heap.size]? = some (.cells #[.int .i64 fd.what, .int .i64 fd.num, .string fd.v] 42 (0, 0))) := heap_newD wr _
      obtain ⟨m0, m1, m2⟩ := bx3 (HX.out.call HBN.out).bx 0 rfl
      obtain ⟨n0, n1, n2⟩ := bx3 (HX.out.call HBN.out).bx 1 rfl
      have o0 := cell_keep HBN.out (Nat.le_refl _) HD.out.1
      have o1 := cell_keep HBN.out (Nat.le_refl _) HD.out.2
      have u0 := cell_blkD HNW.out (i := 0) rfl
      have u1 := cell_blkD HNW.out (i := 1) rfl
      have u2 := cell_blkD HNW.out (i := 2) rfl
      go_wp2_with fail
      clear r0 r1 r2 c0 c1' s0 s1 s2 m0 m1 m2 n0 n1 n2 o0 o1 u0 u1 u2 HB2
      generalize (wr.alloc (.cells #[.int .i64 fd.what, .int .i64 fd.num, .string fd.v] 42)) = W1 at *
      generalize wr.heap.size = FB at *
      have HSS : Hid (∀ w' : World, Below W1.heap.size W1 w' → (w'.cell? ⟨X, 0, none⟩ = some (.slice x1 kt.length d1) ∧ w'.cell? ⟨X, 1, none⟩ = some (.slice x2 pt.length d2) ∧ w'.cell? ⟨X, 2, none⟩ = some (.slice x3 et.length d3)) ∧ (w'.cell? ⟨B, 0, none⟩ = some (.slice a1 ks.length c1) ∧ w'.cell? ⟨B, 1, none⟩ = some (.slice a2 ps.length c2) ∧ w'.cell? ⟨B, 2, none⟩ = some (.slice (some ⟨b, off, none⟩) es.length c3)) ∧ w'.cell? ⟨b, off + k * 2, none⟩ = some (.string en.name) ∧ w'.cell? ⟨FB, 0, none⟩ = some (.int .i64 fd.what) ∧ w'.cell? ⟨FB, 1, none⟩ = some (.int .i64 fd.num) ∧ w'.cell? ⟨FB, 2, none⟩ = some (.string fd.v)) := fun w' hx => by
       have h1 := (HX.out.call (below_step HBN.out hx)).bx
       have h2 := below_step HBN.out hx
       have h3 := (hx.block _ (lt_blk HNW.out)).trans HNW.out
       exact ⟨bx3 h1 0 rfl, bx3 h1 1 rfl, cell_keep h2 (Nat.le_refl _) HD.out.1, cell_blkD h3 rfl, cell_blkD h3 rfl, cell_blkD h3 rfl⟩
      go_cut [14, 15] (fun s14 s15 wc => ∃ Gq : Nat, s14 = .pointer (some ⟨Gq, 0, none⟩) ∧ s15 = .bool true ∧ Hid (Below W1.heap.size W1 wc ∧ wc.heap[Gq]? = some (.cells #[.int .i64 g.what, .int .i64 g.num, .string g.v] 42 (0, 0))))
      case first =>
       refine wp_region_noPanic ?_
       refine wp_region_held_drew (S := fun w' => (w'.cell? ⟨X, 0, none⟩ = some (.slice x1 kt.length d1) ∧ w'.cell? ⟨X, 1, none⟩ = some (.slice x2 pt.length d2) ∧ w'.cell? ⟨X, 2, none⟩ = some (.slice x3 et.length d3)) ∧ (w'.cell? ⟨B, 0, none⟩ = some (.slice a1 ks.length c1) ∧ w'.cell? ⟨B, 1, none⟩ = some (.slice a2 ps.length c2) ∧ w'.cell? ⟨B, 2, none⟩ = some (.slice (some ⟨b, off, none⟩) es.length c3)) ∧ w'.cell? ⟨b, off + k * 2, none⟩ = some (.string en.name) ∧ w'.cell? ⟨FB, 0, none⟩ = some (.int .i64 fd.what) ∧ w'.cell? ⟨FB, 1, none⟩ = some (.int .i64 fd.num) ∧ w'.cell? ⟨FB, 2, none⟩ = some (.string fd.v)) (by kernel_rfl) ?_ (fun hHeld => ?_)
       ·exact HSS.out _ (Below.refl _ _).drew
       have HBW : Hid (Below W1.heap.size W1 W1.drew) := (Below.refl _ _).drew
       generalize W1.drew = V0 at *
       refine tkH 0 ?_ rfl ?_ ?_; rotate_left
       ·intro w hSw; (try dsimp only at hSw); go_simp; try with_reducible rfl
       simp only [Act.put, tkS]
       refine tkH 1 ?_ rfl ?_ ?_; rotate_left
       ·intro w hSw; (try dsimp only at hSw); go_simp; try with_reducible rfl
       simp only [Act.put, tkS]
       refine tkH 2 ?_ rfl ?_ ?_; rotate_left
       ·intro w hSw; (try dsimp only at hSw); go_simp; try with_reducible rfl
       simp only [Act.put, tkS]
       refine tkH 3 ?_ rfl ?_ ?_; rotate_left
       ·intro w hSw; (try dsimp only at hSw); go_simp; try with_reducible rfl
       simp only [Act.put, tkS]
       refine tkH 4 ?_ rfl ?_ ?_; rotate_left
       ·intro w hSw; (try dsimp only at hSw); go_simp; try with_reducible rfl
       simp only [Act.put, tkS]
       refine tkH 5 ?_ rfl ?_ ?_; rotate_left
       ·intro w hSw; (try dsimp only at hSw); go_simp; try with_reducible rfl
       simp only [Act.put, tkS]
       refine tkH 6 ?_ rfl ?_ ?_; rotate_left
       ·intro w hSw; (try dsimp only at hSw); go_simp; try with_reducible rfl
       simp only [Act.put, tkS]
       refine tkH 7 ?_ rfl ?_ ?_; rotate_left
       ·intro w hSw; (try dsimp only at hSw); go_simp; try with_reducible rfl
       simp only [Act.put, tkS]
       refine tkH 8 ?_ rfl ?_ ?_; rotate_left
       ·intro w hSw; (try dsimp only at hSw); go_simp; try with_reducible rfl
       simp only [Act.put, tkS]
       clear hHeld
       refine wpAnyH_ready (rs := [9, 13]) (by kernel_rfl) (by simp) ?_
       refine AllReadyH.cons rfl (fun K hK => ?_) (AllReadyH.cons rfl (fun K hK => ?_) AllReadyH.nil)
       ·go_simp
        refine (HG1.out _ ((HX.out.call (below_step HBN.out HBW.out)).x)).mono ?_
        rintro e V1 ⟨rfl, hbb⟩
        have HB2 : Hid (Below W1.heap.size W1 V1) := below_step HBW.out hbb
        have hHeld := HSS.out _ HB2.out
        refine hK.out _ _ hHeld (fun _ => ?_)
        clear hbb hK K HBW
        refine tkH 10 ?_ rfl ?_ ?_; rotate_left
        ·intro w hSw; (try dsimp only at hSw); go_simp; try with_reducible rfl
        simp only [Act.put, tkS]
        refine tkH 11 ?_ rfl ?_ ?_; rotate_left
        ·intro w hSw; (try dsimp only at hSw); go_simp; try with_reducible rfl
        simp only [Act.put, tkS]
        refine tkH 12 ?_ rfl ?_ ?_; rotate_left
        ·intro w hSw; (try dsimp only at hSw); go_simp; try with_reducible rfl
        simp only [Act.put, tkS]
        clear hHeld
        refine rdH 13 rfl (fun K hK => ?_)
        go_simp
        have hbb : Below V1.heap.size V1 (V1.alloc (.cells #[.int .i64 0, .int .i64 0, .string ⟨#[]⟩] 42)) := (Below.refl _ _).alloc (Nat.le_refl _) _
        have HB3 : Hid (Below W1.heap.size W1 (V1.alloc (.cells #[.int .i64 0, .int .i64 0, .string ⟨#[]⟩] 42))) := below_step HB2.out hbb
        have HXB : Hid ((V1.alloc (.cells #[.int .i64 0, .int .i64 0, .string ⟨#[]⟩] 42)).heap[V1.heap.size]? = some (.cells #[.int .i64 0, .int .i64 0, .string ⟨#[]⟩] 42 (0, 0))) := heap_newD V1 _
        have HXL : Hid (W1.heap.size ≤ V1.heap.size) := HB2.out.size
        refine hK.out _ _ (HSS.out _ HB3.out) (fun _ => ?_)
        clear hbb hK K HB2
        generalize (V1.alloc (.cells #[.int .i64 0, .int .i64 0, .string ⟨#[]⟩] 42)) = V2 at *
        generalize V1.heap.size = G at *
        refine rdH 14 rfl (fun K hK => ?_)
        refine step_store_rowC rfl 42 _ _ rfl G #[.int .i64 g.what, .int .i64 g.num, .string g.v] rfl rfl 42 _ HXB.out (by kernel_rfl) rfl (by simp [Value.oneCell']) ?_
        have HB4 : Hid (Below W1.heap.size W1 (V2.setRow G #[.int .i64 g.what, .int .i64 g.num, .string g.v])) := below_setRow HB3.out HXL.out _
        have HXF : Hid ((V2.setRow G #[.int .i64 g.what, .int .i64 g.num, .string g.v]).heap[G]? = some (.cells #[.int .i64 g.what, .int .i64 g.num, .string g.v] 42 (0, 0))) := setRow_heap _ _ _ _ _ _ HXB.out
        have hHeld := HSS.out _ HB4.out
        refine hK.out _ _ hHeld (fun _ => ?_)
        clear hK K
        refine tkH 15 ?_ rfl ?_ ?_; rotate_left
        ·intro w hSw; (try dsimp only at hSw); go_simp; try with_reducible rfl
        simp only [Act.put, tkS]
        clear hHeld
        refine wpAnyH_done (by kernel_rfl) ?_ _
        refine NoPanic.normal ?_
        go_wp2_with fail
        go_meet
        exact ⟨G, rfl, rfl, HB4.out, HXF.out⟩
       ·go_simp
        have hbb : Below V0.heap.size V0 (V0.alloc (.cells #[.int .i64 0, .int .i64 0, .string ⟨#[]⟩] 42)) := (Below.refl _ _).alloc (Nat.le_refl _) _
        have HB3 : Hid (Below W1.heap.size W1 (V0.alloc (.cells #[.int .i64 0, .int .i64 0, .string ⟨#[]⟩] 42))) := below_step HBW.out hbb
        have HXA : Hid ((V0.alloc (.cells #[.int .i64 0, .int .i64 0, .string ⟨#[]⟩] 42)).heap[V0.heap.size]? = some (.cells #[.int .i64 0, .int .i64 0, .string ⟨#[]⟩] 42 (0, 0))) := heap_newD V0 _
        have HXL : Hid (W1.heap.size ≤ V0.heap.size) := HBW.out.size
        refine hK.out _ _ (HSS.out _ HB3.out) (fun _ => ?_)
        clear hbb hK K HBW
        generalize (V0.alloc (.cells #[.int .i64 0, .int .i64 0, .string ⟨#[]⟩] 42)) = V2 at *
        generalize V0.heap.size = G at *
        refine rdH 9 rfl (fun K hK => ?_)
        go_simp
        refine (HG1.out _ ((HX.out.call (below_step HBN.out HB3.out)).x)).mono ?_
        rintro e V3 ⟨rfl, hbb⟩
        have HB2 : Hid (Below W1.heap.size W1 V3) := below_step HB3.out hbb
        have HXB : Hid (V3.heap[G]? = some (.cells #[.int .i64 0, .int .i64 0, .string ⟨#[]⟩] 42 (0, 0))) := (hbb.block _ (lt_blk HXA.out)).trans HXA.out
        have hHeld := HSS.out _ HB2.out
        refine hK.out _ _ hHeld (fun _ => ?_)
        clear hbb hK K HB3 HXA
        refine tkH 10 ?_ rfl ?_ ?_; rotate_left
        ·intro w hSw; (try dsimp only at hSw); go_simp; try with_reducible rfl
        simp only [Act.put, tkS]
        refine tkH 11 ?_ rfl ?_ ?_; rotate_left
        ·intro w hSw; (try dsimp only at hSw); go_simp; try with_reducible rfl
        simp only [Act.put, tkS]
        refine tkH 12 ?_ rfl ?_ ?_; rotate_left
        ·intro w hSw; (try dsimp only at hSw); go_simp; try with_reducible rfl
        simp only [Act.put, tkS]
        clear hHeld
        refine rdH 14 rfl (fun K hK => ?_)
        refine step_store_rowC rfl 42 _ _ rfl G #[.int .i64 g.what, .int .i64 g.num, .string g.v] rfl rfl 42 _ HXB.out (by kernel_rfl) rfl (by simp [Value.oneCell']) ?_
        have HB4 : Hid (Below W1.heap.size W1 (V3.setRow G #[.int .i64 g.what, .int .i64 g.num, .string g.v])) := below_setRow HB2.out HXL.out _
        have HXF : Hid ((V3.setRow G #[.int .i64 g.what, .int .i64 g.num, .string g.v]).heap[G]? = some (.cells #[.int .i64 g.what, .int .i64 g.num, .string g.v] 42 (0, 0))) := setRow_heap _ _ _ _ _ _ HXB.out
        have hHeld := HSS.out _ HB4.out
        refine hK.out _ _ hHeld (fun _ => ?_)
        clear hK K
        refine tkH 15 ?_ rfl ?_ ?_; rotate_left
        ·intro w hSw; (try dsimp only at hSw); go_simp; try with_reducible rfl
        simp only [Act.put, tkS]
        clear hHeld
        refine wpAnyH_done (by kernel_rfl) ?_ _
        refine NoPanic.normal ?_
        go_wp2_with fail
        go_meet
        exact ⟨G, rfl, rfl, HB4.out, HXF.out⟩
      case rest =>
       obtain ⟨G, rfl, rfl, hq⟩ := hcut
       have HBC : Hid (Below W0.heap.size W0 wc) := below_step HBN.out hq.out.1
       obtain ⟨p0, p1, p2⟩ := bx3 (HX.out.call HBC.out).bx 0 rfl
       obtain ⟨r0, r1, r2⟩ := bx3 (HX.out.call HBC.out).bx 1 rfl
       obtain ⟨q0, q1, q2, q3⟩ := bx4 (HX.out.call HBC.out).bx 2 rfl
       obtain ⟨-, -, t0, f0, f1, f2⟩ := HSS.out _ hq.out.1
       have g0 := cell_blkD hq.out.2 (i := 0) rfl
       have g1 := cell_blkD hq.out.2 (i := 1) rfl
       have g2 := cell_blkD hq.out.2 (i := 2) rfl
       have zB := lt_of_cell r0
       have zC := lt_of_cell q0
       have zb := lt_of_cell t0
       have zF := lt_of_cell f0
       have zG := lt_of_cell g0
       have hne := Later.some wc
       clear hq HBN HNW HSS HG1 HSK HF HD p0 p1 p2
       have hww : (g.what == fd.what) = true := by simp [HG2.out]
       rcases HG3.out with rfl | ⟨rfl, rfl, rfl, rfl, hle⟩
       ·clear hww HG2 HG3
        go_wp2_with fail
        refine wp_region_later (by kernel_rfl) (by kernel_rfl) ?_
        repeat (go_big_quiet_step (fail))
        refine wpQuiet_nil ?_
        rintro _ ⟨x, rfl⟩
        have HN : Hid (Below W0.heap.size W0 x.val) := below_step HBC.out x.below
        clear r0 r1 r2 q0 q1 q2 q3 t0 f0 f1 f2 g0 g1 g2 zB zC zb zF zG hne HBC
        go_wp2_with fail
        exact ⟨⟨j + 1, by omega, by go_num, HN⟩, by simp [intOf]; omega⟩
       ·have hgt : decide (g.num < fd.num) = false := decide_eq_false (by omega)
        clear hle HG2 HG3
        by_cases hn : g.num = fd.num
        ·have hnb : (g.num == fd.num) = true := by simp [hn]
         clear hn
         by_cases hv : g.v = fd.v
         ·have hvb : (g.v.toList == fd.v.toList) = true := str_eq hv
          clear hv
          go_wp2_with fail
          refine wp_region_later (by kernel_rfl) (by kernel_rfl) ?_
          repeat (go_big_quiet_step (fail))
          refine wpQuiet_nil ?_
          rintro _ ⟨x, rfl⟩
          have HN : Hid (Below W0.heap.size W0 x.val) := below_step HBC.out x.below
          clear r0 r1 r2 q0 q1 q2 q3 t0 f0 f1 f2 g0 g1 g2 zB zC zb zF zG hne HBC
          go_wp2_with fail
          exact ⟨⟨j + 1, by omega, by go_num, HN⟩, by simp [intOf]; omega⟩
         ·have hvb : (g.v.toList == fd.v.toList) = false := str_ne hv
          clear hv
          go_wp2_with fail
          refine wp_region_later (by kernel_rfl) (by kernel_rfl) ?_
          repeat (go_big_quiet_step (fail))
          refine wpQuiet_nil ?_
          rintro _ ⟨x, rfl⟩
          have HN : Hid (Below W0.heap.size W0 x.val) := below_step HBC.out x.below
          clear r0 r1 r2 q0 q1 q2 q3 t0 f0 f1 f2 g0 g1 g2 zB zC zb zF zG hne HBC
          go_wp2_with fail
          exact ⟨⟨j + 1, by omega, by go_num, HN⟩, by simp [intOf]; omega⟩
        ·have hnb : (g.num == fd.num) = false := by simp [hn]
         clear hn
         go_wp2_with fail
         refine wp_region_later (by kernel_rfl) (by kernel_rfl) ?_
         repeat (go_big_quiet_step (fail))
         refine wpQuiet_nil ?_
         rintro _ ⟨x, rfl⟩
         have HN : Hid (Below W0.heap.size W0 x.val) := below_step HBC.out x.below
         clear r0 r1 r2 q0 q1 q2 q3 t0 f0 f1 f2 g0 g1 g2 zB zC zb zF zG hne HBC
         go_wp2_with fail
         exact ⟨⟨j + 1, by omega, by go_num, HN⟩, by simp [intOf]; omega⟩
     ·have hje : j = en.fs.length := by omega
      subst hje
      have HN := toHid (HX.out.call HB.out)
      go_wp2_with fail
      exact ⟨⟨k + 1, by omega, by go_num, HN⟩, by simp [intOf]; omega⟩
   ·have hke : k = es.length := by omega
    subst hke
    have HBL := toHid HX.out.bx.below
    go_wp2_with fail
    exact bodyPost_ret (v := .bool true) (by simp [results, Tryz.results3, go_sem]) rfl ⟨rfl, HBL.out⟩
end Go.Proofs.YtibpkhmiahamcaaGreat.Dr
