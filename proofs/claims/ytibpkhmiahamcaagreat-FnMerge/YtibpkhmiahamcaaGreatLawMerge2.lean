import Derived.Test.YtibpkhmiahamcaaGreatDl1
import Derived.Test.YtibpkhmiahamcaaGreatAlg1
import Derived.Test.YtibpkhmiahamcaaGreatMrgS
import Derived.Test.YtibpkhmiahamcaaGreatNews5
import Derived.Test.YtibpkhmiahamcaaGreatAllI
namespace Go.Proofs.YtibpkhmiahamcaaGreat.Dr
open Go.RowKit Go.Proofs.YtibpkhmiahamcaaGreat
attribute [local go_sem] Later.cell Later.frozen
set_option linter.unusedSimpArgs false
set_option linter.unusedVariables false
structure MX (w z : World) (bs : List Bx) (l : List (Value × Value × Value × Bk)) : Prop where
 bx : Bxs w z bs
 bk : ∀ p ∈ l, BookAt z p.1 p.2.1 p.2.2.1 p.2.2.2.1 p.2.2.2.2.1 p.2.2.2.2.2
theorem MX.call {w z z' : World} {bs : List Bx} {l : List (Value × Value × Value × Bk)} (h : MX w z bs l) (hb : Below z.heap.size z z') : MX w z' bs l := ⟨h.bx.call hb, fun p hp => (h.bk p hp).keep hb⟩
theorem MX.push {w z : World} {bs : List Bx} {l : List (Value × Value × Value × Bk)} {x y u : Value} {ks ps : List Tri} {es : List Ent} (h : MX w z bs l) (hb : BookAt z x y u ks ps es) : MX w (z.alloc (.cells #[x, y, u] 29)) ((z.heap.size, #[x, y, u], 29) :: bs) ((x, y, u, (ks, ps, es)) :: l) := by
 have h1 : Below z.heap.size z (z.alloc (.cells #[x, y, u] 29)) := (Below.refl _ _).alloc (Nat.le_refl _) _
 refine ⟨(h.bx.call h1).push (heap_newD z _), fun p hp => ?_⟩
 rcases List.mem_cons.1 hp with rfl | hp
 ·exact hb.keep h1
 ·exact (h.bk p hp).keep h1
theorem MX.at {w z : World} {bs : List Bx} {l : List (Value × Value × Value × Bk)} (h : MX w z bs l) (i : Nat) {x y u : Value} {ks ps : List Tri} {es : List Ent} (hi : l[i]? = some (x, y, u, (ks, ps, es))) : BookAt z x y u ks ps es := h.bk _ (List.mem_of_getElem? hi)
theorem bx3M {w z : World} {bs : List Bx} (h : Bxs w z bs) (i : Nat) {X : Nat} {a b c : Value} {T : TypeId} (hi : bs[i]? = some (X, #[a, b, c], T)) : z.cell? ⟨X, 0, none⟩ = some a ∧ z.cell? ⟨X, 1, none⟩ = some b ∧ z.cell? ⟨X, 2, none⟩ = some c := ⟨h.cell i hi 0, h.cell i hi 1, h.cell i hi 2⟩
theorem bookAt_nil (w : World) : BookAt w (.slice none 0 0) (.slice none 0 0) (.slice none 0 0) [] [] [] := ⟨⟨none, 0, rfl, Nat.le_refl _, Nat.zero_le _, fun i e he => by simp at he⟩, ⟨none, 0, rfl, Nat.le_refl _, Nat.zero_le _, fun i e he => by simp at he⟩, ⟨none, 0, rfl, Nat.le_refl _, Nat.zero_le _, fun i e he => by simp at he⟩⟩
theorem mergeI (u1 u2 u3 v1 v2 v3 : Value) (a b : Bk) (w : World) (ha : BookAt w u1 u2 u3 a.1 a.2.1 a.2.2) (hb : BookAt w v1 v2 v3 b.1 b.2.1 b.2.2) (sa : SmB a) (sb : SmB b) :
  Calls Tryz.prog 13 #[.agg #[u1, u2, u3], .agg #[v1, v2, v3]] w fun e w' => ∃ x y z, e = .returned (.tuple #[.agg #[x, y, z], .int .i64 (mrgK a b)]) ∧ BookNew w.heap.size w' x y z (mrgB a b).1 (mrgB a b).2.1 (mrgB a b).2.2 ∧ Below w.heap.size w w' :=
 planMerge_any _ _ _ _ _ _ _ _ _ _ _ _ w ha hb sa.n sb.n sa.s sb.s sa.u sb.u
theorem mergeS (u1 u2 u3 v1 v2 v3 : Value) (a b : Bk) (w : World) (ha : BookAt w u1 u2 u3 a.1 a.2.1 a.2.2) (hb : BookAt w v1 v2 v3 b.1 b.2.1 b.2.2) (sa : SmB a) (sb : SmB b) :
  Calls Tryz.prog 14 #[.agg #[u1, u2, u3], .agg #[v1, v2, v3]] w fun e w' => ∃ x y z, e = .returned (.tuple #[.agg #[x, y, z], .int .i64 (mrgK a b)]) ∧ BookNew w.heap.size w' x y z (mrgB a b).1 (mrgB a b).2.1 (mrgB a b).2.2 ∧ Below w.heap.size w w' :=
 specMerge_any _ _ _ _ _ _ _ _ _ _ _ _ w ha hb sa.n sb.n sa.s sb.s sa.u sb.u
theorem newsI (u1 u2 u3 v1 v2 v3 : Value) (a b : Bk) (w : World) (ha : BookAt w u1 u2 u3 a.1 a.2.1 a.2.2) (hb : BookAt w v1 v2 v3 b.1 b.2.1 b.2.2) (sa : SmB a) (sb : SmB b) :
  Calls Tryz.prog 15 #[.agg #[u1, u2, u3], .agg #[v1, v2, v3]] w fun e w' => ∃ v, e = .returned v ∧ ChgsNew w' w.heap.size v (newsB a b) ∧ Below w.heap.size w w' :=
 implNews_any _ _ _ _ _ _ _ _ _ _ _ _ w ha hb sa.n sb.n sa.s sb.s sa.u sb.u sa.s.e sb.s.e (chgs_small sb)
theorem newsS (u1 u2 u3 v1 v2 v3 : Value) (a b : Bk) (w : World) (ha : BookAt w u1 u2 u3 a.1 a.2.1 a.2.2) (hb : BookAt w v1 v2 v3 b.1 b.2.1 b.2.2) (sa : SmB a) (sb : SmB b) :
  Calls Tryz.prog 17 #[.agg #[u1, u2, u3], .agg #[v1, v2, v3]] w fun e w' => ∃ v, e = .returned v ∧ ChgsNew w' w.heap.size v (newsB a b) ∧ Below w.heap.size w w' :=
 specNews_any _ _ _ _ _ _ _ _ _ _ _ _ w ha hb sa.n sb.n sa.s sb.s sb.u
set_option maxRecDepth 100000 in
set_option maxHeartbeats 12800000 in
theorem lawMerge2_walk (v1 v2 : Value) (n1 n2 : Nat) (w : World) (h1 : BysArg w v1 n1) (h2 : BysArg w v2 n2) :
  Calls Tryz.prog 4 #[v1, v2] w fun e w' => e = .returned (.bool true) ∧ Below w.heap.size w w' := by
 have H1 := toHid h1
 have H2 := toHid h2
 obtain ⟨aa1, ac1, rfl, -⟩ := h1
 obtain ⟨aa2, ac2, rfl, -⟩ := h2
 by_cases hl1 : (1048576 : Int) < (n1 : Int)
 ·go_enter Tryz.func4, Tryz.ntmps4
  go_wp2_with fail
  exact bodyPost_ret (v := .bool true) (by simp [results, Tryz.results4, go_sem]) rfl ⟨rfl, Below.refl _ _⟩
 by_cases hl2 : (1048576 : Int) < (n2 : Int)
 ·go_enter Tryz.func4, Tryz.ntmps4
  go_wp2_with fail
  exact bodyPost_ret (v := .bool true) (by simp [results, Tryz.results4, go_sem]) rfl ⟨rfl, Below.refl _ _⟩
 go_enter Tryz.func4, Tryz.ntmps4
 go_wp2_with fail
 refine (drawMerge_any _ n1 _ H1.out).mono ?_
 rintro e w1 ⟨x, y, z, x', y', z', ks, ps, ks', ps', es, es', rfl, hA, hB, sA, sB, hb1⟩
 obtain ⟨a1, a4, a2, a5, a3, a6, rfl, rfl, rfl⟩ := BookAt.slices hA
 obtain ⟨b1, b4, b2, b5, b3, b6, rfl, rfl, rfl⟩ := BookAt.slices hB
 have SA := toHid sA
 have SB := toHid sB
 have M2 : Hid (MX w ((w1.alloc (.cells #[.slice a1 ks.length a4, .slice a2 ps.length a5, .slice a3 es.length a6] 29)).alloc (.cells #[.slice b1 ks'.length b4, .slice b2 ps'.length b5, .slice b3 es'.length b6] 29)) [(w1.heap.size, #[.slice a1 ks.length a4, .slice a2 ps.length a5, .slice a3 es.length a6], 29), (w1.heap.size + 1, #[.slice b1 ks'.length b4, .slice b2 ps'.length b5, .slice b3 es'.length b6], 29)] [(.slice a1 ks.length a4, .slice a2 ps.length a5, .slice a3 es.length a6, (ks, ps, es)), (.slice b1 ks'.length b4, .slice b2 ps'.length b5, .slice b3 es'.length b6, (ks', ps', es'))]) := by
  have h1 := Bxs.start2 w1 #[.slice a1 ks.length a4, .slice a2 ps.length a5, .slice a3 es.length a6] #[.slice b1 ks'.length b4, .slice b2 ps'.length b5, .slice b3 es'.length b6] 29 29
  refine ⟨⟨below_step hb1 h1.below, h1.has⟩, fun p hp => ?_⟩
  simp only [List.mem_cons, List.not_mem_nil, or_false] at hp
  rcases hp with rfl | rfl
  ·exact hA.keep h1.below
  ·exact hB.keep h1.below
 have C1 : Hid (∀ wx : World, BookAt wx (.slice a1 ks.length a4) (.slice a2 ps.length a5) (.slice a3 es.length a6) ks ps es → BookAt wx (.slice b1 ks'.length b4) (.slice b2 ps'.length b5) (.slice b3 es'.length b6) ks' ps' es' → Calls Tryz.prog 13 #[.agg #[.slice a1 ks.length a4, .slice a2 ps.length a5, .slice a3 es.length a6], .agg #[.slice b1 ks'.length b4, .slice b2 ps'.length b5, .slice b3 es'.length b6]] wx fun e w' => ∃ x y z, e = .returned (.tuple #[.agg #[x, y, z], .int .i64 (mrgK (ks, ps, es) (ks', ps', es'))]) ∧ BookNew wx.heap.size w' x y z (mrgB (ks, ps, es) (ks', ps', es')).1 (mrgB (ks, ps, es) (ks', ps', es')).2.1 (mrgB (ks, ps, es) (ks', ps', es')).2.2 ∧ Below wx.heap.size wx w') := fun wx ha hb => mergeI _ _ _ _ _ _ (ks, ps, es) (ks', ps', es') wx ha hb SA.out SB.out
 have C2 : Hid (∀ wx : World, BookAt wx (.slice b1 ks'.length b4) (.slice b2 ps'.length b5) (.slice b3 es'.length b6) ks' ps' es' → BookAt wx (.slice a1 ks.length a4) (.slice a2 ps.length a5) (.slice a3 es.length a6) ks ps es → Calls Tryz.prog 13 #[.agg #[.slice b1 ks'.length b4, .slice b2 ps'.length b5, .slice b3 es'.length b6], .agg #[.slice a1 ks.length a4, .slice a2 ps.length a5, .slice a3 es.length a6]] wx fun e w' => ∃ x y z, e = .returned (.tuple #[.agg #[x, y, z], .int .i64 (mrgK (ks, ps, es) (ks', ps', es'))]) ∧ BookNew wx.heap.size w' x y z (mrgB (ks, ps, es) (ks', ps', es')).1 (mrgB (ks, ps, es) (ks', ps', es')).2.1 (mrgB (ks, ps, es) (ks', ps', es')).2.2 ∧ Below wx.heap.size wx w') := fun wx hb ha => by
  have h := mergeI _ _ _ _ _ _ (ks', ps', es') (ks, ps, es) wx hb ha SB.out SA.out
  rw [(mrgK_comm (ks, ps, es) (ks', ps', es')).1, (mrgK_comm (ks, ps, es) (ks', ps', es')).2] at h
  exact h
 have C3 : Hid (∀ wx : World, BookAt wx (.slice a1 ks.length a4) (.slice a2 ps.length a5) (.slice a3 es.length a6) ks ps es → BookAt wx (.slice b1 ks'.length b4) (.slice b2 ps'.length b5) (.slice b3 es'.length b6) ks' ps' es' → Calls Tryz.prog 14 #[.agg #[.slice a1 ks.length a4, .slice a2 ps.length a5, .slice a3 es.length a6], .agg #[.slice b1 ks'.length b4, .slice b2 ps'.length b5, .slice b3 es'.length b6]] wx fun e w' => ∃ x y z, e = .returned (.tuple #[.agg #[x, y, z], .int .i64 (mrgK (ks, ps, es) (ks', ps', es'))]) ∧ BookNew wx.heap.size w' x y z (mrgB (ks, ps, es) (ks', ps', es')).1 (mrgB (ks, ps, es) (ks', ps', es')).2.1 (mrgB (ks, ps, es) (ks', ps', es')).2.2 ∧ Below wx.heap.size wx w') := fun wx ha hb => mergeS _ _ _ _ _ _ (ks, ps, es) (ks', ps', es') wx ha hb SA.out SB.out
 have C4 : Hid (∀ wx : World, BookAt wx (.slice a1 ks.length a4) (.slice a2 ps.length a5) (.slice a3 es.length a6) ks ps es → BookAt wx (.slice b1 ks'.length b4) (.slice b2 ps'.length b5) (.slice b3 es'.length b6) ks' ps' es' → Calls Tryz.prog 15 #[.agg #[.slice a1 ks.length a4, .slice a2 ps.length a5, .slice a3 es.length a6], .agg #[.slice b1 ks'.length b4, .slice b2 ps'.length b5, .slice b3 es'.length b6]] wx fun e w' => ∃ v, e = .returned v ∧ ChgsNew w' wx.heap.size v (newsB (ks, ps, es) (ks', ps', es')) ∧ Below wx.heap.size wx w') := fun wx ha hb => newsI _ _ _ _ _ _ (ks, ps, es) (ks', ps', es') wx ha hb SA.out SB.out
 have C5 : Hid (∀ wx : World, BookAt wx (.slice a1 ks.length a4) (.slice a2 ps.length a5) (.slice a3 es.length a6) ks ps es → BookAt wx (.slice b1 ks'.length b4) (.slice b2 ps'.length b5) (.slice b3 es'.length b6) ks' ps' es' → Calls Tryz.prog 17 #[.agg #[.slice a1 ks.length a4, .slice a2 ps.length a5, .slice a3 es.length a6], .agg #[.slice b1 ks'.length b4, .slice b2 ps'.length b5, .slice b3 es'.length b6]] wx fun e w' => ∃ v, e = .returned v ∧ ChgsNew w' wx.heap.size v (newsB (ks, ps, es) (ks', ps', es')) ∧ Below wx.heap.size wx w') := fun wx ha hb => newsS _ _ _ _ _ _ (ks, ps, es) (ks', ps', es') wx ha hb SA.out SB.out
 have F2 : Hid (mrgK (ks, ps, es) (ks', ps', es') ≠ 0 → mrgB (ks, ps, es) (ks', ps', es') = ([], [], [])) := fun h => mrgB_none h
 have F3 : Hid (mrgK (ks, ps, es) (ks', ps', es') = 0 → (allR ks ps es (newsB (ks, ps, es) (ks', ps', es')) = mrgB (ks, ps, es) (ks', ps', es') ∧ (allC ks ps es (newsB (ks, ps, es) (ks', ps', es'))).length = (newsB (ks, ps, es) (ks', ps', es')).length) ∧ mrgK (mrgB (ks, ps, es) (ks', ps', es')) (ks', ps', es') = 0 ∧ mrgB (mrgB (ks, ps, es) (ks', ps', es')) (ks', ps', es') = mrgB (ks, ps, es) (ks', ps', es') ∧ newsB (mrgB (ks, ps, es) (ks', ps', es')) (ks', ps', es') = [] ∧ newsB (mrgB (ks, ps, es) (ks', ps', es')) (ks, ps, es) = []) := fun h => ⟨mrg_take h, mrg_x h⟩
 have F4 : Hid (mrgK (ks, ps, es) (ks', ps', es') = 0 → ∀ t, mrgK (mrgB (ks, ps, es) (ks', ps', es')) t = 0 → mrgK (ks', ps', es') t = 0 → mrgK (ks, ps, es) (mrgB (ks', ps', es') t) = 0 → mrgB (mrgB (ks, ps, es) (ks', ps', es')) t = mrgB (ks, ps, es) (mrgB (ks', ps', es') t)) := fun h t h1 h2 h3 => mrg_three h h1 h2 h3
 have SX := toHid (mrgB_small sA sB)
 have SN := toHid (newsB_small (a := (ks, ps, es)) sB)
 clear hA hB sA sB hb1
 generalize newsB (ks, ps, es) (ks', ps', es') = NL at *
 generalize mrgK (ks, ps, es) (ks', ps', es') = k0 at *
 generalize mrgB (ks, ps, es) (ks', ps', es') = X0 at *
 obtain ⟨kx, px, ex⟩ := X0
 go_wp2_with fail
 generalize ((w1.alloc (.cells #[.slice a1 ks.length a4, .slice a2 ps.length a5, .slice a3 es.length a6] 29)).alloc (.cells #[.slice b1 ks'.length b4, .slice b2 ps'.length b5, .slice b3 es'.length b6] 29)) = w2 at *
 generalize w1.heap.size = A at *
 refine (C1.out _ (M2.out.at 0 rfl) (M2.out.at 1 rfl)).mono ?_
 rintro e w3 ⟨vx, vy, vz, rfl, hbn, hb3⟩
 try dsimp only at hbn
 obtain ⟨x1, x4, x2, x5, x3, x6, rfl, rfl, rfl⟩ := hbn.slices
 have M3 := toHid ((M2.out.call hb3).push hbn.at)
 clear hbn hb3 M2 C1
 obtain ⟨p0, p1, p2⟩ := bx3M M3.out.bx 1 rfl
 obtain ⟨q0, q1, q2⟩ := bx3M M3.out.bx 2 rfl
 go_wp2_with fail
 clear p0 p1 p2 q0 q1 q2
 generalize (w3.alloc (.cells #[.slice x1 kx.length x4, .slice x2 px.length x5, .slice x3 ex.length x6] 29)) = w4 at *
 generalize w3.heap.size = X at *
 refine (C2.out _ (M3.out.at 2 rfl) (M3.out.at 1 rfl)).mono ?_
 rintro e w5 ⟨vx, vy, vz, rfl, hbn, hb5⟩
 try dsimp only at hbn
 obtain ⟨y1, y4, y2, y5, y3, y6, rfl, rfl, rfl⟩ := hbn.slices
 have M5 := toHid ((M3.out.call hb5).push hbn.at)
 clear hbn hb5 M3 C2
 obtain ⟨p0, p1, p2⟩ := bx3M M5.out.bx 2 rfl
 obtain ⟨q0, q1, q2⟩ := bx3M M5.out.bx 3 rfl
 go_wp2_with fail
 clear p0 p1 p2 q0 q1 q2
 generalize (w5.alloc (.cells #[.slice y1 kx.length y4, .slice y2 px.length y5, .slice y3 ex.length y6] 29)) = w6 at *
 generalize w5.heap.size = Y at *
 refine (C3.out _ (M5.out.at 2 rfl) (M5.out.at 3 rfl)).mono ?_
 rintro e w7 ⟨vx, vy, vz, rfl, hbn, hb7⟩
 try dsimp only at hbn
 obtain ⟨u1, u4, u2, u5, u3, u6, rfl, rfl, rfl⟩ := hbn.slices
 have M7 := toHid ((M5.out.call hb7).push hbn.at)
 clear hbn hb7 M5 C3
 obtain ⟨p0, p1, p2⟩ := bx3M M7.out.bx 2 rfl
 obtain ⟨r0, r1, r2⟩ := bx3M M7.out.bx 0 rfl
 go_wp2_with fail
 clear p0 p1 p2 r0 r1 r2
 generalize (w7.alloc (.cells #[.slice u1 kx.length u4, .slice u2 px.length u5, .slice u3 ex.length u6] 29)) = w8 at *
 generalize w7.heap.size = U at *
 refine (wBook_same _ _ _ _ _ _ kx px ex _ (M7.out.at 2 rfl) (M7.out.at 0 rfl) SX.out.s).mono ?_
 rintro e w8b ⟨rfl, hb8⟩
 have M7b := toHid (M7.out.call hb8)
 clear hb8 M7
 obtain ⟨p0, p1, p2⟩ := bx3M M7b.out.bx 2 rfl
 obtain ⟨r0, r1, r2⟩ := bx3M M7b.out.bx 1 rfl
 go_wp2_with fail
 clear p0 p1 p2 r0 r1 r2
 refine (wBook_same _ _ _ _ _ _ kx px ex _ (M7b.out.at 2 rfl) (M7b.out.at 1 rfl) SX.out.s).mono ?_
 rintro e w9 ⟨rfl, hb9⟩
 have M8 : Hid (MX w w9 [(X, #[.slice x1 kx.length x4, .slice x2 px.length x5, .slice x3 ex.length x6], 29), (A, #[.slice a1 ks.length a4, .slice a2 ps.length a5, .slice a3 es.length a6], 29), (A + 1, #[.slice b1 ks'.length b4, .slice b2 ps'.length b5, .slice b3 es'.length b6], 29)] [(.slice x1 kx.length x4, .slice x2 px.length x5, .slice x3 ex.length x6, (kx, px, ex)), (.slice a1 ks.length a4, .slice a2 ps.length a5, .slice a3 es.length a6, (ks, ps, es)), (.slice b1 ks'.length b4, .slice b2 ps'.length b5, .slice b3 es'.length b6, (ks', ps', es'))]) := by
  have h1 := M7b.out.call hb9
  exact ⟨⟨h1.bx.below, fun p hp => h1.bx.has p (by simp only [List.mem_cons, List.not_mem_nil, or_false] at hp ⊢; rcases hp with h | h | h <;> simp [h])⟩, fun p hp => h1.bk p (by simp only [List.mem_cons, List.not_mem_nil, or_false] at hp ⊢; rcases hp with h | h | h <;> simp [h])⟩
 clear hb9 M7b
 obtain ⟨p0, p1, p2⟩ := bx3M M8.out.bx 1 rfl
 obtain ⟨q0, q1, q2⟩ := bx3M M8.out.bx 2 rfl
 go_wp2_with fail
 refine (C4.out _ (M8.out.at 1 rfl) (M8.out.at 2 rfl)).mono ?_
 rintro e w10 ⟨nv, rfl, hcn, hb10⟩
 clear p0 p1 p2 q0 q1 q2
 have M9 := toHid (M8.out.call hb10)
 have N9 : Hid (ChgsAt w10 nv NL) := hcn.at
 obtain ⟨na, nc, rfl⟩ := own_sliceD hcn
 have hnl : NL.length ≤ 1048576 := SN.out.2
 clear hcn hb10 M8 C4
 obtain ⟨p0, p1, p2⟩ := bx3M M9.out.bx 1 rfl
 obtain ⟨q0, q1, q2⟩ := bx3M M9.out.bx 2 rfl
 go_wp2_with fail
 clear p0 p1 p2 q0 q1 q2
 refine (C5.out _ (M9.out.at 1 rfl) (M9.out.at 2 rfl)).mono ?_
 rintro e w11 ⟨nv, rfl, hcn, hb11⟩
 have MA := toHid (M9.out.call hb11)
 have NA : Hid (ChgsAt w11 (.slice na NL.length nc) NL ∧ ChgsAt w11 nv NL) := ⟨N9.out.keep hb11, hcn.at⟩
 obtain ⟨nb, nd, rfl⟩ := own_sliceD hcn
 clear hcn hb11 M9 N9 C5
 go_wp2_with fail
 refine (wChanges_same _ _ NL _ NA.out.1 NA.out.2 hnl).mono ?_
 rintro e w12 ⟨rfl, hb12⟩
 have MB := toHid (MA.out.call hb12)
 have NB : Hid (ChgsAt w12 (.slice na NL.length nc) NL) := NA.out.1.keep hb12
 clear hb12 MA NA
 by_cases hk : k0 = 0
 ·subst hk
  have F3' := toHid (F3.out rfl)
  have C6 : Hid (∀ wx : World, BookAt wx (.slice x1 kx.length x4) (.slice x2 px.length x5) (.slice x3 ex.length x6) kx px ex → BookAt wx (.slice b1 ks'.length b4) (.slice b2 ps'.length b5) (.slice b3 es'.length b6) ks' ps' es' → Calls Tryz.prog 13 #[.agg #[.slice x1 kx.length x4, .slice x2 px.length x5, .slice x3 ex.length x6], .agg #[.slice b1 ks'.length b4, .slice b2 ps'.length b5, .slice b3 es'.length b6]] wx fun e w' => ∃ x y z, e = .returned (.tuple #[.agg #[x, y, z], .int .i64 0]) ∧ BookNew wx.heap.size w' x y z kx px ex ∧ Below wx.heap.size wx w') := fun wx ha hb => by
   have h := mergeI _ _ _ _ _ _ (kx, px, ex) (ks', ps', es') wx ha hb SX.out SB.out
   rw [F3'.out.2.1, F3'.out.2.2.1] at h
   exact h
  have C7 : Hid (∀ wx : World, BookAt wx (.slice a1 ks.length a4) (.slice a2 ps.length a5) (.slice a3 es.length a6) ks ps es → ChgsAt wx (.slice na NL.length nc) NL → Calls Tryz.prog 18 #[.agg #[.slice a1 ks.length a4, .slice a2 ps.length a5, .slice a3 es.length a6], .slice na NL.length nc] wx fun e w' => ∃ x y z a c, e = .returned (.tuple #[.agg #[x, y, z], .slice a NL.length c]) ∧ BookNew wx.heap.size w' x y z kx px ex ∧ Below wx.heap.size wx w') := fun wx ha hb => by
   refine (planTakeAll_any _ _ _ _ ks ps es NL wx ha hb SA.out SN.out.1 SN.out.2).mono ?_
   rintro e w' ⟨x, y, z, v, rfl, hbn, hin, hbl⟩
   obtain ⟨a, c, hv⟩ := own_sliceD hin
   rw [F3'.out.1.2] at hv
   rw [F3'.out.1.1] at hbn
   subst hv
   exact ⟨x, y, z, a, c, rfl, hbn, hbl⟩
  obtain ⟨p0, p1, p2⟩ := bx3M MB.out.bx 1 rfl
  go_wp2_with fail
  clear p0 p1 p2
  refine (C7.out _ (MB.out.at 1 rfl) NB.out).mono ?_
  rintro e w13 ⟨vx, vy, vz, ca, cc, rfl, hbn, hb13⟩
  obtain ⟨z1, z4, z2, z5, z3, z6, rfl, rfl, rfl⟩ := hbn.slices
  have MC := toHid ((MB.out.call hb13).push hbn.at)
  clear hbn hb13 MB NB C7
  obtain ⟨p0, p1, p2⟩ := bx3M MC.out.bx 1 rfl
  obtain ⟨q0, q1, q2⟩ := bx3M MC.out.bx 3 rfl
  go_wp2_with fail
  clear p0 p1 p2 q0 q1 q2
  generalize (w13.alloc (.cells #[.slice z1 kx.length z4, .slice z2 px.length z5, .slice z3 ex.length z6] 29)) = w14 at *
  generalize w13.heap.size = Z at *
  refine (C6.out _ (MC.out.at 1 rfl) (MC.out.at 3 rfl)).mono ?_
  rintro e w15 ⟨vx, vy, vz, rfl, hbn, hb15⟩
  obtain ⟨g1, g4, g2, g5, g3, g6, rfl, rfl, rfl⟩ := hbn.slices
  have MD := toHid ((MC.out.call hb15).push hbn.at)
  clear hbn hb15 MC C6
  obtain ⟨p0, p1, p2⟩ := bx3M MD.out.bx 1 rfl
  obtain ⟨q0, q1, q2⟩ := bx3M MD.out.bx 2 rfl
  go_wp2_with fail
  clear p0 p1 p2 q0 q1 q2
  generalize (w15.alloc (.cells #[.slice g1 kx.length g4, .slice g2 px.length g5, .slice g3 ex.length g6] 29)) = w16 at *
  generalize w15.heap.size = G at *
  have C8 : Hid (∀ wx : World, BookAt wx (.slice x1 kx.length x4) (.slice x2 px.length x5) (.slice x3 ex.length x6) kx px ex → BookAt wx (.slice b1 ks'.length b4) (.slice b2 ps'.length b5) (.slice b3 es'.length b6) ks' ps' es' → Calls Tryz.prog 15 #[.agg #[.slice x1 kx.length x4, .slice x2 px.length x5, .slice x3 ex.length x6], .agg #[.slice b1 ks'.length b4, .slice b2 ps'.length b5, .slice b3 es'.length b6]] wx fun e w' => ∃ a c, e = .returned (.slice a 0 c) ∧ Below wx.heap.size wx w') := fun wx ha hb => by
   refine (newsI _ _ _ _ _ _ (kx, px, ex) (ks', ps', es') wx ha hb SX.out SB.out).mono ?_
   rintro e w' ⟨v, rfl, hcn, hbl⟩
   rw [F3'.out.2.2.2.1] at hcn
   obtain ⟨a, c, rfl⟩ := own_sliceD hcn
   exact ⟨a, c, rfl, hbl⟩
  have C9 : Hid (∀ wx : World, BookAt wx (.slice x1 kx.length x4) (.slice x2 px.length x5) (.slice x3 ex.length x6) kx px ex → BookAt wx (.slice a1 ks.length a4) (.slice a2 ps.length a5) (.slice a3 es.length a6) ks ps es → Calls Tryz.prog 15 #[.agg #[.slice x1 kx.length x4, .slice x2 px.length x5, .slice x3 ex.length x6], .agg #[.slice a1 ks.length a4, .slice a2 ps.length a5, .slice a3 es.length a6]] wx fun e w' => ∃ a c, e = .returned (.slice a 0 c) ∧ Below wx.heap.size wx w') := fun wx ha hb => by
   refine (newsI _ _ _ _ _ _ (kx, px, ex) (ks, ps, es) wx ha hb SX.out SA.out).mono ?_
   rintro e w' ⟨v, rfl, hcn, hbl⟩
   rw [F3'.out.2.2.2.2] at hcn
   obtain ⟨a, c, rfl⟩ := own_sliceD hcn
   exact ⟨a, c, rfl, hbl⟩
  have HSS : Hid (∀ w' : World, Below w16.heap.size w16 w' → (w'.cell? ⟨G, 0, none⟩ = some (.slice g1 kx.length g4) ∧ w'.cell? ⟨G, 1, none⟩ = some (.slice g2 px.length g5) ∧ w'.cell? ⟨G, 2, none⟩ = some (.slice g3 ex.length g6)) ∧ (w'.cell? ⟨Z, 0, none⟩ = some (.slice z1 kx.length z4) ∧ w'.cell? ⟨Z, 1, none⟩ = some (.slice z2 px.length z5) ∧ w'.cell? ⟨Z, 2, none⟩ = some (.slice z3 ex.length z6)) ∧ (w'.cell? ⟨X, 0, none⟩ = some (.slice x1 kx.length x4) ∧ w'.cell? ⟨X, 1, none⟩ = some (.slice x2 px.length x5) ∧ w'.cell? ⟨X, 2, none⟩ = some (.slice x3 ex.length x6)) ∧ (w'.cell? ⟨A, 0, none⟩ = some (.slice a1 ks.length a4) ∧ w'.cell? ⟨A, 1, none⟩ = some (.slice a2 ps.length a5) ∧ w'.cell? ⟨A, 2, none⟩ = some (.slice a3 es.length a6)) ∧ (w'.cell? ⟨A + 1, 0, none⟩ = some (.slice b1 ks'.length b4) ∧ w'.cell? ⟨A + 1, 1, none⟩ = some (.slice b2 ps'.length b5) ∧ w'.cell? ⟨A + 1, 2, none⟩ = some (.slice b3 es'.length b6))) := fun w' hx => by
   have h1 := (MD.out.call hx).bx
   exact ⟨bx3M h1 0 rfl, bx3M h1 1 rfl, bx3M h1 2 rfl, bx3M h1 3 rfl, bx3M h1 4 rfl⟩
  refine wp_region_noPanic ?_
  refine wp_region_held_drew (S := fun w' => (w'.cell? ⟨G, 0, none⟩ = some (.slice g1 kx.length g4) ∧ w'.cell? ⟨G, 1, none⟩ = some (.slice g2 px.length g5) ∧ w'.cell? ⟨G, 2, none⟩ = some (.slice g3 ex.length g6)) ∧ (w'.cell? ⟨Z, 0, none⟩ = some (.slice z1 kx.length z4) ∧ w'.cell? ⟨Z, 1, none⟩ = some (.slice z2 px.length z5) ∧ w'.cell? ⟨Z, 2, none⟩ = some (.slice z3 ex.length z6)) ∧ (w'.cell? ⟨X, 0, none⟩ = some (.slice x1 kx.length x4) ∧ w'.cell? ⟨X, 1, none⟩ = some (.slice x2 px.length x5) ∧ w'.cell? ⟨X, 2, none⟩ = some (.slice x3 ex.length x6)) ∧ (w'.cell? ⟨A, 0, none⟩ = some (.slice a1 ks.length a4) ∧ w'.cell? ⟨A, 1, none⟩ = some (.slice a2 ps.length a5) ∧ w'.cell? ⟨A, 2, none⟩ = some (.slice a3 es.length a6)) ∧ (w'.cell? ⟨A + 1, 0, none⟩ = some (.slice b1 ks'.length b4) ∧ w'.cell? ⟨A + 1, 1, none⟩ = some (.slice b2 ps'.length b5) ∧ w'.cell? ⟨A + 1, 2, none⟩ = some (.slice b3 es'.length b6))) (by kernel_rfl) ?_ (fun hHeld => ?_)
  ·exact HSS.out _ (Below.refl _ _).drew
  have HBW : Hid (Below w16.heap.size w16 w16.drew) := (Below.refl _ _).drew
  generalize w16.drew = V0 at *
  refine tkH 0 ?_ rfl ?_ ?_
  rotate_left
  ·intro w hSw; (try dsimp only at hSw); go_simp; try with_reducible rfl
  simp only [Act.put, tkS]
  refine tkH 1 ?_ rfl ?_ ?_
  rotate_left
  ·intro w hSw; (try dsimp only at hSw); go_simp; try with_reducible rfl
  simp only [Act.put, tkS]
  clear hHeld
  refine rdH 2 rfl (fun K hK => ?_)
  go_simp
  refine (wBook_same _ _ _ _ _ _ kx px ex _ ((MD.out.call HBW.out).at 1 rfl) ((MD.out.call HBW.out).at 2 rfl) SX.out.s).mono ?_
  rintro e V1 ⟨rfl, hbb⟩
  have HB1 : Hid (Below w16.heap.size w16 V1) := below_step HBW.out hbb
  have hHeld := HSS.out _ HB1.out
  refine hK.out _ _ hHeld (fun _ => ?_)
  clear hbb hK K HBW
  refine tkH 3 ?_ rfl ?_ ?_
  rotate_left
  ·intro w hSw; (try dsimp only at hSw); go_simp; try with_reducible rfl
  simp only [Act.put, tkS]
  refine tkH 4 ?_ rfl ?_ ?_
  rotate_left
  ·intro w hSw; (try dsimp only at hSw); go_simp; try with_reducible rfl
  simp only [Act.put, tkS]
  refine tkH 5 ?_ rfl ?_ ?_
  rotate_left
  ·intro w hSw; (try dsimp only at hSw); go_simp; try with_reducible rfl
  simp only [Act.put, tkS]
  refine tkH 6 ?_ rfl ?_ ?_
  rotate_left
  ·intro w hSw; (try dsimp only at hSw); go_simp; try with_reducible rfl
  simp only [Act.put, tkS]
  refine tkH 7 ?_ rfl ?_ ?_
  rotate_left
  ·intro w hSw; (try dsimp only at hSw); go_simp; try with_reducible rfl
  simp only [Act.put, tkS]
  refine tkH 8 ?_ rfl ?_ ?_
  rotate_left
  ·intro w hSw; (try dsimp only at hSw); go_simp; try with_reducible rfl
  simp only [Act.put, tkS]
  refine tkH 9 ?_ rfl ?_ ?_
  rotate_left
  ·intro w hSw; (try dsimp only at hSw); go_simp; try with_reducible rfl
  simp only [Act.put, tkS]
  refine tkH 10 ?_ rfl ?_ ?_
  rotate_left
  ·intro w hSw; (try dsimp only at hSw); go_simp; try with_reducible rfl
  simp only [Act.put, tkS]
  clear hHeld
  refine rdH 11 rfl (fun K hK => ?_)
  go_simp
  refine (wBook_same _ _ _ _ _ _ kx px ex _ ((MD.out.call HB1.out).at 0 rfl) ((MD.out.call HB1.out).at 2 rfl) SX.out.s).mono ?_
  rintro e V2 ⟨rfl, hbb⟩
  have HB2 : Hid (Below w16.heap.size w16 V2) := below_step HB1.out hbb
  have hHeld := HSS.out _ HB2.out
  refine hK.out _ _ hHeld (fun _ => ?_)
  clear hbb hK K HB1
  refine tkH 12 ?_ rfl ?_ ?_
  rotate_left
  ·intro w hSw; (try dsimp only at hSw); go_simp; try with_reducible rfl
  simp only [Act.put, tkS]
  refine tkH 13 ?_ rfl ?_ ?_
  rotate_left
  ·intro w hSw; (try dsimp only at hSw); go_simp; try with_reducible rfl
  simp only [Act.put, tkS]
  refine tkH 14 ?_ rfl ?_ ?_
  rotate_left
  ·intro w hSw; (try dsimp only at hSw); go_simp; try with_reducible rfl
  simp only [Act.put, tkS]
  refine tkH 15 ?_ rfl ?_ ?_
  rotate_left
  ·intro w hSw; (try dsimp only at hSw); go_simp; try with_reducible rfl
  simp only [Act.put, tkS]
  refine tkH 16 ?_ rfl ?_ ?_
  rotate_left
  ·intro w hSw; (try dsimp only at hSw); go_simp; try with_reducible rfl
  simp only [Act.put, tkS]
  refine tkH 17 ?_ rfl ?_ ?_
  rotate_left
  ·intro w hSw; (try dsimp only at hSw); go_simp; try with_reducible rfl
  simp only [Act.put, tkS]
  refine tkH 18 ?_ rfl ?_ ?_
  rotate_left
  ·intro w hSw; (try dsimp only at hSw); go_simp; try with_reducible rfl
  simp only [Act.put, tkS]
  refine tkH 19 ?_ rfl ?_ ?_
  rotate_left
  ·intro w hSw; (try dsimp only at hSw); go_simp; try with_reducible rfl
  simp only [Act.put, tkS]
  refine tkH 20 ?_ rfl ?_ ?_
  rotate_left
  ·intro w hSw; (try dsimp only at hSw); go_simp; try with_reducible rfl
  simp only [Act.put, tkS]
  refine tkH 21 ?_ rfl ?_ ?_
  rotate_left
  ·intro w hSw; (try dsimp only at hSw); go_simp; try with_reducible rfl
  simp only [Act.put, tkS]
  refine tkH 22 ?_ rfl ?_ ?_
  rotate_left
  ·intro w hSw; (try dsimp only at hSw); go_simp; try with_reducible rfl
  simp only [Act.put, tkS]
  refine tkH 23 ?_ rfl ?_ ?_
  rotate_left
  ·intro w hSw; (try dsimp only at hSw); go_simp; try with_reducible rfl
  simp only [Act.put, tkS]
  refine tkH 26 ?_ rfl ?_ ?_
  rotate_left
  ·intro w hSw; (try dsimp only at hSw); go_simp; try with_reducible rfl
  simp only [Act.put, tkS]
  refine tkH 27 ?_ rfl ?_ ?_
  rotate_left
  ·intro w hSw; (try dsimp only at hSw); go_simp; try with_reducible rfl
  simp only [Act.put, tkS]
  clear hHeld
  refine rdH 24 rfl (fun K hK => ?_)
  go_simp
  refine (C8.out _ ((MD.out.call HB2.out).at 2 rfl) ((MD.out.call HB2.out).at 4 rfl)).mono ?_
  rintro e V3 ⟨sa, sc, rfl, hbb⟩
  have HB3 : Hid (Below w16.heap.size w16 V3) := below_step HB2.out hbb
  have hHeld := HSS.out _ HB3.out
  refine hK.out _ _ hHeld (fun _ => ?_)
  clear hbb hK K HB2
  refine tkH 25 ?_ rfl ?_ ?_; rotate_left
  ·intro w hSw; (try dsimp only at hSw); go_simp; try with_reducible rfl
  simp only [Act.put, tkS]
  clear hHeld
  refine rdH 28 rfl (fun K hK => ?_)
  go_simp
  refine (C9.out _ ((MD.out.call HB3.out).at 2 rfl) ((MD.out.call HB3.out).at 3 rfl)).mono ?_
  rintro e V4 ⟨ta, tc, rfl, hbb⟩
  have HB4 : Hid (Below w16.heap.size w16 V4) := below_step HB3.out hbb
  have hHeld := HSS.out _ HB4.out
  refine hK.out _ _ hHeld (fun _ => ?_)
  clear hbb hK K HB3
  refine tkH 29 ?_ rfl ?_ ?_
  rotate_left
  ·intro w hSw; (try dsimp only at hSw); go_simp; try with_reducible rfl
  simp only [Act.put, tkS]
  refine tkH 30 ?_ rfl ?_ ?_
  rotate_left
  ·intro w hSw; (try dsimp only at hSw); go_simp; try with_reducible rfl
  simp only [Act.put, tkS]
  refine tkH 31 ?_ rfl ?_ ?_
  rotate_left
  ·intro w hSw; (try dsimp only at hSw); go_simp; try with_reducible rfl
  simp only [Act.put, tkS]
  refine tkH 32 ?_ rfl ?_ ?_
  rotate_left
  ·intro w hSw; (try dsimp only at hSw); go_simp; try with_reducible rfl
  simp only [Act.put, tkS]
  clear hHeld
  refine wpAnyH_done (by kernel_rfl) ?_ _
  refine NoPanic.normal ?_
  have ME : Hid (MX w V4 [(X, #[.slice x1 kx.length x4, .slice x2 px.length x5, .slice x3 ex.length x6], 29), (A, #[.slice a1 ks.length a4, .slice a2 ps.length a5, .slice a3 es.length a6], 29), (A + 1, #[.slice b1 ks'.length b4, .slice b2 ps'.length b5, .slice b3 es'.length b6], 29)] [(.slice x1 kx.length x4, .slice x2 px.length x5, .slice x3 ex.length x6, (kx, px, ex)), (.slice a1 ks.length a4, .slice a2 ps.length a5, .slice a3 es.length a6, (ks, ps, es)), (.slice b1 ks'.length b4, .slice b2 ps'.length b5, .slice b3 es'.length b6, (ks', ps', es'))]) := by
   have h1 := MD.out.call HB4.out
   exact ⟨⟨h1.bx.below, fun p hp => h1.bx.has p (by simp only [List.mem_cons, List.not_mem_nil, or_false] at hp ⊢; rcases hp with h | h | h <;> simp [h])⟩, fun p hp => h1.bk p (by simp only [List.mem_cons, List.not_mem_nil, or_false] at hp ⊢; rcases hp with h | h | h <;> simp [h])⟩
  clear HB4 HSS MD C8 C9
  go_wp2_with fail
  refine (drawTakeAll_any _ n2 _ (H2.out.keep ME.out.bx.below)).mono ?_
  rintro e w17 ⟨vx, vy, vz, lv, kd, pd, ed, L, rfl, hD, -, hL, hL24, hLc, hb17⟩
  obtain ⟨d1, d4, d2, d5, d3, d6, rfl, rfl, rfl⟩ := BookAt.slices hD
  have MF := toHid ((ME.out.call hb17).push hD)
  have NF : Hid (ChgsAt (w17.alloc (.cells #[.slice d1 kd.length d4, .slice d2 pd.length d5, .slice d3 ed.length d6] 29)) lv L) := hL.keep ((Below.refl _ _).alloc (Nat.le_refl _) _)
  obtain ⟨la, lc, rfl, -⟩ := hL
  have SL : Hid (∀ c ∈ L, c.f.size ≤ 1048576 ∧ c.v.size ≤ 1048576) := fun c hc => ⟨Nat.le_trans (hLc c hc).1 (by omega), Nat.le_trans (hLc c hc).2 (by omega)⟩
  clear hD hLc hb17 ME F2 F3 F3' SN
  have S0 : Hid (SmB (ks, ps, [])) := ⟨⟨SA.out.n.k, SA.out.n.p, (fun e he => by cases he)⟩, ⟨SA.out.s.k, SA.out.s.p, Nat.zero_le _, (fun e he => by cases he), (fun e he => by cases he), (fun e he => by cases he)⟩, Nat.zero_le _⟩
  obtain ⟨p0, p1, p2⟩ := bx3M MF.out.bx 2 rfl
  go_wp2_with fail
  clear p0 p1 p2
  generalize (w17.alloc (.cells #[.slice d1 kd.length d4, .slice d2 pd.length d5, .slice d3 ed.length d6] 29)) = w18 at *
  generalize w17.heap.size = D at *
  refine (planTakeAll_any _ _ _ _ ks ps [] L _ ⟨(MF.out.at 2 rfl).k, (MF.out.at 2 rfl).p, ⟨none, 0, rfl, Nat.le_refl _, Nat.zero_le _, fun i e he => by simp at he⟩⟩ NF.out S0.out SL.out (by omega)).mono ?_
  rintro e w19 ⟨vx, vy, vz, cv, rfl, hbn, hin, hb19⟩
  have ST := toHid (allR_sm S0.out SL.out)
  obtain ⟨qa, qc, rfl⟩ := own_sliceD hin
  generalize (allC ks ps [] L).length = nq at *
  generalize allR ks ps [] L = T0 at *
  obtain ⟨kt, pt, et⟩ := T0
  try dsimp only at hbn
  obtain ⟨t1, t4, t2, t5, t3, t6, rfl, rfl, rfl⟩ := hbn.slices
  have MG := toHid ((MF.out.call hb19).push hbn.at)
  clear hbn hin hb19 MF NF S0 SL
  have F5 : Hid (mrgK (kx, px, ex) (kt, pt, et) = 0 → mrgK (ks', ps', es') (kt, pt, et) = 0 → mrgK (ks, ps, es) (mrgB (ks', ps', es') (kt, pt, et)) = 0 → mrgB (kx, px, ex) (kt, pt, et) = mrgB (ks, ps, es) (mrgB (ks', ps', es') (kt, pt, et))) := F4.out (by trivial) (kt, pt, et)
  have SP := toHid (mrgB_small SX.out ST.out)
  have SQ := toHid (mrgB_small SB.out ST.out)
  have D1 : Hid (∀ wx : World, BookAt wx (.slice x1 kx.length x4) (.slice x2 px.length x5) (.slice x3 ex.length x6) kx px ex → BookAt wx (.slice t1 kt.length t4) (.slice t2 pt.length t5) (.slice t3 et.length t6) kt pt et → Calls Tryz.prog 13 #[.agg #[.slice x1 kx.length x4, .slice x2 px.length x5, .slice x3 ex.length x6], .agg #[.slice t1 kt.length t4, .slice t2 pt.length t5, .slice t3 et.length t6]] wx fun e w' => ∃ x y z, e = .returned (.tuple #[.agg #[x, y, z], .int .i64 (mrgK (kx, px, ex) (kt, pt, et))]) ∧ BookNew wx.heap.size w' x y z (mrgB (kx, px, ex) (kt, pt, et)).1 (mrgB (kx, px, ex) (kt, pt, et)).2.1 (mrgB (kx, px, ex) (kt, pt, et)).2.2 ∧ Below wx.heap.size wx w') := fun wx ha hb => mergeI _ _ _ _ _ _ (kx, px, ex) (kt, pt, et) wx ha hb SX.out ST.out
  have D2 : Hid (∀ wx : World, BookAt wx (.slice b1 ks'.length b4) (.slice b2 ps'.length b5) (.slice b3 es'.length b6) ks' ps' es' → BookAt wx (.slice t1 kt.length t4) (.slice t2 pt.length t5) (.slice t3 et.length t6) kt pt et → Calls Tryz.prog 13 #[.agg #[.slice b1 ks'.length b4, .slice b2 ps'.length b5, .slice b3 es'.length b6], .agg #[.slice t1 kt.length t4, .slice t2 pt.length t5, .slice t3 et.length t6]] wx fun e w' => ∃ x y z, e = .returned (.tuple #[.agg #[x, y, z], .int .i64 (mrgK (ks', ps', es') (kt, pt, et))]) ∧ BookNew wx.heap.size w' x y z (mrgB (ks', ps', es') (kt, pt, et)).1 (mrgB (ks', ps', es') (kt, pt, et)).2.1 (mrgB (ks', ps', es') (kt, pt, et)).2.2 ∧ Below wx.heap.size wx w') := fun wx ha hb => mergeI _ _ _ _ _ _ (ks', ps', es') (kt, pt, et) wx ha hb SB.out ST.out
  generalize mrgK (kx, px, ex) (kt, pt, et) = kf at *
  generalize mrgB (kx, px, ex) (kt, pt, et) = P0 at *
  generalize mrgK (ks', ps', es') (kt, pt, et) = kg at *
  generalize mrgB (ks', ps', es') (kt, pt, et) = Q0 at *
  obtain ⟨kp, pp, ep⟩ := P0
  obtain ⟨kq, pq, eQ⟩ := Q0
  obtain ⟨p0, p1, p2⟩ := bx3M MG.out.bx 2 rfl
  obtain ⟨q0, q1, q2⟩ := bx3M MG.out.bx 0 rfl
  go_wp2_with fail
  clear p0 p1 p2 q0 q1 q2
  generalize (w19.alloc (.cells #[.slice t1 kt.length t4, .slice t2 pt.length t5, .slice t3 et.length t6] 29)) = w20 at *
  generalize w19.heap.size = TT at *
  refine (D1.out _ (MG.out.at 2 rfl) (MG.out.at 0 rfl)).mono ?_
  rintro e w21 ⟨vx, vy, vz, rfl, hbn, hb21⟩
  try dsimp only at hbn
  obtain ⟨p1, p4, p2, p5, p3, p6, rfl, rfl, rfl⟩ := hbn.slices
  have MH := toHid ((MG.out.call hb21).push hbn.at)
  clear hbn hb21 MG D1
  obtain ⟨m0, m1, m2⟩ := bx3M MH.out.bx 5 rfl
  obtain ⟨o0, o1, o2⟩ := bx3M MH.out.bx 1 rfl
  go_wp2_with fail
  clear m0 m1 m2 o0 o1 o2
  generalize (w21.alloc (.cells #[.slice p1 kp.length p4, .slice p2 pp.length p5, .slice p3 ep.length p6] 29)) = w22 at *
  generalize w21.heap.size = PP at *
  refine (D2.out _ (MH.out.at 5 rfl) (MH.out.at 1 rfl)).mono ?_
  rintro e w23 ⟨vx, vy, vz, rfl, hbn, hb23⟩
  try dsimp only at hbn
  obtain ⟨q1, q4, q2, q5, q3, q6, rfl, rfl, rfl⟩ := hbn.slices
  have MI := toHid ((MH.out.call hb23).push hbn.at)
  clear hbn hb23 MH D2
  have D3 : Hid (∀ wx : World, BookAt wx (.slice a1 ks.length a4) (.slice a2 ps.length a5) (.slice a3 es.length a6) ks ps es → BookAt wx (.slice q1 kq.length q4) (.slice q2 pq.length q5) (.slice q3 eQ.length q6) kq pq eQ → Calls Tryz.prog 13 #[.agg #[.slice a1 ks.length a4, .slice a2 ps.length a5, .slice a3 es.length a6], .agg #[.slice q1 kq.length q4, .slice q2 pq.length q5, .slice q3 eQ.length q6]] wx fun e w' => ∃ x y z, e = .returned (.tuple #[.agg #[x, y, z], .int .i64 (mrgK (ks, ps, es) (kq, pq, eQ))]) ∧ BookNew wx.heap.size w' x y z (mrgB (ks, ps, es) (kq, pq, eQ)).1 (mrgB (ks, ps, es) (kq, pq, eQ)).2.1 (mrgB (ks, ps, es) (kq, pq, eQ)).2.2 ∧ Below wx.heap.size wx w') := fun wx ha hb => mergeI _ _ _ _ _ _ (ks, ps, es) (kq, pq, eQ) wx ha hb SA.out SQ.out
  generalize mrgK (ks, ps, es) (kq, pq, eQ) = kh at *
  generalize mrgB (ks, ps, es) (kq, pq, eQ) = Z0 at *
  obtain ⟨kz, pz, ez⟩ := Z0
  obtain ⟨m0, m1, m2⟩ := bx3M MI.out.bx 5 rfl
  obtain ⟨o0, o1, o2⟩ := bx3M MI.out.bx 0 rfl
  go_wp2_with fail
  clear m0 m1 m2 o0 o1 o2
  generalize (w23.alloc (.cells #[.slice q1 kq.length q4, .slice q2 pq.length q5, .slice q3 eQ.length q6] 29)) = w24 at *
  generalize w23.heap.size = QQ at *
  refine (D3.out _ (MI.out.at 5 rfl) (MI.out.at 0 rfl)).mono ?_
  rintro e w25 ⟨vx, vy, vz, rfl, hbn, hb25⟩
  try dsimp only at hbn
  obtain ⟨s1, s4, s2, s5, s3, s6, rfl, rfl, rfl⟩ := hbn.slices
  have MJ := toHid ((MI.out.call hb25).push hbn.at)
  have BJ := toHid MJ.out.bx.below
  clear hbn hb25 MI D3
  by_cases hf : kf = 0
  ·have hfb : (kf == 0) = true := by simp [hf]
   by_cases hg : kg = 0
   ·have hgb : (kg == 0) = true := by simp [hg]
    by_cases hh : kh = 0
    ·have hhb : (kh == 0) = true := by simp [hh]
     have HE : Hid (kz = kp ∧ pz = pp ∧ ez = ep) := by
      have h := F5.out hf hg hh
      injection h with h1 h2
      injection h2 with h2 h3
      exact ⟨h1.symm, h2.symm, h3.symm⟩
     subst hf
     subst hg
     subst hh
     clear hfb hgb hhb F5
     obtain ⟨m0, m1, m2⟩ := bx3M MJ.out.bx 2 rfl
     obtain ⟨o0, o1, o2⟩ := bx3M MJ.out.bx 0 rfl
     go_wp2_with fail
     clear m0 m1 m2 o0 o1 o2
     have hs : BookAt (w25.alloc (.cells #[.slice s1 kz.length s4, .slice s2 pz.length s5, .slice s3 ez.length s6] 29)) (.slice s1 kz.length s4) (.slice s2 pz.length s5) (.slice s3 ez.length s6) kp pp ep := by
      have h := MJ.out.at 0 rfl
      obtain ⟨e1, e2, e3⟩ := HE.out
      rw [e1, e2, e3] at h ⊢
      exact h
     refine (wBook_same _ _ _ _ _ _ kp pp ep _ (MJ.out.at 2 rfl) hs SP.out.s).mono ?_
     rintro e w26 ⟨rfl, hb26⟩
     have BK2 : Hid (Below w.heap.size w w26) := below_step BJ.out hb26
     go_wp2_with fail
     exact bodyPost_ret (v := .bool true) (by simp [results, Tryz.results4, go_sem]) rfl ⟨rfl, BK2.out⟩
    ·have hhb : (kh == 0) = false := by rw [beq_eq_false_iff_ne]; exact hh
     subst hf
     subst hg
     clear hfb hgb F5
     obtain ⟨m0, m1, m2⟩ := bx3M MJ.out.bx 2 rfl
     obtain ⟨o0, o1, o2⟩ := bx3M MJ.out.bx 0 rfl
     go_wp2_with fail
     all_goals exact bodyPost_ret (v := .bool true) (by simp [results, Tryz.results4, go_sem]) rfl ⟨rfl, BJ.out⟩
   ·have hgb : (kg == 0) = false := by rw [beq_eq_false_iff_ne]; exact hg
    subst hf
    clear hfb F5
    obtain ⟨m0, m1, m2⟩ := bx3M MJ.out.bx 2 rfl
    obtain ⟨o0, o1, o2⟩ := bx3M MJ.out.bx 0 rfl
    go_wp2_with fail
    all_goals exact bodyPost_ret (v := .bool true) (by simp [results, Tryz.results4, go_sem]) rfl ⟨rfl, BJ.out⟩
  ·have hfb : (kf == 0) = false := by rw [beq_eq_false_iff_ne]; exact hf
   clear F5
   obtain ⟨m0, m1, m2⟩ := bx3M MJ.out.bx 2 rfl
   obtain ⟨o0, o1, o2⟩ := bx3M MJ.out.bx 0 rfl
   go_wp2_with fail
   all_goals exact bodyPost_ret (v := .bool true) (by simp [results, Tryz.results4, go_sem]) rfl ⟨rfl, BJ.out⟩
 ·have hkb : (k0 == 0) = false := by rw [beq_eq_false_iff_ne]; exact hk
  obtain ⟨e1, e2, e3⟩ : kx = [] ∧ px = [] ∧ ex = [] := by
   have h := F2.out hk
   injection h with h1 h2
   injection h2 with h2 h3
   exact ⟨h1, h2, h3⟩
  have GE : Hid (Calls Tryz.prog 8 #[.agg #[.slice x1 kx.length x4, .slice x2 px.length x5, .slice x3 ex.length x6], .agg #[.slice none 0 0, .slice none 0 0, .slice none 0 0]] w12 fun e w'' => e = .returned (.bool true) ∧ Below w12.heap.size w12 w'') := by
   have hz : BookAt w12 (.slice none 0 0) (.slice none 0 0) (.slice none 0 0) kx px ex := by rw [e1, e2, e3]; exact bookAt_nil w12
   exact wBook_same _ _ _ _ _ _ kx px ex w12 (MB.out.at 0 rfl) hz SX.out.s
  clear hk e1 e2 e3 F2 F3 F4 NB
  obtain ⟨p0, p1, p2⟩ := bx3M MB.out.bx 0 rfl
  go_wp2_with fail
  clear p0 p1 p2
  refine GE.out.mono ?_
  rintro e w13 ⟨rfl, hb13⟩
  go_wp2_with fail
  exact bodyPost_ret (v := .bool true) (by simp [results, Tryz.results4, go_sem]) rfl ⟨rfl, below_step MB.out.bx.below hb13⟩
end Go.Proofs.YtibpkhmiahamcaaGreat.Dr
