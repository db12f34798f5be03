import Derived.Test.YtcmgddnckohdaaaGreatDoorIn2
import Derived.Lib.AppendZerosOnto
set_option linter.unusedSimpArgs false
set_option linter.unusedVariables false
namespace Go.Proofs.YtcmgddnckohdaaaGreatDoor
open Go.RowKit
theorem wpList_append_run {P : Program} {w : World} {ops : Array Oper} {rest : List Oper} {o : Oper} {a : Act} {Q : Exit → Act → World → Prop} (hgd : o.guard = none) (s x : Operand) (t u : TypeId)
  (ho : o.op = .call { callee := .builtin .append, args := #[s, x], argTypes := #[t, u] }) (v y : Value) (hs : a.eval s = v) (hx : a.eval x = y) {v' : Value} {w' : World}
  (hr : (Builtin.append_ #[t, u] o.type #[v, y]).run P w = .ok v' w') (h : wpList P ops Q rest (a.put o.dst v') w') : wpList P ops Q (o :: rest) a w := by
 refine wpList_plain hgd fun K hK => ?_
 unfold Oper.wp
 simp only [execOp, ho, resolve, invoke, builtin, Sem.run_bind, Sem.run_pure, Result.andThen_ok, List.map_toArray, List.map_cons, List.map_nil, hs, hx, hr]
 exact hK _ _ h
theorem splice_new {C X tc : List Value} {i n : Nat} (hX : X.length = (n - i) * 3) (ht : tc.length = 3) (hi : i ≤ n) (hC : (n + 1) * 3 ≤ C.length) :
  (splice (splice C (i * 3) tc) ((i + 1) * 3) X).take ((n + 1) * 3) = C.take (i * 3) ++ (tc ++ X) ∧ (splice (splice C (i * 3) tc) ((i + 1) * 3) X).length = C.length := by
 have e1 : (splice C (i * 3) tc).take ((i + 1) * 3) = C.take (i * 3) ++ tc := by
  unfold splice
  rw [← List.append_assoc]
  exact List.take_left' (by rw [List.length_append, List.length_take, ht]; omega)
 have e3 : splice (splice C (i * 3) tc) ((i + 1) * 3) X = (C.take (i * 3) ++ (tc ++ X)) ++ (splice C (i * 3) tc).drop ((i + 1) * 3 + X.length) := by
  conv => lhs; unfold splice
  have e1' := e1
  unfold splice at e1' ⊢
  rw [e1']
  simp
 have hlen : (C.take (i * 3) ++ (tc ++ X)).length = (n + 1) * 3 := by
  rw [List.length_append, List.length_append, List.length_take, ht, hX]
  omega
 constructor
 ·rw [e3, ← hlen, List.take_left]
 ·rw [e3, List.length_append, hlen, List.length_drop, hX, length_splice _ _ _ (by rw [ht]; omega)]
  omega
set_option maxRecDepth 100000 in
set_option maxHeartbeats 6400000 in
theorem insertKind_grow (B g cap vb i : Nat) (l : List Tri) (t : Tri) (cur : Array Value) (w : World) (hi : i < l.length) (hc : l.length ≤ cap) (hr : cap < l.length + 1) (hl : l.length ≤ 1000) (hBw : B ≤ w.heap.size)
  (hg : w.heap[g]? = some (.cells cur 69 (0, 0))) (hcs : cur.size = cap * 3) (htk : cur.toList.take (l.length * 3) = triRows l)
  (hv : w.heap[vb]? = some (.cells #[.string t.s, .int .i64 t.x, .int .i64 t.y] 69 (0, 0))) :
  Calls Tryz.prog 181 #[.slice (some ⟨g, 0, none⟩) l.length cap, .int .i64 i, .slice (some ⟨vb, 0, none⟩) 1 1] w fun e w' => ∃ u, e = .returned u ∧ w'.ownsRow B 69 3 u (l.length + 1) (triRows (insT l i t)) ∧ Below B w w' := by
 obtain ⟨i0, hif, hz0, hz1, hz2⟩ := info_parts infoKindC
 have hCl : cur.toList.length = cap * 3 := by rw [Array.length_toList]; exact hcs
 have hpre : cur.toList.take (i * 3) = triRows (l.take i) := by
  rw [← triRows_take l i (by omega), ← htk, List.take_take]
  congr 1
  omega
 have hold : (Builtin.firstCells i0.size i (.slice (some ⟨g, 0, none⟩) i cap)).run Tryz.prog w.drew = .ok (triRows (l.take i)).toArray w.drew := by
  have h := run_loadCells_list (P := Tryz.prog) w.drew ⟨g, 0, none⟩ (triRows (l.take i)) (fun j v hj => by
   rw [addr_add, Nat.zero_add]
   have hg' : w.drew.heap[g]? = some (.cells cur 69 (0, 0)) := hg
   rw [← hpre, List.getElem?_take] at hj
   split at hj
   ·simp only [World.cell?]
    rw [hg']
    simpa using hj
   ·cases hj)
  rw [triRows_len, List.length_take, Nat.min_eq_left (by omega)] at h
  rw [hz1]
  simpa [Builtin.firstCells, Nat.mul_comm] using h
 have hap := Lib.run_append_grow_zeros (P := Tryz.prog) w 24 3 24 69 i0 _ .i64 .i64 Tryz.underlying24 Tryz.underlying3 hif hz0 (some ⟨g, 0, none⟩) i cap (triRows (l.take i)) hold (l.length + 1 - i) (by omega) (by omega) (by omega) (by omega) (by rw [hz2]; omega) (by rw [hz2]; exact growslice_fits (by omega) (by omega))
 have hk : ((l.length + 1 - i : Nat) : Int) = (l.length : Int) + 1 - (i : Int) := by omega
 have hk2 : i + (l.length + 1 - i) = l.length + 1 := by omega
 rw [hk, hk2] at hap
 have hge := grownCap_ge w (l.length + 1) cap 69
 have hle := grownCap_le_maxLen w (l.length + 1) cap 69 (by unfold maxLen; omega)
 generalize grownCap w (l.length + 1) cap 69 = gc at *
 obtain ⟨Z, hZ⟩ : ∃ Z : List Value, ((triRows (l.take i)).toArray ++ Builtin.zeroCells (Value.agg #[.string ByteArray.empty, .int .i64 0, .int .i64 0]).cells (l.length + 1 - i) ++ Builtin.zeroCells (Value.agg #[.string ByteArray.empty, .int .i64 0, .int .i64 0]).cells (gc - (l.length + 1))) = Z.toArray := ⟨_, (Array.toArray_toList ..).symm⟩
 have hZl : Z.length = gc * 3 := by
  have h := congrArg Array.size hZ
  simp only [Array.size_append, List.size_toArray, size_zeroCells, triRows_len, List.length_take, Value.cells] at h
  simp at h
  omega
 have hZt : Z.take (i * 3) = triRows (l.take i) := by
  have h := congrArg (fun A => A.toList.take (i * 3)) hZ
  simp only [Array.toList_append, List.append_assoc] at h
  rw [List.take_append_of_le_length (by rw [triRows_len, List.length_take]; omega), List.take_of_length_le (by rw [triRows_len, List.length_take]; omega)] at h
  exact h.symm
 rw [hZ] at hap
 have b1 : Below w.heap.size w (w.drew.alloc (.cells Z.toArray 69)) := ((Below.refl _ _).drew).alloc (Nat.le_refl _) _
 have n1 : (w.drew.alloc (.cells Z.toArray 69)).heap[w.heap.size]? = some (.cells Z.toArray 69 (0, 0)) := by show (w.heap.push _)[w.heap.size]? = _; simp
 generalize (w.drew.alloc (.cells Z.toArray 69)) = W1 at *
 have hgl : g < w.heap.size := (Array.getElem?_eq_some_iff.1 hg).1
 have hvl : vb < w.heap.size := (Array.getElem?_eq_some_iff.1 hv).1
 have g1 := (b1.block _ hgl).trans hg
 have v1 := (b1.block _ hvl).trans hv
 have hc1 : ¬ gc = i := by omega
 have hc2 : ¬ gc = i + 1 := by omega
 have hc3 : ¬ cap = i := by omega
 have hmin : Nat.min 1 (l.length + 1 - i) = 1 := Nat.min_eq_left (by omega)
 have hcp : (Builtin.copy_ #[24, 24] 3 #[.slice (some ⟨w.heap.size, i * 3, none⟩) (l.length + 1 - i) (gc - i), .slice (some ⟨vb, 0, none⟩) 1 1]).run Tryz.prog W1 = .ok (goInt 1) (W1.setRow w.heap.size (splice Z (i * 3) [.string t.s, .int .i64 t.x, .int .i64 t.y]).toArray) := by
  have h := run_copyK (P := Tryz.prog) W1 24 24 3 69 3 w.heap.size (i * 3) (l.length + 1 - i) (gc - i) ⟨vb, 0, none⟩ 1 1 Z.toArray 69 [.string t.s, .int .i64 t.x, .int .i64 t.y] Tryz.underlying24 (by kernel_rfl) n1 (by rw [hmin]; rfl) (fun j v hj => by rw [addr_add, Nat.zero_add]; simp only [World.cell?]; rw [v1]; simpa using hj) (by rw [List.size_toArray, hZl]; simp; omega) (fun v hv => by simp only [List.mem_cons, List.not_mem_nil, or_false] at hv; rcases hv with rfl | rfl | rfl <;> rfl)
  rw [hmin] at h
  rw [h]
  simp [splice]
 have hi0 : (0 : Int) ≤ (i : Int) := by omega
 have hi1 : (i : Int) ≤ (l.length : Int) := by omega
 have hne : ((i : Int) == (l.length : Int)) = false := by rw [beq_eq_false_iff_ne]; omega
 have hw1 : IntKind.i64.wrap ((l.length : Int) + 1) = (l.length : Int) + 1 := by rw [IntKind.wrap_i64]; omega
 have hw2 : IntKind.i64.wrap ((l.length : Int) + 1 - (i : Int)) = (l.length : Int) + 1 - (i : Int) := by rw [IntKind.wrap_i64]; omega
 have hd : decide ((cap : Int) < (l.length : Int) + 1) = true := by simp; omega
 go_enter Tryz.func181, Tryz.ntmps181
 go_wp2_with (at_builtin; refine wpList_append_run rfl _ _ 24 3 rfl _ _ rfl rfl hap ?_)
 have hX : (triRows (l.drop i)).length = (l.length - i) * 3 := by rw [triRows_len, List.length_drop]
 have hdr : ∀ j v, (triRows (l.drop i))[j]? = some v → cur.toList[i * 3 + j]? = some v := fun j v hj => by
  rw [← triRows_drop l i (by omega), List.getElem?_drop, ← htk, List.getElem?_take] at hj
  split at hj
  ·exact hj
  ·cases hj
 have hw3 : IntKind.i64.wrap ((i : Int) + 1) = (i : Int) + 1 := by rw [IntKind.wrap_i64]; omega
 have hi2 : (0 : Int) ≤ (i : Int) + 1 ∧ (i : Int) + 1 ≤ (l.length : Int) + 1 := by omega
 have hi3 : (i : Int) ≤ (l.length : Int) + 1 := by omega
 have htn : ((i : Int) + 1).toNat = i + 1 := by omega
 have n2 := setRow_heap W1 w.heap.size _ (splice Z (i * 3) [.string t.s, .int .i64 t.x, .int .i64 t.y]).toArray _ _ n1
 have g2 : (W1.setRow w.heap.size (splice Z (i * 3) [.string t.s, .int .i64 t.x, .int .i64 t.y]).toArray).heap[g]? = some (.cells cur 69 (0, 0)) := (setRow_other _ _ _ _ (by omega)).trans g1
 have B2 : Hid (Below w.heap.size w (W1.setRow w.heap.size (splice Z (i * 3) [.string t.s, .int .i64 t.x, .int .i64 t.y]).toArray)) := below_setRow b1 (Nat.le_refl _) _
 have hS1 : (splice Z (i * 3) [.string t.s, .int .i64 t.x, .int .i64 t.y]).length = gc * 3 := by rw [length_splice _ _ _ (by rw [hZl]; simp; omega), hZl]
 have hFIN := splice_new (C := Z) (X := triRows (l.drop i)) (tc := [.string t.s, .int .i64 t.x, .int .i64 t.y]) (i := i) (n := l.length) hX rfl (by omega) (by rw [hZl]; omega)
 have HFIN : Hid ((splice (splice Z (i * 3) [.string t.s, .int .i64 t.x, .int .i64 t.y]) ((i + 1) * 3) (triRows (l.drop i))).take ((l.length + 1) * 3) = triRows (insT l i t) ∧ (splice (splice Z (i * 3) [.string t.s, .int .i64 t.x, .int .i64 t.y]) ((i + 1) * 3) (triRows (l.drop i))).length = gc * 3) := by
  refine ⟨?_, hFIN.2.trans hZl⟩
  rw [hFIN.1, hZt]
  unfold insT
  rw [triRows_app]
  rfl
 clear hFIN hcp hap hold hZ n1 g1 v1 b1 hpre htk hne hw1 hw2 hd hZt hZl hk hk2
 generalize (splice Z (i * 3) [.string t.s, .int .i64 t.x, .int .i64 t.y]) = S1 at *
 generalize (W1.setRow w.heap.size S1.toArray) = W2 at *
 refine wp_region_noPanic ?_
 refine wp_region_held_drew (S := fun _ => True) (by kernel_rfl) trivial (fun hHeld => ?_)
 have n3 : W2.drew.heap[w.heap.size]? = some (.cells S1.toArray 69 (0, 0)) := n2
 have g3 : W2.drew.heap[g]? = some (.cells cur 69 (0, 0)) := g2
 have B3 : Hid (Below w.heap.size w W2.drew) := B2.out.drew
 clear B2 n2 g2
 generalize W2.drew = W3 at *
 refine tkH 0 ?_ rfl ?_ (tkH 1 ?_ rfl ?_ (tkH 2 ?_ rfl ?_ (tkH 3 ?_ rfl ?_ (tkH 4 ?_ rfl ?_ (tkH 5 ?_ rfl ?_ (tkH 6 ?_ rfl ?_ (tkH 7 ?_ rfl ?_ ?_)))))))
 iterate 8 (rotate_left; focus (intro w hSw; (try dsimp only at hSw); simp only [Act.put, tkS]; go_simp; try with_reducible rfl))
 simp only [Act.put, tkS]
 clear hHeld
 refine rdH 8 rfl (fun K hK => ?_)
 have hmn : (triRows (l.drop i)).length = Nat.min (l.length - i) (l.length - i) * 3 := by
  rw [hX]
  congr 1
  exact (Nat.min_self _).symm
 refine step_copyK rfl _ _ 24 24 rfl 69 3 Tryz.underlying24 (by kernel_rfl) w.heap.size ((i + 1) * 3) _ _ ⟨g, i * 3, none⟩ _ _ rfl rfl S1 69 n3 (triRows (l.drop i)) hmn (fun j v hj => ?_) (by rw [hX, hS1]; omega) tri_one ?_
 ·have h1 := hdr j v hj
  rw [addr_add]
  simp only [World.cell?]
  rw [g3]
  simpa using h1
 refine hK.out _ _ trivial (fun _ => ?_)
 clear hK K
 have n4 := setRow_heap W3 w.heap.size _ (splice S1 ((i + 1) * 3) (triRows (l.drop i))).toArray _ _ n3
 have B4 : Hid (Below w.heap.size w (W3.setRow w.heap.size (splice S1 ((i + 1) * 3) (triRows (l.drop i))).toArray)) := below_setRow B3.out (Nat.le_refl _) _
 have OW : Hid ((W3.setRow w.heap.size (splice S1 ((i + 1) * 3) (triRows (l.drop i))).toArray).ownsRow B 69 3 (.slice (some ⟨w.heap.size, 0, none⟩) (l.length + 1) gc) (l.length + 1) (triRows (insT l i t))) := by
  refine ⟨?_, .inr ⟨w.heap.size, gc, _, rfl, hBw, n4, by omega, hle, ?_, ?_⟩⟩
  ·rw [triRows_len]
   unfold insT
   simp
   omega
  ·rw [List.size_toArray]
   exact HFIN.out.2
  ·rw [List.toList_toArray]
   exact HFIN.out.1
 refine wpAnyH_done (by kernel_rfl) ?_ _
 refine NoPanic.normal ?_
 go_wp2_with fail
 go_ret
 exact ⟨_, rfl, OW.out, B4.out.mono hBw⟩
set_option maxRecDepth 100000 in
set_option maxHeartbeats 6400000 in
theorem insertPoint_grow (B g cap vb i : Nat) (l : List Tri) (t : Tri) (cur : Array Value) (w : World) (hi : i < l.length) (hc : l.length ≤ cap) (hr : cap < l.length + 1) (hl : l.length ≤ 1000) (hBw : B ≤ w.heap.size)
  (hg : w.heap[g]? = some (.cells cur 72 (0, 0))) (hcs : cur.size = cap * 3) (htk : cur.toList.take (l.length * 3) = triRows l)
  (hv : w.heap[vb]? = some (.cells #[.string t.s, .int .i64 t.x, .int .i64 t.y] 72 (0, 0))) :
  Calls Tryz.prog 184 #[.slice (some ⟨g, 0, none⟩) l.length cap, .int .i64 i, .slice (some ⟨vb, 0, none⟩) 1 1] w fun e w' => ∃ u, e = .returned u ∧ w'.ownsRow B 72 3 u (l.length + 1) (triRows (insT l i t)) ∧ Below B w w' := by
 obtain ⟨i0, hif, hz0, hz1, hz2⟩ := info_parts infoPointC
 have hCl : cur.toList.length = cap * 3 := by rw [Array.length_toList]; exact hcs
 have hpre : cur.toList.take (i * 3) = triRows (l.take i) := by
  rw [← triRows_take l i (by omega), ← htk, List.take_take]
  congr 1
  omega
 have hold : (Builtin.firstCells i0.size i (.slice (some ⟨g, 0, none⟩) i cap)).run Tryz.prog w.drew = .ok (triRows (l.take i)).toArray w.drew := by
  have h := run_loadCells_list (P := Tryz.prog) w.drew ⟨g, 0, none⟩ (triRows (l.take i)) (fun j v hj => by
   rw [addr_add, Nat.zero_add]
   have hg' : w.drew.heap[g]? = some (.cells cur 72 (0, 0)) := hg
   rw [← hpre, List.getElem?_take] at hj
   split at hj
   ·simp only [World.cell?]
    rw [hg']
    simpa using hj
   ·cases hj)
  rw [triRows_len, List.length_take, Nat.min_eq_left (by omega)] at h
  rw [hz1]
  simpa [Builtin.firstCells, Nat.mul_comm] using h
 have hap := Lib.run_append_grow_zeros (P := Tryz.prog) w 25 3 25 72 i0 _ .i64 .i64 Tryz.underlying25 Tryz.underlying3 hif hz0 (some ⟨g, 0, none⟩) i cap (triRows (l.take i)) hold (l.length + 1 - i) (by omega) (by omega) (by omega) (by omega) (by rw [hz2]; omega) (by rw [hz2]; exact growslice_fits (by omega) (by omega))
 have hk : ((l.length + 1 - i : Nat) : Int) = (l.length : Int) + 1 - (i : Int) := by omega
 have hk2 : i + (l.length + 1 - i) = l.length + 1 := by omega
 rw [hk, hk2] at hap
 have hge := grownCap_ge w (l.length + 1) cap 72
 have hle := grownCap_le_maxLen w (l.length + 1) cap 72 (by unfold maxLen; omega)
 generalize grownCap w (l.length + 1) cap 72 = gc at *
 obtain ⟨Z, hZ⟩ : ∃ Z : List Value, ((triRows (l.take i)).toArray ++ Builtin.zeroCells (Value.agg #[.string ByteArray.empty, .int .i64 0, .int .i64 0]).cells (l.length + 1 - i) ++ Builtin.zeroCells (Value.agg #[.string ByteArray.empty, .int .i64 0, .int .i64 0]).cells (gc - (l.length + 1))) = Z.toArray := ⟨_, (Array.toArray_toList ..).symm⟩
 have hZl : Z.length = gc * 3 := by
  have h := congrArg Array.size hZ
  simp only [Array.size_append, List.size_toArray, size_zeroCells, triRows_len, List.length_take, Value.cells] at h
  simp at h
  omega
 have hZt : Z.take (i * 3) = triRows (l.take i) := by
  have h := congrArg (fun A => A.toList.take (i * 3)) hZ
  simp only [Array.toList_append, List.append_assoc] at h
  rw [List.take_append_of_le_length (by rw [triRows_len, List.length_take]; omega), List.take_of_length_le (by rw [triRows_len, List.length_take]; omega)] at h
  exact h.symm
 rw [hZ] at hap
 have b1 : Below w.heap.size w (w.drew.alloc (.cells Z.toArray 72)) := ((Below.refl _ _).drew).alloc (Nat.le_refl _) _
 have n1 : (w.drew.alloc (.cells Z.toArray 72)).heap[w.heap.size]? = some (.cells Z.toArray 72 (0, 0)) := by show (w.heap.push _)[w.heap.size]? = _; simp
 generalize (w.drew.alloc (.cells Z.toArray 72)) = W1 at *
 have hgl : g < w.heap.size := (Array.getElem?_eq_some_iff.1 hg).1
 have hvl : vb < w.heap.size := (Array.getElem?_eq_some_iff.1 hv).1
 have g1 := (b1.block _ hgl).trans hg
 have v1 := (b1.block _ hvl).trans hv
 have hc1 : ¬ gc = i := by omega
 have hc2 : ¬ gc = i + 1 := by omega
 have hc3 : ¬ cap = i := by omega
 have hmin : Nat.min 1 (l.length + 1 - i) = 1 := Nat.min_eq_left (by omega)
 have hcp : (Builtin.copy_ #[25, 25] 3 #[.slice (some ⟨w.heap.size, i * 3, none⟩) (l.length + 1 - i) (gc - i), .slice (some ⟨vb, 0, none⟩) 1 1]).run Tryz.prog W1 = .ok (goInt 1) (W1.setRow w.heap.size (splice Z (i * 3) [.string t.s, .int .i64 t.x, .int .i64 t.y]).toArray) := by
  have h := run_copyK (P := Tryz.prog) W1 25 25 3 72 3 w.heap.size (i * 3) (l.length + 1 - i) (gc - i) ⟨vb, 0, none⟩ 1 1 Z.toArray 72 [.string t.s, .int .i64 t.x, .int .i64 t.y] Tryz.underlying25 (by kernel_rfl) n1 (by rw [hmin]; rfl) (fun j v hj => by rw [addr_add, Nat.zero_add]; simp only [World.cell?]; rw [v1]; simpa using hj) (by rw [List.size_toArray, hZl]; simp; omega) (fun v hv => by simp only [List.mem_cons, List.not_mem_nil, or_false] at hv; rcases hv with rfl | rfl | rfl <;> rfl)
  rw [hmin] at h
  rw [h]
  simp [splice]
 have hi0 : (0 : Int) ≤ (i : Int) := by omega
 have hi1 : (i : Int) ≤ (l.length : Int) := by omega
 have hne : ((i : Int) == (l.length : Int)) = false := by rw [beq_eq_false_iff_ne]; omega
 have hw1 : IntKind.i64.wrap ((l.length : Int) + 1) = (l.length : Int) + 1 := by rw [IntKind.wrap_i64]; omega
 have hw2 : IntKind.i64.wrap ((l.length : Int) + 1 - (i : Int)) = (l.length : Int) + 1 - (i : Int) := by rw [IntKind.wrap_i64]; omega
 have hd : decide ((cap : Int) < (l.length : Int) + 1) = true := by simp; omega
 go_enter Tryz.func184, Tryz.ntmps184
 go_wp2_with (at_builtin; refine wpList_append_run rfl _ _ 25 3 rfl _ _ rfl rfl hap ?_)
 have hX : (triRows (l.drop i)).length = (l.length - i) * 3 := by rw [triRows_len, List.length_drop]
 have hdr : ∀ j v, (triRows (l.drop i))[j]? = some v → cur.toList[i * 3 + j]? = some v := fun j v hj => by
  rw [← triRows_drop l i (by omega), List.getElem?_drop, ← htk, List.getElem?_take] at hj
  split at hj
  ·exact hj
  ·cases hj
 have hw3 : IntKind.i64.wrap ((i : Int) + 1) = (i : Int) + 1 := by rw [IntKind.wrap_i64]; omega
 have hi2 : (0 : Int) ≤ (i : Int) + 1 ∧ (i : Int) + 1 ≤ (l.length : Int) + 1 := by omega
 have hi3 : (i : Int) ≤ (l.length : Int) + 1 := by omega
 have htn : ((i : Int) + 1).toNat = i + 1 := by omega
 have n2 := setRow_heap W1 w.heap.size _ (splice Z (i * 3) [.string t.s, .int .i64 t.x, .int .i64 t.y]).toArray _ _ n1
 have g2 : (W1.setRow w.heap.size (splice Z (i * 3) [.string t.s, .int .i64 t.x, .int .i64 t.y]).toArray).heap[g]? = some (.cells cur 72 (0, 0)) := (setRow_other _ _ _ _ (by omega)).trans g1
 have B2 : Hid (Below w.heap.size w (W1.setRow w.heap.size (splice Z (i * 3) [.string t.s, .int .i64 t.x, .int .i64 t.y]).toArray)) := below_setRow b1 (Nat.le_refl _) _
 have hS1 : (splice Z (i * 3) [.string t.s, .int .i64 t.x, .int .i64 t.y]).length = gc * 3 := by rw [length_splice _ _ _ (by rw [hZl]; simp; omega), hZl]
 have hFIN := splice_new (C := Z) (X := triRows (l.drop i)) (tc := [.string t.s, .int .i64 t.x, .int .i64 t.y]) (i := i) (n := l.length) hX rfl (by omega) (by rw [hZl]; omega)
 have HFIN : Hid ((splice (splice Z (i * 3) [.string t.s, .int .i64 t.x, .int .i64 t.y]) ((i + 1) * 3) (triRows (l.drop i))).take ((l.length + 1) * 3) = triRows (insT l i t) ∧ (splice (splice Z (i * 3) [.string t.s, .int .i64 t.x, .int .i64 t.y]) ((i + 1) * 3) (triRows (l.drop i))).length = gc * 3) := by
  refine ⟨?_, hFIN.2.trans hZl⟩
  rw [hFIN.1, hZt]
  unfold insT
  rw [triRows_app]
  rfl
 clear hFIN hcp hap hold hZ n1 g1 v1 b1 hpre htk hne hw1 hw2 hd hZt hZl hk hk2
 generalize (splice Z (i * 3) [.string t.s, .int .i64 t.x, .int .i64 t.y]) = S1 at *
 generalize (W1.setRow w.heap.size S1.toArray) = W2 at *
 refine wp_region_noPanic ?_
 refine wp_region_held_drew (S := fun _ => True) (by kernel_rfl) trivial (fun hHeld => ?_)
 have n3 : W2.drew.heap[w.heap.size]? = some (.cells S1.toArray 72 (0, 0)) := n2
 have g3 : W2.drew.heap[g]? = some (.cells cur 72 (0, 0)) := g2
 have B3 : Hid (Below w.heap.size w W2.drew) := B2.out.drew
 clear B2 n2 g2
 generalize W2.drew = W3 at *
 refine tkH 0 ?_ rfl ?_ (tkH 1 ?_ rfl ?_ (tkH 2 ?_ rfl ?_ (tkH 3 ?_ rfl ?_ (tkH 4 ?_ rfl ?_ (tkH 5 ?_ rfl ?_ (tkH 6 ?_ rfl ?_ (tkH 7 ?_ rfl ?_ ?_)))))))
 iterate 8 (rotate_left; focus (intro w hSw; (try dsimp only at hSw); simp only [Act.put, tkS]; go_simp; try with_reducible rfl))
 simp only [Act.put, tkS]
 clear hHeld
 refine rdH 8 rfl (fun K hK => ?_)
 have hmn : (triRows (l.drop i)).length = Nat.min (l.length - i) (l.length - i) * 3 := by
  rw [hX]
  congr 1
  exact (Nat.min_self _).symm
 refine step_copyK rfl _ _ 25 25 rfl 72 3 Tryz.underlying25 (by kernel_rfl) w.heap.size ((i + 1) * 3) _ _ ⟨g, i * 3, none⟩ _ _ rfl rfl S1 72 n3 (triRows (l.drop i)) hmn (fun j v hj => ?_) (by rw [hX, hS1]; omega) tri_one ?_
 ·have h1 := hdr j v hj
  rw [addr_add]
  simp only [World.cell?]
  rw [g3]
  simpa using h1
 refine hK.out _ _ trivial (fun _ => ?_)
 clear hK K
 have n4 := setRow_heap W3 w.heap.size _ (splice S1 ((i + 1) * 3) (triRows (l.drop i))).toArray _ _ n3
 have B4 : Hid (Below w.heap.size w (W3.setRow w.heap.size (splice S1 ((i + 1) * 3) (triRows (l.drop i))).toArray)) := below_setRow B3.out (Nat.le_refl _) _
 have OW : Hid ((W3.setRow w.heap.size (splice S1 ((i + 1) * 3) (triRows (l.drop i))).toArray).ownsRow B 72 3 (.slice (some ⟨w.heap.size, 0, none⟩) (l.length + 1) gc) (l.length + 1) (triRows (insT l i t))) := by
  refine ⟨?_, .inr ⟨w.heap.size, gc, _, rfl, hBw, n4, by omega, hle, ?_, ?_⟩⟩
  ·rw [triRows_len]
   unfold insT
   simp
   omega
  ·rw [List.size_toArray]
   exact HFIN.out.2
  ·rw [List.toList_toArray]
   exact HFIN.out.1
 refine wpAnyH_done (by kernel_rfl) ?_ _
 refine NoPanic.normal ?_
 go_wp2_with fail
 go_ret
 exact ⟨_, rfl, OW.out, B4.out.mono hBw⟩
open Go.RowKit
theorem insertKind_any (B vb i : Nat) (v : Value) (l : List Tri) (t : Tri) (w : World) (hi : i ≤ l.length) (hl : l.length ≤ 1000) (hBw : B ≤ w.heap.size)
  (hown : w.ownsRow B 69 3 v l.length (triRows l)) (hvg : v.ownBlock ≠ some vb)
  (hv : w.heap[vb]? = some (.cells #[.string t.s, .int .i64 t.x, .int .i64 t.y] 69 (0, 0))) :
  Calls Tryz.prog 181 #[v, .int .i64 i, .slice (some ⟨vb, 0, none⟩) 1 1] w fun e w' => ∃ u, e = .returned u ∧ w'.ownsRow B 69 3 u (l.length + 1) (triRows (insT l i t)) ∧ Below B w w' := by
 have hown0 := hown
 obtain ⟨hlen, ⟨rfl, h0⟩ | ⟨g, cap, cur, rfl, hBg, hg, hc, hcm, hcs, htk⟩⟩ := hown
 ·have hi0 : i = 0 := by omega
  subst hi0
  have h := insertKind_end B vb none 0 l t w hl hBw (by unfold maxLen; omega) (by rw [h0]; rw [h0] at hown0; exact hown0) hv
  rw [h0] at h ⊢
  exact h
 ·by_cases he : i = l.length
  ·rw [he]
   exact insertKind_end B vb _ cap l t w hl hBw hcm hown0 hv
  ·by_cases hr : l.length + 1 ≤ cap
   ·exact insertKind_room B g cap vb i l t cur w (by omega) hr hcm hl hBg hg hcs htk hv (fun e => hvg (by rw [e]; rfl))
   ·exact insertKind_grow B g cap vb i l t cur w (by omega) hc (by omega) hl hBw hg hcs htk hv
theorem insertPoint_any (B vb i : Nat) (v : Value) (l : List Tri) (t : Tri) (w : World) (hi : i ≤ l.length) (hl : l.length ≤ 1000) (hBw : B ≤ w.heap.size)
  (hown : w.ownsRow B 72 3 v l.length (triRows l)) (hvg : v.ownBlock ≠ some vb)
  (hv : w.heap[vb]? = some (.cells #[.string t.s, .int .i64 t.x, .int .i64 t.y] 72 (0, 0))) :
  Calls Tryz.prog 184 #[v, .int .i64 i, .slice (some ⟨vb, 0, none⟩) 1 1] w fun e w' => ∃ u, e = .returned u ∧ w'.ownsRow B 72 3 u (l.length + 1) (triRows (insT l i t)) ∧ Below B w w' := by
 have hown0 := hown
 obtain ⟨hlen, ⟨rfl, h0⟩ | ⟨g, cap, cur, rfl, hBg, hg, hc, hcm, hcs, htk⟩⟩ := hown
 ·have hi0 : i = 0 := by omega
  subst hi0
  have h := insertPoint_end B vb none 0 l t w hl hBw (by unfold maxLen; omega) (by rw [h0]; rw [h0] at hown0; exact hown0) hv
  rw [h0] at h ⊢
  exact h
 ·by_cases he : i = l.length
  ·rw [he]
   exact insertPoint_end B vb _ cap l t w hl hBw hcm hown0 hv
  ·by_cases hr : l.length + 1 ≤ cap
   ·exact insertPoint_room B g cap vb i l t cur w (by omega) hr hcm hl hBg hg hcs htk hv (fun e => hvg (by rw [e]; rfl))
   ·exact insertPoint_grow B g cap vb i l t cur w (by omega) hc (by omega) hl hBw hg hcs htk hv
end Go.Proofs.YtcmgddnckohdaaaGreatDoor
