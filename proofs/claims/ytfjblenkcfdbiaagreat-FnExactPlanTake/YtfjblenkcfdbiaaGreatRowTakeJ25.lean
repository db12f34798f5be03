/-
  For the proof of take_holds: part 25 (Put3).
-/
import Derived.Test.YtfjblenkcfdbiaaGreatRowTakeJ24
namespace Go.Proofs.YtfjblenkcfdbiaaGreat
open Go.RowKit
attribute [local go_sem] Later.cell Later.frozen
set_option linter.unusedSimpArgs false
set_option linter.unusedVariables false

/-- The book's box, the field's, the result's. -/
structure P3 (w wr : World) (C : Array Value) (f : Fld) : Prop where
  size : w.heap.size + 2 < wr.heap.size
  a : wr.heap[w.heap.size]? = some (.cells C 39 (0, 0))
  b : wr.heap[w.heap.size + 1]? = some (.cells #[.int .i64 f.what, .int .i64 f.num, .string f.v] 62 (0, 0))
  c : wr.heap[w.heap.size + 1 + 1]? = some (.cells #[.slice none 0 0, .slice none 0 0, .slice none 0 0] 39 (0, 0))
theorem P3.call {w wr wy : World} {C : Array Value} {f : Fld} (h : P3 w wr C f) (hb : Below wr.heap.size wr wy) : P3 w wy C f := by
  have hz := h.size
  exact ⟨Nat.lt_of_lt_of_le hz hb.size, (hb.block _ (by omega)).trans h.a, (hb.block _ (by omega)).trans h.b, (hb.block _ (by omega)).trans h.c⟩
theorem P3.grown {w wr wy : World} {C : Array Value} {f : Fld} {r : Option Nat} (h : P3 w wr C f) (hg : wr.grownBy wy r) (hr : ∀ k, r = some k → k < w.heap.size ∨ w.heap.size + 2 < k) : P3 w wy C f := by
  have hz := h.size
  have hne : ∀ q, w.heap.size ≤ q → q ≤ w.heap.size + 2 → some q ≠ r := fun q h1 h2 e => by have := hr q e.symm; omega
  exact ⟨Nat.lt_of_lt_of_le hz hg.size, (hg.block _ (by omega) (hne _ (by omega) (by omega))).trans h.a, (hg.block _ (by omega) (hne _ (by omega) (by omega))).trans h.b, (hg.block _ (by omega) (hne _ (by omega) (by omega))).trans h.c⟩
theorem P3.start (w : World) (C : Array Value) (f : Fld) : P3 w (((w.alloc (.cells C 39)).alloc (.cells #[.int .i64 f.what, .int .i64 f.num, .string f.v] 62)).alloc (.cells #[.slice none 0 0, .slice none 0 0, .slice none 0 0] 39)) C f := by
  have s1 : (w.alloc (.cells C 39)).heap.size = w.heap.size + 1 := by simp
  have s2 : ((w.alloc (.cells C 39)).alloc (.cells #[.int .i64 f.what, .int .i64 f.num, .string f.v] 62)).heap.size = w.heap.size + 1 + 1 := by simp
  have h1 := heap_newF w (.cells C 39)
  have h2 := heap_newF (w.alloc (.cells C 39)) (.cells #[.int .i64 f.what, .int .i64 f.num, .string f.v] 62)
  have h3 := heap_newF ((w.alloc (.cells C 39)).alloc (.cells #[.int .i64 f.what, .int .i64 f.num, .string f.v] 62)) (.cells #[.slice none 0 0, .slice none 0 0, .slice none 0 0] 39)
  rw [s1] at h2
  rw [s2] at h3
  refine ⟨by simp, ?_, ?_, h3⟩
  · exact (Below.heap_alloc _ _ _ (by omega)).trans ((Below.heap_alloc _ _ _ (by omega)).trans h1)
  · exact (Below.heap_alloc _ _ _ (by omega)).trans h2
theorem P3.cellA {w wr : World} {C : Array Value} {f : Fld} (h : P3 w wr C f) (j : Nat) : wr.cell? ⟨w.heap.size, j, none⟩ = C[j]? := by simp [World.cell?, h.a]
theorem P3.freeA {w wr : World} {C : Array Value} {f : Fld} (h : P3 w wr C f) (j : Nat) : wr.frozen? ⟨w.heap.size, j, none⟩ = false := by simp [World.frozen?, h.a]
theorem P3.cellF {w wr : World} {C : Array Value} {f : Fld} (h : P3 w wr C f) : wr.cell? ⟨w.heap.size + 1, 0, none⟩ = some (.int .i64 f.what) ∧ wr.cell? ⟨w.heap.size + 1, 1, none⟩ = some (.int .i64 f.num) ∧ wr.cell? ⟨w.heap.size + 1, 2, none⟩ = some (.string f.v) := three_cellsF h.b
theorem P3.drew {w wr : World} {C : Array Value} {f : Fld} (h : P3 w wr C f) : P3 w wr.drew C f := ⟨h.size, h.a, h.b, h.c⟩
theorem P3.set {w wr : World} {x y z : Value} {f : Fld} (h : P3 w wr #[x, y, z] f) (v : Value) : P3 w (wr.setCell ⟨w.heap.size, 2, none⟩ v) #[x, y, v] f := by
  have hz := h.size
  refine ⟨by simpa using hz, ?_, ?_, ?_⟩
  · rw [setCell_eq_setRow _ _ _ _ _ _ _ h.a]; exact setRow_heap _ _ _ _ _ _ h.a
  · rw [Below.heap_setCell wr ⟨w.heap.size, 2, none⟩ v (w.heap.size + 1) (by show w.heap.size + 1 ≠ w.heap.size; omega)]; exact h.b
  · rw [Below.heap_setCell wr ⟨w.heap.size, 2, none⟩ v (w.heap.size + 1 + 1) (by show w.heap.size + 1 + 1 ≠ w.heap.size; omega)]; exact h.c
theorem own_new1 {W : World} {B base : Nat} {f : Fld} (h : W.heap[B]? = some (.cells #[.int .i64 f.what, .int .i64 f.num, .string f.v] 62 (0, 0))) (hb : base ≤ B) : W.ownsRow base 62 3 (.slice (some ⟨B, 0, none⟩) 1 1) ([f] : List Fld).length (fldRows [f]) :=
  ⟨rfl, .inr ⟨B, 1, #[.int .i64 f.what, .int .i64 f.num, .string f.v], rfl, hb, h, Nat.le_refl _, by unfold maxLen; omega, rfl, rfl⟩⟩
theorem pair_src {w : World} {B g n cap : Nat} {l : List EntV} (h : PairsNew w B (.slice (some ⟨g, 0, none⟩) n cap) l) : ∀ q u, (pairRows l)[q]? = some u → w.cell? ⟨g, q, none⟩ = some u := fun q u hu => by
  have := h.row.cells (g := g) rfl q u hu
  rw [addr_add, Nat.zero_add] at this
  exact this
theorem psrc_take {w : World} {g : Nat} {l : List EntV} (j : Nat) (h : ∀ q u, (pairRows l)[q]? = some u → w.cell? ⟨g, q, none⟩ = some u) : ∀ q u, (pairRows (l.take j))[q]? = some u → w.cell? ((⟨g, 0, none⟩ : Addr).add q) = some u := fun q u hu => by
  rw [addr_add, Nat.zero_add]
  refine h q u ?_
  have e : pairRows l = pairRows (l.take j) ++ pairRows (l.drop j) := by rw [← pairRows_app, List.take_append_drop]
  rw [e, List.getElem?_append_left (List.getElem?_eq_some_iff.1 hu).1]
  exact hu
theorem psrc_drop {w : World} {g : Nat} {l : List EntV} {j : Nat} (hj : j ≤ l.length) (h : ∀ q u, (pairRows l)[q]? = some u → w.cell? ⟨g, q, none⟩ = some u) : ∀ q u, (pairRows (l.drop j))[q]? = some u → w.cell? ((⟨g, j * 2, none⟩ : Addr).add q) = some u := fun q u hu => by
  rw [addr_add]
  refine h _ u ?_
  have e : pairRows l = pairRows (l.take j) ++ pairRows (l.drop j) := by rw [← pairRows_app, List.take_append_drop]
  have hl : (pairRows (l.take j)).length = j * 2 := by rw [pairRows_length, List.length_take, Nat.min_eq_left hj]
  rw [e, List.getElem?_append_right (by rw [hl]; omega), hl, Nat.add_sub_cancel_left]
  exact hu
theorem pair_cells {w : World} {B g n cap j : Nat} {l : List EntV} {p : EntV} (h : PairsNew w B (.slice (some ⟨g, 0, none⟩) n cap) l) (hp : l[j]? = some p) : w.cell? ⟨g, j * 2, none⟩ = some (.string p.1.name) ∧ w.cell? ⟨g, j * 2 + 1, none⟩ = some p.2 := by
  have e : ∀ r, r < 2 → (pairRows l)[j * 2 + r]? = (pairRow p)[r]? := fun r hr => by
    unfold pairRows
    rw [rows_idx pairRow 2 pairRow_len l j r hr, hp]
    rfl
  exact ⟨pair_src h (j * 2) _ (by simpa [pairRow] using e 0 (by omega)), pair_src h (j * 2 + 1) _ (by simpa [pairRow] using e 1 (by omega))⟩
theorem own_cap {w : World} {B : Nat} {e : TypeId} {c m n cap : Nat} {a : Option Addr} {xs : List Value} (h : w.ownsRow B e c (.slice a m cap) n xs) : n ≤ cap ∧ cap ≤ maxLen := by
  rcases h.2 with ⟨hv, h0⟩ | ⟨g, cap', cur, hv, _, _, h1, h2, _⟩
  · injection hv with _ _ h3
    rw [h0, h3]
    exact ⟨Nat.le_refl _, Nat.zero_le _⟩
  · injection hv with _ _ h3
    rw [h3]
    exact ⟨h1, h2⟩
theorem own_free {w : World} {B : Nat} {e : TypeId} {c m n cap g : Nat} {xs : List Value} (h : w.ownsRow B e c (.slice (some ⟨g, 0, none⟩) m cap) n xs) (q : Nat) : w.frozen? ⟨g, q, none⟩ = false := by
  rcases h.2 with ⟨hv, _⟩ | ⟨g', cap', cur, hv, _, hb, _⟩
  · cases hv
  · cases hv; exact Lib.frozen_of_heap hb q
theorem PairsNew.one {w : World} {B : Nat} {o : Value} {l : List EntV} (h : PairsNew w B o l) : ∀ m : List EntV, (∀ p ∈ m, p ∈ l) → ∀ u ∈ pairRows m, u.oneCell' = true := fun m hm u hu => by
  obtain ⟨p, hp, hu⟩ := List.mem_flatMap.1 hu
  simp only [pairRow, List.mem_cons, List.not_mem_nil, or_false] at hu
  rcases hu with rfl | rfl
  · rfl
  · obtain ⟨a, c, e⟩ := own_slice (h.flds p (hm p hp))
    rw [e]; rfl

set_option maxRecDepth 100000 in
set_option maxHeartbeats 12800000 in
theorem l3Put_any (x y z : Value) (ks ps : List Tri) (es : List Ent) (n : ByteArray) (f : Fld) (lo : Nat) (w : World) (hB : BookNew lo w x y z ks ps es) (hlo : lo ≤ w.heap.size) (hs : es.Pairwise fun a b => blS a.name b.name = true) (le : es.length ≤ 1048576) (lf : ∀ e ∈ es, e.fs.length ≤ 1048576) :
    Calls Tryz.prog 28 #[.agg #[x, y, z], .string n, .agg #[.int .i64 f.what, .int .i64 f.num, .string f.v]] w fun e w' => ∃ z', e = .returned (.agg #[x, y, z']) ∧ BookNew lo w' x y z' ks ps (putE es n f) ∧ Below lo w w' ∧ ∀ (X : Nat) (D : Array Value), w.heap[X]? = some (.cells D 39 (0, 0)) → w'.heap[X]? = some (.cells D 39 (0, 0)) := by
  obtain ⟨i0, hi, hz0, hz1, hz2⟩ := info_parts infoEnt
  have HEA : Hid (EntsAt w z es) := ents_new hB.e
  obtain ⟨hx, hy, l, hl, hE⟩ := hB
  obtain ⟨xa, xc, rfl⟩ := own_slice hx
  obtain ⟨ya, yc, rfl⟩ := own_slice hy
  obtain ⟨za, zc, rfl⟩ := own_slice hE.row
  have HXY : Hid (w.ownsRow lo 116 3 (.slice xa ks.length xc) ks.length (triRows ks) ∧ w.ownsRow lo 118 3 (.slice ya ps.length yc) ps.length (triRows ps)) := ⟨hx, hy⟩
  have HE : Hid (PairsNew w lo (.slice za l.length zc) l) := hE
  have HL : Hid (l.map (·.1) = es) := hl
  have HS : Hid (es.Pairwise fun a b => blS a.name b.name = true) := hs
  have hll1 : l.length ≤ es.length := by rw [← hl, List.length_map]; exact Nat.le_refl _
  have hll2 : es.length ≤ l.length := by rw [← hl, List.length_map]; exact Nat.le_refl _
  have hlm : l.length ≤ 1048576 := by omega
  have HLF : Hid (∀ e ∈ es, e.fs.length ≤ 1048576) := lf
  have HB0 : Hid (Below w.heap.size w (((w.alloc (.cells #[.slice xa ks.length xc, .slice ya ps.length yc, .slice za l.length zc] 39)).alloc (.cells #[.int .i64 f.what, .int .i64 f.num, .string f.v] 62)).alloc (.cells #[.slice none 0 0, .slice none 0 0, .slice none 0 0] 39))) := (((Below.refl _ _).alloc (Nat.le_refl _) _).alloc (by simp) _).alloc (by simp; omega) _
  have HP0 : Hid (P3 w (((w.alloc (.cells #[.slice xa ks.length xc, .slice ya ps.length yc, .slice za l.length zc] 39)).alloc (.cells #[.int .i64 f.what, .int .i64 f.num, .string f.v] 62)).alloc (.cells #[.slice none 0 0, .slice none 0 0, .slice none 0 0] 39)) #[.slice xa ks.length xc, .slice ya ps.length yc, .slice za l.length zc] f) := P3.start w _ f
  clear hx hy hE hl hs lf
  go_enter Tryz.func28, Tryz.ntmps28
  go_wp2_with fail
  refine (l3At_any _ _ _ es n _ (HEA.out.keep HB0.out)).mono ?_
  rintro e w1 ⟨r, rfl, hr, hb1⟩
  have HP1 : Hid (P3 w w1 #[.slice xa ks.length xc, .slice ya ps.length yc, .slice za l.length zc] f) := HP0.out.call hb1
  have HB1 : Hid (Below w.heap.size w w1) := below_step HB0.out hb1
  clear hb1 HB0 HP0
  rcases hr with ⟨rfl, hno⟩ | ⟨k, hk, rfl, hfd⟩
  · have HNO : Hid (∀ e ∈ es, ¬ e.name = n) := fun e he hn => by
      have := List.find?_eq_none.1 hno e he
      simp [hn] at this
    clear hno
    obtain ⟨q0, q1, q2⟩ : w1.cell? ⟨w.heap.size, 0, none⟩ = some (.slice xa ks.length xc) ∧ w1.cell? ⟨w.heap.size, 1, none⟩ = some (.slice ya ps.length yc) ∧ w1.cell? ⟨w.heap.size, 2, none⟩ = some (.slice za l.length zc) := ⟨HP1.out.cellA 0, HP1.out.cellA 1, HP1.out.cellA 2⟩
    go_wp2
    clear q0 q1 q2
    go_loopw [8] (fun i wr => wr = w1 ∧ ∃ j : Nat, j ≤ l.length ∧ i = .int .i64 j ∧ Hid (∀ i, i < j → blS (eat es i).name n = true)) (fun i _ => l.length - (intOf i).toNat)
    case atStart => exact ⟨rfl, 0, Nat.zero_le _, rfl, fun i hi => absurd hi (Nat.not_lt_zero _)⟩
    case round =>
      obtain ⟨rfl, j, hj, rfl, HLT⟩ := hrel
      obtain ⟨q0, q1, q2⟩ : wr.cell? ⟨w.heap.size, 0, none⟩ = some (.slice xa ks.length xc) ∧ wr.cell? ⟨w.heap.size, 1, none⟩ = some (.slice ya ps.length yc) ∧ wr.cell? ⟨w.heap.size, 2, none⟩ = some (.slice za l.length zc) := ⟨HP1.out.cellA 0, HP1.out.cellA 1, HP1.out.cellA 2⟩
      obtain ⟨b0, b1, b2⟩ := HP1.out.cellF
      have hj0 : (0 : Int) ≤ (j : Int) := by omega
      have hjl : (j : Int) ≤ (l.length : Int) := by omega
      by_cases hlt : j < l.length
      · have hj1 : (j : Int) < (l.length : Int) := by omega
        obtain ⟨fv, hfv⟩ := eat_map hlt
        rw [HL.out] at hfv
        have HFO : Hid (w.ownsRow lo 62 3 fv (eat es j).fs.length (fldRows (eat es j).fs)) := HE.out.flds _ (List.mem_of_getElem? hfv)
        obtain ⟨fa, fc, rfl⟩ := own_slice HFO.out
        obtain ⟨g, cap, hv, hgl, hgz⟩ := HE.out.row.form (by omega)
        cases hv
        obtain ⟨hnc, hcm⟩ := own_cap HE.out.row
        unfold maxLen at hcm
        obtain ⟨d0, d1⟩ := pair_cells (HE.out.keep HB1.out) hfv
        dsimp only at d0 d1
        clear hfv HFO
        cases hbl : blS (eat es j).name n
        · have hbd : Op.bytesLess (eat es j).name.toList n.toList = false := hbl
          have HP : Hid (putE es n f = es.take j ++ ⟨n, [f]⟩ :: es.drop j) := putE_in es n f j (by omega) HNO.out HLT.out (fun _ => hbl)
          clear hbl
          have hcc : (l.length : Int) ≤ (zc : Int) := by omega
          have hjc : j ≤ zc := by omega
          have hjn : ¬ zc = j := by omega
          have hal1 : Below wr.heap.size wr (wr.alloc (.cells #[.int .i64 f.what, .int .i64 f.num, .string f.v] 62)) := (Below.refl _ _).alloc (Nat.le_refl _) _
          have hal2 : Below wr.heap.size wr ((wr.alloc (.cells #[.int .i64 f.what, .int .i64 f.num, .string f.v] 62)).alloc (.cells #[.string n, .slice (some ⟨wr.heap.size, 0, none⟩) 1 1] 73)) := hal1.alloc hal1.size _
          have HP2 : Hid (P3 w ((wr.alloc (.cells #[.int .i64 f.what, .int .i64 f.num, .string f.v] 62)).alloc (.cells #[.string n, .slice (some ⟨wr.heap.size, 0, none⟩) 1 1] 73)) #[.slice xa ks.length xc, .slice ya ps.length yc, .slice (some ⟨g, 0, none⟩) l.length zc] f) := HP1.out.call hal2
          have HB2 : Hid (Below w.heap.size w ((wr.alloc (.cells #[.int .i64 f.what, .int .i64 f.num, .string f.v] 62)).alloc (.cells #[.string n, .slice (some ⟨wr.heap.size, 0, none⟩) 1 1] 73))) := below_step HB1.out hal2
          have HF2 : Hid (((wr.alloc (.cells #[.int .i64 f.what, .int .i64 f.num, .string f.v] 62)).alloc (.cells #[.string n, .slice (some ⟨wr.heap.size, 0, none⟩) 1 1] 73)).heap[wr.heap.size]? = some (.cells #[.int .i64 f.what, .int .i64 f.num, .string f.v] 62 (0, 0))) := (Below.heap_alloc _ _ _ (by simp)).trans (heap_newF wr _)
          have he2 := heap_newF (wr.alloc (.cells #[.int .i64 f.what, .int .i64 f.num, .string f.v] 62)) (.cells #[.string n, .slice (some ⟨wr.heap.size, 0, none⟩) 1 1] 73)
          rw [World.size_alloc] at he2
          have HE2 := toHidC he2
          have hwz : w.heap.size + 2 < wr.heap.size := HP1.out.size
          clear hal1 hal2 he2
          go_wp2
          clear q0 q1 q2 b0 b1 b2
          generalize ((wr.alloc (.cells #[.int .i64 f.what, .int .i64 f.num, .string f.v] 62)).alloc (.cells #[.string n, .slice (some ⟨wr.heap.size, 0, none⟩) 1 1] 73)) = wq at *
          refine wp_region_noPanic ?_
          have hed : wq.drew.heap[wr.heap.size + 1]? = some (.cells #[.string n, .slice (some ⟨wr.heap.size, 0, none⟩) 1 1] 73 (0, 0)) := HE2.out
          refine wp_region_till (S := fun w' => w'.cell? ⟨w.heap.size, 2, none⟩ = some (.slice (some ⟨g, 0, none⟩) l.length zc) ∧ w'.cell? ⟨wr.heap.size + 1, 0, none⟩ = some (.string n) ∧ w'.cell? ⟨wr.heap.size + 1, 1, none⟩ = some (.slice (some ⟨wr.heap.size, 0, none⟩) 1 1)) 15 (by kernel_rfl) ?_ (fun hHeld => ?_)
          · exact ⟨HP2.out.drew.cellA 2, by simp [World.cell?, hed], by simp [World.cell?, hed]⟩
          clear hed
          have HPD : Hid (P3 w wq.drew #[.slice xa ks.length xc, .slice ya ps.length yc, .slice (some ⟨g, 0, none⟩) l.length zc] f) := HP2.out.drew
          have HBD : Hid (Below w.heap.size w wq.drew) := HB2.out.drew
          have HED : Hid (wq.drew.heap[wr.heap.size + 1]? = some (.cells #[.string n, .slice (some ⟨wr.heap.size, 0, none⟩) 1 1] 73 (0, 0))) := HE2.out
          have HFD : Hid (wq.drew.heap[wr.heap.size]? = some (.cells #[.int .i64 f.what, .int .i64 f.num, .string f.v] 62 (0, 0))) := HF2.out
          generalize wq.drew = W0 at *
          clear HP2 HB2 HE2 HF2
          refine wpTill_take (i := 1) (v := ?_) rfl (by kernel_rfl) (by kernel_rfl) (by kernel_rfl) (by kernel_rfl) (fun _ _ _ h => h) (Or.inl ⟨by rfl, ?_⟩) (by assumption) ?_
          rotate_left
          · intro w hSw; (try dsimp only at hSw); go_simp; try with_reducible rfl
          simp only [Act.put, List.setIfInBounds_toArray, List.set_cons_zero, List.set_cons_succ, List.getElem_toArray, List.getElem_cons_succ, List.getElem_cons_zero]
          refine wpTill_take (i := 2) (v := ?_) rfl (by kernel_rfl) (by kernel_rfl) (by kernel_rfl) (by kernel_rfl) (fun _ _ _ h => h) (Or.inl ⟨by rfl, ?_⟩) (by assumption) ?_
          rotate_left
          · intro w hSw; (try dsimp only at hSw); go_simp; try with_reducible rfl
          simp only [Act.put, List.setIfInBounds_toArray, List.set_cons_zero, List.set_cons_succ, List.getElem_toArray, List.getElem_cons_succ, List.getElem_cons_zero]
          refine wpTill_take (i := 3) (v := ?_) rfl (by kernel_rfl) (by kernel_rfl) (by kernel_rfl) (by kernel_rfl) (fun _ _ _ h => h) (Or.inl ⟨by rfl, ?_⟩) (by assumption) ?_
          rotate_left
          · intro w hSw; (try dsimp only at hSw); go_simp; try with_reducible rfl
          simp only [Act.put, List.setIfInBounds_toArray, List.set_cons_zero, List.set_cons_succ, List.getElem_toArray, List.getElem_cons_succ, List.getElem_cons_zero]
          refine wpTill_take (i := 4) (v := ?_) rfl (by kernel_rfl) (by kernel_rfl) (by kernel_rfl) (by kernel_rfl) (fun _ _ _ h => h) (Or.inl ⟨by rfl, ?_⟩) (by assumption) ?_
          rotate_left
          · intro w hSw; (try dsimp only at hSw); go_simp; try with_reducible rfl
          simp only [Act.put, List.setIfInBounds_toArray, List.set_cons_zero, List.set_cons_succ, List.getElem_toArray, List.getElem_cons_succ, List.getElem_cons_zero]
          refine wpTill_take (i := 6) (v := ?_) rfl (by kernel_rfl) (by kernel_rfl) (by kernel_rfl) (by kernel_rfl) (fun _ _ _ h => h) (Or.inl ⟨by rfl, ?_⟩) (by assumption) ?_
          rotate_left
          · intro w hSw; (try dsimp only at hSw); go_simp; try with_reducible rfl
          simp only [Act.put, List.setIfInBounds_toArray, List.set_cons_zero, List.set_cons_succ, List.getElem_toArray, List.getElem_cons_succ, List.getElem_cons_zero]
          refine wpTill_take (i := 9) (v := ?_) rfl (by kernel_rfl) (by kernel_rfl) (by kernel_rfl) (by kernel_rfl) (fun _ _ _ h => h) (Or.inl ⟨by rfl, ?_⟩) (by assumption) ?_
          rotate_left
          · intro w hSw; (try dsimp only at hSw); go_simp; try with_reducible rfl
          simp only [Act.put, List.setIfInBounds_toArray, List.set_cons_zero, List.set_cons_succ, List.getElem_toArray, List.getElem_cons_succ, List.getElem_cons_zero]
          refine wpTill_take (i := 10) (v := ?_) rfl (by kernel_rfl) (by kernel_rfl) (by kernel_rfl) (by kernel_rfl) (fun _ _ _ h => h) (Or.inl ⟨by rfl, ?_⟩) (by assumption) ?_
          rotate_left
          · intro w hSw; (try dsimp only at hSw); go_simp; try with_reducible rfl
          simp only [Act.put, List.setIfInBounds_toArray, List.set_cons_zero, List.set_cons_succ, List.getElem_toArray, List.getElem_cons_succ, List.getElem_cons_zero]
          refine wpTill_take (i := 11) (v := ?_) rfl (by kernel_rfl) (by kernel_rfl) (by kernel_rfl) (by kernel_rfl) (fun _ _ _ h => h) (Or.inl ⟨by rfl, ?_⟩) (by assumption) ?_
          rotate_left
          · intro w hSw; (try dsimp only at hSw); go_simp; try with_reducible rfl
          simp only [Act.put, List.setIfInBounds_toArray, List.set_cons_zero, List.set_cons_succ, List.getElem_toArray, List.getElem_cons_succ, List.getElem_cons_zero]
          refine wpTill_take (i := 12) (v := ?_) rfl (by kernel_rfl) (by kernel_rfl) (by kernel_rfl) (by kernel_rfl) (fun _ _ _ h => h) (Or.inl ⟨by rfl, ?_⟩) (by assumption) ?_
          rotate_left
          · intro w hSw; (try dsimp only at hSw); go_simp; try with_reducible rfl
          simp only [Act.put, List.setIfInBounds_toArray, List.set_cons_zero, List.set_cons_succ, List.getElem_toArray, List.getElem_cons_succ, List.getElem_cons_zero]
          clear hHeld
          have hw0 : wr.heap.size + 1 < W0.heap.size := (Array.getElem?_eq_some_iff.1 HED.out).1
          have hlo0 : lo ≤ W0.heap.size := by omega
          have HBW : Hid (Below W0.heap.size W0 W0) := Below.refl _ _
          have HSS : Hid (∀ wx : World, Below W0.heap.size W0 wx → wx.cell? ⟨w.heap.size, 2, none⟩ = some (.slice (some ⟨g, 0, none⟩) l.length zc) ∧ wx.cell? ⟨wr.heap.size + 1, 0, none⟩ = some (.string n) ∧ wx.cell? ⟨wr.heap.size + 1, 1, none⟩ = some (.slice (some ⟨wr.heap.size, 0, none⟩) 1 1)) := fun wx hx => by
            have h1 := (HPD.out.call hx).cellA 2
            have h2 := (hx.block _ hw0).trans HED.out
            exact ⟨h1, by simp [World.cell?, h2], by simp [World.cell?, h2]⟩
          have HSR : Hid (∀ wx : World, Below W0.heap.size W0 wx → ∀ q u, (pairRows l)[q]? = some u → wx.cell? ⟨g, q, none⟩ = some u) := fun wx hx => pair_src ((HE.out.keep HBD.out).keep hx)
          have HON : Hid (∀ m : List EntV, (∀ p ∈ m, p ∈ l) → ∀ u ∈ pairRows m, u.oneCell' = true) := HE.out.one
          refine wpTill_ready (rs := [0, 7]) (by kernel_rfl) (by simp) ?_
          refine AllReadyT.cons rfl (fun K hK => ?_) (AllReadyT.cons rfl (fun K hK => ?_) AllReadyT.nil)
          · go_simp
            have HB2 : Hid (Below W0.heap.size W0 (W0.alloc (.cells #[] 73))) := HBW.out.alloc HBW.out.size _
            have RD : Hid ((W0.alloc (.cells #[] 73)).ownsRow W0.heap.size 73 2 (.slice (some ⟨W0.heap.size, 0, none⟩) 0 0) 0 []) := own_new0 (heap_newF W0 _) HBW.out.size 2
            refine hK.out _ _ (.inr (HSS.out _ HB2.out)) ?_
            clear hK K HBW
            have HBW := HB2
            clear HB2
            generalize W0.alloc (.cells #[] 73) = W1 at *
            refine wpTill_ready (rs := [5, 7]) (by kernel_rfl) (by simp) ?_
            refine AllReadyT.cons rfl (fun K hK => ?_) (AllReadyT.cons rfl (fun K hK => ?_) AllReadyT.nil)
            · refine step_append_any _ rfl _ _ 37 rfl W0.heap.size 73 i0 _ 2 40 Tryz.underlying37 hi hz0 hz1 hz2 rfl (by decide) _ 0 [] rfl RD.out _ j _ (pairRows (l.take j)) rfl (.inr ⟨_, rfl, psrc_take j (HSR.out _ HBW.out)⟩) (by rw [pairRows_length, List.length_take, Nat.min_eq_left hj]) (HON.out _ (fun p hp => List.mem_of_mem_take hp)) (by unfold maxLen; omega) (by omega) HBW.out.size ?_
              intro va W2 hown hgrow hat
              simp only [Nat.zero_add, List.nil_append] at hown
              have HB2 : Hid (Below W0.heap.size W0 W2) := HBW.out.grown hgrow HBW.out.size (fun q e => own_ge RD.out q e)
              refine hK.out _ _ (.inr (HSS.out _ HB2.out)) ?_
              clear hat hgrow RD
              clear hK K HBW
              have HBW := HB2
              clear HB2
              have RD := toHidC hown
              obtain ⟨pa, qa, rfl⟩ := own_slice hown
              clear hown
              refine wpTill_ready (rs := [7]) (by kernel_rfl) (by simp) ?_
              refine AllReadyT.cons rfl (fun K hK => ?_) AllReadyT.nil
              go_simp
              have HB2 : Hid (Below W0.heap.size W0 (W2.alloc (.cells #[.string n, .slice (some ⟨wr.heap.size, 0, none⟩) 1 1] 73))) := HBW.out.alloc HBW.out.size _
              have BX : Hid ((W2.alloc (.cells #[.string n, .slice (some ⟨wr.heap.size, 0, none⟩) 1 1] 73)).heap[W2.heap.size]? = some (.cells #[.string n, .slice (some ⟨wr.heap.size, 0, none⟩) 1 1] 73 (0, 0))) := heap_newF W2 _
              have RD2 := toHidC (ownsRow_keep RD.out ((Below.refl _ W2).alloc (Nat.le_refl _) (.cells #[.string n, .slice (some ⟨wr.heap.size, 0, none⟩) 1 1] 73)))
              have HNE : Hid (∀ q, Value.ownBlock _ = some q → some (W2.heap.size) ≠ some q) := fun q hq e => by have := own_lt RD.out q hq; injection e with e; omega
              refine hK.out _ _ (.inr (HSS.out _ HB2.out)) ?_
              clear hK K HBW
              have HBW := HB2
              clear HB2
              have hBF : W2.heap.size < (W2.alloc (.cells #[.string n, .slice (some ⟨wr.heap.size, 0, none⟩) 1 1] 73)).heap.size := by rw [World.size_alloc]; omega
              clear RD
              have RD := RD2
              clear RD2
              generalize W2.alloc (.cells #[.string n, .slice (some ⟨wr.heap.size, 0, none⟩) 1 1] 73) = W3 at *
              refine wpTill_ready (rs := [8]) (by kernel_rfl) (by simp) ?_
              refine AllReadyT.cons rfl (fun K hK => ?_) AllReadyT.nil
              refine step_append_any _ rfl _ _ 37 rfl W0.heap.size 73 i0 _ 2 40 Tryz.underlying37 hi hz0 hz1 hz2 rfl (by decide) _ j (pairRows (l.take j)) rfl RD.out _ 1 _ [.string n, .slice (some ⟨wr.heap.size, 0, none⟩) 1 1] rfl (.inr ⟨_, rfl, World.news_of_block BX.out⟩) rfl (fun u hu => by simp only [List.mem_cons, List.not_mem_nil, or_false] at hu; rcases hu with rfl | rfl <;> rfl) (by unfold maxLen; omega) (by omega) HBW.out.size ?_
              intro vb W4 hown hgrow hat
              have HB2 : Hid (Below W0.heap.size W0 W4) := HBW.out.grown hgrow HBW.out.size (fun q e => own_ge RD.out q e)
              refine hK.out _ _ (.inr (HSS.out _ HB2.out)) ?_
              clear hat hgrow RD
              clear hK K HBW
              have HBW := HB2
              clear HB2
              have RD := toHidC hown
              obtain ⟨pb, qb, rfl⟩ := own_slice hown
              clear hown
              refine wpTill_ready (rs := [13]) (by kernel_rfl) (by simp) ?_
              refine AllReadyT.cons rfl (fun K hK => ?_) AllReadyT.nil
              refine step_append_any _ rfl _ _ 37 rfl W0.heap.size 73 i0 _ 2 40 Tryz.underlying37 hi hz0 hz1 hz2 rfl (by decide) _ (j + 1) (pairRows (l.take j) ++ [Value.string n, Value.slice (some ⟨wr.heap.size, 0, none⟩) 1 1]) rfl RD.out _ (l.length - j) _ (pairRows (l.drop j)) rfl (.inr ⟨_, rfl, psrc_drop hj (HSR.out _ HBW.out)⟩) (by rw [pairRows_length, List.length_drop]) (HON.out _ (fun p hp => List.mem_of_mem_drop hp)) (by unfold maxLen; omega) (by omega) HBW.out.size ?_
              intro vc W5 hown hgrow hat
              have HB2 : Hid (Below W0.heap.size W0 W5) := HBW.out.grown hgrow HBW.out.size (fun q e => own_ge RD.out q e)
              refine hK.out _ _ (.inr (HSS.out _ HB2.out)) ?_
              clear hat hgrow RD
              clear hK K HBW
              have HBW := HB2
              clear HB2
              have RD := toHidC hown
              obtain ⟨pc, qc, rfl⟩ := own_slice hown
              clear hown
              have hHeld := HSS.out _ HBW.out
              refine wpTill_take (i := 14) (v := ?_) rfl (by kernel_rfl) (by kernel_rfl) (by kernel_rfl) (by kernel_rfl) (fun _ _ _ h => h) (Or.inl ⟨by rfl, ?_⟩) (by assumption) ?_
              rotate_left
              · intro w hSw; (try dsimp only at hSw); go_simp; try with_reducible rfl
              simp only [Act.put, List.setIfInBounds_toArray, List.set_cons_zero, List.set_cons_succ, List.getElem_toArray, List.getElem_cons_succ, List.getElem_cons_zero]
              clear hHeld
              have lz := (HPD.out.call HBW.out).cellA 2
              have lfz := (HPD.out.call HBW.out).freeA 2
              simp only [List.getElem?_toArray, List.getElem?_cons_succ, List.getElem?_cons_zero] at lz
              have hwz5 : w.heap.size < W5.heap.size := by have := (HPD.out.call HBW.out).size; omega
              refine wpTill_ready (rs := [15]) (by kernel_rfl) (by simp) ?_
              refine AllReadyT.cons rfl (fun K hK => ?_) AllReadyT.nil
              go_simp
              refine hK.out _ _ (.inl rfl) ?_
              clear hK K
              refine wpTill_done (by kernel_rfl) ?_ _
              refine NoPanic.normal ?_
              have HP5 := toHidC ((HPD.out.call HBW.out).set (.slice pc (j + 1 + (l.length - j)) qc))
              have HBX : Hid (Below w.heap.size w W5) := below_step HBD.out HBW.out
              have HFIN : Hid (BookNew lo (W5.setCell ⟨w.heap.size, 2, none⟩ (.slice pc (j + 1 + (l.length - j)) qc)) (.slice xa ks.length xc) (.slice ya ps.length yc) (.slice pc (j + 1 + (l.length - j)) qc) ks ps (putE es n f) ∧ Below w.heap.size w (W5.setCell ⟨w.heap.size, 2, none⟩ (.slice pc (j + 1 + (l.length - j)) qc))) := by
                have hins : PairsNew W5 lo (.slice pc (j + 1 + (l.length - j)) qc) (l.take j ++ (⟨n, [f]⟩, .slice (some ⟨wr.heap.size, 0, none⟩) 1 1) :: l.drop j) := by
                  refine HE.out.ins HBX.out (own_new1 ((HBW.out.block _ (by omega)).trans HFD.out) (by omega)) (fun q hq => by have hq2 : wr.heap.size = q := Option.some.inj hq; omega) ?_
                  have h := own_mono RD.out hlo0
                  rw [pairRows_app, pairRows_cons, List.length_append, List.length_cons, List.length_take, List.length_drop, Nat.min_eq_left hj]
                  have e2 : j + (l.length - j + 1) = j + 1 + (l.length - j) := by omega
                  rw [e2, ← List.append_assoc]
                  exact h
                have hbn : BookNew lo W5 (.slice xa ks.length xc) (.slice ya ps.length yc) (.slice pc (j + 1 + (l.length - j)) qc) ks ps (putE es n f) := by
                  refine ⟨ownsRow_keep HXY.out.1 HBX.out, ownsRow_keep HXY.out.2 HBX.out, _, ?_, hins⟩
                  rw [HP.out, List.map_append, List.map_cons, List.map_take, List.map_drop, HL.out]
                exact ⟨hbn.box (HPD.out.call HBW.out).a (grown_setF W5 w.heap.size 2 _), HBX.out.setCell (p := ⟨w.heap.size, 2, none⟩) (Nat.le_refl _) _⟩
              generalize W5.setCell ⟨w.heap.size, 2, none⟩ (.slice pc (j + 1 + (l.length - j)) qc) = W9 at *
              clear lz lfz hwz5
              obtain ⟨q0, q1, q2⟩ : W9.cell? ⟨w.heap.size, 0, none⟩ = some (.slice xa ks.length xc) ∧ W9.cell? ⟨w.heap.size, 1, none⟩ = some (.slice ya ps.length yc) ∧ W9.cell? ⟨w.heap.size, 2, none⟩ = some (.slice pc (j + 1 + (l.length - j)) qc) := ⟨HP5.out.cellA 0, HP5.out.cellA 1, HP5.out.cellA 2⟩
              have hrow := HP5.out.c
              go_wp2_with (refine wpList_store_row rfl 39 _ _ rfl (w.heap.size + 1 + 1) #[.slice xa ks.length xc, .slice ya ps.length yc, .slice pc (j + 1 + (l.length - j)) qc] rfl rfl 39 _ hrow (by kernel_rfl) rfl (by simp [Value.oneCell']) ?_)
              exact bodyPost_ret (v := .agg #[.slice xa ks.length xc, .slice ya ps.length yc, .slice pc (j + 1 + (l.length - j)) qc]) (by simp [results, Tryz.results28, go_sem, cell_setRow_same _ _ _ _ _ _ _ hrow]) rfl ⟨_, rfl, HFIN.out.1.box hrow (grown_rowF W9 (w.heap.size + 1 + 1) _), below_setRow (HFIN.out.2.mono hlo) (by omega) _, fun X D hX => ((below_setRow HFIN.out.2 (by omega) _).block X (Array.getElem?_eq_some_iff.1 hX).1).trans hX⟩
            · go_simp
              have HB2 : Hid (Below W0.heap.size W0 (W1.alloc (.cells #[.string n, .slice (some ⟨wr.heap.size, 0, none⟩) 1 1] 73))) := HBW.out.alloc HBW.out.size _
              have BX : Hid ((W1.alloc (.cells #[.string n, .slice (some ⟨wr.heap.size, 0, none⟩) 1 1] 73)).heap[W1.heap.size]? = some (.cells #[.string n, .slice (some ⟨wr.heap.size, 0, none⟩) 1 1] 73 (0, 0))) := heap_newF W1 _
              have RD2 := toHidC (ownsRow_keep RD.out ((Below.refl _ W1).alloc (Nat.le_refl _) (.cells #[.string n, .slice (some ⟨wr.heap.size, 0, none⟩) 1 1] 73)))
              have HNE : Hid (∀ q, Value.ownBlock _ = some q → some (W1.heap.size) ≠ some q) := fun q hq e => by have := own_lt RD.out q hq; injection e with e; omega
              refine hK.out _ _ (.inr (HSS.out _ HB2.out)) ?_
              clear hK K HBW
              have HBW := HB2
              clear HB2
              have hBF : W1.heap.size < (W1.alloc (.cells #[.string n, .slice (some ⟨wr.heap.size, 0, none⟩) 1 1] 73)).heap.size := by rw [World.size_alloc]; omega
              clear RD
              have RD := RD2
              clear RD2
              generalize W1.alloc (.cells #[.string n, .slice (some ⟨wr.heap.size, 0, none⟩) 1 1] 73) = W2 at *
              refine wpTill_ready (rs := [5]) (by kernel_rfl) (by simp) ?_
              refine AllReadyT.cons rfl (fun K hK => ?_) AllReadyT.nil
              refine step_append_any _ rfl _ _ 37 rfl W0.heap.size 73 i0 _ 2 40 Tryz.underlying37 hi hz0 hz1 hz2 rfl (by decide) _ 0 [] rfl RD.out _ j _ (pairRows (l.take j)) rfl (.inr ⟨_, rfl, psrc_take j (HSR.out _ HBW.out)⟩) (by rw [pairRows_length, List.length_take, Nat.min_eq_left hj]) (HON.out _ (fun p hp => List.mem_of_mem_take hp)) (by unfold maxLen; omega) (by omega) HBW.out.size ?_
              intro va W3 hown hgrow hat
              simp only [Nat.zero_add, List.nil_append] at hown
              have HB2 : Hid (Below W0.heap.size W0 W3) := HBW.out.grown hgrow HBW.out.size (fun q e => own_ge RD.out q e)
              have BX2 := toHidC ((hgrow.block _ hBF (fun e => HNE.out _ e.symm rfl)).trans BX.out)
              have hBF2 := Nat.lt_of_lt_of_le hBF hgrow.size
              refine hK.out _ _ (.inr (HSS.out _ HB2.out)) ?_
              clear hat hgrow RD
              clear BX HNE hBF
              have BX := BX2
              have hBF := hBF2
              clear BX2 hBF2
              clear hK K HBW
              have HBW := HB2
              clear HB2
              have RD := toHidC hown
              obtain ⟨pa, qa, rfl⟩ := own_slice hown
              clear hown
              refine wpTill_ready (rs := [8]) (by kernel_rfl) (by simp) ?_
              refine AllReadyT.cons rfl (fun K hK => ?_) AllReadyT.nil
              refine step_append_any _ rfl _ _ 37 rfl W0.heap.size 73 i0 _ 2 40 Tryz.underlying37 hi hz0 hz1 hz2 rfl (by decide) _ j (pairRows (l.take j)) rfl RD.out _ 1 _ [.string n, .slice (some ⟨wr.heap.size, 0, none⟩) 1 1] rfl (.inr ⟨_, rfl, World.news_of_block BX.out⟩) rfl (fun u hu => by simp only [List.mem_cons, List.not_mem_nil, or_false] at hu; rcases hu with rfl | rfl <;> rfl) (by unfold maxLen; omega) (by omega) HBW.out.size ?_
              intro vb W4 hown hgrow hat
              have HB2 : Hid (Below W0.heap.size W0 W4) := HBW.out.grown hgrow HBW.out.size (fun q e => own_ge RD.out q e)
              refine hK.out _ _ (.inr (HSS.out _ HB2.out)) ?_
              clear hat hgrow RD
              clear hK K HBW
              have HBW := HB2
              clear HB2
              have RD := toHidC hown
              obtain ⟨pb, qb, rfl⟩ := own_slice hown
              clear hown
              refine wpTill_ready (rs := [13]) (by kernel_rfl) (by simp) ?_
              refine AllReadyT.cons rfl (fun K hK => ?_) AllReadyT.nil
              refine step_append_any _ rfl _ _ 37 rfl W0.heap.size 73 i0 _ 2 40 Tryz.underlying37 hi hz0 hz1 hz2 rfl (by decide) _ (j + 1) (pairRows (l.take j) ++ [Value.string n, Value.slice (some ⟨wr.heap.size, 0, none⟩) 1 1]) rfl RD.out _ (l.length - j) _ (pairRows (l.drop j)) rfl (.inr ⟨_, rfl, psrc_drop hj (HSR.out _ HBW.out)⟩) (by rw [pairRows_length, List.length_drop]) (HON.out _ (fun p hp => List.mem_of_mem_drop hp)) (by unfold maxLen; omega) (by omega) HBW.out.size ?_
              intro vc W5 hown hgrow hat
              have HB2 : Hid (Below W0.heap.size W0 W5) := HBW.out.grown hgrow HBW.out.size (fun q e => own_ge RD.out q e)
              refine hK.out _ _ (.inr (HSS.out _ HB2.out)) ?_
              clear hat hgrow RD
              clear hK K HBW
              have HBW := HB2
              clear HB2
              have RD := toHidC hown
              obtain ⟨pc, qc, rfl⟩ := own_slice hown
              clear hown
              have hHeld := HSS.out _ HBW.out
              refine wpTill_take (i := 14) (v := ?_) rfl (by kernel_rfl) (by kernel_rfl) (by kernel_rfl) (by kernel_rfl) (fun _ _ _ h => h) (Or.inl ⟨by rfl, ?_⟩) (by assumption) ?_
              rotate_left
              · intro w hSw; (try dsimp only at hSw); go_simp; try with_reducible rfl
              simp only [Act.put, List.setIfInBounds_toArray, List.set_cons_zero, List.set_cons_succ, List.getElem_toArray, List.getElem_cons_succ, List.getElem_cons_zero]
              clear hHeld
              have lz := (HPD.out.call HBW.out).cellA 2
              have lfz := (HPD.out.call HBW.out).freeA 2
              simp only [List.getElem?_toArray, List.getElem?_cons_succ, List.getElem?_cons_zero] at lz
              have hwz5 : w.heap.size < W5.heap.size := by have := (HPD.out.call HBW.out).size; omega
              refine wpTill_ready (rs := [15]) (by kernel_rfl) (by simp) ?_
              refine AllReadyT.cons rfl (fun K hK => ?_) AllReadyT.nil
              go_simp
              refine hK.out _ _ (.inl rfl) ?_
              clear hK K
              refine wpTill_done (by kernel_rfl) ?_ _
              refine NoPanic.normal ?_
              have HP5 := toHidC ((HPD.out.call HBW.out).set (.slice pc (j + 1 + (l.length - j)) qc))
              have HBX : Hid (Below w.heap.size w W5) := below_step HBD.out HBW.out
              have HFIN : Hid (BookNew lo (W5.setCell ⟨w.heap.size, 2, none⟩ (.slice pc (j + 1 + (l.length - j)) qc)) (.slice xa ks.length xc) (.slice ya ps.length yc) (.slice pc (j + 1 + (l.length - j)) qc) ks ps (putE es n f) ∧ Below w.heap.size w (W5.setCell ⟨w.heap.size, 2, none⟩ (.slice pc (j + 1 + (l.length - j)) qc))) := by
                have hins : PairsNew W5 lo (.slice pc (j + 1 + (l.length - j)) qc) (l.take j ++ (⟨n, [f]⟩, .slice (some ⟨wr.heap.size, 0, none⟩) 1 1) :: l.drop j) := by
                  refine HE.out.ins HBX.out (own_new1 ((HBW.out.block _ (by omega)).trans HFD.out) (by omega)) (fun q hq => by have hq2 : wr.heap.size = q := Option.some.inj hq; omega) ?_
                  have h := own_mono RD.out hlo0
                  rw [pairRows_app, pairRows_cons, List.length_append, List.length_cons, List.length_take, List.length_drop, Nat.min_eq_left hj]
                  have e2 : j + (l.length - j + 1) = j + 1 + (l.length - j) := by omega
                  rw [e2, ← List.append_assoc]
                  exact h
                have hbn : BookNew lo W5 (.slice xa ks.length xc) (.slice ya ps.length yc) (.slice pc (j + 1 + (l.length - j)) qc) ks ps (putE es n f) := by
                  refine ⟨ownsRow_keep HXY.out.1 HBX.out, ownsRow_keep HXY.out.2 HBX.out, _, ?_, hins⟩
                  rw [HP.out, List.map_append, List.map_cons, List.map_take, List.map_drop, HL.out]
                exact ⟨hbn.box (HPD.out.call HBW.out).a (grown_setF W5 w.heap.size 2 _), HBX.out.setCell (p := ⟨w.heap.size, 2, none⟩) (Nat.le_refl _) _⟩
              generalize W5.setCell ⟨w.heap.size, 2, none⟩ (.slice pc (j + 1 + (l.length - j)) qc) = W9 at *
              clear lz lfz hwz5
              obtain ⟨q0, q1, q2⟩ : W9.cell? ⟨w.heap.size, 0, none⟩ = some (.slice xa ks.length xc) ∧ W9.cell? ⟨w.heap.size, 1, none⟩ = some (.slice ya ps.length yc) ∧ W9.cell? ⟨w.heap.size, 2, none⟩ = some (.slice pc (j + 1 + (l.length - j)) qc) := ⟨HP5.out.cellA 0, HP5.out.cellA 1, HP5.out.cellA 2⟩
              have hrow := HP5.out.c
              go_wp2_with (refine wpList_store_row rfl 39 _ _ rfl (w.heap.size + 1 + 1) #[.slice xa ks.length xc, .slice ya ps.length yc, .slice pc (j + 1 + (l.length - j)) qc] rfl rfl 39 _ hrow (by kernel_rfl) rfl (by simp [Value.oneCell']) ?_)
              exact bodyPost_ret (v := .agg #[.slice xa ks.length xc, .slice ya ps.length yc, .slice pc (j + 1 + (l.length - j)) qc]) (by simp [results, Tryz.results28, go_sem, cell_setRow_same _ _ _ _ _ _ _ hrow]) rfl ⟨_, rfl, HFIN.out.1.box hrow (grown_rowF W9 (w.heap.size + 1 + 1) _), below_setRow (HFIN.out.2.mono hlo) (by omega) _, fun X D hX => ((below_setRow HFIN.out.2 (by omega) _).block X (Array.getElem?_eq_some_iff.1 hX).1).trans hX⟩
          · go_simp
            have HB2 : Hid (Below W0.heap.size W0 (W0.alloc (.cells #[.string n, .slice (some ⟨wr.heap.size, 0, none⟩) 1 1] 73))) := HBW.out.alloc HBW.out.size _
            have BX : Hid ((W0.alloc (.cells #[.string n, .slice (some ⟨wr.heap.size, 0, none⟩) 1 1] 73)).heap[W0.heap.size]? = some (.cells #[.string n, .slice (some ⟨wr.heap.size, 0, none⟩) 1 1] 73 (0, 0))) := heap_newF W0 _
            refine hK.out _ _ (.inr (HSS.out _ HB2.out)) ?_
            clear hK K HBW
            have HBW := HB2
            clear HB2
            have hBF : W0.heap.size < (W0.alloc (.cells #[.string n, .slice (some ⟨wr.heap.size, 0, none⟩) 1 1] 73)).heap.size := by rw [World.size_alloc]; omega
            generalize W0.alloc (.cells #[.string n, .slice (some ⟨wr.heap.size, 0, none⟩) 1 1] 73) = W1 at *
            refine wpTill_ready (rs := [0]) (by kernel_rfl) (by simp) ?_
            refine AllReadyT.cons rfl (fun K hK => ?_) AllReadyT.nil
            go_simp
            have HB2 : Hid (Below W0.heap.size W0 (W1.alloc (.cells #[] 73))) := HBW.out.alloc HBW.out.size _
            have RD : Hid ((W1.alloc (.cells #[] 73)).ownsRow W0.heap.size 73 2 (.slice (some ⟨W1.heap.size, 0, none⟩) 0 0) 0 []) := own_new0 (heap_newF W1 _) HBW.out.size 2
            have HNE : Hid (∀ q, (Value.slice (some ⟨W1.heap.size, 0, none⟩) 0 0).ownBlock = some q → some (W0.heap.size) ≠ some q) := fun q hq e => by have hq2 : W1.heap.size = q := Option.some.inj hq; injection e with e; omega
            have BX2 := toHidC ((Below.heap_alloc W1 (.cells #[] 73) _ hBF).trans BX.out)
            have hBF2 : W0.heap.size < (W1.alloc (.cells #[] 73)).heap.size := by rw [World.size_alloc]; omega
            refine hK.out _ _ (.inr (HSS.out _ HB2.out)) ?_
            clear hK K HBW
            have HBW := HB2
            clear HB2
            clear BX hBF
            have BX := BX2
            have hBF := hBF2
            clear BX2 hBF2
            generalize W1.alloc (.cells #[] 73) = W2 at *
            refine wpTill_ready (rs := [5]) (by kernel_rfl) (by simp) ?_
            refine AllReadyT.cons rfl (fun K hK => ?_) AllReadyT.nil
            refine step_append_any _ rfl _ _ 37 rfl W0.heap.size 73 i0 _ 2 40 Tryz.underlying37 hi hz0 hz1 hz2 rfl (by decide) _ 0 [] rfl RD.out _ j _ (pairRows (l.take j)) rfl (.inr ⟨_, rfl, psrc_take j (HSR.out _ HBW.out)⟩) (by rw [pairRows_length, List.length_take, Nat.min_eq_left hj]) (HON.out _ (fun p hp => List.mem_of_mem_take hp)) (by unfold maxLen; omega) (by omega) HBW.out.size ?_
            intro va W3 hown hgrow hat
            simp only [Nat.zero_add, List.nil_append] at hown
            have HB2 : Hid (Below W0.heap.size W0 W3) := HBW.out.grown hgrow HBW.out.size (fun q e => own_ge RD.out q e)
            have BX2 := toHidC ((hgrow.block _ hBF (fun e => HNE.out _ e.symm rfl)).trans BX.out)
            have hBF2 := Nat.lt_of_lt_of_le hBF hgrow.size
            refine hK.out _ _ (.inr (HSS.out _ HB2.out)) ?_
            clear hat hgrow RD
            clear BX HNE hBF
            have BX := BX2
            have hBF := hBF2
            clear BX2 hBF2
            clear hK K HBW
            have HBW := HB2
            clear HB2
            have RD := toHidC hown
            obtain ⟨pa, qa, rfl⟩ := own_slice hown
            clear hown
            refine wpTill_ready (rs := [8]) (by kernel_rfl) (by simp) ?_
            refine AllReadyT.cons rfl (fun K hK => ?_) AllReadyT.nil
            refine step_append_any _ rfl _ _ 37 rfl W0.heap.size 73 i0 _ 2 40 Tryz.underlying37 hi hz0 hz1 hz2 rfl (by decide) _ j (pairRows (l.take j)) rfl RD.out _ 1 _ [.string n, .slice (some ⟨wr.heap.size, 0, none⟩) 1 1] rfl (.inr ⟨_, rfl, World.news_of_block BX.out⟩) rfl (fun u hu => by simp only [List.mem_cons, List.not_mem_nil, or_false] at hu; rcases hu with rfl | rfl <;> rfl) (by unfold maxLen; omega) (by omega) HBW.out.size ?_
            intro vb W4 hown hgrow hat
            have HB2 : Hid (Below W0.heap.size W0 W4) := HBW.out.grown hgrow HBW.out.size (fun q e => own_ge RD.out q e)
            refine hK.out _ _ (.inr (HSS.out _ HB2.out)) ?_
            clear hat hgrow RD
            clear hK K HBW
            have HBW := HB2
            clear HB2
            have RD := toHidC hown
            obtain ⟨pb, qb, rfl⟩ := own_slice hown
            clear hown
            refine wpTill_ready (rs := [13]) (by kernel_rfl) (by simp) ?_
            refine AllReadyT.cons rfl (fun K hK => ?_) AllReadyT.nil
            refine step_append_any _ rfl _ _ 37 rfl W0.heap.size 73 i0 _ 2 40 Tryz.underlying37 hi hz0 hz1 hz2 rfl (by decide) _ (j + 1) (pairRows (l.take j) ++ [Value.string n, Value.slice (some ⟨wr.heap.size, 0, none⟩) 1 1]) rfl RD.out _ (l.length - j) _ (pairRows (l.drop j)) rfl (.inr ⟨_, rfl, psrc_drop hj (HSR.out _ HBW.out)⟩) (by rw [pairRows_length, List.length_drop]) (HON.out _ (fun p hp => List.mem_of_mem_drop hp)) (by unfold maxLen; omega) (by omega) HBW.out.size ?_
            intro vc W5 hown hgrow hat
            have HB2 : Hid (Below W0.heap.size W0 W5) := HBW.out.grown hgrow HBW.out.size (fun q e => own_ge RD.out q e)
            refine hK.out _ _ (.inr (HSS.out _ HB2.out)) ?_
            clear hat hgrow RD
            clear hK K HBW
            have HBW := HB2
            clear HB2
            have RD := toHidC hown
            obtain ⟨pc, qc, rfl⟩ := own_slice hown
            clear hown
            have hHeld := HSS.out _ HBW.out
            refine wpTill_take (i := 14) (v := ?_) rfl (by kernel_rfl) (by kernel_rfl) (by kernel_rfl) (by kernel_rfl) (fun _ _ _ h => h) (Or.inl ⟨by rfl, ?_⟩) (by assumption) ?_
            rotate_left
            · intro w hSw; (try dsimp only at hSw); go_simp; try with_reducible rfl
            simp only [Act.put, List.setIfInBounds_toArray, List.set_cons_zero, List.set_cons_succ, List.getElem_toArray, List.getElem_cons_succ, List.getElem_cons_zero]
            clear hHeld
            have lz := (HPD.out.call HBW.out).cellA 2
            have lfz := (HPD.out.call HBW.out).freeA 2
            simp only [List.getElem?_toArray, List.getElem?_cons_succ, List.getElem?_cons_zero] at lz
            have hwz5 : w.heap.size < W5.heap.size := by have := (HPD.out.call HBW.out).size; omega
            refine wpTill_ready (rs := [15]) (by kernel_rfl) (by simp) ?_
            refine AllReadyT.cons rfl (fun K hK => ?_) AllReadyT.nil
            go_simp
            refine hK.out _ _ (.inl rfl) ?_
            clear hK K
            refine wpTill_done (by kernel_rfl) ?_ _
            refine NoPanic.normal ?_
            have HP5 := toHidC ((HPD.out.call HBW.out).set (.slice pc (j + 1 + (l.length - j)) qc))
            have HBX : Hid (Below w.heap.size w W5) := below_step HBD.out HBW.out
            have HFIN : Hid (BookNew lo (W5.setCell ⟨w.heap.size, 2, none⟩ (.slice pc (j + 1 + (l.length - j)) qc)) (.slice xa ks.length xc) (.slice ya ps.length yc) (.slice pc (j + 1 + (l.length - j)) qc) ks ps (putE es n f) ∧ Below w.heap.size w (W5.setCell ⟨w.heap.size, 2, none⟩ (.slice pc (j + 1 + (l.length - j)) qc))) := by
              have hins : PairsNew W5 lo (.slice pc (j + 1 + (l.length - j)) qc) (l.take j ++ (⟨n, [f]⟩, .slice (some ⟨wr.heap.size, 0, none⟩) 1 1) :: l.drop j) := by
                refine HE.out.ins HBX.out (own_new1 ((HBW.out.block _ (by omega)).trans HFD.out) (by omega)) (fun q hq => by have hq2 : wr.heap.size = q := Option.some.inj hq; omega) ?_
                have h := own_mono RD.out hlo0
                rw [pairRows_app, pairRows_cons, List.length_append, List.length_cons, List.length_take, List.length_drop, Nat.min_eq_left hj]
                have e2 : j + (l.length - j + 1) = j + 1 + (l.length - j) := by omega
                rw [e2, ← List.append_assoc]
                exact h
              have hbn : BookNew lo W5 (.slice xa ks.length xc) (.slice ya ps.length yc) (.slice pc (j + 1 + (l.length - j)) qc) ks ps (putE es n f) := by
                refine ⟨ownsRow_keep HXY.out.1 HBX.out, ownsRow_keep HXY.out.2 HBX.out, _, ?_, hins⟩
                rw [HP.out, List.map_append, List.map_cons, List.map_take, List.map_drop, HL.out]
              exact ⟨hbn.box (HPD.out.call HBW.out).a (grown_setF W5 w.heap.size 2 _), HBX.out.setCell (p := ⟨w.heap.size, 2, none⟩) (Nat.le_refl _) _⟩
            generalize W5.setCell ⟨w.heap.size, 2, none⟩ (.slice pc (j + 1 + (l.length - j)) qc) = W9 at *
            clear lz lfz hwz5
            obtain ⟨q0, q1, q2⟩ : W9.cell? ⟨w.heap.size, 0, none⟩ = some (.slice xa ks.length xc) ∧ W9.cell? ⟨w.heap.size, 1, none⟩ = some (.slice ya ps.length yc) ∧ W9.cell? ⟨w.heap.size, 2, none⟩ = some (.slice pc (j + 1 + (l.length - j)) qc) := ⟨HP5.out.cellA 0, HP5.out.cellA 1, HP5.out.cellA 2⟩
            have hrow := HP5.out.c
            go_wp2_with (refine wpList_store_row rfl 39 _ _ rfl (w.heap.size + 1 + 1) #[.slice xa ks.length xc, .slice ya ps.length yc, .slice pc (j + 1 + (l.length - j)) qc] rfl rfl 39 _ hrow (by kernel_rfl) rfl (by simp [Value.oneCell']) ?_)
            exact bodyPost_ret (v := .agg #[.slice xa ks.length xc, .slice ya ps.length yc, .slice pc (j + 1 + (l.length - j)) qc]) (by simp [results, Tryz.results28, go_sem, cell_setRow_same _ _ _ _ _ _ _ hrow]) rfl ⟨_, rfl, HFIN.out.1.box hrow (grown_rowF W9 (w.heap.size + 1 + 1) _), below_setRow (HFIN.out.2.mono hlo) (by omega) _, fun X D hX => ((below_setRow HFIN.out.2 (by omega) _).block X (Array.getElem?_eq_some_iff.1 hX).1).trans hX⟩
        · have hbd : Op.bytesLess (eat es j).name.toList n.toList = true := hbl
          have HN2 : Hid (∀ i, i < j + 1 → blS (eat es i).name n = true) := fun i hi => by
            by_cases e : i = j
            · subst e; exact hbl
            · exact HLT.out i (by omega)
          clear hbl
          go_wp2
          exact ⟨⟨by trivial, j + 1, by omega, by go_num, HN2⟩, by simp [intOf]; omega⟩
      · have HP : Hid (putE es n f = es.take j ++ ⟨n, [f]⟩ :: es.drop j) := putE_in es n f j (by omega) HNO.out HLT.out (fun h => absurd h (by omega))
        have hcase := HE.out.row.2
        rcases hcase with ⟨hv, h0⟩ | ⟨g, cap, cur, hv, hgl, -, hnc, hcm, -, -⟩
        · injection hv with e1 e2 e3
          subst e1
          subst e3
          have hj00 : j = 0 := by omega
          subst hj00
          clear hj0 hjl e2
          have hal1 : Below wr.heap.size wr (wr.alloc (.cells #[.int .i64 f.what, .int .i64 f.num, .string f.v] 62)) := (Below.refl _ _).alloc (Nat.le_refl _) _
          have hal2 : Below wr.heap.size wr ((wr.alloc (.cells #[.int .i64 f.what, .int .i64 f.num, .string f.v] 62)).alloc (.cells #[.string n, .slice (some ⟨wr.heap.size, 0, none⟩) 1 1] 73)) := hal1.alloc hal1.size _
          have HP2 : Hid (P3 w ((wr.alloc (.cells #[.int .i64 f.what, .int .i64 f.num, .string f.v] 62)).alloc (.cells #[.string n, .slice (some ⟨wr.heap.size, 0, none⟩) 1 1] 73)) #[.slice xa ks.length xc, .slice ya ps.length yc, .slice none l.length 0] f) := HP1.out.call hal2
          have HB2 : Hid (Below w.heap.size w ((wr.alloc (.cells #[.int .i64 f.what, .int .i64 f.num, .string f.v] 62)).alloc (.cells #[.string n, .slice (some ⟨wr.heap.size, 0, none⟩) 1 1] 73))) := below_step HB1.out hal2
          have HF2 : Hid (((wr.alloc (.cells #[.int .i64 f.what, .int .i64 f.num, .string f.v] 62)).alloc (.cells #[.string n, .slice (some ⟨wr.heap.size, 0, none⟩) 1 1] 73)).heap[wr.heap.size]? = some (.cells #[.int .i64 f.what, .int .i64 f.num, .string f.v] 62 (0, 0))) := (Below.heap_alloc _ _ _ (by simp)).trans (heap_newF wr _)
          have he2 := heap_newF (wr.alloc (.cells #[.int .i64 f.what, .int .i64 f.num, .string f.v] 62)) (.cells #[.string n, .slice (some ⟨wr.heap.size, 0, none⟩) 1 1] 73)
          rw [World.size_alloc] at he2
          have HE2 := toHidC he2
          have hwz : w.heap.size + 2 < wr.heap.size := HP1.out.size
          clear hal1 hal2 he2
          go_wp2
          clear q0 q1 q2 b0 b1 b2
          generalize ((wr.alloc (.cells #[.int .i64 f.what, .int .i64 f.num, .string f.v] 62)).alloc (.cells #[.string n, .slice (some ⟨wr.heap.size, 0, none⟩) 1 1] 73)) = wq at *
          refine wp_region_noPanic ?_
          have hed : wq.drew.heap[wr.heap.size + 1]? = some (.cells #[.string n, .slice (some ⟨wr.heap.size, 0, none⟩) 1 1] 73 (0, 0)) := HE2.out
          refine wp_region_till (S := fun w' => w'.cell? ⟨w.heap.size, 2, none⟩ = some (.slice none l.length 0) ∧ w'.cell? ⟨wr.heap.size + 1, 0, none⟩ = some (.string n) ∧ w'.cell? ⟨wr.heap.size + 1, 1, none⟩ = some (.slice (some ⟨wr.heap.size, 0, none⟩) 1 1)) 15 (by kernel_rfl) ?_ (fun hHeld => ?_)
          · exact ⟨HP2.out.drew.cellA 2, by simp [World.cell?, hed], by simp [World.cell?, hed]⟩
          clear hed
          have HPD : Hid (P3 w wq.drew #[.slice xa ks.length xc, .slice ya ps.length yc, .slice none l.length 0] f) := HP2.out.drew
          have HBD : Hid (Below w.heap.size w wq.drew) := HB2.out.drew
          have HED : Hid (wq.drew.heap[wr.heap.size + 1]? = some (.cells #[.string n, .slice (some ⟨wr.heap.size, 0, none⟩) 1 1] 73 (0, 0))) := HE2.out
          have HFD : Hid (wq.drew.heap[wr.heap.size]? = some (.cells #[.int .i64 f.what, .int .i64 f.num, .string f.v] 62 (0, 0))) := HF2.out
          generalize wq.drew = W0 at *
          clear HP2 HB2 HE2 HF2
          refine wpTill_take (i := 1) (v := ?_) rfl (by kernel_rfl) (by kernel_rfl) (by kernel_rfl) (by kernel_rfl) (fun _ _ _ h => h) (Or.inl ⟨by rfl, ?_⟩) (by assumption) ?_
          rotate_left
          · intro w hSw; (try dsimp only at hSw); go_simp; try with_reducible rfl
          simp only [Act.put, List.setIfInBounds_toArray, List.set_cons_zero, List.set_cons_succ, List.getElem_toArray, List.getElem_cons_succ, List.getElem_cons_zero]
          refine wpTill_take (i := 2) (v := ?_) rfl (by kernel_rfl) (by kernel_rfl) (by kernel_rfl) (by kernel_rfl) (fun _ _ _ h => h) (Or.inl ⟨by rfl, ?_⟩) (by assumption) ?_
          rotate_left
          · intro w hSw; (try dsimp only at hSw); go_simp; try with_reducible rfl
          simp only [Act.put, List.setIfInBounds_toArray, List.set_cons_zero, List.set_cons_succ, List.getElem_toArray, List.getElem_cons_succ, List.getElem_cons_zero]
          refine wpTill_take (i := 3) (v := ?_) rfl (by kernel_rfl) (by kernel_rfl) (by kernel_rfl) (by kernel_rfl) (fun _ _ _ h => h) (Or.inl ⟨by rfl, ?_⟩) (by assumption) ?_
          rotate_left
          · intro w hSw; (try dsimp only at hSw); go_simp; try with_reducible rfl
          simp only [Act.put, List.setIfInBounds_toArray, List.set_cons_zero, List.set_cons_succ, List.getElem_toArray, List.getElem_cons_succ, List.getElem_cons_zero]
          refine wpTill_take (i := 4) (v := ?_) rfl (by kernel_rfl) (by kernel_rfl) (by kernel_rfl) (by kernel_rfl) (fun _ _ _ h => h) (Or.inl ⟨by rfl, ?_⟩) (by assumption) ?_
          rotate_left
          · intro w hSw; (try dsimp only at hSw); go_simp; try with_reducible rfl
          simp only [Act.put, List.setIfInBounds_toArray, List.set_cons_zero, List.set_cons_succ, List.getElem_toArray, List.getElem_cons_succ, List.getElem_cons_zero]
          refine wpTill_take (i := 6) (v := ?_) rfl (by kernel_rfl) (by kernel_rfl) (by kernel_rfl) (by kernel_rfl) (fun _ _ _ h => h) (Or.inl ⟨by rfl, ?_⟩) (by assumption) ?_
          rotate_left
          · intro w hSw; (try dsimp only at hSw); go_simp; try with_reducible rfl
          simp only [Act.put, List.setIfInBounds_toArray, List.set_cons_zero, List.set_cons_succ, List.getElem_toArray, List.getElem_cons_succ, List.getElem_cons_zero]
          refine wpTill_take (i := 9) (v := ?_) rfl (by kernel_rfl) (by kernel_rfl) (by kernel_rfl) (by kernel_rfl) (fun _ _ _ h => h) (Or.inl ⟨by rfl, ?_⟩) (by assumption) ?_
          rotate_left
          · intro w hSw; (try dsimp only at hSw); go_simp; try with_reducible rfl
          simp only [Act.put, List.setIfInBounds_toArray, List.set_cons_zero, List.set_cons_succ, List.getElem_toArray, List.getElem_cons_succ, List.getElem_cons_zero]
          refine wpTill_take (i := 10) (v := ?_) rfl (by kernel_rfl) (by kernel_rfl) (by kernel_rfl) (by kernel_rfl) (fun _ _ _ h => h) (Or.inl ⟨by rfl, ?_⟩) (by assumption) ?_
          rotate_left
          · intro w hSw; (try dsimp only at hSw); go_simp; try with_reducible rfl
          simp only [Act.put, List.setIfInBounds_toArray, List.set_cons_zero, List.set_cons_succ, List.getElem_toArray, List.getElem_cons_succ, List.getElem_cons_zero]
          refine wpTill_take (i := 11) (v := ?_) rfl (by kernel_rfl) (by kernel_rfl) (by kernel_rfl) (by kernel_rfl) (fun _ _ _ h => h) (Or.inl ⟨by rfl, ?_⟩) (by assumption) ?_
          rotate_left
          · intro w hSw; (try dsimp only at hSw); go_simp; try with_reducible rfl
          simp only [Act.put, List.setIfInBounds_toArray, List.set_cons_zero, List.set_cons_succ, List.getElem_toArray, List.getElem_cons_succ, List.getElem_cons_zero]
          refine wpTill_take (i := 12) (v := ?_) rfl (by kernel_rfl) (by kernel_rfl) (by kernel_rfl) (by kernel_rfl) (fun _ _ _ h => h) (Or.inl ⟨by rfl, ?_⟩) (by assumption) ?_
          rotate_left
          · intro w hSw; (try dsimp only at hSw); go_simp; try with_reducible rfl
          simp only [Act.put, List.setIfInBounds_toArray, List.set_cons_zero, List.set_cons_succ, List.getElem_toArray, List.getElem_cons_succ, List.getElem_cons_zero]
          clear hHeld
          have hw0 : wr.heap.size + 1 < W0.heap.size := (Array.getElem?_eq_some_iff.1 HED.out).1
          have hlo0 : lo ≤ W0.heap.size := by omega
          have HBW : Hid (Below W0.heap.size W0 W0) := Below.refl _ _
          have HSS : Hid (∀ wx : World, Below W0.heap.size W0 wx → wx.cell? ⟨w.heap.size, 2, none⟩ = some (.slice none l.length 0) ∧ wx.cell? ⟨wr.heap.size + 1, 0, none⟩ = some (.string n) ∧ wx.cell? ⟨wr.heap.size + 1, 1, none⟩ = some (.slice (some ⟨wr.heap.size, 0, none⟩) 1 1)) := fun wx hx => by
            have h1 := (HPD.out.call hx).cellA 2
            have h2 := (hx.block _ hw0).trans HED.out
            exact ⟨h1, by simp [World.cell?, h2], by simp [World.cell?, h2]⟩
          refine wpTill_ready (rs := [0, 7]) (by kernel_rfl) (by simp) ?_
          refine AllReadyT.cons rfl (fun K hK => ?_) (AllReadyT.cons rfl (fun K hK => ?_) AllReadyT.nil)
          · go_simp
            have HB2 : Hid (Below W0.heap.size W0 (W0.alloc (.cells #[] 73))) := HBW.out.alloc HBW.out.size _
            have RD : Hid ((W0.alloc (.cells #[] 73)).ownsRow W0.heap.size 73 2 (.slice (some ⟨W0.heap.size, 0, none⟩) 0 0) 0 []) := own_new0 (heap_newF W0 _) HBW.out.size 2
            refine hK.out _ _ (.inr (HSS.out _ HB2.out)) ?_
            clear hK K HBW
            have HBW := HB2
            clear HB2
            generalize W0.alloc (.cells #[] 73) = W1 at *
            refine wpTill_ready (rs := [5, 7]) (by kernel_rfl) (by simp) ?_
            refine AllReadyT.cons rfl (fun K hK => ?_) (AllReadyT.cons rfl (fun K hK => ?_) AllReadyT.nil)
            · refine step_append_any _ rfl _ _ 37 rfl W0.heap.size 73 i0 _ 2 40 Tryz.underlying37 hi hz0 hz1 hz2 rfl (by decide) _ 0 [] rfl RD.out _ 0 _ [] rfl (.inl rfl) rfl (fun u hu => by cases hu) (by unfold maxLen; omega) (by omega) HBW.out.size ?_
              intro va W2 hown hgrow hat
              simp only [Nat.zero_add, List.nil_append] at hown
              have HB2 : Hid (Below W0.heap.size W0 W2) := HBW.out.grown hgrow HBW.out.size (fun q e => own_ge RD.out q e)
              refine hK.out _ _ (.inr (HSS.out _ HB2.out)) ?_
              clear hat hgrow RD
              clear hK K HBW
              have HBW := HB2
              clear HB2
              have RD := toHidC hown
              obtain ⟨pa, qa, rfl⟩ := own_slice hown
              clear hown
              refine wpTill_ready (rs := [7]) (by kernel_rfl) (by simp) ?_
              refine AllReadyT.cons rfl (fun K hK => ?_) AllReadyT.nil
              go_simp
              have HB2 : Hid (Below W0.heap.size W0 (W2.alloc (.cells #[.string n, .slice (some ⟨wr.heap.size, 0, none⟩) 1 1] 73))) := HBW.out.alloc HBW.out.size _
              have BX : Hid ((W2.alloc (.cells #[.string n, .slice (some ⟨wr.heap.size, 0, none⟩) 1 1] 73)).heap[W2.heap.size]? = some (.cells #[.string n, .slice (some ⟨wr.heap.size, 0, none⟩) 1 1] 73 (0, 0))) := heap_newF W2 _
              have RD2 := toHidC (ownsRow_keep RD.out ((Below.refl _ W2).alloc (Nat.le_refl _) (.cells #[.string n, .slice (some ⟨wr.heap.size, 0, none⟩) 1 1] 73)))
              have HNE : Hid (∀ q, Value.ownBlock _ = some q → some (W2.heap.size) ≠ some q) := fun q hq e => by have := own_lt RD.out q hq; injection e with e; omega
              refine hK.out _ _ (.inr (HSS.out _ HB2.out)) ?_
              clear hK K HBW
              have HBW := HB2
              clear HB2
              have hBF : W2.heap.size < (W2.alloc (.cells #[.string n, .slice (some ⟨wr.heap.size, 0, none⟩) 1 1] 73)).heap.size := by rw [World.size_alloc]; omega
              clear RD
              have RD := RD2
              clear RD2
              generalize W2.alloc (.cells #[.string n, .slice (some ⟨wr.heap.size, 0, none⟩) 1 1] 73) = W3 at *
              refine wpTill_ready (rs := [8]) (by kernel_rfl) (by simp) ?_
              refine AllReadyT.cons rfl (fun K hK => ?_) AllReadyT.nil
              refine step_append_any _ rfl _ _ 37 rfl W0.heap.size 73 i0 _ 2 40 Tryz.underlying37 hi hz0 hz1 hz2 rfl (by decide) _ 0 [] rfl RD.out _ 1 _ [.string n, .slice (some ⟨wr.heap.size, 0, none⟩) 1 1] rfl (.inr ⟨_, rfl, World.news_of_block BX.out⟩) rfl (fun u hu => by simp only [List.mem_cons, List.not_mem_nil, or_false] at hu; rcases hu with rfl | rfl <;> rfl) (by unfold maxLen; omega) (by omega) HBW.out.size ?_
              intro vb W4 hown hgrow hat
              simp only [Nat.zero_add, List.nil_append] at hown
              have HB2 : Hid (Below W0.heap.size W0 W4) := HBW.out.grown hgrow HBW.out.size (fun q e => own_ge RD.out q e)
              refine hK.out _ _ (.inr (HSS.out _ HB2.out)) ?_
              clear hat hgrow RD
              clear hK K HBW
              have HBW := HB2
              clear HB2
              have RD := toHidC hown
              obtain ⟨pb, qb, rfl⟩ := own_slice hown
              clear hown
              refine wpTill_ready (rs := [13]) (by kernel_rfl) (by simp) ?_
              refine AllReadyT.cons rfl (fun K hK => ?_) AllReadyT.nil
              refine step_append_any _ rfl _ _ 37 rfl W0.heap.size 73 i0 _ 2 40 Tryz.underlying37 hi hz0 hz1 hz2 rfl (by decide) _ 1 [.string n, .slice (some ⟨wr.heap.size, 0, none⟩) 1 1] rfl RD.out _ 0 _ [] rfl (.inl rfl) rfl (fun u hu => by cases hu) (by unfold maxLen; omega) (by omega) HBW.out.size ?_
              intro vc W5 hown hgrow hat
              simp only [Nat.add_zero, List.append_nil] at hown
              have HB2 : Hid (Below W0.heap.size W0 W5) := HBW.out.grown hgrow HBW.out.size (fun q e => own_ge RD.out q e)
              refine hK.out _ _ (.inr (HSS.out _ HB2.out)) ?_
              clear hat hgrow RD
              clear hK K HBW
              have HBW := HB2
              clear HB2
              have RD := toHidC hown
              obtain ⟨pc, qc, rfl⟩ := own_slice hown
              clear hown
              have hHeld := HSS.out _ HBW.out
              refine wpTill_take (i := 14) (v := ?_) rfl (by kernel_rfl) (by kernel_rfl) (by kernel_rfl) (by kernel_rfl) (fun _ _ _ h => h) (Or.inl ⟨by rfl, ?_⟩) (by assumption) ?_
              rotate_left
              · intro w hSw; (try dsimp only at hSw); go_simp; try with_reducible rfl
              simp only [Act.put, List.setIfInBounds_toArray, List.set_cons_zero, List.set_cons_succ, List.getElem_toArray, List.getElem_cons_succ, List.getElem_cons_zero]
              clear hHeld
              have lz := (HPD.out.call HBW.out).cellA 2
              have lfz := (HPD.out.call HBW.out).freeA 2
              simp only [List.getElem?_toArray, List.getElem?_cons_succ, List.getElem?_cons_zero] at lz
              have hwz5 : w.heap.size < W5.heap.size := by have := (HPD.out.call HBW.out).size; omega
              refine wpTill_ready (rs := [15]) (by kernel_rfl) (by simp) ?_
              refine AllReadyT.cons rfl (fun K hK => ?_) AllReadyT.nil
              go_simp
              refine hK.out _ _ (.inl rfl) ?_
              clear hK K
              refine wpTill_done (by kernel_rfl) ?_ _
              refine NoPanic.normal ?_
              have HP5 := toHidC ((HPD.out.call HBW.out).set (.slice pc 1 qc))
              have HBX : Hid (Below w.heap.size w W5) := below_step HBD.out HBW.out
              have HFIN : Hid (BookNew lo (W5.setCell ⟨w.heap.size, 2, none⟩ (.slice pc 1 qc)) (.slice xa ks.length xc) (.slice ya ps.length yc) (.slice pc 1 qc) ks ps (putE es n f) ∧ Below w.heap.size w (W5.setCell ⟨w.heap.size, 2, none⟩ (.slice pc 1 qc))) := by
                have hins : PairsNew W5 lo (.slice pc 1 qc) (l.take 0 ++ (⟨n, [f]⟩, .slice (some ⟨wr.heap.size, 0, none⟩) 1 1) :: l.drop 0) := by
                  refine HE.out.ins HBX.out (own_new1 ((HBW.out.block _ (by omega)).trans HFD.out) (by omega)) (fun q hq => by have hq2 : wr.heap.size = q := Option.some.inj hq; omega) ?_
                  have hl0 : l = [] := List.eq_nil_of_length_eq_zero h0
                  rw [hl0]
                  exact own_mono RD.out hlo0
                have hbn : BookNew lo W5 (.slice xa ks.length xc) (.slice ya ps.length yc) (.slice pc 1 qc) ks ps (putE es n f) := by
                  refine ⟨ownsRow_keep HXY.out.1 HBX.out, ownsRow_keep HXY.out.2 HBX.out, _, ?_, hins⟩
                  rw [HP.out, List.map_append, List.map_cons, List.map_take, List.map_drop, HL.out]
                exact ⟨hbn.box (HPD.out.call HBW.out).a (grown_setF W5 w.heap.size 2 _), HBX.out.setCell (p := ⟨w.heap.size, 2, none⟩) (Nat.le_refl _) _⟩
              generalize W5.setCell ⟨w.heap.size, 2, none⟩ (.slice pc 1 qc) = W9 at *
              clear lz lfz hwz5
              obtain ⟨q0, q1, q2⟩ : W9.cell? ⟨w.heap.size, 0, none⟩ = some (.slice xa ks.length xc) ∧ W9.cell? ⟨w.heap.size, 1, none⟩ = some (.slice ya ps.length yc) ∧ W9.cell? ⟨w.heap.size, 2, none⟩ = some (.slice pc 1 qc) := ⟨HP5.out.cellA 0, HP5.out.cellA 1, HP5.out.cellA 2⟩
              have hrow := HP5.out.c
              go_wp2_with (refine wpList_store_row rfl 39 _ _ rfl (w.heap.size + 1 + 1) #[.slice xa ks.length xc, .slice ya ps.length yc, .slice pc 1 qc] rfl rfl 39 _ hrow (by kernel_rfl) rfl (by simp [Value.oneCell']) ?_)
              exact bodyPost_ret (v := .agg #[.slice xa ks.length xc, .slice ya ps.length yc, .slice pc 1 qc]) (by simp [results, Tryz.results28, go_sem, cell_setRow_same _ _ _ _ _ _ _ hrow]) rfl ⟨_, rfl, HFIN.out.1.box hrow (grown_rowF W9 (w.heap.size + 1 + 1) _), below_setRow (HFIN.out.2.mono hlo) (by omega) _, fun X D hX => ((below_setRow HFIN.out.2 (by omega) _).block X (Array.getElem?_eq_some_iff.1 hX).1).trans hX⟩
            · go_simp
              have HB2 : Hid (Below W0.heap.size W0 (W1.alloc (.cells #[.string n, .slice (some ⟨wr.heap.size, 0, none⟩) 1 1] 73))) := HBW.out.alloc HBW.out.size _
              have BX : Hid ((W1.alloc (.cells #[.string n, .slice (some ⟨wr.heap.size, 0, none⟩) 1 1] 73)).heap[W1.heap.size]? = some (.cells #[.string n, .slice (some ⟨wr.heap.size, 0, none⟩) 1 1] 73 (0, 0))) := heap_newF W1 _
              have RD2 := toHidC (ownsRow_keep RD.out ((Below.refl _ W1).alloc (Nat.le_refl _) (.cells #[.string n, .slice (some ⟨wr.heap.size, 0, none⟩) 1 1] 73)))
              have HNE : Hid (∀ q, Value.ownBlock _ = some q → some (W1.heap.size) ≠ some q) := fun q hq e => by have := own_lt RD.out q hq; injection e with e; omega
              refine hK.out _ _ (.inr (HSS.out _ HB2.out)) ?_
              clear hK K HBW
              have HBW := HB2
              clear HB2
              have hBF : W1.heap.size < (W1.alloc (.cells #[.string n, .slice (some ⟨wr.heap.size, 0, none⟩) 1 1] 73)).heap.size := by rw [World.size_alloc]; omega
              clear RD
              have RD := RD2
              clear RD2
              generalize W1.alloc (.cells #[.string n, .slice (some ⟨wr.heap.size, 0, none⟩) 1 1] 73) = W2 at *
              refine wpTill_ready (rs := [5]) (by kernel_rfl) (by simp) ?_
              refine AllReadyT.cons rfl (fun K hK => ?_) AllReadyT.nil
              refine step_append_any _ rfl _ _ 37 rfl W0.heap.size 73 i0 _ 2 40 Tryz.underlying37 hi hz0 hz1 hz2 rfl (by decide) _ 0 [] rfl RD.out _ 0 _ [] rfl (.inl rfl) rfl (fun u hu => by cases hu) (by unfold maxLen; omega) (by omega) HBW.out.size ?_
              intro va W3 hown hgrow hat
              simp only [Nat.zero_add, List.nil_append] at hown
              have HB2 : Hid (Below W0.heap.size W0 W3) := HBW.out.grown hgrow HBW.out.size (fun q e => own_ge RD.out q e)
              have BX2 := toHidC ((hgrow.block _ hBF (fun e => HNE.out _ e.symm rfl)).trans BX.out)
              have hBF2 := Nat.lt_of_lt_of_le hBF hgrow.size
              refine hK.out _ _ (.inr (HSS.out _ HB2.out)) ?_
              clear hat hgrow RD
              clear BX HNE hBF
              have BX := BX2
              have hBF := hBF2
              clear BX2 hBF2
              clear hK K HBW
              have HBW := HB2
              clear HB2
              have RD := toHidC hown
              obtain ⟨pa, qa, rfl⟩ := own_slice hown
              clear hown
              refine wpTill_ready (rs := [8]) (by kernel_rfl) (by simp) ?_
              refine AllReadyT.cons rfl (fun K hK => ?_) AllReadyT.nil
              refine step_append_any _ rfl _ _ 37 rfl W0.heap.size 73 i0 _ 2 40 Tryz.underlying37 hi hz0 hz1 hz2 rfl (by decide) _ 0 [] rfl RD.out _ 1 _ [.string n, .slice (some ⟨wr.heap.size, 0, none⟩) 1 1] rfl (.inr ⟨_, rfl, World.news_of_block BX.out⟩) rfl (fun u hu => by simp only [List.mem_cons, List.not_mem_nil, or_false] at hu; rcases hu with rfl | rfl <;> rfl) (by unfold maxLen; omega) (by omega) HBW.out.size ?_
              intro vb W4 hown hgrow hat
              simp only [Nat.zero_add, List.nil_append] at hown
              have HB2 : Hid (Below W0.heap.size W0 W4) := HBW.out.grown hgrow HBW.out.size (fun q e => own_ge RD.out q e)
              refine hK.out _ _ (.inr (HSS.out _ HB2.out)) ?_
              clear hat hgrow RD
              clear hK K HBW
              have HBW := HB2
              clear HB2
              have RD := toHidC hown
              obtain ⟨pb, qb, rfl⟩ := own_slice hown
              clear hown
              refine wpTill_ready (rs := [13]) (by kernel_rfl) (by simp) ?_
              refine AllReadyT.cons rfl (fun K hK => ?_) AllReadyT.nil
              refine step_append_any _ rfl _ _ 37 rfl W0.heap.size 73 i0 _ 2 40 Tryz.underlying37 hi hz0 hz1 hz2 rfl (by decide) _ 1 [.string n, .slice (some ⟨wr.heap.size, 0, none⟩) 1 1] rfl RD.out _ 0 _ [] rfl (.inl rfl) rfl (fun u hu => by cases hu) (by unfold maxLen; omega) (by omega) HBW.out.size ?_
              intro vc W5 hown hgrow hat
              simp only [Nat.add_zero, List.append_nil] at hown
              have HB2 : Hid (Below W0.heap.size W0 W5) := HBW.out.grown hgrow HBW.out.size (fun q e => own_ge RD.out q e)
              refine hK.out _ _ (.inr (HSS.out _ HB2.out)) ?_
              clear hat hgrow RD
              clear hK K HBW
              have HBW := HB2
              clear HB2
              have RD := toHidC hown
              obtain ⟨pc, qc, rfl⟩ := own_slice hown
              clear hown
              have hHeld := HSS.out _ HBW.out
              refine wpTill_take (i := 14) (v := ?_) rfl (by kernel_rfl) (by kernel_rfl) (by kernel_rfl) (by kernel_rfl) (fun _ _ _ h => h) (Or.inl ⟨by rfl, ?_⟩) (by assumption) ?_
              rotate_left
              · intro w hSw; (try dsimp only at hSw); go_simp; try with_reducible rfl
              simp only [Act.put, List.setIfInBounds_toArray, List.set_cons_zero, List.set_cons_succ, List.getElem_toArray, List.getElem_cons_succ, List.getElem_cons_zero]
              clear hHeld
              have lz := (HPD.out.call HBW.out).cellA 2
              have lfz := (HPD.out.call HBW.out).freeA 2
              simp only [List.getElem?_toArray, List.getElem?_cons_succ, List.getElem?_cons_zero] at lz
              have hwz5 : w.heap.size < W5.heap.size := by have := (HPD.out.call HBW.out).size; omega
              refine wpTill_ready (rs := [15]) (by kernel_rfl) (by simp) ?_
              refine AllReadyT.cons rfl (fun K hK => ?_) AllReadyT.nil
              go_simp
              refine hK.out _ _ (.inl rfl) ?_
              clear hK K
              refine wpTill_done (by kernel_rfl) ?_ _
              refine NoPanic.normal ?_
              have HP5 := toHidC ((HPD.out.call HBW.out).set (.slice pc 1 qc))
              have HBX : Hid (Below w.heap.size w W5) := below_step HBD.out HBW.out
              have HFIN : Hid (BookNew lo (W5.setCell ⟨w.heap.size, 2, none⟩ (.slice pc 1 qc)) (.slice xa ks.length xc) (.slice ya ps.length yc) (.slice pc 1 qc) ks ps (putE es n f) ∧ Below w.heap.size w (W5.setCell ⟨w.heap.size, 2, none⟩ (.slice pc 1 qc))) := by
                have hins : PairsNew W5 lo (.slice pc 1 qc) (l.take 0 ++ (⟨n, [f]⟩, .slice (some ⟨wr.heap.size, 0, none⟩) 1 1) :: l.drop 0) := by
                  refine HE.out.ins HBX.out (own_new1 ((HBW.out.block _ (by omega)).trans HFD.out) (by omega)) (fun q hq => by have hq2 : wr.heap.size = q := Option.some.inj hq; omega) ?_
                  have hl0 : l = [] := List.eq_nil_of_length_eq_zero h0
                  rw [hl0]
                  exact own_mono RD.out hlo0
                have hbn : BookNew lo W5 (.slice xa ks.length xc) (.slice ya ps.length yc) (.slice pc 1 qc) ks ps (putE es n f) := by
                  refine ⟨ownsRow_keep HXY.out.1 HBX.out, ownsRow_keep HXY.out.2 HBX.out, _, ?_, hins⟩
                  rw [HP.out, List.map_append, List.map_cons, List.map_take, List.map_drop, HL.out]
                exact ⟨hbn.box (HPD.out.call HBW.out).a (grown_setF W5 w.heap.size 2 _), HBX.out.setCell (p := ⟨w.heap.size, 2, none⟩) (Nat.le_refl _) _⟩
              generalize W5.setCell ⟨w.heap.size, 2, none⟩ (.slice pc 1 qc) = W9 at *
              clear lz lfz hwz5
              obtain ⟨q0, q1, q2⟩ : W9.cell? ⟨w.heap.size, 0, none⟩ = some (.slice xa ks.length xc) ∧ W9.cell? ⟨w.heap.size, 1, none⟩ = some (.slice ya ps.length yc) ∧ W9.cell? ⟨w.heap.size, 2, none⟩ = some (.slice pc 1 qc) := ⟨HP5.out.cellA 0, HP5.out.cellA 1, HP5.out.cellA 2⟩
              have hrow := HP5.out.c
              go_wp2_with (refine wpList_store_row rfl 39 _ _ rfl (w.heap.size + 1 + 1) #[.slice xa ks.length xc, .slice ya ps.length yc, .slice pc 1 qc] rfl rfl 39 _ hrow (by kernel_rfl) rfl (by simp [Value.oneCell']) ?_)
              exact bodyPost_ret (v := .agg #[.slice xa ks.length xc, .slice ya ps.length yc, .slice pc 1 qc]) (by simp [results, Tryz.results28, go_sem, cell_setRow_same _ _ _ _ _ _ _ hrow]) rfl ⟨_, rfl, HFIN.out.1.box hrow (grown_rowF W9 (w.heap.size + 1 + 1) _), below_setRow (HFIN.out.2.mono hlo) (by omega) _, fun X D hX => ((below_setRow HFIN.out.2 (by omega) _).block X (Array.getElem?_eq_some_iff.1 hX).1).trans hX⟩
          · go_simp
            have HB2 : Hid (Below W0.heap.size W0 (W0.alloc (.cells #[.string n, .slice (some ⟨wr.heap.size, 0, none⟩) 1 1] 73))) := HBW.out.alloc HBW.out.size _
            have BX : Hid ((W0.alloc (.cells #[.string n, .slice (some ⟨wr.heap.size, 0, none⟩) 1 1] 73)).heap[W0.heap.size]? = some (.cells #[.string n, .slice (some ⟨wr.heap.size, 0, none⟩) 1 1] 73 (0, 0))) := heap_newF W0 _
            refine hK.out _ _ (.inr (HSS.out _ HB2.out)) ?_
            clear hK K HBW
            have HBW := HB2
            clear HB2
            have hBF : W0.heap.size < (W0.alloc (.cells #[.string n, .slice (some ⟨wr.heap.size, 0, none⟩) 1 1] 73)).heap.size := by rw [World.size_alloc]; omega
            generalize W0.alloc (.cells #[.string n, .slice (some ⟨wr.heap.size, 0, none⟩) 1 1] 73) = W1 at *
            refine wpTill_ready (rs := [0]) (by kernel_rfl) (by simp) ?_
            refine AllReadyT.cons rfl (fun K hK => ?_) AllReadyT.nil
            go_simp
            have HB2 : Hid (Below W0.heap.size W0 (W1.alloc (.cells #[] 73))) := HBW.out.alloc HBW.out.size _
            have RD : Hid ((W1.alloc (.cells #[] 73)).ownsRow W0.heap.size 73 2 (.slice (some ⟨W1.heap.size, 0, none⟩) 0 0) 0 []) := own_new0 (heap_newF W1 _) HBW.out.size 2
            have HNE : Hid (∀ q, (Value.slice (some ⟨W1.heap.size, 0, none⟩) 0 0).ownBlock = some q → some (W0.heap.size) ≠ some q) := fun q hq e => by have hq2 : W1.heap.size = q := Option.some.inj hq; injection e with e; omega
            have BX2 := toHidC ((Below.heap_alloc W1 (.cells #[] 73) _ hBF).trans BX.out)
            have hBF2 : W0.heap.size < (W1.alloc (.cells #[] 73)).heap.size := by rw [World.size_alloc]; omega
            refine hK.out _ _ (.inr (HSS.out _ HB2.out)) ?_
            clear hK K HBW
            have HBW := HB2
            clear HB2
            clear BX hBF
            have BX := BX2
            have hBF := hBF2
            clear BX2 hBF2
            generalize W1.alloc (.cells #[] 73) = W2 at *
            refine wpTill_ready (rs := [5]) (by kernel_rfl) (by simp) ?_
            refine AllReadyT.cons rfl (fun K hK => ?_) AllReadyT.nil
            refine step_append_any _ rfl _ _ 37 rfl W0.heap.size 73 i0 _ 2 40 Tryz.underlying37 hi hz0 hz1 hz2 rfl (by decide) _ 0 [] rfl RD.out _ 0 _ [] rfl (.inl rfl) rfl (fun u hu => by cases hu) (by unfold maxLen; omega) (by omega) HBW.out.size ?_
            intro va W3 hown hgrow hat
            simp only [Nat.zero_add, List.nil_append] at hown
            have HB2 : Hid (Below W0.heap.size W0 W3) := HBW.out.grown hgrow HBW.out.size (fun q e => own_ge RD.out q e)
            have BX2 := toHidC ((hgrow.block _ hBF (fun e => HNE.out _ e.symm rfl)).trans BX.out)
            have hBF2 := Nat.lt_of_lt_of_le hBF hgrow.size
            refine hK.out _ _ (.inr (HSS.out _ HB2.out)) ?_
            clear hat hgrow RD
            clear BX HNE hBF
            have BX := BX2
            have hBF := hBF2
            clear BX2 hBF2
            clear hK K HBW
            have HBW := HB2
            clear HB2
            have RD := toHidC hown
            obtain ⟨pa, qa, rfl⟩ := own_slice hown
            clear hown
            refine wpTill_ready (rs := [8]) (by kernel_rfl) (by simp) ?_
            refine AllReadyT.cons rfl (fun K hK => ?_) AllReadyT.nil
            refine step_append_any _ rfl _ _ 37 rfl W0.heap.size 73 i0 _ 2 40 Tryz.underlying37 hi hz0 hz1 hz2 rfl (by decide) _ 0 [] rfl RD.out _ 1 _ [.string n, .slice (some ⟨wr.heap.size, 0, none⟩) 1 1] rfl (.inr ⟨_, rfl, World.news_of_block BX.out⟩) rfl (fun u hu => by simp only [List.mem_cons, List.not_mem_nil, or_false] at hu; rcases hu with rfl | rfl <;> rfl) (by unfold maxLen; omega) (by omega) HBW.out.size ?_
            intro vb W4 hown hgrow hat
            simp only [Nat.zero_add, List.nil_append] at hown
            have HB2 : Hid (Below W0.heap.size W0 W4) := HBW.out.grown hgrow HBW.out.size (fun q e => own_ge RD.out q e)
            refine hK.out _ _ (.inr (HSS.out _ HB2.out)) ?_
            clear hat hgrow RD
            clear hK K HBW
            have HBW := HB2
            clear HB2
            have RD := toHidC hown
            obtain ⟨pb, qb, rfl⟩ := own_slice hown
            clear hown
            refine wpTill_ready (rs := [13]) (by kernel_rfl) (by simp) ?_
            refine AllReadyT.cons rfl (fun K hK => ?_) AllReadyT.nil
            refine step_append_any _ rfl _ _ 37 rfl W0.heap.size 73 i0 _ 2 40 Tryz.underlying37 hi hz0 hz1 hz2 rfl (by decide) _ 1 [.string n, .slice (some ⟨wr.heap.size, 0, none⟩) 1 1] rfl RD.out _ 0 _ [] rfl (.inl rfl) rfl (fun u hu => by cases hu) (by unfold maxLen; omega) (by omega) HBW.out.size ?_
            intro vc W5 hown hgrow hat
            simp only [Nat.add_zero, List.append_nil] at hown
            have HB2 : Hid (Below W0.heap.size W0 W5) := HBW.out.grown hgrow HBW.out.size (fun q e => own_ge RD.out q e)
            refine hK.out _ _ (.inr (HSS.out _ HB2.out)) ?_
            clear hat hgrow RD
            clear hK K HBW
            have HBW := HB2
            clear HB2
            have RD := toHidC hown
            obtain ⟨pc, qc, rfl⟩ := own_slice hown
            clear hown
            have hHeld := HSS.out _ HBW.out
            refine wpTill_take (i := 14) (v := ?_) rfl (by kernel_rfl) (by kernel_rfl) (by kernel_rfl) (by kernel_rfl) (fun _ _ _ h => h) (Or.inl ⟨by rfl, ?_⟩) (by assumption) ?_
            rotate_left
            · intro w hSw; (try dsimp only at hSw); go_simp; try with_reducible rfl
            simp only [Act.put, List.setIfInBounds_toArray, List.set_cons_zero, List.set_cons_succ, List.getElem_toArray, List.getElem_cons_succ, List.getElem_cons_zero]
            clear hHeld
            have lz := (HPD.out.call HBW.out).cellA 2
            have lfz := (HPD.out.call HBW.out).freeA 2
            simp only [List.getElem?_toArray, List.getElem?_cons_succ, List.getElem?_cons_zero] at lz
            have hwz5 : w.heap.size < W5.heap.size := by have := (HPD.out.call HBW.out).size; omega
            refine wpTill_ready (rs := [15]) (by kernel_rfl) (by simp) ?_
            refine AllReadyT.cons rfl (fun K hK => ?_) AllReadyT.nil
            go_simp
            refine hK.out _ _ (.inl rfl) ?_
            clear hK K
            refine wpTill_done (by kernel_rfl) ?_ _
            refine NoPanic.normal ?_
            have HP5 := toHidC ((HPD.out.call HBW.out).set (.slice pc 1 qc))
            have HBX : Hid (Below w.heap.size w W5) := below_step HBD.out HBW.out
            have HFIN : Hid (BookNew lo (W5.setCell ⟨w.heap.size, 2, none⟩ (.slice pc 1 qc)) (.slice xa ks.length xc) (.slice ya ps.length yc) (.slice pc 1 qc) ks ps (putE es n f) ∧ Below w.heap.size w (W5.setCell ⟨w.heap.size, 2, none⟩ (.slice pc 1 qc))) := by
              have hins : PairsNew W5 lo (.slice pc 1 qc) (l.take 0 ++ (⟨n, [f]⟩, .slice (some ⟨wr.heap.size, 0, none⟩) 1 1) :: l.drop 0) := by
                refine HE.out.ins HBX.out (own_new1 ((HBW.out.block _ (by omega)).trans HFD.out) (by omega)) (fun q hq => by have hq2 : wr.heap.size = q := Option.some.inj hq; omega) ?_
                have hl0 : l = [] := List.eq_nil_of_length_eq_zero h0
                rw [hl0]
                exact own_mono RD.out hlo0
              have hbn : BookNew lo W5 (.slice xa ks.length xc) (.slice ya ps.length yc) (.slice pc 1 qc) ks ps (putE es n f) := by
                refine ⟨ownsRow_keep HXY.out.1 HBX.out, ownsRow_keep HXY.out.2 HBX.out, _, ?_, hins⟩
                rw [HP.out, List.map_append, List.map_cons, List.map_take, List.map_drop, HL.out]
              exact ⟨hbn.box (HPD.out.call HBW.out).a (grown_setF W5 w.heap.size 2 _), HBX.out.setCell (p := ⟨w.heap.size, 2, none⟩) (Nat.le_refl _) _⟩
            generalize W5.setCell ⟨w.heap.size, 2, none⟩ (.slice pc 1 qc) = W9 at *
            clear lz lfz hwz5
            obtain ⟨q0, q1, q2⟩ : W9.cell? ⟨w.heap.size, 0, none⟩ = some (.slice xa ks.length xc) ∧ W9.cell? ⟨w.heap.size, 1, none⟩ = some (.slice ya ps.length yc) ∧ W9.cell? ⟨w.heap.size, 2, none⟩ = some (.slice pc 1 qc) := ⟨HP5.out.cellA 0, HP5.out.cellA 1, HP5.out.cellA 2⟩
            have hrow := HP5.out.c
            go_wp2_with (refine wpList_store_row rfl 39 _ _ rfl (w.heap.size + 1 + 1) #[.slice xa ks.length xc, .slice ya ps.length yc, .slice pc 1 qc] rfl rfl 39 _ hrow (by kernel_rfl) rfl (by simp [Value.oneCell']) ?_)
            exact bodyPost_ret (v := .agg #[.slice xa ks.length xc, .slice ya ps.length yc, .slice pc 1 qc]) (by simp [results, Tryz.results28, go_sem, cell_setRow_same _ _ _ _ _ _ _ hrow]) rfl ⟨_, rfl, HFIN.out.1.box hrow (grown_rowF W9 (w.heap.size + 1 + 1) _), below_setRow (HFIN.out.2.mono hlo) (by omega) _, fun X D hX => ((below_setRow HFIN.out.2 (by omega) _).block X (Array.getElem?_eq_some_iff.1 hX).1).trans hX⟩
        · cases hv
          unfold maxLen at hcm
          have hje : j = l.length := by omega
          subst hje
          have hcc : (l.length : Int) ≤ (zc : Int) := by omega
          rw [List.take_of_length_le (by omega), List.drop_of_length_le (by omega)] at HP
          by_cases hjn : zc = l.length
          · subst hjn
            clear hj0 hjl
            have hal1 : Below wr.heap.size wr (wr.alloc (.cells #[.int .i64 f.what, .int .i64 f.num, .string f.v] 62)) := (Below.refl _ _).alloc (Nat.le_refl _) _
            have hal2 : Below wr.heap.size wr ((wr.alloc (.cells #[.int .i64 f.what, .int .i64 f.num, .string f.v] 62)).alloc (.cells #[.string n, .slice (some ⟨wr.heap.size, 0, none⟩) 1 1] 73)) := hal1.alloc hal1.size _
            have HP2 : Hid (P3 w ((wr.alloc (.cells #[.int .i64 f.what, .int .i64 f.num, .string f.v] 62)).alloc (.cells #[.string n, .slice (some ⟨wr.heap.size, 0, none⟩) 1 1] 73)) #[.slice xa ks.length xc, .slice ya ps.length yc, .slice (some ⟨g, 0, none⟩) l.length l.length] f) := HP1.out.call hal2
            have HB2 : Hid (Below w.heap.size w ((wr.alloc (.cells #[.int .i64 f.what, .int .i64 f.num, .string f.v] 62)).alloc (.cells #[.string n, .slice (some ⟨wr.heap.size, 0, none⟩) 1 1] 73))) := below_step HB1.out hal2
            have HF2 : Hid (((wr.alloc (.cells #[.int .i64 f.what, .int .i64 f.num, .string f.v] 62)).alloc (.cells #[.string n, .slice (some ⟨wr.heap.size, 0, none⟩) 1 1] 73)).heap[wr.heap.size]? = some (.cells #[.int .i64 f.what, .int .i64 f.num, .string f.v] 62 (0, 0))) := (Below.heap_alloc _ _ _ (by simp)).trans (heap_newF wr _)
            have he2 := heap_newF (wr.alloc (.cells #[.int .i64 f.what, .int .i64 f.num, .string f.v] 62)) (.cells #[.string n, .slice (some ⟨wr.heap.size, 0, none⟩) 1 1] 73)
            rw [World.size_alloc] at he2
            have HE2 := toHidC he2
            have hwz : w.heap.size + 2 < wr.heap.size := HP1.out.size
            clear hal1 hal2 he2
            go_wp2
            clear q0 q1 q2 b0 b1 b2
            generalize ((wr.alloc (.cells #[.int .i64 f.what, .int .i64 f.num, .string f.v] 62)).alloc (.cells #[.string n, .slice (some ⟨wr.heap.size, 0, none⟩) 1 1] 73)) = wq at *
            refine wp_region_noPanic ?_
            have hed : wq.drew.heap[wr.heap.size + 1]? = some (.cells #[.string n, .slice (some ⟨wr.heap.size, 0, none⟩) 1 1] 73 (0, 0)) := HE2.out
            refine wp_region_till (S := fun w' => w'.cell? ⟨w.heap.size, 2, none⟩ = some (.slice (some ⟨g, 0, none⟩) l.length l.length) ∧ w'.cell? ⟨wr.heap.size + 1, 0, none⟩ = some (.string n) ∧ w'.cell? ⟨wr.heap.size + 1, 1, none⟩ = some (.slice (some ⟨wr.heap.size, 0, none⟩) 1 1)) 15 (by kernel_rfl) ?_ (fun hHeld => ?_)
            · exact ⟨HP2.out.drew.cellA 2, by simp [World.cell?, hed], by simp [World.cell?, hed]⟩
            clear hed
            have HPD : Hid (P3 w wq.drew #[.slice xa ks.length xc, .slice ya ps.length yc, .slice (some ⟨g, 0, none⟩) l.length l.length] f) := HP2.out.drew
            have HBD : Hid (Below w.heap.size w wq.drew) := HB2.out.drew
            have HED : Hid (wq.drew.heap[wr.heap.size + 1]? = some (.cells #[.string n, .slice (some ⟨wr.heap.size, 0, none⟩) 1 1] 73 (0, 0))) := HE2.out
            have HFD : Hid (wq.drew.heap[wr.heap.size]? = some (.cells #[.int .i64 f.what, .int .i64 f.num, .string f.v] 62 (0, 0))) := HF2.out
            generalize wq.drew = W0 at *
            clear HP2 HB2 HE2 HF2
            refine wpTill_take (i := 1) (v := ?_) rfl (by kernel_rfl) (by kernel_rfl) (by kernel_rfl) (by kernel_rfl) (fun _ _ _ h => h) (Or.inl ⟨by rfl, ?_⟩) (by assumption) ?_
            rotate_left
            · intro w hSw; (try dsimp only at hSw); go_simp; try with_reducible rfl
            simp only [Act.put, List.setIfInBounds_toArray, List.set_cons_zero, List.set_cons_succ, List.getElem_toArray, List.getElem_cons_succ, List.getElem_cons_zero]
            refine wpTill_take (i := 2) (v := ?_) rfl (by kernel_rfl) (by kernel_rfl) (by kernel_rfl) (by kernel_rfl) (fun _ _ _ h => h) (Or.inl ⟨by rfl, ?_⟩) (by assumption) ?_
            rotate_left
            · intro w hSw; (try dsimp only at hSw); go_simp; try with_reducible rfl
            simp only [Act.put, List.setIfInBounds_toArray, List.set_cons_zero, List.set_cons_succ, List.getElem_toArray, List.getElem_cons_succ, List.getElem_cons_zero]
            refine wpTill_take (i := 3) (v := ?_) rfl (by kernel_rfl) (by kernel_rfl) (by kernel_rfl) (by kernel_rfl) (fun _ _ _ h => h) (Or.inl ⟨by rfl, ?_⟩) (by assumption) ?_
            rotate_left
            · intro w hSw; (try dsimp only at hSw); go_simp; try with_reducible rfl
            simp only [Act.put, List.setIfInBounds_toArray, List.set_cons_zero, List.set_cons_succ, List.getElem_toArray, List.getElem_cons_succ, List.getElem_cons_zero]
            refine wpTill_take (i := 4) (v := ?_) rfl (by kernel_rfl) (by kernel_rfl) (by kernel_rfl) (by kernel_rfl) (fun _ _ _ h => h) (Or.inl ⟨by rfl, ?_⟩) (by assumption) ?_
            rotate_left
            · intro w hSw; (try dsimp only at hSw); go_simp; try with_reducible rfl
            simp only [Act.put, List.setIfInBounds_toArray, List.set_cons_zero, List.set_cons_succ, List.getElem_toArray, List.getElem_cons_succ, List.getElem_cons_zero]
            refine wpTill_take (i := 6) (v := ?_) rfl (by kernel_rfl) (by kernel_rfl) (by kernel_rfl) (by kernel_rfl) (fun _ _ _ h => h) (Or.inl ⟨by rfl, ?_⟩) (by assumption) ?_
            rotate_left
            · intro w hSw; (try dsimp only at hSw); go_simp; try with_reducible rfl
            simp only [Act.put, List.setIfInBounds_toArray, List.set_cons_zero, List.set_cons_succ, List.getElem_toArray, List.getElem_cons_succ, List.getElem_cons_zero]
            refine wpTill_take (i := 9) (v := ?_) rfl (by kernel_rfl) (by kernel_rfl) (by kernel_rfl) (by kernel_rfl) (fun _ _ _ h => h) (Or.inl ⟨by rfl, ?_⟩) (by assumption) ?_
            rotate_left
            · intro w hSw; (try dsimp only at hSw); go_simp; try with_reducible rfl
            simp only [Act.put, List.setIfInBounds_toArray, List.set_cons_zero, List.set_cons_succ, List.getElem_toArray, List.getElem_cons_succ, List.getElem_cons_zero]
            refine wpTill_take (i := 10) (v := ?_) rfl (by kernel_rfl) (by kernel_rfl) (by kernel_rfl) (by kernel_rfl) (fun _ _ _ h => h) (Or.inl ⟨by rfl, ?_⟩) (by assumption) ?_
            rotate_left
            · intro w hSw; (try dsimp only at hSw); go_simp; try with_reducible rfl
            simp only [Act.put, List.setIfInBounds_toArray, List.set_cons_zero, List.set_cons_succ, List.getElem_toArray, List.getElem_cons_succ, List.getElem_cons_zero]
            refine wpTill_take (i := 11) (v := ?_) rfl (by kernel_rfl) (by kernel_rfl) (by kernel_rfl) (by kernel_rfl) (fun _ _ _ h => h) (Or.inl ⟨by rfl, ?_⟩) (by assumption) ?_
            rotate_left
            · intro w hSw; (try dsimp only at hSw); go_simp; try with_reducible rfl
            simp only [Act.put, List.setIfInBounds_toArray, List.set_cons_zero, List.set_cons_succ, List.getElem_toArray, List.getElem_cons_succ, List.getElem_cons_zero]
            refine wpTill_take (i := 12) (v := ?_) rfl (by kernel_rfl) (by kernel_rfl) (by kernel_rfl) (by kernel_rfl) (fun _ _ _ h => h) (Or.inl ⟨by rfl, ?_⟩) (by assumption) ?_
            rotate_left
            · intro w hSw; (try dsimp only at hSw); go_simp; try with_reducible rfl
            simp only [Act.put, List.setIfInBounds_toArray, List.set_cons_zero, List.set_cons_succ, List.getElem_toArray, List.getElem_cons_succ, List.getElem_cons_zero]
            clear hHeld
            have hw0 : wr.heap.size + 1 < W0.heap.size := (Array.getElem?_eq_some_iff.1 HED.out).1
            have hlo0 : lo ≤ W0.heap.size := by omega
            have HBW : Hid (Below W0.heap.size W0 W0) := Below.refl _ _
            have HSS : Hid (∀ wx : World, Below W0.heap.size W0 wx → wx.cell? ⟨w.heap.size, 2, none⟩ = some (.slice (some ⟨g, 0, none⟩) l.length l.length) ∧ wx.cell? ⟨wr.heap.size + 1, 0, none⟩ = some (.string n) ∧ wx.cell? ⟨wr.heap.size + 1, 1, none⟩ = some (.slice (some ⟨wr.heap.size, 0, none⟩) 1 1)) := fun wx hx => by
              have h1 := (HPD.out.call hx).cellA 2
              have h2 := (hx.block _ hw0).trans HED.out
              exact ⟨h1, by simp [World.cell?, h2], by simp [World.cell?, h2]⟩
            have HSR : Hid (∀ wx : World, Below W0.heap.size W0 wx → ∀ q u, (pairRows l)[q]? = some u → wx.cell? ⟨g, q, none⟩ = some u) := fun wx hx => pair_src ((HE.out.keep HBD.out).keep hx)
            have HON : Hid (∀ m : List EntV, (∀ p ∈ m, p ∈ l) → ∀ u ∈ pairRows m, u.oneCell' = true) := HE.out.one
            refine wpTill_ready (rs := [0, 7]) (by kernel_rfl) (by simp) ?_
            refine AllReadyT.cons rfl (fun K hK => ?_) (AllReadyT.cons rfl (fun K hK => ?_) AllReadyT.nil)
            · go_simp
              have HB2 : Hid (Below W0.heap.size W0 (W0.alloc (.cells #[] 73))) := HBW.out.alloc HBW.out.size _
              have RD : Hid ((W0.alloc (.cells #[] 73)).ownsRow W0.heap.size 73 2 (.slice (some ⟨W0.heap.size, 0, none⟩) 0 0) 0 []) := own_new0 (heap_newF W0 _) HBW.out.size 2
              refine hK.out _ _ (.inr (HSS.out _ HB2.out)) ?_
              clear hK K HBW
              have HBW := HB2
              clear HB2
              generalize W0.alloc (.cells #[] 73) = W1 at *
              refine wpTill_ready (rs := [5, 7]) (by kernel_rfl) (by simp) ?_
              refine AllReadyT.cons rfl (fun K hK => ?_) (AllReadyT.cons rfl (fun K hK => ?_) AllReadyT.nil)
              · refine step_append_any _ rfl _ _ 37 rfl W0.heap.size 73 i0 _ 2 40 Tryz.underlying37 hi hz0 hz1 hz2 rfl (by decide) _ 0 [] rfl RD.out _ l.length _ (pairRows l) rfl (.inr ⟨_, rfl, fun q u hu => by rw [addr_add, Nat.zero_add]; exact HSR.out _ HBW.out q u hu⟩) (pairRows_length _) (HON.out _ (fun p hp => hp)) (by unfold maxLen; omega) (by omega) HBW.out.size ?_
                intro va W2 hown hgrow hat
                simp only [Nat.zero_add, List.nil_append] at hown
                have HB2 : Hid (Below W0.heap.size W0 W2) := HBW.out.grown hgrow HBW.out.size (fun q e => own_ge RD.out q e)
                refine hK.out _ _ (.inr (HSS.out _ HB2.out)) ?_
                clear hat hgrow RD
                clear hK K HBW
                have HBW := HB2
                clear HB2
                have RD := toHidC hown
                obtain ⟨pa, qa, rfl⟩ := own_slice hown
                clear hown
                refine wpTill_ready (rs := [7]) (by kernel_rfl) (by simp) ?_
                refine AllReadyT.cons rfl (fun K hK => ?_) AllReadyT.nil
                go_simp
                have HB2 : Hid (Below W0.heap.size W0 (W2.alloc (.cells #[.string n, .slice (some ⟨wr.heap.size, 0, none⟩) 1 1] 73))) := HBW.out.alloc HBW.out.size _
                have BX : Hid ((W2.alloc (.cells #[.string n, .slice (some ⟨wr.heap.size, 0, none⟩) 1 1] 73)).heap[W2.heap.size]? = some (.cells #[.string n, .slice (some ⟨wr.heap.size, 0, none⟩) 1 1] 73 (0, 0))) := heap_newF W2 _
                have RD2 := toHidC (ownsRow_keep RD.out ((Below.refl _ W2).alloc (Nat.le_refl _) (.cells #[.string n, .slice (some ⟨wr.heap.size, 0, none⟩) 1 1] 73)))
                have HNE : Hid (∀ q, Value.ownBlock _ = some q → some (W2.heap.size) ≠ some q) := fun q hq e => by have := own_lt RD.out q hq; injection e with e; omega
                refine hK.out _ _ (.inr (HSS.out _ HB2.out)) ?_
                clear hK K HBW
                have HBW := HB2
                clear HB2
                have hBF : W2.heap.size < (W2.alloc (.cells #[.string n, .slice (some ⟨wr.heap.size, 0, none⟩) 1 1] 73)).heap.size := by rw [World.size_alloc]; omega
                clear RD
                have RD := RD2
                clear RD2
                generalize W2.alloc (.cells #[.string n, .slice (some ⟨wr.heap.size, 0, none⟩) 1 1] 73) = W3 at *
                refine wpTill_ready (rs := [8]) (by kernel_rfl) (by simp) ?_
                refine AllReadyT.cons rfl (fun K hK => ?_) AllReadyT.nil
                refine step_append_any _ rfl _ _ 37 rfl W0.heap.size 73 i0 _ 2 40 Tryz.underlying37 hi hz0 hz1 hz2 rfl (by decide) _ l.length (pairRows l) rfl RD.out _ 1 _ [.string n, .slice (some ⟨wr.heap.size, 0, none⟩) 1 1] rfl (.inr ⟨_, rfl, World.news_of_block BX.out⟩) rfl (fun u hu => by simp only [List.mem_cons, List.not_mem_nil, or_false] at hu; rcases hu with rfl | rfl <;> rfl) (by unfold maxLen; omega) (by omega) HBW.out.size ?_
                intro vb W4 hown hgrow hat
                have HB2 : Hid (Below W0.heap.size W0 W4) := HBW.out.grown hgrow HBW.out.size (fun q e => own_ge RD.out q e)
                refine hK.out _ _ (.inr (HSS.out _ HB2.out)) ?_
                clear hat hgrow RD
                clear hK K HBW
                have HBW := HB2
                clear HB2
                have RD := toHidC hown
                obtain ⟨pb, qb, rfl⟩ := own_slice hown
                clear hown
                refine wpTill_ready (rs := [13]) (by kernel_rfl) (by simp) ?_
                refine AllReadyT.cons rfl (fun K hK => ?_) AllReadyT.nil
                refine step_append_any _ rfl _ _ 37 rfl W0.heap.size 73 i0 _ 2 40 Tryz.underlying37 hi hz0 hz1 hz2 rfl (by decide) _ (l.length + 1) (pairRows l ++ [Value.string n, Value.slice (some ⟨wr.heap.size, 0, none⟩) 1 1]) rfl RD.out _ 0 _ [] rfl (.inl rfl) rfl (fun u hu => by cases hu) (by unfold maxLen; omega) (by omega) HBW.out.size ?_
                intro vc W5 hown hgrow hat
                simp only [Nat.add_zero, List.append_nil] at hown
                have HB2 : Hid (Below W0.heap.size W0 W5) := HBW.out.grown hgrow HBW.out.size (fun q e => own_ge RD.out q e)
                refine hK.out _ _ (.inr (HSS.out _ HB2.out)) ?_
                clear hat hgrow RD
                clear hK K HBW
                have HBW := HB2
                clear HB2
                have RD := toHidC hown
                obtain ⟨pc, qc, rfl⟩ := own_slice hown
                clear hown
                have hHeld := HSS.out _ HBW.out
                refine wpTill_take (i := 14) (v := ?_) rfl (by kernel_rfl) (by kernel_rfl) (by kernel_rfl) (by kernel_rfl) (fun _ _ _ h => h) (Or.inl ⟨by rfl, ?_⟩) (by assumption) ?_
                rotate_left
                · intro w hSw; (try dsimp only at hSw); go_simp; try with_reducible rfl
                simp only [Act.put, List.setIfInBounds_toArray, List.set_cons_zero, List.set_cons_succ, List.getElem_toArray, List.getElem_cons_succ, List.getElem_cons_zero]
                clear hHeld
                have lz := (HPD.out.call HBW.out).cellA 2
                have lfz := (HPD.out.call HBW.out).freeA 2
                simp only [List.getElem?_toArray, List.getElem?_cons_succ, List.getElem?_cons_zero] at lz
                have hwz5 : w.heap.size < W5.heap.size := by have := (HPD.out.call HBW.out).size; omega
                refine wpTill_ready (rs := [15]) (by kernel_rfl) (by simp) ?_
                refine AllReadyT.cons rfl (fun K hK => ?_) AllReadyT.nil
                go_simp
                refine hK.out _ _ (.inl rfl) ?_
                clear hK K
                refine wpTill_done (by kernel_rfl) ?_ _
                refine NoPanic.normal ?_
                have HP5 := toHidC ((HPD.out.call HBW.out).set (.slice pc (l.length + 1) qc))
                have HBX : Hid (Below w.heap.size w W5) := below_step HBD.out HBW.out
                have HFIN : Hid (BookNew lo (W5.setCell ⟨w.heap.size, 2, none⟩ (.slice pc (l.length + 1) qc)) (.slice xa ks.length xc) (.slice ya ps.length yc) (.slice pc (l.length + 1) qc) ks ps (putE es n f) ∧ Below w.heap.size w (W5.setCell ⟨w.heap.size, 2, none⟩ (.slice pc (l.length + 1) qc))) := by
                  have hins : PairsNew W5 lo (.slice pc (l.length + 1) qc) (l.take l.length ++ (⟨n, [f]⟩, .slice (some ⟨wr.heap.size, 0, none⟩) 1 1) :: l.drop l.length) := by
                    refine HE.out.ins HBX.out (own_new1 ((HBW.out.block _ (by omega)).trans HFD.out) (by omega)) (fun q hq => by have hq2 : wr.heap.size = q := Option.some.inj hq; omega) ?_
                    have h := own_mono RD.out hlo0
                    rw [List.take_length, List.drop_length, pairRows_app, List.length_append]
                    exact h
                  have hbn : BookNew lo W5 (.slice xa ks.length xc) (.slice ya ps.length yc) (.slice pc (l.length + 1) qc) ks ps (putE es n f) := by
                    refine ⟨ownsRow_keep HXY.out.1 HBX.out, ownsRow_keep HXY.out.2 HBX.out, _, ?_, hins⟩
                    rw [HP.out, List.take_length, List.drop_length, List.map_append, HL.out]; rfl
                  exact ⟨hbn.box (HPD.out.call HBW.out).a (grown_setF W5 w.heap.size 2 _), HBX.out.setCell (p := ⟨w.heap.size, 2, none⟩) (Nat.le_refl _) _⟩
                generalize W5.setCell ⟨w.heap.size, 2, none⟩ (.slice pc (l.length + 1) qc) = W9 at *
                clear lz lfz hwz5
                obtain ⟨q0, q1, q2⟩ : W9.cell? ⟨w.heap.size, 0, none⟩ = some (.slice xa ks.length xc) ∧ W9.cell? ⟨w.heap.size, 1, none⟩ = some (.slice ya ps.length yc) ∧ W9.cell? ⟨w.heap.size, 2, none⟩ = some (.slice pc (l.length + 1) qc) := ⟨HP5.out.cellA 0, HP5.out.cellA 1, HP5.out.cellA 2⟩
                have hrow := HP5.out.c
                go_wp2_with (refine wpList_store_row rfl 39 _ _ rfl (w.heap.size + 1 + 1) #[.slice xa ks.length xc, .slice ya ps.length yc, .slice pc (l.length + 1) qc] rfl rfl 39 _ hrow (by kernel_rfl) rfl (by simp [Value.oneCell']) ?_)
                exact bodyPost_ret (v := .agg #[.slice xa ks.length xc, .slice ya ps.length yc, .slice pc (l.length + 1) qc]) (by simp [results, Tryz.results28, go_sem, cell_setRow_same _ _ _ _ _ _ _ hrow]) rfl ⟨_, rfl, HFIN.out.1.box hrow (grown_rowF W9 (w.heap.size + 1 + 1) _), below_setRow (HFIN.out.2.mono hlo) (by omega) _, fun X D hX => ((below_setRow HFIN.out.2 (by omega) _).block X (Array.getElem?_eq_some_iff.1 hX).1).trans hX⟩
              · go_simp
                have HB2 : Hid (Below W0.heap.size W0 (W1.alloc (.cells #[.string n, .slice (some ⟨wr.heap.size, 0, none⟩) 1 1] 73))) := HBW.out.alloc HBW.out.size _
                have BX : Hid ((W1.alloc (.cells #[.string n, .slice (some ⟨wr.heap.size, 0, none⟩) 1 1] 73)).heap[W1.heap.size]? = some (.cells #[.string n, .slice (some ⟨wr.heap.size, 0, none⟩) 1 1] 73 (0, 0))) := heap_newF W1 _
                have RD2 := toHidC (ownsRow_keep RD.out ((Below.refl _ W1).alloc (Nat.le_refl _) (.cells #[.string n, .slice (some ⟨wr.heap.size, 0, none⟩) 1 1] 73)))
                have HNE : Hid (∀ q, Value.ownBlock _ = some q → some (W1.heap.size) ≠ some q) := fun q hq e => by have := own_lt RD.out q hq; injection e with e; omega
                refine hK.out _ _ (.inr (HSS.out _ HB2.out)) ?_
                clear hK K HBW
                have HBW := HB2
                clear HB2
                have hBF : W1.heap.size < (W1.alloc (.cells #[.string n, .slice (some ⟨wr.heap.size, 0, none⟩) 1 1] 73)).heap.size := by rw [World.size_alloc]; omega
                clear RD
                have RD := RD2
                clear RD2
                generalize W1.alloc (.cells #[.string n, .slice (some ⟨wr.heap.size, 0, none⟩) 1 1] 73) = W2 at *
                refine wpTill_ready (rs := [5]) (by kernel_rfl) (by simp) ?_
                refine AllReadyT.cons rfl (fun K hK => ?_) AllReadyT.nil
                refine step_append_any _ rfl _ _ 37 rfl W0.heap.size 73 i0 _ 2 40 Tryz.underlying37 hi hz0 hz1 hz2 rfl (by decide) _ 0 [] rfl RD.out _ l.length _ (pairRows l) rfl (.inr ⟨_, rfl, fun q u hu => by rw [addr_add, Nat.zero_add]; exact HSR.out _ HBW.out q u hu⟩) (pairRows_length _) (HON.out _ (fun p hp => hp)) (by unfold maxLen; omega) (by omega) HBW.out.size ?_
                intro va W3 hown hgrow hat
                simp only [Nat.zero_add, List.nil_append] at hown
                have HB2 : Hid (Below W0.heap.size W0 W3) := HBW.out.grown hgrow HBW.out.size (fun q e => own_ge RD.out q e)
                have BX2 := toHidC ((hgrow.block _ hBF (fun e => HNE.out _ e.symm rfl)).trans BX.out)
                have hBF2 := Nat.lt_of_lt_of_le hBF hgrow.size
                refine hK.out _ _ (.inr (HSS.out _ HB2.out)) ?_
                clear hat hgrow RD
                clear BX HNE hBF
                have BX := BX2
                have hBF := hBF2
                clear BX2 hBF2
                clear hK K HBW
                have HBW := HB2
                clear HB2
                have RD := toHidC hown
                obtain ⟨pa, qa, rfl⟩ := own_slice hown
                clear hown
                refine wpTill_ready (rs := [8]) (by kernel_rfl) (by simp) ?_
                refine AllReadyT.cons rfl (fun K hK => ?_) AllReadyT.nil
                refine step_append_any _ rfl _ _ 37 rfl W0.heap.size 73 i0 _ 2 40 Tryz.underlying37 hi hz0 hz1 hz2 rfl (by decide) _ l.length (pairRows l) rfl RD.out _ 1 _ [.string n, .slice (some ⟨wr.heap.size, 0, none⟩) 1 1] rfl (.inr ⟨_, rfl, World.news_of_block BX.out⟩) rfl (fun u hu => by simp only [List.mem_cons, List.not_mem_nil, or_false] at hu; rcases hu with rfl | rfl <;> rfl) (by unfold maxLen; omega) (by omega) HBW.out.size ?_
                intro vb W4 hown hgrow hat
                have HB2 : Hid (Below W0.heap.size W0 W4) := HBW.out.grown hgrow HBW.out.size (fun q e => own_ge RD.out q e)
                refine hK.out _ _ (.inr (HSS.out _ HB2.out)) ?_
                clear hat hgrow RD
                clear hK K HBW
                have HBW := HB2
                clear HB2
                have RD := toHidC hown
                obtain ⟨pb, qb, rfl⟩ := own_slice hown
                clear hown
                refine wpTill_ready (rs := [13]) (by kernel_rfl) (by simp) ?_
                refine AllReadyT.cons rfl (fun K hK => ?_) AllReadyT.nil
                refine step_append_any _ rfl _ _ 37 rfl W0.heap.size 73 i0 _ 2 40 Tryz.underlying37 hi hz0 hz1 hz2 rfl (by decide) _ (l.length + 1) (pairRows l ++ [Value.string n, Value.slice (some ⟨wr.heap.size, 0, none⟩) 1 1]) rfl RD.out _ 0 _ [] rfl (.inl rfl) rfl (fun u hu => by cases hu) (by unfold maxLen; omega) (by omega) HBW.out.size ?_
                intro vc W5 hown hgrow hat
                simp only [Nat.add_zero, List.append_nil] at hown
                have HB2 : Hid (Below W0.heap.size W0 W5) := HBW.out.grown hgrow HBW.out.size (fun q e => own_ge RD.out q e)
                refine hK.out _ _ (.inr (HSS.out _ HB2.out)) ?_
                clear hat hgrow RD
                clear hK K HBW
                have HBW := HB2
                clear HB2
                have RD := toHidC hown
                obtain ⟨pc, qc, rfl⟩ := own_slice hown
                clear hown
                have hHeld := HSS.out _ HBW.out
                refine wpTill_take (i := 14) (v := ?_) rfl (by kernel_rfl) (by kernel_rfl) (by kernel_rfl) (by kernel_rfl) (fun _ _ _ h => h) (Or.inl ⟨by rfl, ?_⟩) (by assumption) ?_
                rotate_left
                · intro w hSw; (try dsimp only at hSw); go_simp; try with_reducible rfl
                simp only [Act.put, List.setIfInBounds_toArray, List.set_cons_zero, List.set_cons_succ, List.getElem_toArray, List.getElem_cons_succ, List.getElem_cons_zero]
                clear hHeld
                have lz := (HPD.out.call HBW.out).cellA 2
                have lfz := (HPD.out.call HBW.out).freeA 2
                simp only [List.getElem?_toArray, List.getElem?_cons_succ, List.getElem?_cons_zero] at lz
                have hwz5 : w.heap.size < W5.heap.size := by have := (HPD.out.call HBW.out).size; omega
                refine wpTill_ready (rs := [15]) (by kernel_rfl) (by simp) ?_
                refine AllReadyT.cons rfl (fun K hK => ?_) AllReadyT.nil
                go_simp
                refine hK.out _ _ (.inl rfl) ?_
                clear hK K
                refine wpTill_done (by kernel_rfl) ?_ _
                refine NoPanic.normal ?_
                have HP5 := toHidC ((HPD.out.call HBW.out).set (.slice pc (l.length + 1) qc))
                have HBX : Hid (Below w.heap.size w W5) := below_step HBD.out HBW.out
                have HFIN : Hid (BookNew lo (W5.setCell ⟨w.heap.size, 2, none⟩ (.slice pc (l.length + 1) qc)) (.slice xa ks.length xc) (.slice ya ps.length yc) (.slice pc (l.length + 1) qc) ks ps (putE es n f) ∧ Below w.heap.size w (W5.setCell ⟨w.heap.size, 2, none⟩ (.slice pc (l.length + 1) qc))) := by
                  have hins : PairsNew W5 lo (.slice pc (l.length + 1) qc) (l.take l.length ++ (⟨n, [f]⟩, .slice (some ⟨wr.heap.size, 0, none⟩) 1 1) :: l.drop l.length) := by
                    refine HE.out.ins HBX.out (own_new1 ((HBW.out.block _ (by omega)).trans HFD.out) (by omega)) (fun q hq => by have hq2 : wr.heap.size = q := Option.some.inj hq; omega) ?_
                    have h := own_mono RD.out hlo0
                    rw [List.take_length, List.drop_length, pairRows_app, List.length_append]
                    exact h
                  have hbn : BookNew lo W5 (.slice xa ks.length xc) (.slice ya ps.length yc) (.slice pc (l.length + 1) qc) ks ps (putE es n f) := by
                    refine ⟨ownsRow_keep HXY.out.1 HBX.out, ownsRow_keep HXY.out.2 HBX.out, _, ?_, hins⟩
                    rw [HP.out, List.take_length, List.drop_length, List.map_append, HL.out]; rfl
                  exact ⟨hbn.box (HPD.out.call HBW.out).a (grown_setF W5 w.heap.size 2 _), HBX.out.setCell (p := ⟨w.heap.size, 2, none⟩) (Nat.le_refl _) _⟩
                generalize W5.setCell ⟨w.heap.size, 2, none⟩ (.slice pc (l.length + 1) qc) = W9 at *
                clear lz lfz hwz5
                obtain ⟨q0, q1, q2⟩ : W9.cell? ⟨w.heap.size, 0, none⟩ = some (.slice xa ks.length xc) ∧ W9.cell? ⟨w.heap.size, 1, none⟩ = some (.slice ya ps.length yc) ∧ W9.cell? ⟨w.heap.size, 2, none⟩ = some (.slice pc (l.length + 1) qc) := ⟨HP5.out.cellA 0, HP5.out.cellA 1, HP5.out.cellA 2⟩
                have hrow := HP5.out.c
                go_wp2_with (refine wpList_store_row rfl 39 _ _ rfl (w.heap.size + 1 + 1) #[.slice xa ks.length xc, .slice ya ps.length yc, .slice pc (l.length + 1) qc] rfl rfl 39 _ hrow (by kernel_rfl) rfl (by simp [Value.oneCell']) ?_)
                exact bodyPost_ret (v := .agg #[.slice xa ks.length xc, .slice ya ps.length yc, .slice pc (l.length + 1) qc]) (by simp [results, Tryz.results28, go_sem, cell_setRow_same _ _ _ _ _ _ _ hrow]) rfl ⟨_, rfl, HFIN.out.1.box hrow (grown_rowF W9 (w.heap.size + 1 + 1) _), below_setRow (HFIN.out.2.mono hlo) (by omega) _, fun X D hX => ((below_setRow HFIN.out.2 (by omega) _).block X (Array.getElem?_eq_some_iff.1 hX).1).trans hX⟩
            · go_simp
              have HB2 : Hid (Below W0.heap.size W0 (W0.alloc (.cells #[.string n, .slice (some ⟨wr.heap.size, 0, none⟩) 1 1] 73))) := HBW.out.alloc HBW.out.size _
              have BX : Hid ((W0.alloc (.cells #[.string n, .slice (some ⟨wr.heap.size, 0, none⟩) 1 1] 73)).heap[W0.heap.size]? = some (.cells #[.string n, .slice (some ⟨wr.heap.size, 0, none⟩) 1 1] 73 (0, 0))) := heap_newF W0 _
              refine hK.out _ _ (.inr (HSS.out _ HB2.out)) ?_
              clear hK K HBW
              have HBW := HB2
              clear HB2
              have hBF : W0.heap.size < (W0.alloc (.cells #[.string n, .slice (some ⟨wr.heap.size, 0, none⟩) 1 1] 73)).heap.size := by rw [World.size_alloc]; omega
              generalize W0.alloc (.cells #[.string n, .slice (some ⟨wr.heap.size, 0, none⟩) 1 1] 73) = W1 at *
              refine wpTill_ready (rs := [0]) (by kernel_rfl) (by simp) ?_
              refine AllReadyT.cons rfl (fun K hK => ?_) AllReadyT.nil
              go_simp
              have HB2 : Hid (Below W0.heap.size W0 (W1.alloc (.cells #[] 73))) := HBW.out.alloc HBW.out.size _
              have RD : Hid ((W1.alloc (.cells #[] 73)).ownsRow W0.heap.size 73 2 (.slice (some ⟨W1.heap.size, 0, none⟩) 0 0) 0 []) := own_new0 (heap_newF W1 _) HBW.out.size 2
              have HNE : Hid (∀ q, (Value.slice (some ⟨W1.heap.size, 0, none⟩) 0 0).ownBlock = some q → some (W0.heap.size) ≠ some q) := fun q hq e => by have hq2 : W1.heap.size = q := Option.some.inj hq; injection e with e; omega
              have BX2 := toHidC ((Below.heap_alloc W1 (.cells #[] 73) _ hBF).trans BX.out)
              have hBF2 : W0.heap.size < (W1.alloc (.cells #[] 73)).heap.size := by rw [World.size_alloc]; omega
              refine hK.out _ _ (.inr (HSS.out _ HB2.out)) ?_
              clear hK K HBW
              have HBW := HB2
              clear HB2
              clear BX hBF
              have BX := BX2
              have hBF := hBF2
              clear BX2 hBF2
              generalize W1.alloc (.cells #[] 73) = W2 at *
              refine wpTill_ready (rs := [5]) (by kernel_rfl) (by simp) ?_
              refine AllReadyT.cons rfl (fun K hK => ?_) AllReadyT.nil
              refine step_append_any _ rfl _ _ 37 rfl W0.heap.size 73 i0 _ 2 40 Tryz.underlying37 hi hz0 hz1 hz2 rfl (by decide) _ 0 [] rfl RD.out _ l.length _ (pairRows l) rfl (.inr ⟨_, rfl, fun q u hu => by rw [addr_add, Nat.zero_add]; exact HSR.out _ HBW.out q u hu⟩) (pairRows_length _) (HON.out _ (fun p hp => hp)) (by unfold maxLen; omega) (by omega) HBW.out.size ?_
              intro va W3 hown hgrow hat
              simp only [Nat.zero_add, List.nil_append] at hown
              have HB2 : Hid (Below W0.heap.size W0 W3) := HBW.out.grown hgrow HBW.out.size (fun q e => own_ge RD.out q e)
              have BX2 := toHidC ((hgrow.block _ hBF (fun e => HNE.out _ e.symm rfl)).trans BX.out)
              have hBF2 := Nat.lt_of_lt_of_le hBF hgrow.size
              refine hK.out _ _ (.inr (HSS.out _ HB2.out)) ?_
              clear hat hgrow RD
              clear BX HNE hBF
              have BX := BX2
              have hBF := hBF2
              clear BX2 hBF2
              clear hK K HBW
              have HBW := HB2
              clear HB2
              have RD := toHidC hown
              obtain ⟨pa, qa, rfl⟩ := own_slice hown
              clear hown
              refine wpTill_ready (rs := [8]) (by kernel_rfl) (by simp) ?_
              refine AllReadyT.cons rfl (fun K hK => ?_) AllReadyT.nil
              refine step_append_any _ rfl _ _ 37 rfl W0.heap.size 73 i0 _ 2 40 Tryz.underlying37 hi hz0 hz1 hz2 rfl (by decide) _ l.length (pairRows l) rfl RD.out _ 1 _ [.string n, .slice (some ⟨wr.heap.size, 0, none⟩) 1 1] rfl (.inr ⟨_, rfl, World.news_of_block BX.out⟩) rfl (fun u hu => by simp only [List.mem_cons, List.not_mem_nil, or_false] at hu; rcases hu with rfl | rfl <;> rfl) (by unfold maxLen; omega) (by omega) HBW.out.size ?_
              intro vb W4 hown hgrow hat
              have HB2 : Hid (Below W0.heap.size W0 W4) := HBW.out.grown hgrow HBW.out.size (fun q e => own_ge RD.out q e)
              refine hK.out _ _ (.inr (HSS.out _ HB2.out)) ?_
              clear hat hgrow RD
              clear hK K HBW
              have HBW := HB2
              clear HB2
              have RD := toHidC hown
              obtain ⟨pb, qb, rfl⟩ := own_slice hown
              clear hown
              refine wpTill_ready (rs := [13]) (by kernel_rfl) (by simp) ?_
              refine AllReadyT.cons rfl (fun K hK => ?_) AllReadyT.nil
              refine step_append_any _ rfl _ _ 37 rfl W0.heap.size 73 i0 _ 2 40 Tryz.underlying37 hi hz0 hz1 hz2 rfl (by decide) _ (l.length + 1) (pairRows l ++ [Value.string n, Value.slice (some ⟨wr.heap.size, 0, none⟩) 1 1]) rfl RD.out _ 0 _ [] rfl (.inl rfl) rfl (fun u hu => by cases hu) (by unfold maxLen; omega) (by omega) HBW.out.size ?_
              intro vc W5 hown hgrow hat
              simp only [Nat.add_zero, List.append_nil] at hown
              have HB2 : Hid (Below W0.heap.size W0 W5) := HBW.out.grown hgrow HBW.out.size (fun q e => own_ge RD.out q e)
              refine hK.out _ _ (.inr (HSS.out _ HB2.out)) ?_
              clear hat hgrow RD
              clear hK K HBW
              have HBW := HB2
              clear HB2
              have RD := toHidC hown
              obtain ⟨pc, qc, rfl⟩ := own_slice hown
              clear hown
              have hHeld := HSS.out _ HBW.out
              refine wpTill_take (i := 14) (v := ?_) rfl (by kernel_rfl) (by kernel_rfl) (by kernel_rfl) (by kernel_rfl) (fun _ _ _ h => h) (Or.inl ⟨by rfl, ?_⟩) (by assumption) ?_
              rotate_left
              · intro w hSw; (try dsimp only at hSw); go_simp; try with_reducible rfl
              simp only [Act.put, List.setIfInBounds_toArray, List.set_cons_zero, List.set_cons_succ, List.getElem_toArray, List.getElem_cons_succ, List.getElem_cons_zero]
              clear hHeld
              have lz := (HPD.out.call HBW.out).cellA 2
              have lfz := (HPD.out.call HBW.out).freeA 2
              simp only [List.getElem?_toArray, List.getElem?_cons_succ, List.getElem?_cons_zero] at lz
              have hwz5 : w.heap.size < W5.heap.size := by have := (HPD.out.call HBW.out).size; omega
              refine wpTill_ready (rs := [15]) (by kernel_rfl) (by simp) ?_
              refine AllReadyT.cons rfl (fun K hK => ?_) AllReadyT.nil
              go_simp
              refine hK.out _ _ (.inl rfl) ?_
              clear hK K
              refine wpTill_done (by kernel_rfl) ?_ _
              refine NoPanic.normal ?_
              have HP5 := toHidC ((HPD.out.call HBW.out).set (.slice pc (l.length + 1) qc))
              have HBX : Hid (Below w.heap.size w W5) := below_step HBD.out HBW.out
              have HFIN : Hid (BookNew lo (W5.setCell ⟨w.heap.size, 2, none⟩ (.slice pc (l.length + 1) qc)) (.slice xa ks.length xc) (.slice ya ps.length yc) (.slice pc (l.length + 1) qc) ks ps (putE es n f) ∧ Below w.heap.size w (W5.setCell ⟨w.heap.size, 2, none⟩ (.slice pc (l.length + 1) qc))) := by
                have hins : PairsNew W5 lo (.slice pc (l.length + 1) qc) (l.take l.length ++ (⟨n, [f]⟩, .slice (some ⟨wr.heap.size, 0, none⟩) 1 1) :: l.drop l.length) := by
                  refine HE.out.ins HBX.out (own_new1 ((HBW.out.block _ (by omega)).trans HFD.out) (by omega)) (fun q hq => by have hq2 : wr.heap.size = q := Option.some.inj hq; omega) ?_
                  have h := own_mono RD.out hlo0
                  rw [List.take_length, List.drop_length, pairRows_app, List.length_append]
                  exact h
                have hbn : BookNew lo W5 (.slice xa ks.length xc) (.slice ya ps.length yc) (.slice pc (l.length + 1) qc) ks ps (putE es n f) := by
                  refine ⟨ownsRow_keep HXY.out.1 HBX.out, ownsRow_keep HXY.out.2 HBX.out, _, ?_, hins⟩
                  rw [HP.out, List.take_length, List.drop_length, List.map_append, HL.out]; rfl
                exact ⟨hbn.box (HPD.out.call HBW.out).a (grown_setF W5 w.heap.size 2 _), HBX.out.setCell (p := ⟨w.heap.size, 2, none⟩) (Nat.le_refl _) _⟩
              generalize W5.setCell ⟨w.heap.size, 2, none⟩ (.slice pc (l.length + 1) qc) = W9 at *
              clear lz lfz hwz5
              obtain ⟨q0, q1, q2⟩ : W9.cell? ⟨w.heap.size, 0, none⟩ = some (.slice xa ks.length xc) ∧ W9.cell? ⟨w.heap.size, 1, none⟩ = some (.slice ya ps.length yc) ∧ W9.cell? ⟨w.heap.size, 2, none⟩ = some (.slice pc (l.length + 1) qc) := ⟨HP5.out.cellA 0, HP5.out.cellA 1, HP5.out.cellA 2⟩
              have hrow := HP5.out.c
              go_wp2_with (refine wpList_store_row rfl 39 _ _ rfl (w.heap.size + 1 + 1) #[.slice xa ks.length xc, .slice ya ps.length yc, .slice pc (l.length + 1) qc] rfl rfl 39 _ hrow (by kernel_rfl) rfl (by simp [Value.oneCell']) ?_)
              exact bodyPost_ret (v := .agg #[.slice xa ks.length xc, .slice ya ps.length yc, .slice pc (l.length + 1) qc]) (by simp [results, Tryz.results28, go_sem, cell_setRow_same _ _ _ _ _ _ _ hrow]) rfl ⟨_, rfl, HFIN.out.1.box hrow (grown_rowF W9 (w.heap.size + 1 + 1) _), below_setRow (HFIN.out.2.mono hlo) (by omega) _, fun X D hX => ((below_setRow HFIN.out.2 (by omega) _).block X (Array.getElem?_eq_some_iff.1 hX).1).trans hX⟩
          · clear hj0 hjl
            have hal1 : Below wr.heap.size wr (wr.alloc (.cells #[.int .i64 f.what, .int .i64 f.num, .string f.v] 62)) := (Below.refl _ _).alloc (Nat.le_refl _) _
            have hal2 : Below wr.heap.size wr ((wr.alloc (.cells #[.int .i64 f.what, .int .i64 f.num, .string f.v] 62)).alloc (.cells #[.string n, .slice (some ⟨wr.heap.size, 0, none⟩) 1 1] 73)) := hal1.alloc hal1.size _
            have HP2 : Hid (P3 w ((wr.alloc (.cells #[.int .i64 f.what, .int .i64 f.num, .string f.v] 62)).alloc (.cells #[.string n, .slice (some ⟨wr.heap.size, 0, none⟩) 1 1] 73)) #[.slice xa ks.length xc, .slice ya ps.length yc, .slice (some ⟨g, 0, none⟩) l.length zc] f) := HP1.out.call hal2
            have HB2 : Hid (Below w.heap.size w ((wr.alloc (.cells #[.int .i64 f.what, .int .i64 f.num, .string f.v] 62)).alloc (.cells #[.string n, .slice (some ⟨wr.heap.size, 0, none⟩) 1 1] 73))) := below_step HB1.out hal2
            have HF2 : Hid (((wr.alloc (.cells #[.int .i64 f.what, .int .i64 f.num, .string f.v] 62)).alloc (.cells #[.string n, .slice (some ⟨wr.heap.size, 0, none⟩) 1 1] 73)).heap[wr.heap.size]? = some (.cells #[.int .i64 f.what, .int .i64 f.num, .string f.v] 62 (0, 0))) := (Below.heap_alloc _ _ _ (by simp)).trans (heap_newF wr _)
            have he2 := heap_newF (wr.alloc (.cells #[.int .i64 f.what, .int .i64 f.num, .string f.v] 62)) (.cells #[.string n, .slice (some ⟨wr.heap.size, 0, none⟩) 1 1] 73)
            rw [World.size_alloc] at he2
            have HE2 := toHidC he2
            have hwz : w.heap.size + 2 < wr.heap.size := HP1.out.size
            clear hal1 hal2 he2
            go_wp2
            clear q0 q1 q2 b0 b1 b2
            generalize ((wr.alloc (.cells #[.int .i64 f.what, .int .i64 f.num, .string f.v] 62)).alloc (.cells #[.string n, .slice (some ⟨wr.heap.size, 0, none⟩) 1 1] 73)) = wq at *
            refine wp_region_noPanic ?_
            have hed : wq.drew.heap[wr.heap.size + 1]? = some (.cells #[.string n, .slice (some ⟨wr.heap.size, 0, none⟩) 1 1] 73 (0, 0)) := HE2.out
            refine wp_region_till (S := fun w' => w'.cell? ⟨w.heap.size, 2, none⟩ = some (.slice (some ⟨g, 0, none⟩) l.length zc) ∧ w'.cell? ⟨wr.heap.size + 1, 0, none⟩ = some (.string n) ∧ w'.cell? ⟨wr.heap.size + 1, 1, none⟩ = some (.slice (some ⟨wr.heap.size, 0, none⟩) 1 1)) 15 (by kernel_rfl) ?_ (fun hHeld => ?_)
            · exact ⟨HP2.out.drew.cellA 2, by simp [World.cell?, hed], by simp [World.cell?, hed]⟩
            clear hed
            have HPD : Hid (P3 w wq.drew #[.slice xa ks.length xc, .slice ya ps.length yc, .slice (some ⟨g, 0, none⟩) l.length zc] f) := HP2.out.drew
            have HBD : Hid (Below w.heap.size w wq.drew) := HB2.out.drew
            have HED : Hid (wq.drew.heap[wr.heap.size + 1]? = some (.cells #[.string n, .slice (some ⟨wr.heap.size, 0, none⟩) 1 1] 73 (0, 0))) := HE2.out
            have HFD : Hid (wq.drew.heap[wr.heap.size]? = some (.cells #[.int .i64 f.what, .int .i64 f.num, .string f.v] 62 (0, 0))) := HF2.out
            generalize wq.drew = W0 at *
            clear HP2 HB2 HE2 HF2
            refine wpTill_take (i := 1) (v := ?_) rfl (by kernel_rfl) (by kernel_rfl) (by kernel_rfl) (by kernel_rfl) (fun _ _ _ h => h) (Or.inl ⟨by rfl, ?_⟩) (by assumption) ?_
            rotate_left
            · intro w hSw; (try dsimp only at hSw); go_simp; try with_reducible rfl
            simp only [Act.put, List.setIfInBounds_toArray, List.set_cons_zero, List.set_cons_succ, List.getElem_toArray, List.getElem_cons_succ, List.getElem_cons_zero]
            refine wpTill_take (i := 2) (v := ?_) rfl (by kernel_rfl) (by kernel_rfl) (by kernel_rfl) (by kernel_rfl) (fun _ _ _ h => h) (Or.inl ⟨by rfl, ?_⟩) (by assumption) ?_
            rotate_left
            · intro w hSw; (try dsimp only at hSw); go_simp; try with_reducible rfl
            simp only [Act.put, List.setIfInBounds_toArray, List.set_cons_zero, List.set_cons_succ, List.getElem_toArray, List.getElem_cons_succ, List.getElem_cons_zero]
            refine wpTill_take (i := 3) (v := ?_) rfl (by kernel_rfl) (by kernel_rfl) (by kernel_rfl) (by kernel_rfl) (fun _ _ _ h => h) (Or.inl ⟨by rfl, ?_⟩) (by assumption) ?_
            rotate_left
            · intro w hSw; (try dsimp only at hSw); go_simp; try with_reducible rfl
            simp only [Act.put, List.setIfInBounds_toArray, List.set_cons_zero, List.set_cons_succ, List.getElem_toArray, List.getElem_cons_succ, List.getElem_cons_zero]
            refine wpTill_take (i := 4) (v := ?_) rfl (by kernel_rfl) (by kernel_rfl) (by kernel_rfl) (by kernel_rfl) (fun _ _ _ h => h) (Or.inl ⟨by rfl, ?_⟩) (by assumption) ?_
            rotate_left
            · intro w hSw; (try dsimp only at hSw); go_simp; try with_reducible rfl
            simp only [Act.put, List.setIfInBounds_toArray, List.set_cons_zero, List.set_cons_succ, List.getElem_toArray, List.getElem_cons_succ, List.getElem_cons_zero]
            refine wpTill_take (i := 6) (v := ?_) rfl (by kernel_rfl) (by kernel_rfl) (by kernel_rfl) (by kernel_rfl) (fun _ _ _ h => h) (Or.inl ⟨by rfl, ?_⟩) (by assumption) ?_
            rotate_left
            · intro w hSw; (try dsimp only at hSw); go_simp; try with_reducible rfl
            simp only [Act.put, List.setIfInBounds_toArray, List.set_cons_zero, List.set_cons_succ, List.getElem_toArray, List.getElem_cons_succ, List.getElem_cons_zero]
            refine wpTill_take (i := 9) (v := ?_) rfl (by kernel_rfl) (by kernel_rfl) (by kernel_rfl) (by kernel_rfl) (fun _ _ _ h => h) (Or.inl ⟨by rfl, ?_⟩) (by assumption) ?_
            rotate_left
            · intro w hSw; (try dsimp only at hSw); go_simp; try with_reducible rfl
            simp only [Act.put, List.setIfInBounds_toArray, List.set_cons_zero, List.set_cons_succ, List.getElem_toArray, List.getElem_cons_succ, List.getElem_cons_zero]
            refine wpTill_take (i := 10) (v := ?_) rfl (by kernel_rfl) (by kernel_rfl) (by kernel_rfl) (by kernel_rfl) (fun _ _ _ h => h) (Or.inl ⟨by rfl, ?_⟩) (by assumption) ?_
            rotate_left
            · intro w hSw; (try dsimp only at hSw); go_simp; try with_reducible rfl
            simp only [Act.put, List.setIfInBounds_toArray, List.set_cons_zero, List.set_cons_succ, List.getElem_toArray, List.getElem_cons_succ, List.getElem_cons_zero]
            refine wpTill_take (i := 11) (v := ?_) rfl (by kernel_rfl) (by kernel_rfl) (by kernel_rfl) (by kernel_rfl) (fun _ _ _ h => h) (Or.inl ⟨by rfl, ?_⟩) (by assumption) ?_
            rotate_left
            · intro w hSw; (try dsimp only at hSw); go_simp; try with_reducible rfl
            simp only [Act.put, List.setIfInBounds_toArray, List.set_cons_zero, List.set_cons_succ, List.getElem_toArray, List.getElem_cons_succ, List.getElem_cons_zero]
            refine wpTill_take (i := 12) (v := ?_) rfl (by kernel_rfl) (by kernel_rfl) (by kernel_rfl) (by kernel_rfl) (fun _ _ _ h => h) (Or.inl ⟨by rfl, ?_⟩) (by assumption) ?_
            rotate_left
            · intro w hSw; (try dsimp only at hSw); go_simp; try with_reducible rfl
            simp only [Act.put, List.setIfInBounds_toArray, List.set_cons_zero, List.set_cons_succ, List.getElem_toArray, List.getElem_cons_succ, List.getElem_cons_zero]
            clear hHeld
            have hw0 : wr.heap.size + 1 < W0.heap.size := (Array.getElem?_eq_some_iff.1 HED.out).1
            have hlo0 : lo ≤ W0.heap.size := by omega
            have HBW : Hid (Below W0.heap.size W0 W0) := Below.refl _ _
            have HSS : Hid (∀ wx : World, Below W0.heap.size W0 wx → wx.cell? ⟨w.heap.size, 2, none⟩ = some (.slice (some ⟨g, 0, none⟩) l.length zc) ∧ wx.cell? ⟨wr.heap.size + 1, 0, none⟩ = some (.string n) ∧ wx.cell? ⟨wr.heap.size + 1, 1, none⟩ = some (.slice (some ⟨wr.heap.size, 0, none⟩) 1 1)) := fun wx hx => by
              have h1 := (HPD.out.call hx).cellA 2
              have h2 := (hx.block _ hw0).trans HED.out
              exact ⟨h1, by simp [World.cell?, h2], by simp [World.cell?, h2]⟩
            have HSR : Hid (∀ wx : World, Below W0.heap.size W0 wx → ∀ q u, (pairRows l)[q]? = some u → wx.cell? ⟨g, q, none⟩ = some u) := fun wx hx => pair_src ((HE.out.keep HBD.out).keep hx)
            have HON : Hid (∀ m : List EntV, (∀ p ∈ m, p ∈ l) → ∀ u ∈ pairRows m, u.oneCell' = true) := HE.out.one
            refine wpTill_ready (rs := [0, 7]) (by kernel_rfl) (by simp) ?_
            refine AllReadyT.cons rfl (fun K hK => ?_) (AllReadyT.cons rfl (fun K hK => ?_) AllReadyT.nil)
            · go_simp
              have HB2 : Hid (Below W0.heap.size W0 (W0.alloc (.cells #[] 73))) := HBW.out.alloc HBW.out.size _
              have RD : Hid ((W0.alloc (.cells #[] 73)).ownsRow W0.heap.size 73 2 (.slice (some ⟨W0.heap.size, 0, none⟩) 0 0) 0 []) := own_new0 (heap_newF W0 _) HBW.out.size 2
              refine hK.out _ _ (.inr (HSS.out _ HB2.out)) ?_
              clear hK K HBW
              have HBW := HB2
              clear HB2
              generalize W0.alloc (.cells #[] 73) = W1 at *
              refine wpTill_ready (rs := [5, 7]) (by kernel_rfl) (by simp) ?_
              refine AllReadyT.cons rfl (fun K hK => ?_) (AllReadyT.cons rfl (fun K hK => ?_) AllReadyT.nil)
              · refine step_append_any _ rfl _ _ 37 rfl W0.heap.size 73 i0 _ 2 40 Tryz.underlying37 hi hz0 hz1 hz2 rfl (by decide) _ 0 [] rfl RD.out _ l.length _ (pairRows l) rfl (.inr ⟨_, rfl, fun q u hu => by rw [addr_add, Nat.zero_add]; exact HSR.out _ HBW.out q u hu⟩) (pairRows_length _) (HON.out _ (fun p hp => hp)) (by unfold maxLen; omega) (by omega) HBW.out.size ?_
                intro va W2 hown hgrow hat
                simp only [Nat.zero_add, List.nil_append] at hown
                have HB2 : Hid (Below W0.heap.size W0 W2) := HBW.out.grown hgrow HBW.out.size (fun q e => own_ge RD.out q e)
                refine hK.out _ _ (.inr (HSS.out _ HB2.out)) ?_
                clear hat hgrow RD
                clear hK K HBW
                have HBW := HB2
                clear HB2
                have RD := toHidC hown
                obtain ⟨pa, qa, rfl⟩ := own_slice hown
                clear hown
                refine wpTill_ready (rs := [7]) (by kernel_rfl) (by simp) ?_
                refine AllReadyT.cons rfl (fun K hK => ?_) AllReadyT.nil
                go_simp
                have HB2 : Hid (Below W0.heap.size W0 (W2.alloc (.cells #[.string n, .slice (some ⟨wr.heap.size, 0, none⟩) 1 1] 73))) := HBW.out.alloc HBW.out.size _
                have BX : Hid ((W2.alloc (.cells #[.string n, .slice (some ⟨wr.heap.size, 0, none⟩) 1 1] 73)).heap[W2.heap.size]? = some (.cells #[.string n, .slice (some ⟨wr.heap.size, 0, none⟩) 1 1] 73 (0, 0))) := heap_newF W2 _
                have RD2 := toHidC (ownsRow_keep RD.out ((Below.refl _ W2).alloc (Nat.le_refl _) (.cells #[.string n, .slice (some ⟨wr.heap.size, 0, none⟩) 1 1] 73)))
                have HNE : Hid (∀ q, Value.ownBlock _ = some q → some (W2.heap.size) ≠ some q) := fun q hq e => by have := own_lt RD.out q hq; injection e with e; omega
                refine hK.out _ _ (.inr (HSS.out _ HB2.out)) ?_
                clear hK K HBW
                have HBW := HB2
                clear HB2
                have hBF : W2.heap.size < (W2.alloc (.cells #[.string n, .slice (some ⟨wr.heap.size, 0, none⟩) 1 1] 73)).heap.size := by rw [World.size_alloc]; omega
                clear RD
                have RD := RD2
                clear RD2
                generalize W2.alloc (.cells #[.string n, .slice (some ⟨wr.heap.size, 0, none⟩) 1 1] 73) = W3 at *
                refine wpTill_ready (rs := [8]) (by kernel_rfl) (by simp) ?_
                refine AllReadyT.cons rfl (fun K hK => ?_) AllReadyT.nil
                refine step_append_any _ rfl _ _ 37 rfl W0.heap.size 73 i0 _ 2 40 Tryz.underlying37 hi hz0 hz1 hz2 rfl (by decide) _ l.length (pairRows l) rfl RD.out _ 1 _ [.string n, .slice (some ⟨wr.heap.size, 0, none⟩) 1 1] rfl (.inr ⟨_, rfl, World.news_of_block BX.out⟩) rfl (fun u hu => by simp only [List.mem_cons, List.not_mem_nil, or_false] at hu; rcases hu with rfl | rfl <;> rfl) (by unfold maxLen; omega) (by omega) HBW.out.size ?_
                intro vb W4 hown hgrow hat
                have HB2 : Hid (Below W0.heap.size W0 W4) := HBW.out.grown hgrow HBW.out.size (fun q e => own_ge RD.out q e)
                refine hK.out _ _ (.inr (HSS.out _ HB2.out)) ?_
                clear hat hgrow RD
                clear hK K HBW
                have HBW := HB2
                clear HB2
                have RD := toHidC hown
                obtain ⟨pb, qb, rfl⟩ := own_slice hown
                clear hown
                refine wpTill_ready (rs := [13]) (by kernel_rfl) (by simp) ?_
                refine AllReadyT.cons rfl (fun K hK => ?_) AllReadyT.nil
                refine step_append_any _ rfl _ _ 37 rfl W0.heap.size 73 i0 _ 2 40 Tryz.underlying37 hi hz0 hz1 hz2 rfl (by decide) _ (l.length + 1) (pairRows l ++ [Value.string n, Value.slice (some ⟨wr.heap.size, 0, none⟩) 1 1]) rfl RD.out _ 0 _ [] rfl (.inl rfl) rfl (fun u hu => by cases hu) (by unfold maxLen; omega) (by omega) HBW.out.size ?_
                intro vc W5 hown hgrow hat
                simp only [Nat.add_zero, List.append_nil] at hown
                have HB2 : Hid (Below W0.heap.size W0 W5) := HBW.out.grown hgrow HBW.out.size (fun q e => own_ge RD.out q e)
                refine hK.out _ _ (.inr (HSS.out _ HB2.out)) ?_
                clear hat hgrow RD
                clear hK K HBW
                have HBW := HB2
                clear HB2
                have RD := toHidC hown
                obtain ⟨pc, qc, rfl⟩ := own_slice hown
                clear hown
                have hHeld := HSS.out _ HBW.out
                refine wpTill_take (i := 14) (v := ?_) rfl (by kernel_rfl) (by kernel_rfl) (by kernel_rfl) (by kernel_rfl) (fun _ _ _ h => h) (Or.inl ⟨by rfl, ?_⟩) (by assumption) ?_
                rotate_left
                · intro w hSw; (try dsimp only at hSw); go_simp; try with_reducible rfl
                simp only [Act.put, List.setIfInBounds_toArray, List.set_cons_zero, List.set_cons_succ, List.getElem_toArray, List.getElem_cons_succ, List.getElem_cons_zero]
                clear hHeld
                have lz := (HPD.out.call HBW.out).cellA 2
                have lfz := (HPD.out.call HBW.out).freeA 2
                simp only [List.getElem?_toArray, List.getElem?_cons_succ, List.getElem?_cons_zero] at lz
                have hwz5 : w.heap.size < W5.heap.size := by have := (HPD.out.call HBW.out).size; omega
                refine wpTill_ready (rs := [15]) (by kernel_rfl) (by simp) ?_
                refine AllReadyT.cons rfl (fun K hK => ?_) AllReadyT.nil
                go_simp
                refine hK.out _ _ (.inl rfl) ?_
                clear hK K
                refine wpTill_done (by kernel_rfl) ?_ _
                refine NoPanic.normal ?_
                have HP5 := toHidC ((HPD.out.call HBW.out).set (.slice pc (l.length + 1) qc))
                have HBX : Hid (Below w.heap.size w W5) := below_step HBD.out HBW.out
                have HFIN : Hid (BookNew lo (W5.setCell ⟨w.heap.size, 2, none⟩ (.slice pc (l.length + 1) qc)) (.slice xa ks.length xc) (.slice ya ps.length yc) (.slice pc (l.length + 1) qc) ks ps (putE es n f) ∧ Below w.heap.size w (W5.setCell ⟨w.heap.size, 2, none⟩ (.slice pc (l.length + 1) qc))) := by
                  have hins : PairsNew W5 lo (.slice pc (l.length + 1) qc) (l.take l.length ++ (⟨n, [f]⟩, .slice (some ⟨wr.heap.size, 0, none⟩) 1 1) :: l.drop l.length) := by
                    refine HE.out.ins HBX.out (own_new1 ((HBW.out.block _ (by omega)).trans HFD.out) (by omega)) (fun q hq => by have hq2 : wr.heap.size = q := Option.some.inj hq; omega) ?_
                    have h := own_mono RD.out hlo0
                    rw [List.take_length, List.drop_length, pairRows_app, List.length_append]
                    exact h
                  have hbn : BookNew lo W5 (.slice xa ks.length xc) (.slice ya ps.length yc) (.slice pc (l.length + 1) qc) ks ps (putE es n f) := by
                    refine ⟨ownsRow_keep HXY.out.1 HBX.out, ownsRow_keep HXY.out.2 HBX.out, _, ?_, hins⟩
                    rw [HP.out, List.take_length, List.drop_length, List.map_append, HL.out]; rfl
                  exact ⟨hbn.box (HPD.out.call HBW.out).a (grown_setF W5 w.heap.size 2 _), HBX.out.setCell (p := ⟨w.heap.size, 2, none⟩) (Nat.le_refl _) _⟩
                generalize W5.setCell ⟨w.heap.size, 2, none⟩ (.slice pc (l.length + 1) qc) = W9 at *
                clear lz lfz hwz5
                obtain ⟨q0, q1, q2⟩ : W9.cell? ⟨w.heap.size, 0, none⟩ = some (.slice xa ks.length xc) ∧ W9.cell? ⟨w.heap.size, 1, none⟩ = some (.slice ya ps.length yc) ∧ W9.cell? ⟨w.heap.size, 2, none⟩ = some (.slice pc (l.length + 1) qc) := ⟨HP5.out.cellA 0, HP5.out.cellA 1, HP5.out.cellA 2⟩
                have hrow := HP5.out.c
                go_wp2_with (refine wpList_store_row rfl 39 _ _ rfl (w.heap.size + 1 + 1) #[.slice xa ks.length xc, .slice ya ps.length yc, .slice pc (l.length + 1) qc] rfl rfl 39 _ hrow (by kernel_rfl) rfl (by simp [Value.oneCell']) ?_)
                exact bodyPost_ret (v := .agg #[.slice xa ks.length xc, .slice ya ps.length yc, .slice pc (l.length + 1) qc]) (by simp [results, Tryz.results28, go_sem, cell_setRow_same _ _ _ _ _ _ _ hrow]) rfl ⟨_, rfl, HFIN.out.1.box hrow (grown_rowF W9 (w.heap.size + 1 + 1) _), below_setRow (HFIN.out.2.mono hlo) (by omega) _, fun X D hX => ((below_setRow HFIN.out.2 (by omega) _).block X (Array.getElem?_eq_some_iff.1 hX).1).trans hX⟩
              · go_simp
                have HB2 : Hid (Below W0.heap.size W0 (W1.alloc (.cells #[.string n, .slice (some ⟨wr.heap.size, 0, none⟩) 1 1] 73))) := HBW.out.alloc HBW.out.size _
                have BX : Hid ((W1.alloc (.cells #[.string n, .slice (some ⟨wr.heap.size, 0, none⟩) 1 1] 73)).heap[W1.heap.size]? = some (.cells #[.string n, .slice (some ⟨wr.heap.size, 0, none⟩) 1 1] 73 (0, 0))) := heap_newF W1 _
                have RD2 := toHidC (ownsRow_keep RD.out ((Below.refl _ W1).alloc (Nat.le_refl _) (.cells #[.string n, .slice (some ⟨wr.heap.size, 0, none⟩) 1 1] 73)))
                have HNE : Hid (∀ q, Value.ownBlock _ = some q → some (W1.heap.size) ≠ some q) := fun q hq e => by have := own_lt RD.out q hq; injection e with e; omega
                refine hK.out _ _ (.inr (HSS.out _ HB2.out)) ?_
                clear hK K HBW
                have HBW := HB2
                clear HB2
                have hBF : W1.heap.size < (W1.alloc (.cells #[.string n, .slice (some ⟨wr.heap.size, 0, none⟩) 1 1] 73)).heap.size := by rw [World.size_alloc]; omega
                clear RD
                have RD := RD2
                clear RD2
                generalize W1.alloc (.cells #[.string n, .slice (some ⟨wr.heap.size, 0, none⟩) 1 1] 73) = W2 at *
                refine wpTill_ready (rs := [5]) (by kernel_rfl) (by simp) ?_
                refine AllReadyT.cons rfl (fun K hK => ?_) AllReadyT.nil
                refine step_append_any _ rfl _ _ 37 rfl W0.heap.size 73 i0 _ 2 40 Tryz.underlying37 hi hz0 hz1 hz2 rfl (by decide) _ 0 [] rfl RD.out _ l.length _ (pairRows l) rfl (.inr ⟨_, rfl, fun q u hu => by rw [addr_add, Nat.zero_add]; exact HSR.out _ HBW.out q u hu⟩) (pairRows_length _) (HON.out _ (fun p hp => hp)) (by unfold maxLen; omega) (by omega) HBW.out.size ?_
                intro va W3 hown hgrow hat
                simp only [Nat.zero_add, List.nil_append] at hown
                have HB2 : Hid (Below W0.heap.size W0 W3) := HBW.out.grown hgrow HBW.out.size (fun q e => own_ge RD.out q e)
                have BX2 := toHidC ((hgrow.block _ hBF (fun e => HNE.out _ e.symm rfl)).trans BX.out)
                have hBF2 := Nat.lt_of_lt_of_le hBF hgrow.size
                refine hK.out _ _ (.inr (HSS.out _ HB2.out)) ?_
                clear hat hgrow RD
                clear BX HNE hBF
                have BX := BX2
                have hBF := hBF2
                clear BX2 hBF2
                clear hK K HBW
                have HBW := HB2
                clear HB2
                have RD := toHidC hown
                obtain ⟨pa, qa, rfl⟩ := own_slice hown
                clear hown
                refine wpTill_ready (rs := [8]) (by kernel_rfl) (by simp) ?_
                refine AllReadyT.cons rfl (fun K hK => ?_) AllReadyT.nil
                refine step_append_any _ rfl _ _ 37 rfl W0.heap.size 73 i0 _ 2 40 Tryz.underlying37 hi hz0 hz1 hz2 rfl (by decide) _ l.length (pairRows l) rfl RD.out _ 1 _ [.string n, .slice (some ⟨wr.heap.size, 0, none⟩) 1 1] rfl (.inr ⟨_, rfl, World.news_of_block BX.out⟩) rfl (fun u hu => by simp only [List.mem_cons, List.not_mem_nil, or_false] at hu; rcases hu with rfl | rfl <;> rfl) (by unfold maxLen; omega) (by omega) HBW.out.size ?_
                intro vb W4 hown hgrow hat
                have HB2 : Hid (Below W0.heap.size W0 W4) := HBW.out.grown hgrow HBW.out.size (fun q e => own_ge RD.out q e)
                refine hK.out _ _ (.inr (HSS.out _ HB2.out)) ?_
                clear hat hgrow RD
                clear hK K HBW
                have HBW := HB2
                clear HB2
                have RD := toHidC hown
                obtain ⟨pb, qb, rfl⟩ := own_slice hown
                clear hown
                refine wpTill_ready (rs := [13]) (by kernel_rfl) (by simp) ?_
                refine AllReadyT.cons rfl (fun K hK => ?_) AllReadyT.nil
                refine step_append_any _ rfl _ _ 37 rfl W0.heap.size 73 i0 _ 2 40 Tryz.underlying37 hi hz0 hz1 hz2 rfl (by decide) _ (l.length + 1) (pairRows l ++ [Value.string n, Value.slice (some ⟨wr.heap.size, 0, none⟩) 1 1]) rfl RD.out _ 0 _ [] rfl (.inl rfl) rfl (fun u hu => by cases hu) (by unfold maxLen; omega) (by omega) HBW.out.size ?_
                intro vc W5 hown hgrow hat
                simp only [Nat.add_zero, List.append_nil] at hown
                have HB2 : Hid (Below W0.heap.size W0 W5) := HBW.out.grown hgrow HBW.out.size (fun q e => own_ge RD.out q e)
                refine hK.out _ _ (.inr (HSS.out _ HB2.out)) ?_
                clear hat hgrow RD
                clear hK K HBW
                have HBW := HB2
                clear HB2
                have RD := toHidC hown
                obtain ⟨pc, qc, rfl⟩ := own_slice hown
                clear hown
                have hHeld := HSS.out _ HBW.out
                refine wpTill_take (i := 14) (v := ?_) rfl (by kernel_rfl) (by kernel_rfl) (by kernel_rfl) (by kernel_rfl) (fun _ _ _ h => h) (Or.inl ⟨by rfl, ?_⟩) (by assumption) ?_
                rotate_left
                · intro w hSw; (try dsimp only at hSw); go_simp; try with_reducible rfl
                simp only [Act.put, List.setIfInBounds_toArray, List.set_cons_zero, List.set_cons_succ, List.getElem_toArray, List.getElem_cons_succ, List.getElem_cons_zero]
                clear hHeld
                have lz := (HPD.out.call HBW.out).cellA 2
                have lfz := (HPD.out.call HBW.out).freeA 2
                simp only [List.getElem?_toArray, List.getElem?_cons_succ, List.getElem?_cons_zero] at lz
                have hwz5 : w.heap.size < W5.heap.size := by have := (HPD.out.call HBW.out).size; omega
                refine wpTill_ready (rs := [15]) (by kernel_rfl) (by simp) ?_
                refine AllReadyT.cons rfl (fun K hK => ?_) AllReadyT.nil
                go_simp
                refine hK.out _ _ (.inl rfl) ?_
                clear hK K
                refine wpTill_done (by kernel_rfl) ?_ _
                refine NoPanic.normal ?_
                have HP5 := toHidC ((HPD.out.call HBW.out).set (.slice pc (l.length + 1) qc))
                have HBX : Hid (Below w.heap.size w W5) := below_step HBD.out HBW.out
                have HFIN : Hid (BookNew lo (W5.setCell ⟨w.heap.size, 2, none⟩ (.slice pc (l.length + 1) qc)) (.slice xa ks.length xc) (.slice ya ps.length yc) (.slice pc (l.length + 1) qc) ks ps (putE es n f) ∧ Below w.heap.size w (W5.setCell ⟨w.heap.size, 2, none⟩ (.slice pc (l.length + 1) qc))) := by
                  have hins : PairsNew W5 lo (.slice pc (l.length + 1) qc) (l.take l.length ++ (⟨n, [f]⟩, .slice (some ⟨wr.heap.size, 0, none⟩) 1 1) :: l.drop l.length) := by
                    refine HE.out.ins HBX.out (own_new1 ((HBW.out.block _ (by omega)).trans HFD.out) (by omega)) (fun q hq => by have hq2 : wr.heap.size = q := Option.some.inj hq; omega) ?_
                    have h := own_mono RD.out hlo0
                    rw [List.take_length, List.drop_length, pairRows_app, List.length_append]
                    exact h
                  have hbn : BookNew lo W5 (.slice xa ks.length xc) (.slice ya ps.length yc) (.slice pc (l.length + 1) qc) ks ps (putE es n f) := by
                    refine ⟨ownsRow_keep HXY.out.1 HBX.out, ownsRow_keep HXY.out.2 HBX.out, _, ?_, hins⟩
                    rw [HP.out, List.take_length, List.drop_length, List.map_append, HL.out]; rfl
                  exact ⟨hbn.box (HPD.out.call HBW.out).a (grown_setF W5 w.heap.size 2 _), HBX.out.setCell (p := ⟨w.heap.size, 2, none⟩) (Nat.le_refl _) _⟩
                generalize W5.setCell ⟨w.heap.size, 2, none⟩ (.slice pc (l.length + 1) qc) = W9 at *
                clear lz lfz hwz5
                obtain ⟨q0, q1, q2⟩ : W9.cell? ⟨w.heap.size, 0, none⟩ = some (.slice xa ks.length xc) ∧ W9.cell? ⟨w.heap.size, 1, none⟩ = some (.slice ya ps.length yc) ∧ W9.cell? ⟨w.heap.size, 2, none⟩ = some (.slice pc (l.length + 1) qc) := ⟨HP5.out.cellA 0, HP5.out.cellA 1, HP5.out.cellA 2⟩
                have hrow := HP5.out.c
                go_wp2_with (refine wpList_store_row rfl 39 _ _ rfl (w.heap.size + 1 + 1) #[.slice xa ks.length xc, .slice ya ps.length yc, .slice pc (l.length + 1) qc] rfl rfl 39 _ hrow (by kernel_rfl) rfl (by simp [Value.oneCell']) ?_)
                exact bodyPost_ret (v := .agg #[.slice xa ks.length xc, .slice ya ps.length yc, .slice pc (l.length + 1) qc]) (by simp [results, Tryz.results28, go_sem, cell_setRow_same _ _ _ _ _ _ _ hrow]) rfl ⟨_, rfl, HFIN.out.1.box hrow (grown_rowF W9 (w.heap.size + 1 + 1) _), below_setRow (HFIN.out.2.mono hlo) (by omega) _, fun X D hX => ((below_setRow HFIN.out.2 (by omega) _).block X (Array.getElem?_eq_some_iff.1 hX).1).trans hX⟩
            · go_simp
              have HB2 : Hid (Below W0.heap.size W0 (W0.alloc (.cells #[.string n, .slice (some ⟨wr.heap.size, 0, none⟩) 1 1] 73))) := HBW.out.alloc HBW.out.size _
              have BX : Hid ((W0.alloc (.cells #[.string n, .slice (some ⟨wr.heap.size, 0, none⟩) 1 1] 73)).heap[W0.heap.size]? = some (.cells #[.string n, .slice (some ⟨wr.heap.size, 0, none⟩) 1 1] 73 (0, 0))) := heap_newF W0 _
              refine hK.out _ _ (.inr (HSS.out _ HB2.out)) ?_
              clear hK K HBW
              have HBW := HB2
              clear HB2
              have hBF : W0.heap.size < (W0.alloc (.cells #[.string n, .slice (some ⟨wr.heap.size, 0, none⟩) 1 1] 73)).heap.size := by rw [World.size_alloc]; omega
              generalize W0.alloc (.cells #[.string n, .slice (some ⟨wr.heap.size, 0, none⟩) 1 1] 73) = W1 at *
              refine wpTill_ready (rs := [0]) (by kernel_rfl) (by simp) ?_
              refine AllReadyT.cons rfl (fun K hK => ?_) AllReadyT.nil
              go_simp
              have HB2 : Hid (Below W0.heap.size W0 (W1.alloc (.cells #[] 73))) := HBW.out.alloc HBW.out.size _
              have RD : Hid ((W1.alloc (.cells #[] 73)).ownsRow W0.heap.size 73 2 (.slice (some ⟨W1.heap.size, 0, none⟩) 0 0) 0 []) := own_new0 (heap_newF W1 _) HBW.out.size 2
              have HNE : Hid (∀ q, (Value.slice (some ⟨W1.heap.size, 0, none⟩) 0 0).ownBlock = some q → some (W0.heap.size) ≠ some q) := fun q hq e => by have hq2 : W1.heap.size = q := Option.some.inj hq; injection e with e; omega
              have BX2 := toHidC ((Below.heap_alloc W1 (.cells #[] 73) _ hBF).trans BX.out)
              have hBF2 : W0.heap.size < (W1.alloc (.cells #[] 73)).heap.size := by rw [World.size_alloc]; omega
              refine hK.out _ _ (.inr (HSS.out _ HB2.out)) ?_
              clear hK K HBW
              have HBW := HB2
              clear HB2
              clear BX hBF
              have BX := BX2
              have hBF := hBF2
              clear BX2 hBF2
              generalize W1.alloc (.cells #[] 73) = W2 at *
              refine wpTill_ready (rs := [5]) (by kernel_rfl) (by simp) ?_
              refine AllReadyT.cons rfl (fun K hK => ?_) AllReadyT.nil
              refine step_append_any _ rfl _ _ 37 rfl W0.heap.size 73 i0 _ 2 40 Tryz.underlying37 hi hz0 hz1 hz2 rfl (by decide) _ 0 [] rfl RD.out _ l.length _ (pairRows l) rfl (.inr ⟨_, rfl, fun q u hu => by rw [addr_add, Nat.zero_add]; exact HSR.out _ HBW.out q u hu⟩) (pairRows_length _) (HON.out _ (fun p hp => hp)) (by unfold maxLen; omega) (by omega) HBW.out.size ?_
              intro va W3 hown hgrow hat
              simp only [Nat.zero_add, List.nil_append] at hown
              have HB2 : Hid (Below W0.heap.size W0 W3) := HBW.out.grown hgrow HBW.out.size (fun q e => own_ge RD.out q e)
              have BX2 := toHidC ((hgrow.block _ hBF (fun e => HNE.out _ e.symm rfl)).trans BX.out)
              have hBF2 := Nat.lt_of_lt_of_le hBF hgrow.size
              refine hK.out _ _ (.inr (HSS.out _ HB2.out)) ?_
              clear hat hgrow RD
              clear BX HNE hBF
              have BX := BX2
              have hBF := hBF2
              clear BX2 hBF2
              clear hK K HBW
              have HBW := HB2
              clear HB2
              have RD := toHidC hown
              obtain ⟨pa, qa, rfl⟩ := own_slice hown
              clear hown
              refine wpTill_ready (rs := [8]) (by kernel_rfl) (by simp) ?_
              refine AllReadyT.cons rfl (fun K hK => ?_) AllReadyT.nil
              refine step_append_any _ rfl _ _ 37 rfl W0.heap.size 73 i0 _ 2 40 Tryz.underlying37 hi hz0 hz1 hz2 rfl (by decide) _ l.length (pairRows l) rfl RD.out _ 1 _ [.string n, .slice (some ⟨wr.heap.size, 0, none⟩) 1 1] rfl (.inr ⟨_, rfl, World.news_of_block BX.out⟩) rfl (fun u hu => by simp only [List.mem_cons, List.not_mem_nil, or_false] at hu; rcases hu with rfl | rfl <;> rfl) (by unfold maxLen; omega) (by omega) HBW.out.size ?_
              intro vb W4 hown hgrow hat
              have HB2 : Hid (Below W0.heap.size W0 W4) := HBW.out.grown hgrow HBW.out.size (fun q e => own_ge RD.out q e)
              refine hK.out _ _ (.inr (HSS.out _ HB2.out)) ?_
              clear hat hgrow RD
              clear hK K HBW
              have HBW := HB2
              clear HB2
              have RD := toHidC hown
              obtain ⟨pb, qb, rfl⟩ := own_slice hown
              clear hown
              refine wpTill_ready (rs := [13]) (by kernel_rfl) (by simp) ?_
              refine AllReadyT.cons rfl (fun K hK => ?_) AllReadyT.nil
              refine step_append_any _ rfl _ _ 37 rfl W0.heap.size 73 i0 _ 2 40 Tryz.underlying37 hi hz0 hz1 hz2 rfl (by decide) _ (l.length + 1) (pairRows l ++ [Value.string n, Value.slice (some ⟨wr.heap.size, 0, none⟩) 1 1]) rfl RD.out _ 0 _ [] rfl (.inl rfl) rfl (fun u hu => by cases hu) (by unfold maxLen; omega) (by omega) HBW.out.size ?_
              intro vc W5 hown hgrow hat
              simp only [Nat.add_zero, List.append_nil] at hown
              have HB2 : Hid (Below W0.heap.size W0 W5) := HBW.out.grown hgrow HBW.out.size (fun q e => own_ge RD.out q e)
              refine hK.out _ _ (.inr (HSS.out _ HB2.out)) ?_
              clear hat hgrow RD
              clear hK K HBW
              have HBW := HB2
              clear HB2
              have RD := toHidC hown
              obtain ⟨pc, qc, rfl⟩ := own_slice hown
              clear hown
              have hHeld := HSS.out _ HBW.out
              refine wpTill_take (i := 14) (v := ?_) rfl (by kernel_rfl) (by kernel_rfl) (by kernel_rfl) (by kernel_rfl) (fun _ _ _ h => h) (Or.inl ⟨by rfl, ?_⟩) (by assumption) ?_
              rotate_left
              · intro w hSw; (try dsimp only at hSw); go_simp; try with_reducible rfl
              simp only [Act.put, List.setIfInBounds_toArray, List.set_cons_zero, List.set_cons_succ, List.getElem_toArray, List.getElem_cons_succ, List.getElem_cons_zero]
              clear hHeld
              have lz := (HPD.out.call HBW.out).cellA 2
              have lfz := (HPD.out.call HBW.out).freeA 2
              simp only [List.getElem?_toArray, List.getElem?_cons_succ, List.getElem?_cons_zero] at lz
              have hwz5 : w.heap.size < W5.heap.size := by have := (HPD.out.call HBW.out).size; omega
              refine wpTill_ready (rs := [15]) (by kernel_rfl) (by simp) ?_
              refine AllReadyT.cons rfl (fun K hK => ?_) AllReadyT.nil
              go_simp
              refine hK.out _ _ (.inl rfl) ?_
              clear hK K
              refine wpTill_done (by kernel_rfl) ?_ _
              refine NoPanic.normal ?_
              have HP5 := toHidC ((HPD.out.call HBW.out).set (.slice pc (l.length + 1) qc))
              have HBX : Hid (Below w.heap.size w W5) := below_step HBD.out HBW.out
              have HFIN : Hid (BookNew lo (W5.setCell ⟨w.heap.size, 2, none⟩ (.slice pc (l.length + 1) qc)) (.slice xa ks.length xc) (.slice ya ps.length yc) (.slice pc (l.length + 1) qc) ks ps (putE es n f) ∧ Below w.heap.size w (W5.setCell ⟨w.heap.size, 2, none⟩ (.slice pc (l.length + 1) qc))) := by
                have hins : PairsNew W5 lo (.slice pc (l.length + 1) qc) (l.take l.length ++ (⟨n, [f]⟩, .slice (some ⟨wr.heap.size, 0, none⟩) 1 1) :: l.drop l.length) := by
                  refine HE.out.ins HBX.out (own_new1 ((HBW.out.block _ (by omega)).trans HFD.out) (by omega)) (fun q hq => by have hq2 : wr.heap.size = q := Option.some.inj hq; omega) ?_
                  have h := own_mono RD.out hlo0
                  rw [List.take_length, List.drop_length, pairRows_app, List.length_append]
                  exact h
                have hbn : BookNew lo W5 (.slice xa ks.length xc) (.slice ya ps.length yc) (.slice pc (l.length + 1) qc) ks ps (putE es n f) := by
                  refine ⟨ownsRow_keep HXY.out.1 HBX.out, ownsRow_keep HXY.out.2 HBX.out, _, ?_, hins⟩
                  rw [HP.out, List.take_length, List.drop_length, List.map_append, HL.out]; rfl
                exact ⟨hbn.box (HPD.out.call HBW.out).a (grown_setF W5 w.heap.size 2 _), HBX.out.setCell (p := ⟨w.heap.size, 2, none⟩) (Nat.le_refl _) _⟩
              generalize W5.setCell ⟨w.heap.size, 2, none⟩ (.slice pc (l.length + 1) qc) = W9 at *
              clear lz lfz hwz5
              obtain ⟨q0, q1, q2⟩ : W9.cell? ⟨w.heap.size, 0, none⟩ = some (.slice xa ks.length xc) ∧ W9.cell? ⟨w.heap.size, 1, none⟩ = some (.slice ya ps.length yc) ∧ W9.cell? ⟨w.heap.size, 2, none⟩ = some (.slice pc (l.length + 1) qc) := ⟨HP5.out.cellA 0, HP5.out.cellA 1, HP5.out.cellA 2⟩
              have hrow := HP5.out.c
              go_wp2_with (refine wpList_store_row rfl 39 _ _ rfl (w.heap.size + 1 + 1) #[.slice xa ks.length xc, .slice ya ps.length yc, .slice pc (l.length + 1) qc] rfl rfl 39 _ hrow (by kernel_rfl) rfl (by simp [Value.oneCell']) ?_)
              exact bodyPost_ret (v := .agg #[.slice xa ks.length xc, .slice ya ps.length yc, .slice pc (l.length + 1) qc]) (by simp [results, Tryz.results28, go_sem, cell_setRow_same _ _ _ _ _ _ _ hrow]) rfl ⟨_, rfl, HFIN.out.1.box hrow (grown_rowF W9 (w.heap.size + 1 + 1) _), below_setRow (HFIN.out.2.mono hlo) (by omega) _, fun X D hX => ((below_setRow HFIN.out.2 (by omega) _).block X (Array.getElem?_eq_some_iff.1 hX).1).trans hX⟩
  · have HNM : Hid ((eat es k).name = n) := by have := List.find?_some hfd; show _ = _; simpa using this
    have HP : Hid (putE es n f = es.set k ⟨(eat es k).name, putF (eat es k).fs f⟩) := putE_hit es n f k HS.out hk HNM.out
    have hkl : k < l.length := by omega
    clear hfd
    obtain ⟨fv, hfv⟩ := eat_map hkl
    rw [HL.out] at hfv
    have HFV : Hid (l[k]? = some (eat es k, fv)) := hfv
    have HFO : Hid (w.ownsRow lo 62 3 fv (eat es k).fs.length (fldRows (eat es k).fs)) := HE.out.flds _ (List.mem_of_getElem? hfv)
    obtain ⟨fa, fc, rfl⟩ := own_slice HFO.out
    have hfn := HLF.out _ (List.mem_of_getElem? (eat_get hk))
    obtain ⟨g, cap, hv, hgl, hgz⟩ := HE.out.row.form (by omega)
    cases hv
    obtain ⟨hcap1, hcap2⟩ := own_cap HE.out.row
    unfold maxLen at hcap2
    have HD : Hid (w.cell? ⟨g, k * 2 + 1, none⟩ = some (.slice fa (eat es k).fs.length fc)) := by
      exact (pair_cells HE.out hfv).2
    have HDF : Hid (∀ q, w.frozen? ⟨g, q, none⟩ = false) := own_free HE.out.row
    have hk0 : (0 : Int) ≤ (k : Int) := by omega
    have hk1 : (k : Int) < (l.length : Int) := by omega
    have hkb : decide ((k : Int) < 0) = false := by simp
    clear hfv
    generalize eat es k = t at *
    go_wp2
    refine wp_region_noPanic ?_
    have HSS : Hid (∀ wx : World, P3 w wx #[.slice xa ks.length xc, .slice ya ps.length yc, .slice (some ⟨g, 0, none⟩) l.length zc] f → wx.heap[g]? = w.heap[g]? → (wx.cell? ⟨w.heap.size, 2, none⟩ = some (.slice (some ⟨g, 0, none⟩) l.length zc) ∧ wx.cell? ⟨w.heap.size + 1, 0, none⟩ = some (.int .i64 f.what) ∧ wx.cell? ⟨w.heap.size + 1, 1, none⟩ = some (.int .i64 f.num) ∧ wx.cell? ⟨w.heap.size + 1, 2, none⟩ = some (.string f.v) ∧ wx.cell? ⟨g, k * 2 + 1, none⟩ = some (.slice fa t.fs.length fc))) := fun wx hx hg => ⟨hx.cellA 2, hx.cellF.1, hx.cellF.2.1, hx.cellF.2.2, (World.cell?_of_block (w := w) hg).trans HD.out⟩
    refine wp_region_till (S := fun w' => w'.cell? ⟨w.heap.size, 2, none⟩ = some (.slice (some ⟨g, 0, none⟩) l.length zc) ∧ w'.cell? ⟨w.heap.size + 1, 0, none⟩ = some (.int .i64 f.what) ∧ w'.cell? ⟨w.heap.size + 1, 1, none⟩ = some (.int .i64 f.num) ∧ w'.cell? ⟨w.heap.size + 1, 2, none⟩ = some (.string f.v) ∧ w'.cell? ⟨g, k * 2 + 1, none⟩ = some (.slice fa t.fs.length fc)) 13 (by kernel_rfl) ?_ (fun hHeld => ?_)
    · exact HSS.out _ HP1.out.drew (HB1.out.block g hgz)
    have HPD : Hid (P3 w w1.drew #[.slice xa ks.length xc, .slice ya ps.length yc, .slice (some ⟨g, 0, none⟩) l.length zc] f) := HP1.out.drew
    have HBD : Hid (Below w.heap.size w w1.drew) := HB1.out.drew
    generalize w1.drew = W0 at *
    clear HP1 HB1
    refine wpTill_take (i := 0) (v := ?_) rfl (by kernel_rfl) (by kernel_rfl) (by kernel_rfl) (by kernel_rfl) (fun _ _ _ h => h) (Or.inl ⟨by rfl, ?_⟩) (by assumption) ?_
    rotate_left
    · intro w hSw; (try dsimp only at hSw); go_simp; try with_reducible rfl
    simp only [Act.put, List.setIfInBounds_toArray, List.set_cons_zero, List.set_cons_succ, List.getElem_toArray, List.getElem_cons_succ, List.getElem_cons_zero]
    refine wpTill_take (i := 1) (v := ?_) rfl (by kernel_rfl) (by kernel_rfl) (by kernel_rfl) (by kernel_rfl) (fun _ _ _ h => h) (Or.inl ⟨by rfl, ?_⟩) (by assumption) ?_
    rotate_left
    · intro w hSw; (try dsimp only at hSw); go_simp; try with_reducible rfl
    simp only [Act.put, List.setIfInBounds_toArray, List.set_cons_zero, List.set_cons_succ, List.getElem_toArray, List.getElem_cons_succ, List.getElem_cons_zero]
    refine wpTill_take (i := 2) (v := ?_) rfl (by kernel_rfl) (by kernel_rfl) (by kernel_rfl) (by kernel_rfl) (fun _ _ _ h => h) (Or.inl ⟨by rfl, ?_⟩) (by assumption) ?_
    rotate_left
    · intro w hSw; (try dsimp only at hSw); go_simp; try with_reducible rfl
    simp only [Act.put, List.setIfInBounds_toArray, List.set_cons_zero, List.set_cons_succ, List.getElem_toArray, List.getElem_cons_succ, List.getElem_cons_zero]
    refine wpTill_take (i := 3) (v := ?_) rfl (by kernel_rfl) (by kernel_rfl) (by kernel_rfl) (by kernel_rfl) (fun _ _ _ h => h) (Or.inl ⟨by rfl, ?_⟩) (by assumption) ?_
    rotate_left
    · intro w hSw; (try dsimp only at hSw); go_simp; try with_reducible rfl
    simp only [Act.put, List.setIfInBounds_toArray, List.set_cons_zero, List.set_cons_succ, List.getElem_toArray, List.getElem_cons_succ, List.getElem_cons_zero]
    refine wpTill_take (i := 4) (v := ?_) rfl (by kernel_rfl) (by kernel_rfl) (by kernel_rfl) (by kernel_rfl) (fun _ _ _ h => h) (Or.inl ⟨by rfl, ?_⟩) (by assumption) ?_
    rotate_left
    · intro w hSw; (try dsimp only at hSw); go_simp; try with_reducible rfl
    simp only [Act.put, List.setIfInBounds_toArray, List.set_cons_zero, List.set_cons_succ, List.getElem_toArray, List.getElem_cons_succ, List.getElem_cons_zero]
    refine wpTill_take (i := 5) (v := ?_) rfl (by kernel_rfl) (by kernel_rfl) (by kernel_rfl) (by kernel_rfl) (fun _ _ _ h => h) (Or.inl ⟨by rfl, ?_⟩) (by assumption) ?_
    rotate_left
    · intro w hSw; (try dsimp only at hSw); go_simp; try with_reducible rfl
    simp only [Act.put, List.setIfInBounds_toArray, List.set_cons_zero, List.set_cons_succ, List.getElem_toArray, List.getElem_cons_succ, List.getElem_cons_zero]
    refine wpTill_take (i := 6) (v := ?_) rfl (by kernel_rfl) (by kernel_rfl) (by kernel_rfl) (by kernel_rfl) (fun _ _ _ h => h) (Or.inl ⟨by rfl, ?_⟩) (by assumption) ?_
    rotate_left
    · intro w hSw; (try dsimp only at hSw); go_simp; try with_reducible rfl
    simp only [Act.put, List.setIfInBounds_toArray, List.set_cons_zero, List.set_cons_succ, List.getElem_toArray, List.getElem_cons_succ, List.getElem_cons_zero]
    refine wpTill_take (i := 7) (v := ?_) rfl (by kernel_rfl) (by kernel_rfl) (by kernel_rfl) (by kernel_rfl) (fun _ _ _ h => h) (Or.inl ⟨by rfl, ?_⟩) (by assumption) ?_
    rotate_left
    · intro w hSw; (try dsimp only at hSw); go_simp; try with_reducible rfl
    simp only [Act.put, List.setIfInBounds_toArray, List.set_cons_zero, List.set_cons_succ, List.getElem_toArray, List.getElem_cons_succ, List.getElem_cons_zero]
    refine wpTill_take (i := 8) (v := ?_) rfl (by kernel_rfl) (by kernel_rfl) (by kernel_rfl) (by kernel_rfl) (fun _ _ _ h => h) (Or.inl ⟨by rfl, ?_⟩) (by assumption) ?_
    rotate_left
    · intro w hSw; (try dsimp only at hSw); go_simp; try with_reducible rfl
    simp only [Act.put, List.setIfInBounds_toArray, List.set_cons_zero, List.set_cons_succ, List.getElem_toArray, List.getElem_cons_succ, List.getElem_cons_zero]
    refine wpTill_take (i := 9) (v := ?_) rfl (by kernel_rfl) (by kernel_rfl) (by kernel_rfl) (by kernel_rfl) (fun _ _ _ h => h) (Or.inl ⟨by rfl, ?_⟩) (by assumption) ?_
    rotate_left
    · intro w hSw; (try dsimp only at hSw); go_simp; try with_reducible rfl
    simp only [Act.put, List.setIfInBounds_toArray, List.set_cons_zero, List.set_cons_succ, List.getElem_toArray, List.getElem_cons_succ, List.getElem_cons_zero]
    clear hHeld
    refine wpTill_ready (rs := [10]) (by kernel_rfl) (by simp) ?_
    refine AllReadyT.cons rfl (fun K hK => ?_) AllReadyT.nil
    go_simp
    have hw0 := HBD.out.size
    refine (l3Field_any _ t.fs f lo _ (ownsRow_keep HFO.out HBD.out) (by omega) hfn).mono ?_
    rintro e W1 ⟨v', rfl, hown, hgrow, hat⟩
    have hfb : ∀ q, (Value.slice fa t.fs.length fc).ownBlock = some q → q < w.heap.size := own_lt HFO.out
    have hgf : some g ≠ (Value.slice fa t.fs.length fc).ownBlock := fun e => own_apart HFO.out HE.out.row (by decide) g rfl e
    have hgb : W1.heap[g]? = w.heap[g]? := (hgrow.block g (by omega) hgf).trans (HBD.out.block g hgz)
    have HP2 : Hid (P3 w W1 #[.slice xa ks.length xc, .slice ya ps.length yc, .slice (some ⟨g, 0, none⟩) l.length zc] f) := HPD.out.grown hgrow (fun q e => .inl (hfb q e))
    obtain ⟨va, vc, rfl⟩ := own_slice hown
    refine hK.out _ _ (.inr (HSS.out _ HP2.out hgb)) ?_
    have HBL : Hid (Below lo w W1) := (HBD.out.mono hlo).trans ⟨hgrow.os, hgrow.tape, hgrow.output, hgrow.size, fun q hq => hgrow.block q (by omega) (fun e => by have := own_ge HFO.out q e.symm; omega)⟩
    have HTU : Hid (PairsNew (W1.setCell ⟨g, k * 2 + 1, none⟩ (.slice va (putF t.fs f).length vc)) lo (.slice (some ⟨g, 0, none⟩) l.length zc) (l.set k (⟨t.name, putF t.fs f⟩, .slice va (putF t.fs f).length vc))) := (HE.out.keep HBD.out).turn HFV.out hown hgrow hat
    have HK2 : Hid (W1.ownsRow lo 116 3 (.slice xa ks.length xc) ks.length (triRows ks) ∧ W1.ownsRow lo 118 3 (.slice ya ps.length yc) ps.length (triRows ps)) := ⟨ownsRow_farF (ownsRow_keep HXY.out.1 HBD.out) hgrow (own_apart HFO.out HXY.out.1 (by decide)), ownsRow_farF (ownsRow_keep HXY.out.2 HBD.out) hgrow (own_apart HFO.out HXY.out.2 (by decide))⟩
    have hgd : W1.cell? ⟨g, k * 2 + 1, none⟩ = some (.slice fa t.fs.length fc) := (World.cell?_of_block (w := w) hgb).trans HD.out
    have hgx : W1.frozen? ⟨g, k * 2 + 1, none⟩ = false := (World.frozen?_of_block (w := w) hgb).trans (HDF.out _)
    have hz1 := HP2.out.size
    have HX1B : Hid (∀ (X : Nat) (D : Array Value), w.heap[X]? = some (.cells D 39 (0, 0)) → W1.heap[X]? = some (.cells D 39 (0, 0))) := fun X D hX => by
      have hlt := (Array.getElem?_eq_some_iff.1 hX).1
      exact (hgrow.block X (by omega) (own_other HFO.out hX (by decide))).trans ((HBD.out.block X hlt).trans hX)
    clear hK K hgrow hat hown hfb hgf
    have hHeld := HSS.out _ HP2.out hgb
    refine wpTill_ready (rs := [11]) (by kernel_rfl) (by simp) ?_
    refine AllReadyT.cons rfl (fun K hK => ?_) AllReadyT.nil
    go_simp
    refine hK.out _ _ (.inr (HSS.out _ HP2.out hgb)) ?_
    clear hK K
    refine wpTill_take (i := 12) (v := ?_) rfl (by kernel_rfl) (by kernel_rfl) (by kernel_rfl) (by kernel_rfl) (fun _ _ _ h => h) (Or.inl ⟨by rfl, ?_⟩) (by assumption) ?_
    rotate_left
    · intro w hSw; (try dsimp only at hSw); go_simp; try with_reducible rfl
    simp only [Act.put, List.setIfInBounds_toArray, List.set_cons_zero, List.set_cons_succ, List.getElem_toArray, List.getElem_cons_succ, List.getElem_cons_zero]
    clear hHeld hgb
    refine wpTill_ready (rs := [13]) (by kernel_rfl) (by simp) ?_
    refine AllReadyT.cons rfl (fun K hK => ?_) AllReadyT.nil
    go_simp
    refine hK.out _ _ (.inl rfl) ?_
    clear hK K
    refine wpTill_done (by kernel_rfl) ?_ _
    refine NoPanic.normal ?_
    have gs := grown_setF W1 g (k * 2 + 1) (.slice va (putF t.fs f).length vc)
    have HP3 : Hid (P3 w (W1.setCell ⟨g, k * 2 + 1, none⟩ (.slice va (putF t.fs f).length vc)) #[.slice xa ks.length xc, .slice ya ps.length yc, .slice (some ⟨g, 0, none⟩) l.length zc] f) := HP2.out.grown gs (fun q e => by cases e; exact .inl hgz)
    have HFIN : Hid (BookNew lo (W1.setCell ⟨g, k * 2 + 1, none⟩ (.slice va (putF t.fs f).length vc)) (.slice xa ks.length xc) (.slice ya ps.length yc) (.slice (some ⟨g, 0, none⟩) l.length zc) ks ps (putE es n f) ∧ Below lo w (W1.setCell ⟨g, k * 2 + 1, none⟩ (.slice va (putF t.fs f).length vc))) := by
      have hxg : ∀ q, (Value.slice xa ks.length xc).ownBlock = some q → some q ≠ some g := own_apart HE.out.row HXY.out.1 (by decide)
      have hyg : ∀ q, (Value.slice ya ps.length yc).ownBlock = some q → some q ≠ some g := own_apart HE.out.row HXY.out.2 (by decide)
      refine ⟨⟨ownsRow_farF HK2.out.1 gs hxg, ownsRow_farF HK2.out.2 gs hyg, _, ?_, HTU.out⟩, HBL.out.setCell (p := ⟨g, k * 2 + 1, none⟩) hgl _⟩
      rw [HP.out, List.map_set, HL.out]
    have HXB0 : ∀ (X : Nat) (D : Array Value), w.heap[X]? = some (.cells D 39 (0, 0)) → (W1.setCell ⟨g, k * 2 + 1, none⟩ (.slice va (putF t.fs f).length vc)).heap[X]? = some (.cells D 39 (0, 0)) := fun X D hX => by
      have h1 := HX1B.out X D hX
      have hne : X ≠ g := fun e => own_other HE.out.row hX (by decide) (by rw [e]; rfl)
      exact (Below.heap_setCell W1 ⟨g, k * 2 + 1, none⟩ _ X hne).trans h1
    generalize W1.setCell ⟨g, k * 2 + 1, none⟩ (.slice va (putF t.fs f).length vc) = W2 at *
    have HXB : Hid (∀ (X : Nat) (D : Array Value), w.heap[X]? = some (.cells D 39 (0, 0)) → W2.heap[X]? = some (.cells D 39 (0, 0))) := HXB0
    clear gs HP2 HTU HK2 hgd hgx hz1 HBL HXB0
    obtain ⟨q0, q1, q2⟩ : W2.cell? ⟨w.heap.size, 0, none⟩ = some (.slice xa ks.length xc) ∧ W2.cell? ⟨w.heap.size, 1, none⟩ = some (.slice ya ps.length yc) ∧ W2.cell? ⟨w.heap.size, 2, none⟩ = some (.slice (some ⟨g, 0, none⟩) l.length zc) := ⟨HP3.out.cellA 0, HP3.out.cellA 1, HP3.out.cellA 2⟩
    have hrow := HP3.out.c
    go_wp2_with (refine wpList_store_row rfl 39 _ _ rfl (w.heap.size + 1 + 1) #[.slice xa ks.length xc, .slice ya ps.length yc, .slice (some ⟨g, 0, none⟩) l.length zc] rfl rfl 39 _ hrow (by kernel_rfl) rfl (by simp [Value.oneCell']) ?_)
    exact bodyPost_ret (v := .agg #[.slice xa ks.length xc, .slice ya ps.length yc, .slice (some ⟨g, 0, none⟩) l.length zc]) (by simp [results, Tryz.results28, go_sem, cell_setRow_same _ _ _ _ _ _ _ hrow]) rfl ⟨_, rfl, HFIN.out.1.box hrow (grown_rowF W2 (w.heap.size + 1 + 1) _), below_setRow HFIN.out.2 (by omega) _, fun X D hX => by
      have hlt := (Array.getElem?_eq_some_iff.1 hX).1
      exact (setRow_other _ _ _ _ (by omega)).trans (HXB.out X D hX)⟩
end Go.Proofs.YtfjblenkcfdbiaaGreat
