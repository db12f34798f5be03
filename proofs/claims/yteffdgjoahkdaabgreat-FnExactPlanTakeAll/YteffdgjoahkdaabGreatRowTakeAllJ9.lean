/-
  For the proof of takeall_holds: part 9 (Cbase2, Ents0).
-/
import Derived.Deep.AppendLies
import Derived.Test.YteffdgjoahkdaabGreatRowTakeAllJ8
/-
  impl: a base is copied: the walk.
-/
namespace Go.Proofs.YteffdgjoahkdaabGreat
open Go.RowKit
set_option linter.unusedSimpArgs false
set_option linter.unusedVariables false

theorem grown_rowF (w : World) (g : Nat) (cs : Array Value) : w.grownBy (w.setRow g cs) (some g) := ⟨rfl, rfl, rfl, by simp, fun k _ hk => setRow_other _ _ _ _ (fun e => hk (by rw [e]))⟩
set_option maxRecDepth 100000 in
set_option maxHeartbeats 6400000 in
theorem copyBase_any (vk vp : Value) (ks ps : List Tri) (w : World) (hk : TrisAt w vk ks) (hp : TrisAt w vp ps) (lk : ks.length ≤ 1048575) (lp : ps.length ≤ 1048575) (sk : ∀ t ∈ ks, t.s.size ≤ 1048576) (sp : ∀ t ∈ ps, t.s.size ≤ 1048576) :
    Calls Tryz.prog 80 #[.agg #[vk, vp]] w fun e w' => ∃ a1 n1 c1 a2 n2 c2, e = .returned (.agg #[.slice a1 n1 c1, .slice a2 n2 c2]) ∧ (w'.ownsRow (w.heap.size + 3) 125 3 (.slice a1 n1 c1) ks.length (triRows ks) ∧ w'.ownsRow (w.heap.size + 3) 127 3 (.slice a2 n2 c2) ps.length (triRows ps)) ∧ Below w.heap.size w w' := by
  obtain ⟨iK, hiK, hz0K, hz1K, hz2K⟩ := info_parts infoKindC
  obtain ⟨iP, hiP, hz0P, hz1P, hz2P⟩ := info_parts infoPointC
  obtain ⟨ak, ck, rfl, hlk, hmk, hck⟩ := hk
  obtain ⟨ap, cp, rfl, hlp, hmp, hcp⟩ := hp
  unfold maxLen at hmk hmp
  have HK : Hid (∀ i t, ks[i]? = some t → ∃ b off, ak = some ⟨b, off, none⟩ ∧ w.cell? ⟨b, off + i * 3, none⟩ = some (.string t.s) ∧ w.cell? ⟨b, off + i * 3 + 1, none⟩ = some (.int .i64 t.x) ∧ w.cell? ⟨b, off + i * 3 + 2, none⟩ = some (.int .i64 t.y)) := hck
  have HP : Hid (∀ i t, ps[i]? = some t → ∃ b off, ap = some ⟨b, off, none⟩ ∧ w.cell? ⟨b, off + i * 3, none⟩ = some (.string t.s) ∧ w.cell? ⟨b, off + i * 3 + 1, none⟩ = some (.int .i64 t.x) ∧ w.cell? ⟨b, off + i * 3 + 2, none⟩ = some (.int .i64 t.y)) := hcp
  have HSM : Hid ((∀ t ∈ ks, t.s.size ≤ 1048576) ∧ ∀ t ∈ ps, t.s.size ≤ 1048576) := ⟨sk, sp⟩
  clear hck hcp sk sp
  have H0 : Hid (CB w (((w.alloc (.cells #[.slice ak ks.length ck, .slice ap ps.length cp] 36)).alloc (.cells #[.slice none 0 0, .slice none 0 0] 36)).alloc (.cells #[.slice none 0 0, .slice none 0 0] 36)) #[.slice ak ks.length ck, .slice ap ps.length cp] (.slice none 0 0) (.slice none 0 0) [] []) := CB.start w _
  go_enter Tryz.func80, Tryz.ntmps80
  go_wp2
  go_loopw [5, 11] (fun _ i wr => ∃ (k : Nat) (v u : Value), k ≤ ks.length ∧ i = .int .i64 k ∧ (∃ a n c, v = .slice a n c) ∧ (∃ a n c, u = .slice a n c) ∧ CB w wr #[.slice ak ks.length ck, .slice ap ps.length cp] v u (ks.take k) []) (fun _ i _ => ks.length - (intOf i).toNat)
  case atStart => exact ⟨0, _, _, Nat.zero_le _, rfl, ⟨_, _, _, rfl⟩, ⟨_, _, _, rfl⟩, by simpa using H0.out⟩
  case round =>
    clear H0
    obtain ⟨k, v, u, hk, rfl, ⟨va, vn, vc, rfl⟩, ⟨ub, un, uc, rfl⟩, hB⟩ := hrel
    have HB : Hid (CB w wr #[.slice ak ks.length ck, .slice ap ps.length cp] (.slice va vn vc) (.slice ub un uc) (ks.take k) []) := hB
    clear hB
    by_cases hlt : k < ks.length
    · have ht : ks[k]? = some ks[k] := List.getElem?_eq_getElem hlt
      obtain ⟨b, off, rfl, d0', d1', d2'⟩ := HK.out k _ ht
      have d0 := cell_keep HB.out.below (Nat.le_refl _) d0'
      have d1 := cell_keep HB.out.below (Nat.le_refl _) d1'
      have d2 := cell_keep HB.out.below (Nat.le_refl _) d2'
      have hsm := HSM.out.1 _ (List.mem_of_getElem? ht)
      have HT : Hid (ks.take (k + 1) = ks.take k ++ [ks[k]]) := List.take_succ_eq_append_getElem hlt
      have hln : (ks.take k).length + 1 ≤ 1048576 := by simp; omega
      have hlk : (ks.take k).length = k := by simp; omega
      clear d0' d1' d2'
      generalize ks[k] = t at *
      have hk0 : (0 : Int) ≤ (k : Int) := by omega
      have hk1 : (k : Int) < (ks.length : Int) := by omega
      have BA : Hid (Below wr.heap.size wr (wr.alloc (.cells #[.string t.s, .int .i64 t.x, .int .i64 t.y] 125))) := (Below.refl _ _).alloc (Nat.le_refl _) _
      go_wp2_with fail
      refine (clone_any t.s _ hsm).mono ?_
      rintro e w1 ⟨rfl, hb1⟩
      have X1 : w1.heap[wr.heap.size]? = some (.cells #[.string t.s, .int .i64 t.x, .int .i64 t.y] 125) := (hb1.block _ (by simp)).trans (heap_newF wr _)
      have hz1 : wr.heap.size < w1.heap.size := (Array.getElem?_eq_some_iff.1 X1).1
      obtain ⟨q0, q1, q2⟩ : w1.cell? ⟨wr.heap.size, 0, none⟩ = some (.string t.s) ∧ w1.cell? ⟨wr.heap.size, 1, none⟩ = some (.int .i64 t.x) ∧ w1.cell? ⟨wr.heap.size, 2, none⟩ = some (.int .i64 t.y) := by simp [World.cell?, X1]
      have qf : w1.frozen? ⟨wr.heap.size, 0, none⟩ = false := by simp [World.frozen?, X1]
      have hbw : Below wr.heap.size wr w1 := below_step BA.out hb1
      have H2 : Hid (CB w (w1.setCell ⟨wr.heap.size, 0, none⟩ (.string t.s)) _ (.slice va vn vc) (.slice ub un uc) (ks.take k) []) := HB.out.call (below_set hbw _ _ (Nat.le_refl _) _)
      have X2 : Hid ((w1.setCell ⟨wr.heap.size, 0, none⟩ (.string t.s)).heap[wr.heap.size]? = some (.cells #[.string t.s, .int .i64 t.x, .int .i64 t.y] 125)) := by
        show _ = _
        rw [setCell_eq_setRow _ _ _ _ _ _ _ X1]; exact setRow_heap _ _ _ _ _ _ X1
      clear hb1 hbw BA
      go_upto_region 6 with fail
      generalize w1.setCell ⟨wr.heap.size, 0, none⟩ (.string t.s) = w2 at *
      clear q0 q1 q2 qf X1
      obtain ⟨q0, q1, q2⟩ : w2.cell? ⟨wr.heap.size, 0, none⟩ = some (.string t.s) ∧ w2.cell? ⟨wr.heap.size, 1, none⟩ = some (.int .i64 t.x) ∧ w2.cell? ⟨wr.heap.size, 2, none⟩ = some (.int .i64 t.y) := by simp [World.cell?, X2.out]
      obtain ⟨e0, e1⟩ : w2.cell? ⟨w.heap.size + 1 + 1, 0, none⟩ = some (.slice va vn vc) ∧ w2.cell? ⟨w.heap.size + 1 + 1, 1, none⟩ = some (.slice ub un uc) := by simp [World.cell?, H2.out.c]
      have hz2 := H2.out.z
      have ho2 := H2.out.k
      have hc2 := H2.out.c
      go_wp2_with (at_builtin; refine wpList_append_lies _ rfl _ _ 33 rfl (w.heap.size + 3) 125 iK (.agg #[.string ByteArray.empty, .int .i64 0, .int .i64 0]) 3 32 Tryz.underlying33 hiK hz0K hz1K hz2K rfl (by decide) _ _ _ rfl (ho2.alloc _) ⟨w2.heap.size, 0, none⟩ 1 1 (triRow t) rfl rfl (cell_three_new _ _ _ _ _) (fun x hx => by simp [triRow] at hx; rcases hx with rfl | rfl | rfl <;> rfl) (by decide) (by unfold maxLen; omega) (by omega) (by simp; omega) _ rfl ?_; intro g cap w3 hown' hgrow3 hat3 hlt3; have hc3 := (hgrow3.block _ (by simp; omega) (own_other ho2 hc2 (by decide))).trans ((Below.heap_alloc _ _ _ (by omega)).trans hc2); obtain ⟨x0, x1⟩ : w3.cell? ⟨w.heap.size + 1 + 1, 0, none⟩ = some (.slice va vn vc) ∧ w3.cell? ⟨w.heap.size + 1 + 1, 1, none⟩ = some (.slice ub un uc) := (by simp [World.cell?, hc3]); have xf0 : w3.frozen? ⟨w.heap.size + 1 + 1, 0, none⟩ = false := (by simp [World.frozen?, hc3]); have xf1 : w3.frozen? ⟨w.heap.size + 1 + 1, 1, none⟩ = false := (by simp [World.frozen?, hc3]))
      have HM := H2.out.moreK hown' hgrow3
      rw [← HT.out, hlk] at HM
      exact ⟨⟨k + 1, _, _, by omega, by go_num, ⟨_, _, _, rfl⟩, ⟨_, _, _, rfl⟩, HM⟩, by simp [intOf]; omega⟩
    · have HE : Hid (CB w wr #[.slice ak ks.length ck, .slice ap ps.length cp] (.slice va vn vc) (.slice ub un uc) ks []) := by
        show CB _ _ _ _ _ _ _
        have h := HB.out
        rw [List.take_of_length_le (by omega)] at h
        exact h
      clear HB
      obtain ⟨f0, f1⟩ : wr.cell? ⟨w.heap.size, 0, none⟩ = some (.slice ak ks.length ck) ∧ wr.cell? ⟨w.heap.size, 1, none⟩ = some (.slice ap ps.length cp) := by simp [World.cell?, HE.out.a]
      have HE0 := HE
      clear HE
      go_wp2
      go_loopw [7, 29] (fun _ i wr => ∃ (k : Nat) (v u : Value), k ≤ ps.length ∧ i = .int .i64 k ∧ (∃ a n c, v = .slice a n c) ∧ (∃ a n c, u = .slice a n c) ∧ CB w wr #[.slice ak ks.length ck, .slice ap ps.length cp] v u ks (ps.take k)) (fun _ i _ => ps.length - (intOf i).toNat)
      case atStart => exact ⟨0, _, _, Nat.zero_le _, rfl, ⟨_, _, _, rfl⟩, ⟨_, _, _, rfl⟩, by simpa using HE0.out⟩
      case round =>
        clear HE0
        obtain ⟨k, v, u, hk, rfl, ⟨va, vn, vc, rfl⟩, ⟨ub, un, uc, rfl⟩, hB⟩ := hrel
        have HB : Hid (CB w wr #[.slice ak ks.length ck, .slice ap ps.length cp] (.slice va vn vc) (.slice ub un uc) ks (ps.take k)) := hB
        clear hB
        by_cases hlt : k < ps.length
        · have ht : ps[k]? = some ps[k] := List.getElem?_eq_getElem hlt
          obtain ⟨b, off, rfl, d0', d1', d2'⟩ := HP.out k _ ht
          have d0 := cell_keep HB.out.below (Nat.le_refl _) d0'
          have d1 := cell_keep HB.out.below (Nat.le_refl _) d1'
          have d2 := cell_keep HB.out.below (Nat.le_refl _) d2'
          have hsm := HSM.out.2 _ (List.mem_of_getElem? ht)
          have HT : Hid (ps.take (k + 1) = ps.take k ++ [ps[k]]) := List.take_succ_eq_append_getElem hlt
          have hln : (ps.take k).length + 1 ≤ 1048576 := by simp; omega
          have hlk : (ps.take k).length = k := by simp; omega
          clear d0' d1' d2'
          generalize ps[k] = t at *
          have hk0 : (0 : Int) ≤ (k : Int) := by omega
          have hk1 : (k : Int) < (ps.length : Int) := by omega
          have BA : Hid (Below wr.heap.size wr (wr.alloc (.cells #[.string t.s, .int .i64 t.x, .int .i64 t.y] 127))) := (Below.refl _ _).alloc (Nat.le_refl _) _
          go_wp2_with fail
          refine (clone_any t.s _ hsm).mono ?_
          rintro e w1 ⟨rfl, hb1⟩
          have X1 : w1.heap[wr.heap.size]? = some (.cells #[.string t.s, .int .i64 t.x, .int .i64 t.y] 127) := (hb1.block _ (by simp)).trans (heap_newF wr _)
          have hz1 : wr.heap.size < w1.heap.size := (Array.getElem?_eq_some_iff.1 X1).1
          obtain ⟨q0, q1, q2⟩ : w1.cell? ⟨wr.heap.size, 0, none⟩ = some (.string t.s) ∧ w1.cell? ⟨wr.heap.size, 1, none⟩ = some (.int .i64 t.x) ∧ w1.cell? ⟨wr.heap.size, 2, none⟩ = some (.int .i64 t.y) := by simp [World.cell?, X1]
          have qf : w1.frozen? ⟨wr.heap.size, 0, none⟩ = false := by simp [World.frozen?, X1]
          have hbw : Below wr.heap.size wr w1 := below_step BA.out hb1
          have H2 : Hid (CB w (w1.setCell ⟨wr.heap.size, 0, none⟩ (.string t.s)) _ (.slice va vn vc) (.slice ub un uc) ks (ps.take k)) := HB.out.call (below_set hbw _ _ (Nat.le_refl _) _)
          have X2 : Hid ((w1.setCell ⟨wr.heap.size, 0, none⟩ (.string t.s)).heap[wr.heap.size]? = some (.cells #[.string t.s, .int .i64 t.x, .int .i64 t.y] 127)) := by
            show _ = _
            rw [setCell_eq_setRow _ _ _ _ _ _ _ X1]; exact setRow_heap _ _ _ _ _ _ X1
          clear hb1 hbw BA
          go_upto_region 12 with fail
          generalize w1.setCell ⟨wr.heap.size, 0, none⟩ (.string t.s) = w2 at *
          clear q0 q1 q2 qf X1
          obtain ⟨q0, q1, q2⟩ : w2.cell? ⟨wr.heap.size, 0, none⟩ = some (.string t.s) ∧ w2.cell? ⟨wr.heap.size, 1, none⟩ = some (.int .i64 t.x) ∧ w2.cell? ⟨wr.heap.size, 2, none⟩ = some (.int .i64 t.y) := by simp [World.cell?, X2.out]
          obtain ⟨e0, e1⟩ : w2.cell? ⟨w.heap.size + 1 + 1, 0, none⟩ = some (.slice va vn vc) ∧ w2.cell? ⟨w.heap.size + 1 + 1, 1, none⟩ = some (.slice ub un uc) := by simp [World.cell?, H2.out.c]
          have hz2 := H2.out.z
          have ho2 := H2.out.p
          have hc2 := H2.out.c
          go_wp2_with (at_builtin; refine wpList_append_lies _ rfl _ _ 34 rfl (w.heap.size + 3) 127 iP (.agg #[.string ByteArray.empty, .int .i64 0, .int .i64 0]) 3 32 Tryz.underlying34 hiP hz0P hz1P hz2P rfl (by decide) _ _ _ rfl (ho2.alloc _) ⟨w2.heap.size, 0, none⟩ 1 1 (triRow t) rfl rfl (cell_three_new _ _ _ _ _) (fun x hx => by simp [triRow] at hx; rcases hx with rfl | rfl | rfl <;> rfl) (by decide) (by unfold maxLen; omega) (by omega) (by simp; omega) _ rfl ?_; intro g cap w3 hown' hgrow3 hat3 hlt3; have hc3 := (hgrow3.block _ (by simp; omega) (own_other ho2 hc2 (by decide))).trans ((Below.heap_alloc _ _ _ (by omega)).trans hc2); obtain ⟨x0, x1⟩ : w3.cell? ⟨w.heap.size + 1 + 1, 0, none⟩ = some (.slice va vn vc) ∧ w3.cell? ⟨w.heap.size + 1 + 1, 1, none⟩ = some (.slice ub un uc) := (by simp [World.cell?, hc3]); have xf0 : w3.frozen? ⟨w.heap.size + 1 + 1, 0, none⟩ = false := (by simp [World.frozen?, hc3]); have xf1 : w3.frozen? ⟨w.heap.size + 1 + 1, 1, none⟩ = false := (by simp [World.frozen?, hc3]))
          have HM := H2.out.moreP hown' hgrow3
          rw [← HT.out, hlk] at HM
          exact ⟨⟨k + 1, _, _, by omega, by go_num, ⟨_, _, _, rfl⟩, ⟨_, _, _, rfl⟩, HM⟩, by simp [intOf]; omega⟩
        · have HE : Hid (CB w wr #[.slice ak ks.length ck, .slice ap ps.length cp] (.slice va vn vc) (.slice ub un uc) ks ps) := by
            show CB _ _ _ _ _ _ _
            have h := HB.out
            rw [List.take_of_length_le (by omega)] at h
            exact h
          clear HB
          obtain ⟨e0, e1⟩ : wr.cell? ⟨w.heap.size + 1 + 1, 0, none⟩ = some (.slice va vn vc) ∧ wr.cell? ⟨w.heap.size + 1 + 1, 1, none⟩ = some (.slice ub un uc) := by simp [World.cell?, HE.out.c]
          have hr := HE.out.r
          go_wp2_with (refine wpList_store_row rfl 36 _ _ rfl (w.heap.size + 1) #[.slice va vn vc, .slice ub un uc] rfl rfl 36 _ hr (by kernel_rfl) rfl (by simp [Value.oneCell']) ?_)
          refine bodyPost_ret (v := .agg #[.slice va vn vc, .slice ub un uc]) (by simp [results, Tryz.results80, go_sem, cell_setRow_same _ _ _ _ _ _ _ hr]) rfl ⟨_, _, _, _, _, _, rfl, ⟨?_, ?_⟩, below_setRow HE.out.below (by omega) _⟩
          · exact ownsRow_farF HE.out.k (grown_rowF wr (w.heap.size + 1) _) (fun k hk e => by have := own_ge HE.out.k k hk; injection e; omega)
          · exact ownsRow_farF HE.out.p (grown_rowF wr (w.heap.size + 1) _) (fun k hk e => by have := own_ge HE.out.p k hk; injection e; omega)
end Go.Proofs.YteffdgjoahkdaabGreat

/-
  Entries of one's own, in the making: each with a row of fields of its own.
-/
namespace Go.Proofs.YteffdgjoahkdaabGreat
open Go.RowKit
set_option linter.unusedSimpArgs false
set_option linter.unusedVariables false

abbrev EntV := Ent × Value
def pairRow (p : EntV) : List Value := [.string p.1.name, p.2]
def pairRows (l : List EntV) : List Value := l.flatMap pairRow
theorem pairRows_snoc (l : List EntV) (p : EntV) : pairRows (l ++ [p]) = pairRows l ++ pairRow p := by simp [pairRows]
theorem pairRows_length (l : List EntV) : (pairRows l).length = l.length * 2 := by
  induction l with
  | nil => rfl
  | cons a l ih => simp only [pairRows, List.flatMap_cons, List.length_append] at ih ⊢; rw [ih]; simp [pairRow]; omega
def fldRows (l : List Fld) : List Value := l.flatMap fldRow
theorem fldRows_snoc (l : List Fld) (f : Fld) : fldRows (l ++ [f]) = fldRows l ++ fldRow f := by simp [fldRows]
theorem infoEnt : (Tryz.prog.info? 82).map (fun i => (i.zero, i.size, i.bytes)) = some (some (.agg #[.string ByteArray.empty, .slice none 0 0]), 2, 40) := by kernel_rfl
theorem infoFld : (Tryz.prog.info? 71).map (fun i => (i.zero, i.size, i.bytes)) = some (some (.agg #[.int .i64 0, .int .i64 0, .string ByteArray.empty]), 3, 32) := by kernel_rfl
theorem own_lt {w : World} {base : Nat} {e : TypeId} {size : Nat} {v : Value} {n : Nat} {xs : List Value} (h : w.ownsRow base e size v n xs) : ∀ k, v.ownBlock = some k → k < w.heap.size := by
  intro k hk
  rcases h.2 with ⟨rfl, _⟩ | ⟨g, cap, cur, rfl, _, hc, _⟩
  · cases hk
  · cases hk; exact (Array.getElem?_eq_some_iff.1 hc).1

/-- The entries lie in a row of their own, the fields of each in one of its own. -/
structure PairsNew (w : World) (B : Nat) (o : Value) (l : List EntV) : Prop where
  row : w.ownsRow B 82 2 o l.length (pairRows l)
  flds : ∀ p ∈ l, w.ownsRow B 71 3 p.2 p.1.fs.length (fldRows p.1.fs)
  apart : l.Pairwise fun p q => ∀ k, p.2.ownBlock = some k → q.2.ownBlock ≠ some k
theorem PairsNew.nil (w : World) (B : Nat) : PairsNew w B (.slice none 0 0) [] := ⟨⟨rfl, .inl ⟨rfl, rfl⟩⟩, (fun p h => by cases h), List.Pairwise.nil⟩
theorem PairsNew.keep {w w' : World} {B : Nat} {o : Value} {l : List EntV} (h : PairsNew w B o l) (hb : Below w.heap.size w w') : PairsNew w' B o l :=
  ⟨ownsRow_keep h.row hb, fun p hp => ownsRow_keep (h.flds p hp) hb, h.apart⟩
theorem PairsNew.push {w2 w3 : World} {B : Nat} {o o' : Value} {l : List EntV} {n : ByteArray} {ob : Obj} (h : PairsNew w2 B o l) (hown : w3.ownsRow B 82 2 o' (l.length + 1) (pairRows l ++ [.string n, .slice none 0 0])) (hg : (w2.alloc ob).grownBy w3 o.ownBlock) : PairsNew w3 B o' (l ++ [(⟨n, []⟩, .slice none 0 0)]) := by
  refine ⟨?_, fun p hp => ?_, ?_⟩
  · rw [pairRows_snoc, List.length_append]; exact hown
  · rcases List.mem_append.1 hp with hp | hp
    · exact ownsRow_farF (ownsRow_keep (h.flds p hp) ((Below.refl _ _).alloc (Nat.le_refl _) ob)) hg (own_apart h.row (h.flds p hp) (by decide))
    · simp at hp; subst hp; exact ⟨rfl, .inl ⟨rfl, rfl⟩⟩
  · rw [List.pairwise_append]
    exact ⟨h.apart, by simp, fun p _ q hq k _ => by simp at hq; subst hq; simp [Value.ownBlock]⟩
/-- The last entry. -/
theorem PairsNew.last {w : World} {B : Nat} {o : Value} {l : List EntV} {e : Ent} {fv : Value} (h : PairsNew w B o (l ++ [(e, fv)])) : ∃ g cap, o = .slice (some ⟨g, 0, none⟩) (l.length + 1) cap ∧ w.cell? ⟨g, l.length * 2, none⟩ = some (.string e.name) ∧ w.cell? ⟨g, l.length * 2 + 1, none⟩ = some fv ∧ w.frozen? ⟨g, l.length * 2 + 1, none⟩ = false ∧ l.length + 1 ≤ cap ∧ cap ≤ maxLen := by
  rcases h.row.2 with ⟨_, h0⟩ | ⟨g, cap, cur, rfl, _, hb, hn, hc, hs, ht⟩
  · simp at h0
  · have hlen : (l ++ [(e, fv)]).length = l.length + 1 := by simp
    rw [hlen] at ht hn ⊢
    have hx : ∀ j, j < 2 → cur.toList[l.length * 2 + j]? = [Value.string e.name, fv][j]? := fun j hj => by
      have h1 : (cur.toList.take ((l.length + 1) * 2))[l.length * 2 + j]? = cur.toList[l.length * 2 + j]? := by
        rw [List.getElem?_take, if_pos (by omega)]
      rw [← h1, ht, pairRows_snoc, List.getElem?_append_right (by rw [pairRows_length]; omega), pairRows_length, Nat.add_sub_cancel_left]
      rfl
    have x0 := hx 0 (by omega)
    have x1 := hx 1 (by omega)
    simp only [Nat.add_zero] at x0
    refine ⟨g, cap, rfl, ?_, ?_, Lib.frozen_of_heap hb _, hn, hc⟩
    · simp only [World.cell?, hb, Option.isSome_none, Bool.false_eq_true, if_false]
      simpa using x0
    · simp only [World.cell?, hb, Option.isSome_none, Bool.false_eq_true, if_false]
      simpa using x1
theorem set_end {α : Type} (L : List α) (a b x : α) : (L ++ [a, b]).set (L.length + 1) x = L ++ [a, x] := by
  rw [List.set_append_right _ _ (by omega)]
  simp
/-- One more field of the last entry: appended, and the entry's list turned. -/
theorem PairsNew.more {w2 w3 : World} {B H : Nat} {g cap n fg fcap : Nat} {l : List EntV} {e : Ent} {fv : Value} {f : Fld} {ob : Obj} (h : PairsNew w2 B (.slice (some ⟨g, 0, none⟩) n cap) (l ++ [(e, fv)])) (hown : w3.ownsRow B 71 3 (.slice (some ⟨fg, 0, none⟩) (e.fs.length + 1) fcap) (e.fs.length + 1) (fldRows e.fs ++ fldRow f)) (hg : (w2.alloc ob).grownBy w3 fv.ownBlock) (hat : fv.ownBlock = some fg ∨ fg = H) (hH : w2.heap.size ≤ H) :
    PairsNew (w3.setCell ⟨g, l.length * 2 + 1, none⟩ (.slice (some ⟨fg, 0, none⟩) (e.fs.length + 1) fcap)) B (.slice (some ⟨g, 0, none⟩) n cap) (l ++ [(⟨e.name, e.fs ++ [f]⟩, .slice (some ⟨fg, 0, none⟩) (e.fs.length + 1) fcap)]) := by
  have hfl := h.flds (e, fv) (by simp)
  have hb1 : Below w2.heap.size w2 (w2.alloc ob) := (Below.refl _ _).alloc (Nat.le_refl _) ob
  have hrow3 : w3.ownsRow B 82 2 (.slice (some ⟨g, 0, none⟩) n cap) (l ++ [(e, fv)]).length (pairRows (l ++ [(e, fv)])) := ownsRow_farF (ownsRow_keep h.row hb1) hg (own_apart hfl h.row (by decide))
  have gs := grown_setF w3 g (l.length * 2 + 1) (.slice (some ⟨fg, 0, none⟩) (e.fs.length + 1) fcap)
  have hne : ∀ (p : EntV), w3.ownsRow B 71 3 p.2 p.1.fs.length (fldRows p.1.fs) → ∀ k, p.2.ownBlock = some k → some k ≠ some g := fun p hp => own_apart hrow3 hp (by decide)
  have hap := List.pairwise_append.1 h.apart
  refine ⟨?_, fun p hp => ?_, ?_⟩
  · obtain ⟨h1, h2⟩ := hrow3
    rcases h2 with ⟨h2, _⟩ | ⟨g', cap', cur, hv, hB, hb, hn, hc, hs, ht⟩
    · cases h2
    · cases hv
      have hlen : ∀ x : EntV, (l ++ [x]).length = l.length + 1 := fun x => by simp
      rw [hlen] at h1 hn ht
      refine ⟨by rw [pairRows_length], .inr ⟨g, cap, cur.setIfInBounds (l.length * 2 + 1) (.slice (some ⟨fg, 0, none⟩) (e.fs.length + 1) fcap), by simp, hB, ?_, by rw [hlen]; exact hn, hc, by simpa using hs, ?_⟩⟩
      · rw [Sort.setCell_eq]
        simp only [Sort.mapBlock, Array.getElem?_modify, if_true, hb, Option.map_some, Sort.onCells]
      · rw [hlen, Array.toList_setIfInBounds, List.take_set, ht, pairRows_snoc, pairRows_snoc]
        have := set_end (pairRows l) (.string e.name) fv (.slice (some ⟨fg, 0, none⟩) (e.fs.length + 1) fcap)
        rw [pairRows_length] at this
        exact this
  · rcases List.mem_append.1 hp with hp | hp
    · have hp2 := h.flds p (List.mem_append_left _ hp)
      have hp3 : w3.ownsRow B 71 3 p.2 p.1.fs.length (fldRows p.1.fs) := ownsRow_farF (ownsRow_keep hp2 hb1) hg (fun k hk ee => (hap.2.2 p hp (e, fv) (by simp) k hk) ee.symm)
      exact ownsRow_farF hp3 gs (hne p hp3)
    · simp at hp; subst hp
      have h3 : w3.ownsRow B 71 3 (.slice (some ⟨fg, 0, none⟩) (e.fs.length + 1) fcap) (e.fs ++ [f]).length (fldRows (e.fs ++ [f])) := by
        rw [fldRows_snoc, List.length_append]; exact hown
      exact ownsRow_farF h3 gs (hne (⟨e.name, e.fs ++ [f]⟩, _) h3)
  · rw [List.pairwise_append]
    refine ⟨hap.1, by simp, fun p hp q hq k hk => ?_⟩
    simp at hq; subst hq
    show some fg ≠ some k
    intro ee
    injection ee with ee
    subst ee
    rcases hat with hat | hat
    · exact hap.2.2 p hp (e, fv) (by simp) _ hk hat
    · have := own_lt (h.flds p (List.mem_append_left _ hp)) _ hk
      omega
/-- What the entries are. -/
def EntsNew (w : World) (B : Nat) (o : Value) (es : List Ent) : Prop := ∃ l : List EntV, l.map (·.1) = es ∧ PairsNew w B o l
end Go.Proofs.YteffdgjoahkdaabGreat
