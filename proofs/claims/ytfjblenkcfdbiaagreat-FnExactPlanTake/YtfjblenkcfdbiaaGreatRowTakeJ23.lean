/-
  For the proof of take_holds: part 23 (Fld1).
-/
import Derived.Test.YtfjblenkcfdbiaaGreatRowTakeJ22
namespace Go.Proofs.YtfjblenkcfdbiaaGreat
open Go.RowKit
attribute [local go_sem] Later.cell Later.frozen
set_option linter.unusedSimpArgs false
set_option linter.unusedVariables false

theorem three_cellsF {w : World} {b : Nat} {x y z : Value} {T : TypeId} (h : w.heap[b]? = some (.cells #[x, y, z] T (0, 0))) : w.cell? ⟨b, 0, none⟩ = some x ∧ w.cell? ⟨b, 1, none⟩ = some y ∧ w.cell? ⟨b, 2, none⟩ = some z := by simp [World.cell?, h]
theorem own_src {w : World} {lo g n cap : Nat} {fs : List Fld} (h : w.ownsRow lo 62 3 (.slice (some ⟨g, 0, none⟩) n cap) fs.length (fldRows fs)) : ∀ q u, (fldRows fs)[q]? = some u → w.cell? ⟨g, q, none⟩ = some u := fun q u hu => by
  have := h.cells (g := g) rfl q u hu
  rw [addr_add, Nat.zero_add] at this
  exact this
theorem src_take {w : World} {g : Nat} {fs : List Fld} (j : Nat) (h : ∀ q u, (fldRows fs)[q]? = some u → w.cell? ⟨g, q, none⟩ = some u) : ∀ q u, (fldRows (fs.take j))[q]? = some u → w.cell? ((⟨g, 0, none⟩ : Addr).add q) = some u := fun q u hu => by
  rw [addr_add, Nat.zero_add]
  refine h q u ?_
  have e : fldRows fs = fldRows (fs.take j) ++ fldRows (fs.drop j) := by rw [← fldRows_app, List.take_append_drop]
  rw [e, List.getElem?_append_left (List.getElem?_eq_some_iff.1 hu).1]
  exact hu
theorem src_drop {w : World} {g : Nat} {fs : List Fld} {j : Nat} (hj : j ≤ fs.length) (h : ∀ q u, (fldRows fs)[q]? = some u → w.cell? ⟨g, q, none⟩ = some u) : ∀ q u, (fldRows (fs.drop j))[q]? = some u → w.cell? ((⟨g, j * 3, none⟩ : Addr).add q) = some u := fun q u hu => by
  rw [addr_add]
  refine h _ u ?_
  have e : fldRows fs = fldRows (fs.take j) ++ fldRows (fs.drop j) := by rw [← fldRows_app, List.take_append_drop]
  have hl : (fldRows (fs.take j)).length = j * 3 := by rw [fldRows_len, List.length_take, Nat.min_eq_left hj]
  rw [e, List.getElem?_append_right (by rw [hl]; omega), hl, Nat.add_sub_cancel_left]
  exact hu

set_option maxRecDepth 100000 in
set_option maxHeartbeats 12800000 in
theorem l3Field_any (lv : Value) (fs : List Fld) (f : Fld) (lo : Nat) (w : World) (hO : w.ownsRow lo 62 3 lv fs.length (fldRows fs)) (hlo : lo ≤ w.heap.size) (hn : fs.length ≤ 1048576) :
    Calls Tryz.prog 59 #[lv, .agg #[.int .i64 f.what, .int .i64 f.num, .string f.v]] w fun e w' => ∃ v', e = .returned v' ∧ w'.ownsRow lo 62 3 v' (putF fs f).length (fldRows (putF fs f)) ∧ w.grownBy w' lv.ownBlock ∧ ∀ j, v'.ownBlock = some j → lv.ownBlock = some j ∨ w.heap.size ≤ j := by
  obtain ⟨i0, hi, hz0, hz1, hz2⟩ := info_parts infoFld
  have HO : Hid (w.ownsRow lo 62 3 lv fs.length (fldRows fs)) := hO
  obtain ⟨la, lc, rfl⟩ := own_slice hO
  have HB0 : Hid (Below w.heap.size w (w.alloc (.cells #[.int .i64 f.what, .int .i64 f.num, .string f.v] 62))) := (Below.refl _ _).alloc (Nat.le_refl _) _
  have HX0 : Hid ((w.alloc (.cells #[.int .i64 f.what, .int .i64 f.num, .string f.v] 62)).heap[w.heap.size]? = some (.cells #[.int .i64 f.what, .int .i64 f.num, .string f.v] 62 (0, 0))) := heap_newF w _
  clear hO
  go_enter Tryz.func59, Tryz.ntmps59
  go_wp2
  generalize w.alloc (.cells #[.int .i64 f.what, .int .i64 f.num, .string f.v] 62) = w1 at *
  have hx1 : w.heap.size < w1.heap.size := (Array.getElem?_eq_some_iff.1 HX0.out).1
  go_loopw [5] (fun i wr => ∃ j : Nat, j ≤ fs.length ∧ i = .int .i64 j ∧ Hid (∀ i, i < j → (fat fs i).what < f.what) ∧ Hid (Below w1.heap.size w1 wr)) (fun i _ => fs.length - (intOf i).toNat)
  case atStart => exact ⟨0, Nat.zero_le _, rfl, fun i hi => absurd hi (Nat.not_lt_zero _), Below.refl _ _⟩
  case round =>
    obtain ⟨j, hj, rfl, HL, HBW⟩ := hrel
    have HX : Hid (wr.heap[w.heap.size]? = some (.cells #[.int .i64 f.what, .int .i64 f.num, .string f.v] 62 (0, 0))) := (HBW.out.block _ hx1).trans HX0.out
    have hxz : w.heap.size < wr.heap.size := (Array.getElem?_eq_some_iff.1 HX.out).1
    have HOW : Hid (wr.ownsRow lo 62 3 (.slice la fs.length lc) fs.length (fldRows fs)) := ownsRow_keep HO.out (below_step HB0.out HBW.out)
    obtain ⟨x0, x1, x2⟩ := three_cellsF HX.out
    have hj0 : (0 : Int) ≤ (j : Int) := by omega
    have hjl : (j : Int) ≤ (fs.length : Int) := by omega
    by_cases hlt : j < fs.length
    · obtain ⟨g, cap, hv, hgl, hgz, hnc, hcm, d0, d1, d2, hth⟩ := own_fcells HOW.out hlt
      cases hv
      unfold maxLen at hcm
      have hj1 : (j : Int) < (fs.length : Int) := by omega
      have hcc : (fs.length : Int) ≤ (lc : Int) := by omega
      by_cases hw : (fat fs j).what < f.what
      · have HN : Hid (∀ i, i < j + 1 → (fat fs i).what < f.what) := fun i hi => by
          by_cases e : i = j
          · subst e; exact hw
          · exact HL.out i (by omega)
        have hwd : decide ((fat fs j).what < f.what) = true := by simpa using hw
        have hne := Later.some wr
        go_wp2
        refine wp_region_later (by kernel_rfl) (by kernel_rfl) ?_
        repeat (go_big_quiet_step (fail))
        refine wpQuiet_nil ?_
        rintro _ ⟨x, rfl⟩
        have HB2 : Hid (Below w1.heap.size w1 x.val) := below_step HBW.out x.below
        go_wp2
        exact ⟨⟨j + 1, by omega, by go_num, HN, HB2⟩, by simp [intOf]; omega⟩
      · have hwd : decide ((fat fs j).what < f.what) = false := by simpa using hw
        have hne := Later.some wr
        go_wp2
        refine wp_region_later (by kernel_rfl) (by kernel_rfl) ?_
        repeat (go_big_quiet_step (fail))
        refine wpQuiet_nil ?_
        rintro _ ⟨y, rfl⟩
        have HB2 : Hid (Below w1.heap.size w1 y.val) := below_step HBW.out y.below
        have HOW2 : Hid (y.val.ownsRow lo 62 3 (.slice (some ⟨g, 0, none⟩) fs.length lc) fs.length (fldRows fs)) := ownsRow_keep HOW.out y.below
        have HX2 : Hid (y.val.heap[w.heap.size]? = some (.cells #[.int .i64 f.what, .int .i64 f.num, .string f.v] 62 (0, 0))) := (y.below.block _ hxz).trans HX.out
        generalize y.val = wr2 at *
        clear hne HX HOW HBW x0 x1 x2 d0 d1 d2 hth hgz
        obtain ⟨x0, x1, x2⟩ := three_cellsF HX2.out
        have hxz2 : w.heap.size < wr2.heap.size := (Array.getElem?_eq_some_iff.1 HX2.out).1
        obtain ⟨g', cap', hv, -, hgz, -, -, d0, d1, d2, hth⟩ := own_fcells HOW2.out hlt
        cases hv
        have hne := Later.some wr2
        by_cases he : (fat fs j).what = f.what
        · have hed : ((fat fs j).what == f.what) = true := by simpa using he
          have HH : Hid (putF fs f = bif latF f (fat fs j) then fs.set j f else fs) := putF_hit fs f j hlt HL.out he
          clear he hw hwd
          go_wp2
          refine wp_region_later (by kernel_rfl) (by kernel_rfl) ?_
          repeat (go_big_quiet_step (fail))
          refine wpQuiet_nil ?_
          rintro _ ⟨y, rfl⟩
          have HB3 : Hid (Below w1.heap.size w1 y.val) := below_step HB2.out y.below
          have HOW3 : Hid (y.val.ownsRow lo 62 3 (.slice (some ⟨g, 0, none⟩) fs.length lc) fs.length (fldRows fs)) := ownsRow_keep HOW2.out y.below
          have HX3 : Hid (y.val.heap[w.heap.size]? = some (.cells #[.int .i64 f.what, .int .i64 f.num, .string f.v] 62 (0, 0))) := (y.below.block _ hxz2).trans HX2.out
          generalize y.val = wr3 at *
          clear hne HX2 HOW2 HB2 x0 x1 x2 d0 d1 d2 hth hgz hed
          obtain ⟨x0, x1, x2⟩ := three_cellsF HX3.out
          have hxz3 : w.heap.size < wr3.heap.size := (Array.getElem?_eq_some_iff.1 HX3.out).1
          obtain ⟨g', cap', hv, -, hgz, -, -, d0, d1, d2, hth⟩ := own_fcells HOW3.out hlt
          cases hv
          have hne := Later.some wr3
          have GL : Hid (∀ y : Later wr3, Calls Tryz.prog 85 #[.agg #[.int .i64 f.what, .int .i64 f.num, .string f.v], .agg #[.int .i64 (fat fs j).what, .int .i64 (fat fs j).num, .string (fat fs j).v]] y.val fun e w'' => e = .returned (.bool (latF f (fat fs j))) ∧ ∃ z : Later wr3, w'' = z.val) := fun y => Calls.later (l3Later_any (chgOf ⟨#[]⟩ f) (chgOf ⟨#[]⟩ (fat fs j)) y.val)
          go_wp2
          refine wp_region_later (by kernel_rfl) (by kernel_rfl) ?_
          repeat (go_big_quiet_step (first | (go_at_call 85; exact GL.out _)))
          refine wpQuiet_nil ?_
          rintro _ ⟨y, rfl⟩
          have HB4 : Hid (Below w1.heap.size w1 y.val) := below_step HB3.out y.below
          have HOW4 : Hid (y.val.ownsRow lo 62 3 (.slice (some ⟨g, 0, none⟩) fs.length lc) fs.length (fldRows fs)) := ownsRow_keep HOW3.out y.below
          have HX4 : Hid (y.val.heap[w.heap.size]? = some (.cells #[.int .i64 f.what, .int .i64 f.num, .string f.v] 62 (0, 0))) := (y.below.block _ hxz3).trans HX3.out
          generalize y.val = wr4 at *
          clear hne HX3 HOW3 HB3 x0 x1 x2 d0 d1 d2 hth hgz GL
          obtain ⟨x0, x1, x2⟩ := three_cellsF HX4.out
          obtain ⟨g', cap', hv, -, hgz, -, -, -, -, -, hth⟩ := own_fcells HOW4.out hlt
          cases hv
          cases hlat : latF f (fat fs j)
          · have HP : Hid (putF fs f = fs) := by show _ = _; rw [HH.out, hlat]; rfl
            clear hlat HH
            go_wp2
            go_ret
            exact ⟨_, rfl, by rw [HP.out]; exact HOW4.out, grownF_below (below_step HB0.out HB4.out) _, fun j hj => .inl hj⟩
          · have HP : Hid (putF fs f = fs.set j f) := by show _ = _; rw [HH.out, hlat]; rfl
            clear hlat HH
            have hset := own_fset f HOW4.out hlt
            go_wp2_with (refine wpList_store_mid rfl 62 _ _ rfl g (j * 3) #[.int .i64 f.what, .int .i64 f.num, .string f.v] rfl rfl hth (by kernel_rfl) (by simp [Value.oneCell']) ?_)
            go_ret
            exact ⟨_, rfl, by rw [HP.out]; exact hset.1, grownF_trans (grownF_below (below_step HB0.out HB4.out) _) hset.2, fun j hj => .inl hj⟩
        · have hed : ((fat fs j).what == f.what) = false := by simpa using he
          have HP : Hid (putF fs f = fs.take j ++ f :: fs.drop j) := putF_in fs f j hj HL.out (fun _ => by omega)
          clear he hw hwd
          go_wp2
          refine wp_region_later (by kernel_rfl) (by kernel_rfl) ?_
          repeat (go_big_quiet_step (fail))
          refine wpQuiet_nil ?_
          rintro _ ⟨y, rfl⟩
          have HB3 : Hid (Below w1.heap.size w1 y.val) := below_step HB2.out y.below
          have HOW3 : Hid (y.val.ownsRow lo 62 3 (.slice (some ⟨g, 0, none⟩) fs.length lc) fs.length (fldRows fs)) := ownsRow_keep HOW2.out y.below
          have HX3 : Hid (y.val.heap[w.heap.size]? = some (.cells #[.int .i64 f.what, .int .i64 f.num, .string f.v] 62 (0, 0))) := (y.below.block _ hxz2).trans HX2.out
          generalize y.val = wr3 at *
          clear hne HX2 HOW2 HB2 x0 x1 x2 d0 d1 d2 hth hgz hed
          have hjc : j ≤ lc := by omega
          have hjn : ¬ lc = j := by omega
          obtain ⟨x0, x1, x2⟩ := three_cellsF HX3.out
          go_wp2
          refine wp_region_noPanic ?_
          refine wp_region_held_drew (S := fun w' => w'.cell? ⟨w.heap.size, 0, none⟩ = some (.int .i64 f.what) ∧ w'.cell? ⟨w.heap.size, 1, none⟩ = some (.int .i64 f.num) ∧ w'.cell? ⟨w.heap.size, 2, none⟩ = some (.string f.v)) (by kernel_rfl) ?_ (fun hHeld => ?_)
          · exact ⟨x0, x1, x2⟩
          clear x0 x1 x2
          have HBD : Hid (Below w1.heap.size w1 wr3.drew) := HB3.out.drew
          have HOD : Hid (wr3.drew.ownsRow lo 62 3 (.slice _ _ _) fs.length (fldRows fs)) := ownsRow_keep HOW3.out (Below.refl _ _).drew
          have HXD : Hid (wr3.drew.heap[w.heap.size]? = some (.cells #[.int .i64 f.what, .int .i64 f.num, .string f.v] 62 (0, 0))) := HX3.out
          generalize wr3.drew = W0 at *
          clear HB3 HOW3 HX3
          refine wpAnyH_take (i := 1) (v := ?_) rfl (by kernel_rfl) (by kernel_rfl) (by kernel_rfl) (fun _ _ _ h => h) (Or.inl ⟨by rfl, ?_⟩) (by assumption) ?_
          rotate_left
          · intro w hSw; (try dsimp only at hSw); go_simp; try with_reducible rfl
          simp only [Act.put, List.setIfInBounds_toArray, List.set_cons_zero, List.set_cons_succ, List.getElem_toArray, List.getElem_cons_succ, List.getElem_cons_zero]
          refine wpAnyH_take (i := 2) (v := ?_) rfl (by kernel_rfl) (by kernel_rfl) (by kernel_rfl) (fun _ _ _ h => h) (Or.inl ⟨by rfl, ?_⟩) (by assumption) ?_
          rotate_left
          · intro w hSw; (try dsimp only at hSw); go_simp; try with_reducible rfl
          simp only [Act.put, List.setIfInBounds_toArray, List.set_cons_zero, List.set_cons_succ, List.getElem_toArray, List.getElem_cons_succ, List.getElem_cons_zero]
          refine wpAnyH_take (i := 3) (v := ?_) rfl (by kernel_rfl) (by kernel_rfl) (by kernel_rfl) (fun _ _ _ h => h) (Or.inl ⟨by rfl, ?_⟩) (by assumption) ?_
          rotate_left
          · intro w hSw; (try dsimp only at hSw); go_simp; try with_reducible rfl
          simp only [Act.put, List.setIfInBounds_toArray, List.set_cons_zero, List.set_cons_succ, List.getElem_toArray, List.getElem_cons_succ, List.getElem_cons_zero]
          refine wpAnyH_take (i := 5) (v := ?_) rfl (by kernel_rfl) (by kernel_rfl) (by kernel_rfl) (fun _ _ _ h => h) (Or.inl ⟨by rfl, ?_⟩) (by assumption) ?_
          rotate_left
          · intro w hSw; (try dsimp only at hSw); go_simp; try with_reducible rfl
          simp only [Act.put, List.setIfInBounds_toArray, List.set_cons_zero, List.set_cons_succ, List.getElem_toArray, List.getElem_cons_succ, List.getElem_cons_zero]
          refine wpAnyH_take (i := 8) (v := ?_) rfl (by kernel_rfl) (by kernel_rfl) (by kernel_rfl) (fun _ _ _ h => h) (Or.inl ⟨by rfl, ?_⟩) (by assumption) ?_
          rotate_left
          · intro w hSw; (try dsimp only at hSw); go_simp; try with_reducible rfl
          simp only [Act.put, List.setIfInBounds_toArray, List.set_cons_zero, List.set_cons_succ, List.getElem_toArray, List.getElem_cons_succ, List.getElem_cons_zero]
          refine wpAnyH_take (i := 9) (v := ?_) rfl (by kernel_rfl) (by kernel_rfl) (by kernel_rfl) (fun _ _ _ h => h) (Or.inl ⟨by rfl, ?_⟩) (by assumption) ?_
          rotate_left
          · intro w hSw; (try dsimp only at hSw); go_simp; try with_reducible rfl
          simp only [Act.put, List.setIfInBounds_toArray, List.set_cons_zero, List.set_cons_succ, List.getElem_toArray, List.getElem_cons_succ, List.getElem_cons_zero]
          refine wpAnyH_take (i := 10) (v := ?_) rfl (by kernel_rfl) (by kernel_rfl) (by kernel_rfl) (fun _ _ _ h => h) (Or.inl ⟨by rfl, ?_⟩) (by assumption) ?_
          rotate_left
          · intro w hSw; (try dsimp only at hSw); go_simp; try with_reducible rfl
          simp only [Act.put, List.setIfInBounds_toArray, List.set_cons_zero, List.set_cons_succ, List.getElem_toArray, List.getElem_cons_succ, List.getElem_cons_zero]
          clear hHeld
          have hw0 : w.heap.size < W0.heap.size := (Array.getElem?_eq_some_iff.1 HXD.out).1
          have hlo0 : lo ≤ W0.heap.size := by omega
          have HBW : Hid (Below W0.heap.size W0 W0) := Below.refl _ _
          have HSS : Hid (∀ wx : World, Below W0.heap.size W0 wx → wx.cell? ⟨w.heap.size, 0, none⟩ = some (.int .i64 f.what) ∧ wx.cell? ⟨w.heap.size, 1, none⟩ = some (.int .i64 f.num) ∧ wx.cell? ⟨w.heap.size, 2, none⟩ = some (.string f.v)) := fun wx hx => three_cellsF ((hx.block _ hw0).trans HXD.out)
          have HSR : Hid (∀ wx : World, Below W0.heap.size W0 wx → ∀ q u, (fldRows fs)[q]? = some u → wx.cell? ⟨g, q, none⟩ = some u) := fun wx hx => own_src (ownsRow_keep HOD.out hx)
          refine wpAnyH_ready (rs := [0, 6]) (by kernel_rfl) (by simp) ?_
          refine AllReadyH.cons rfl (fun K hK => ?_) (AllReadyH.cons rfl (fun K hK => ?_) AllReadyH.nil)
          · go_simp
            have HB2 : Hid (Below W0.heap.size W0 (W0.alloc (.cells #[] 62))) := HBW.out.alloc HBW.out.size _
            have RD : Hid ((W0.alloc (.cells #[] 62)).ownsRow W0.heap.size 62 3 (.slice (some ⟨W0.heap.size, 0, none⟩) 0 0) 0 []) := own_new0 (heap_newF W0 _) HBW.out.size 3
            refine hK.out _ _ (HSS.out _ HB2.out) (fun _ => ?_)
            clear hK K HBW
            have HBW := HB2
            clear HB2
            generalize W0.alloc (.cells #[] 62) = W1 at *
            refine wpAnyH_ready (rs := [4, 6]) (by kernel_rfl) (by simp) ?_
            refine AllReadyH.cons rfl (fun K hK => ?_) (AllReadyH.cons rfl (fun K hK => ?_) AllReadyH.nil)
            · refine step_append_any _ rfl _ _ 71 rfl W0.heap.size 62 i0 _ 3 32 Tryz.underlying71 hi hz0 hz1 hz2 rfl (by decide) _ 0 [] rfl RD.out _ j _ (fldRows (fs.take j)) rfl (.inr ⟨_, rfl, src_take j (HSR.out _ HBW.out)⟩) (by rw [fldRows_len, List.length_take, Nat.min_eq_left hj]) fld_one (by unfold maxLen; omega) (by omega) HBW.out.size ?_
              intro va W2 hown hgrow hat
              simp only [Nat.zero_add, List.nil_append] at hown
              have HB2 : Hid (Below W0.heap.size W0 W2) := HBW.out.grown hgrow HBW.out.size (fun q e => own_ge RD.out q e)
              refine hK.out _ _ (HSS.out _ HB2.out) (fun _ => ?_)
              clear hat hgrow RD
              clear hK K HBW
              have HBW := HB2
              clear HB2
              have RD := toHidC hown
              obtain ⟨pa, qa, rfl⟩ := own_slice hown
              clear hown
              refine wpAnyH_ready (rs := [6]) (by kernel_rfl) (by simp) ?_
              refine AllReadyH.cons rfl (fun K hK => ?_) AllReadyH.nil
              go_simp
              have HB2 : Hid (Below W0.heap.size W0 (W2.alloc (.cells #[.int .i64 f.what, .int .i64 f.num, .string f.v] 62))) := HBW.out.alloc HBW.out.size _
              have BX : Hid ((W2.alloc (.cells #[.int .i64 f.what, .int .i64 f.num, .string f.v] 62)).heap[W2.heap.size]? = some (.cells #[.int .i64 f.what, .int .i64 f.num, .string f.v] 62 (0, 0))) := heap_newF W2 _
              have RD2 := toHidC (ownsRow_keep RD.out ((Below.refl _ W2).alloc (Nat.le_refl _) (.cells #[.int .i64 f.what, .int .i64 f.num, .string f.v] 62)))
              have HNE : Hid (∀ q, Value.ownBlock _ = some q → some (W2.heap.size) ≠ some q) := fun q hq e => by have := own_lt RD.out q hq; injection e with e; omega
              refine hK.out _ _ (HSS.out _ HB2.out) (fun _ => ?_)
              clear hK K HBW
              have HBW := HB2
              clear HB2
              have hBF : W2.heap.size < (W2.alloc (.cells #[.int .i64 f.what, .int .i64 f.num, .string f.v] 62)).heap.size := by rw [World.size_alloc]; omega
              clear RD
              have RD := RD2
              clear RD2
              generalize W2.alloc (.cells #[.int .i64 f.what, .int .i64 f.num, .string f.v] 62) = W3 at *
              refine wpAnyH_ready (rs := [7]) (by kernel_rfl) (by simp) ?_
              refine AllReadyH.cons rfl (fun K hK => ?_) AllReadyH.nil
              refine step_append_any _ rfl _ _ 71 rfl W0.heap.size 62 i0 _ 3 32 Tryz.underlying71 hi hz0 hz1 hz2 rfl (by decide) _ j (fldRows (fs.take j)) rfl RD.out _ 1 _ (fldRow f) rfl (.inr ⟨_, rfl, World.news_of_block BX.out⟩) rfl (fun u hu => by simp only [fldRow, List.mem_cons, List.not_mem_nil, or_false] at hu; rcases hu with rfl | rfl | rfl <;> rfl) (by unfold maxLen; omega) (by omega) HBW.out.size ?_
              intro vb W4 hown hgrow hat
              have HB2 : Hid (Below W0.heap.size W0 W4) := HBW.out.grown hgrow HBW.out.size (fun q e => own_ge RD.out q e)
              refine hK.out _ _ (HSS.out _ HB2.out) (fun _ => ?_)
              clear hat hgrow RD
              clear hK K HBW
              have HBW := HB2
              clear HB2
              have RD := toHidC hown
              obtain ⟨pb, qb, rfl⟩ := own_slice hown
              clear hown
              refine wpAnyH_ready (rs := [11]) (by kernel_rfl) (by simp) ?_
              refine AllReadyH.cons rfl (fun K hK => ?_) AllReadyH.nil
              refine step_append_any _ rfl _ _ 71 rfl W0.heap.size 62 i0 _ 3 32 Tryz.underlying71 hi hz0 hz1 hz2 rfl (by decide) _ (j + 1) (fldRows (fs.take j) ++ fldRow f) rfl RD.out _ (fs.length - j) _ (fldRows (fs.drop j)) rfl (.inr ⟨_, rfl, src_drop hj (HSR.out _ HBW.out)⟩) (by rw [fldRows_len, List.length_drop]) fld_one (by unfold maxLen; omega) (by omega) HBW.out.size ?_
              intro vc W5 hown hgrow hat
              have HB2 : Hid (Below W0.heap.size W0 W5) := HBW.out.grown hgrow HBW.out.size (fun q e => own_ge RD.out q e)
              refine hK.out _ _ (HSS.out _ HB2.out) (fun _ => ?_)
              clear hat hgrow RD
              clear hK K HBW
              have HBW := HB2
              clear HB2
              have RD := toHidC hown
              obtain ⟨pc, qc, rfl⟩ := own_slice hown
              clear hown
              have hHeld := HSS.out _ HBW.out
              refine wpAnyH_take (i := 12) (v := ?_) rfl (by kernel_rfl) (by kernel_rfl) (by kernel_rfl) (fun _ _ _ h => h) (Or.inl ⟨by rfl, ?_⟩) (by assumption) ?_
              rotate_left
              · intro w hSw; (try dsimp only at hSw); go_simp; try with_reducible rfl
              simp only [Act.put, List.setIfInBounds_toArray, List.set_cons_zero, List.set_cons_succ, List.getElem_toArray, List.getElem_cons_succ, List.getElem_cons_zero]
              clear hHeld
              refine wpAnyH_done (by kernel_rfl) ?_ _
              refine NoPanic.normal ?_
              go_wp2
              go_ret
              refine ⟨_, rfl, ?_, grownF_below (below_step (below_step HB0.out HBD.out) HBW.out) _, fun q hq => .inr ?_⟩
              · have h := own_mono RD.out hlo0
                rw [HP.out, fldRows_app, fldRows_cons, List.length_append, List.length_cons, List.length_take, List.length_drop, Nat.min_eq_left hj]
                have e2 : j + (fs.length - j + 1) = j + 1 + (fs.length - j) := by omega
                rw [e2, ← List.append_assoc]
                exact h
              · have := own_ge RD.out q hq
                omega
            · go_simp
              have HB2 : Hid (Below W0.heap.size W0 (W1.alloc (.cells #[.int .i64 f.what, .int .i64 f.num, .string f.v] 62))) := HBW.out.alloc HBW.out.size _
              have BX : Hid ((W1.alloc (.cells #[.int .i64 f.what, .int .i64 f.num, .string f.v] 62)).heap[W1.heap.size]? = some (.cells #[.int .i64 f.what, .int .i64 f.num, .string f.v] 62 (0, 0))) := heap_newF W1 _
              have RD2 := toHidC (ownsRow_keep RD.out ((Below.refl _ W1).alloc (Nat.le_refl _) (.cells #[.int .i64 f.what, .int .i64 f.num, .string f.v] 62)))
              have HNE : Hid (∀ q, Value.ownBlock _ = some q → some (W1.heap.size) ≠ some q) := fun q hq e => by have := own_lt RD.out q hq; injection e with e; omega
              refine hK.out _ _ (HSS.out _ HB2.out) (fun _ => ?_)
              clear hK K HBW
              have HBW := HB2
              clear HB2
              have hBF : W1.heap.size < (W1.alloc (.cells #[.int .i64 f.what, .int .i64 f.num, .string f.v] 62)).heap.size := by rw [World.size_alloc]; omega
              clear RD
              have RD := RD2
              clear RD2
              generalize W1.alloc (.cells #[.int .i64 f.what, .int .i64 f.num, .string f.v] 62) = W2 at *
              refine wpAnyH_ready (rs := [4]) (by kernel_rfl) (by simp) ?_
              refine AllReadyH.cons rfl (fun K hK => ?_) AllReadyH.nil
              refine step_append_any _ rfl _ _ 71 rfl W0.heap.size 62 i0 _ 3 32 Tryz.underlying71 hi hz0 hz1 hz2 rfl (by decide) _ 0 [] rfl RD.out _ j _ (fldRows (fs.take j)) rfl (.inr ⟨_, rfl, src_take j (HSR.out _ HBW.out)⟩) (by rw [fldRows_len, List.length_take, Nat.min_eq_left hj]) fld_one (by unfold maxLen; omega) (by omega) HBW.out.size ?_
              intro va W3 hown hgrow hat
              simp only [Nat.zero_add, List.nil_append] at hown
              have HB2 : Hid (Below W0.heap.size W0 W3) := HBW.out.grown hgrow HBW.out.size (fun q e => own_ge RD.out q e)
              have BX2 := toHidC ((hgrow.block _ hBF (fun e => HNE.out _ e.symm rfl)).trans BX.out)
              have hBF2 := Nat.lt_of_lt_of_le hBF hgrow.size
              refine hK.out _ _ (HSS.out _ HB2.out) (fun _ => ?_)
              clear hat hgrow RD
              clear BX HNE hBF
              have BX := BX2
              have hBF := hBF2
              clear BX2 hBF2
              clear hK K HBW
              have HBW := HB2
              clear HB2
              have RD := toHidC hown
              obtain ⟨pa, qa, rfl⟩ := own_slice hown
              clear hown
              refine wpAnyH_ready (rs := [7]) (by kernel_rfl) (by simp) ?_
              refine AllReadyH.cons rfl (fun K hK => ?_) AllReadyH.nil
              refine step_append_any _ rfl _ _ 71 rfl W0.heap.size 62 i0 _ 3 32 Tryz.underlying71 hi hz0 hz1 hz2 rfl (by decide) _ j (fldRows (fs.take j)) rfl RD.out _ 1 _ (fldRow f) rfl (.inr ⟨_, rfl, World.news_of_block BX.out⟩) rfl (fun u hu => by simp only [fldRow, List.mem_cons, List.not_mem_nil, or_false] at hu; rcases hu with rfl | rfl | rfl <;> rfl) (by unfold maxLen; omega) (by omega) HBW.out.size ?_
              intro vb W4 hown hgrow hat
              have HB2 : Hid (Below W0.heap.size W0 W4) := HBW.out.grown hgrow HBW.out.size (fun q e => own_ge RD.out q e)
              refine hK.out _ _ (HSS.out _ HB2.out) (fun _ => ?_)
              clear hat hgrow RD
              clear hK K HBW
              have HBW := HB2
              clear HB2
              have RD := toHidC hown
              obtain ⟨pb, qb, rfl⟩ := own_slice hown
              clear hown
              refine wpAnyH_ready (rs := [11]) (by kernel_rfl) (by simp) ?_
              refine AllReadyH.cons rfl (fun K hK => ?_) AllReadyH.nil
              refine step_append_any _ rfl _ _ 71 rfl W0.heap.size 62 i0 _ 3 32 Tryz.underlying71 hi hz0 hz1 hz2 rfl (by decide) _ (j + 1) (fldRows (fs.take j) ++ fldRow f) rfl RD.out _ (fs.length - j) _ (fldRows (fs.drop j)) rfl (.inr ⟨_, rfl, src_drop hj (HSR.out _ HBW.out)⟩) (by rw [fldRows_len, List.length_drop]) fld_one (by unfold maxLen; omega) (by omega) HBW.out.size ?_
              intro vc W5 hown hgrow hat
              have HB2 : Hid (Below W0.heap.size W0 W5) := HBW.out.grown hgrow HBW.out.size (fun q e => own_ge RD.out q e)
              refine hK.out _ _ (HSS.out _ HB2.out) (fun _ => ?_)
              clear hat hgrow RD
              clear hK K HBW
              have HBW := HB2
              clear HB2
              have RD := toHidC hown
              obtain ⟨pc, qc, rfl⟩ := own_slice hown
              clear hown
              have hHeld := HSS.out _ HBW.out
              refine wpAnyH_take (i := 12) (v := ?_) rfl (by kernel_rfl) (by kernel_rfl) (by kernel_rfl) (fun _ _ _ h => h) (Or.inl ⟨by rfl, ?_⟩) (by assumption) ?_
              rotate_left
              · intro w hSw; (try dsimp only at hSw); go_simp; try with_reducible rfl
              simp only [Act.put, List.setIfInBounds_toArray, List.set_cons_zero, List.set_cons_succ, List.getElem_toArray, List.getElem_cons_succ, List.getElem_cons_zero]
              clear hHeld
              refine wpAnyH_done (by kernel_rfl) ?_ _
              refine NoPanic.normal ?_
              go_wp2
              go_ret
              refine ⟨_, rfl, ?_, grownF_below (below_step (below_step HB0.out HBD.out) HBW.out) _, fun q hq => .inr ?_⟩
              · have h := own_mono RD.out hlo0
                rw [HP.out, fldRows_app, fldRows_cons, List.length_append, List.length_cons, List.length_take, List.length_drop, Nat.min_eq_left hj]
                have e2 : j + (fs.length - j + 1) = j + 1 + (fs.length - j) := by omega
                rw [e2, ← List.append_assoc]
                exact h
              · have := own_ge RD.out q hq
                omega
          · go_simp
            have HB2 : Hid (Below W0.heap.size W0 (W0.alloc (.cells #[.int .i64 f.what, .int .i64 f.num, .string f.v] 62))) := HBW.out.alloc HBW.out.size _
            have BX : Hid ((W0.alloc (.cells #[.int .i64 f.what, .int .i64 f.num, .string f.v] 62)).heap[W0.heap.size]? = some (.cells #[.int .i64 f.what, .int .i64 f.num, .string f.v] 62 (0, 0))) := heap_newF W0 _
            refine hK.out _ _ (HSS.out _ HB2.out) (fun _ => ?_)
            clear hK K HBW
            have HBW := HB2
            clear HB2
            have hBF : W0.heap.size < (W0.alloc (.cells #[.int .i64 f.what, .int .i64 f.num, .string f.v] 62)).heap.size := by rw [World.size_alloc]; omega
            generalize W0.alloc (.cells #[.int .i64 f.what, .int .i64 f.num, .string f.v] 62) = W1 at *
            refine wpAnyH_ready (rs := [0]) (by kernel_rfl) (by simp) ?_
            refine AllReadyH.cons rfl (fun K hK => ?_) AllReadyH.nil
            go_simp
            have HB2 : Hid (Below W0.heap.size W0 (W1.alloc (.cells #[] 62))) := HBW.out.alloc HBW.out.size _
            have RD : Hid ((W1.alloc (.cells #[] 62)).ownsRow W0.heap.size 62 3 (.slice (some ⟨W1.heap.size, 0, none⟩) 0 0) 0 []) := own_new0 (heap_newF W1 _) HBW.out.size 3
            have HNE : Hid (∀ q, (Value.slice (some ⟨W1.heap.size, 0, none⟩) 0 0).ownBlock = some q → some (W0.heap.size) ≠ some q) := fun q hq e => by have hq2 : W1.heap.size = q := Option.some.inj hq; injection e with e; omega
            have BX2 := toHidC ((Below.heap_alloc W1 (.cells #[] 62) _ hBF).trans BX.out)
            have hBF2 : W0.heap.size < (W1.alloc (.cells #[] 62)).heap.size := by rw [World.size_alloc]; omega
            refine hK.out _ _ (HSS.out _ HB2.out) (fun _ => ?_)
            clear hK K HBW
            have HBW := HB2
            clear HB2
            clear BX hBF
            have BX := BX2
            have hBF := hBF2
            clear BX2 hBF2
            generalize W1.alloc (.cells #[] 62) = W2 at *
            refine wpAnyH_ready (rs := [4]) (by kernel_rfl) (by simp) ?_
            refine AllReadyH.cons rfl (fun K hK => ?_) AllReadyH.nil
            refine step_append_any _ rfl _ _ 71 rfl W0.heap.size 62 i0 _ 3 32 Tryz.underlying71 hi hz0 hz1 hz2 rfl (by decide) _ 0 [] rfl RD.out _ j _ (fldRows (fs.take j)) rfl (.inr ⟨_, rfl, src_take j (HSR.out _ HBW.out)⟩) (by rw [fldRows_len, List.length_take, Nat.min_eq_left hj]) fld_one (by unfold maxLen; omega) (by omega) HBW.out.size ?_
            intro va W3 hown hgrow hat
            simp only [Nat.zero_add, List.nil_append] at hown
            have HB2 : Hid (Below W0.heap.size W0 W3) := HBW.out.grown hgrow HBW.out.size (fun q e => own_ge RD.out q e)
            have BX2 := toHidC ((hgrow.block _ hBF (fun e => HNE.out _ e.symm rfl)).trans BX.out)
            have hBF2 := Nat.lt_of_lt_of_le hBF hgrow.size
            refine hK.out _ _ (HSS.out _ HB2.out) (fun _ => ?_)
            clear hat hgrow RD
            clear BX HNE hBF
            have BX := BX2
            have hBF := hBF2
            clear BX2 hBF2
            clear hK K HBW
            have HBW := HB2
            clear HB2
            have RD := toHidC hown
            obtain ⟨pa, qa, rfl⟩ := own_slice hown
            clear hown
            refine wpAnyH_ready (rs := [7]) (by kernel_rfl) (by simp) ?_
            refine AllReadyH.cons rfl (fun K hK => ?_) AllReadyH.nil
            refine step_append_any _ rfl _ _ 71 rfl W0.heap.size 62 i0 _ 3 32 Tryz.underlying71 hi hz0 hz1 hz2 rfl (by decide) _ j (fldRows (fs.take j)) rfl RD.out _ 1 _ (fldRow f) rfl (.inr ⟨_, rfl, World.news_of_block BX.out⟩) rfl (fun u hu => by simp only [fldRow, List.mem_cons, List.not_mem_nil, or_false] at hu; rcases hu with rfl | rfl | rfl <;> rfl) (by unfold maxLen; omega) (by omega) HBW.out.size ?_
            intro vb W4 hown hgrow hat
            have HB2 : Hid (Below W0.heap.size W0 W4) := HBW.out.grown hgrow HBW.out.size (fun q e => own_ge RD.out q e)
            refine hK.out _ _ (HSS.out _ HB2.out) (fun _ => ?_)
            clear hat hgrow RD
            clear hK K HBW
            have HBW := HB2
            clear HB2
            have RD := toHidC hown
            obtain ⟨pb, qb, rfl⟩ := own_slice hown
            clear hown
            refine wpAnyH_ready (rs := [11]) (by kernel_rfl) (by simp) ?_
            refine AllReadyH.cons rfl (fun K hK => ?_) AllReadyH.nil
            refine step_append_any _ rfl _ _ 71 rfl W0.heap.size 62 i0 _ 3 32 Tryz.underlying71 hi hz0 hz1 hz2 rfl (by decide) _ (j + 1) (fldRows (fs.take j) ++ fldRow f) rfl RD.out _ (fs.length - j) _ (fldRows (fs.drop j)) rfl (.inr ⟨_, rfl, src_drop hj (HSR.out _ HBW.out)⟩) (by rw [fldRows_len, List.length_drop]) fld_one (by unfold maxLen; omega) (by omega) HBW.out.size ?_
            intro vc W5 hown hgrow hat
            have HB2 : Hid (Below W0.heap.size W0 W5) := HBW.out.grown hgrow HBW.out.size (fun q e => own_ge RD.out q e)
            refine hK.out _ _ (HSS.out _ HB2.out) (fun _ => ?_)
            clear hat hgrow RD
            clear hK K HBW
            have HBW := HB2
            clear HB2
            have RD := toHidC hown
            obtain ⟨pc, qc, rfl⟩ := own_slice hown
            clear hown
            have hHeld := HSS.out _ HBW.out
            refine wpAnyH_take (i := 12) (v := ?_) rfl (by kernel_rfl) (by kernel_rfl) (by kernel_rfl) (fun _ _ _ h => h) (Or.inl ⟨by rfl, ?_⟩) (by assumption) ?_
            rotate_left
            · intro w hSw; (try dsimp only at hSw); go_simp; try with_reducible rfl
            simp only [Act.put, List.setIfInBounds_toArray, List.set_cons_zero, List.set_cons_succ, List.getElem_toArray, List.getElem_cons_succ, List.getElem_cons_zero]
            clear hHeld
            refine wpAnyH_done (by kernel_rfl) ?_ _
            refine NoPanic.normal ?_
            go_wp2
            go_ret
            refine ⟨_, rfl, ?_, grownF_below (below_step (below_step HB0.out HBD.out) HBW.out) _, fun q hq => .inr ?_⟩
            · have h := own_mono RD.out hlo0
              rw [HP.out, fldRows_app, fldRows_cons, List.length_append, List.length_cons, List.length_take, List.length_drop, Nat.min_eq_left hj]
              have e2 : j + (fs.length - j + 1) = j + 1 + (fs.length - j) := by omega
              rw [e2, ← List.append_assoc]
              exact h
            · have := own_ge RD.out q hq
              omega
    · have hw2 : decide ((j : Int) < (fs.length : Int)) = false := by simp; omega
      have HP : Hid (putF fs f = fs.take j ++ f :: fs.drop j) := putF_in fs f j hj HL.out (fun h => absurd h hlt)
      have hne := Later.some wr
      go_wp2
      refine wp_region_later (by kernel_rfl) (by kernel_rfl) ?_
      repeat (go_big_quiet_step (fail))
      refine wpQuiet_nil ?_
      rintro _ ⟨y, rfl⟩
      have HB2 : Hid (Below w1.heap.size w1 y.val) := below_step HBW.out y.below
      have HOW2 : Hid (y.val.ownsRow lo 62 3 (.slice la fs.length lc) fs.length (fldRows fs)) := ownsRow_keep HOW.out y.below
      have HX2 : Hid (y.val.heap[w.heap.size]? = some (.cells #[.int .i64 f.what, .int .i64 f.num, .string f.v] 62 (0, 0))) := (y.below.block _ hxz).trans HX.out
      generalize y.val = wr2 at *
      clear hne HX HOW HBW x0 x1 x2
      obtain ⟨x0, x1, x2⟩ := three_cellsF HX2.out
      have hxz2 : w.heap.size < wr2.heap.size := (Array.getElem?_eq_some_iff.1 HX2.out).1
      have hne := Later.some wr2
      go_wp2
      refine wp_region_later (by kernel_rfl) (by kernel_rfl) ?_
      repeat (go_big_quiet_step (fail))
      refine wpQuiet_nil ?_
      rintro _ ⟨y, rfl⟩
      have HB3 : Hid (Below w1.heap.size w1 y.val) := below_step HB2.out y.below
      have HOW3 : Hid (y.val.ownsRow lo 62 3 (.slice la fs.length lc) fs.length (fldRows fs)) := ownsRow_keep HOW2.out y.below
      have HX3 : Hid (y.val.heap[w.heap.size]? = some (.cells #[.int .i64 f.what, .int .i64 f.num, .string f.v] 62 (0, 0))) := (y.below.block _ hxz2).trans HX2.out
      generalize y.val = wr3 at *
      clear hne HX2 HOW2 HB2 x0 x1 x2
      have hcase := HOW3.out.2
      rcases hcase with ⟨hv, h0⟩ | ⟨g, cap, cur, hv, hgl, -, hnc, hcm, -, -⟩
      · injection hv with e1 e2 e3
        subst e1
        subst e3
        have hj00 : j = 0 := by omega
        subst hj00
        clear hj0 hjl hw2 e2
        obtain ⟨x0, x1, x2⟩ := three_cellsF HX3.out
        go_wp2
        refine wp_region_noPanic ?_
        refine wp_region_held_drew (S := fun w' => w'.cell? ⟨w.heap.size, 0, none⟩ = some (.int .i64 f.what) ∧ w'.cell? ⟨w.heap.size, 1, none⟩ = some (.int .i64 f.num) ∧ w'.cell? ⟨w.heap.size, 2, none⟩ = some (.string f.v)) (by kernel_rfl) ?_ (fun hHeld => ?_)
        · exact ⟨x0, x1, x2⟩
        clear x0 x1 x2
        have HBD : Hid (Below w1.heap.size w1 wr3.drew) := HB3.out.drew
        have HOD : Hid (wr3.drew.ownsRow lo 62 3 (.slice _ _ _) fs.length (fldRows fs)) := ownsRow_keep HOW3.out (Below.refl _ _).drew
        have HXD : Hid (wr3.drew.heap[w.heap.size]? = some (.cells #[.int .i64 f.what, .int .i64 f.num, .string f.v] 62 (0, 0))) := HX3.out
        generalize wr3.drew = W0 at *
        clear HB3 HOW3 HX3
        refine wpAnyH_take (i := 1) (v := ?_) rfl (by kernel_rfl) (by kernel_rfl) (by kernel_rfl) (fun _ _ _ h => h) (Or.inl ⟨by rfl, ?_⟩) (by assumption) ?_
        rotate_left
        · intro w hSw; (try dsimp only at hSw); go_simp; try with_reducible rfl
        simp only [Act.put, List.setIfInBounds_toArray, List.set_cons_zero, List.set_cons_succ, List.getElem_toArray, List.getElem_cons_succ, List.getElem_cons_zero]
        refine wpAnyH_take (i := 2) (v := ?_) rfl (by kernel_rfl) (by kernel_rfl) (by kernel_rfl) (fun _ _ _ h => h) (Or.inl ⟨by rfl, ?_⟩) (by assumption) ?_
        rotate_left
        · intro w hSw; (try dsimp only at hSw); go_simp; try with_reducible rfl
        simp only [Act.put, List.setIfInBounds_toArray, List.set_cons_zero, List.set_cons_succ, List.getElem_toArray, List.getElem_cons_succ, List.getElem_cons_zero]
        refine wpAnyH_take (i := 3) (v := ?_) rfl (by kernel_rfl) (by kernel_rfl) (by kernel_rfl) (fun _ _ _ h => h) (Or.inl ⟨by rfl, ?_⟩) (by assumption) ?_
        rotate_left
        · intro w hSw; (try dsimp only at hSw); go_simp; try with_reducible rfl
        simp only [Act.put, List.setIfInBounds_toArray, List.set_cons_zero, List.set_cons_succ, List.getElem_toArray, List.getElem_cons_succ, List.getElem_cons_zero]
        refine wpAnyH_take (i := 5) (v := ?_) rfl (by kernel_rfl) (by kernel_rfl) (by kernel_rfl) (fun _ _ _ h => h) (Or.inl ⟨by rfl, ?_⟩) (by assumption) ?_
        rotate_left
        · intro w hSw; (try dsimp only at hSw); go_simp; try with_reducible rfl
        simp only [Act.put, List.setIfInBounds_toArray, List.set_cons_zero, List.set_cons_succ, List.getElem_toArray, List.getElem_cons_succ, List.getElem_cons_zero]
        refine wpAnyH_take (i := 8) (v := ?_) rfl (by kernel_rfl) (by kernel_rfl) (by kernel_rfl) (fun _ _ _ h => h) (Or.inl ⟨by rfl, ?_⟩) (by assumption) ?_
        rotate_left
        · intro w hSw; (try dsimp only at hSw); go_simp; try with_reducible rfl
        simp only [Act.put, List.setIfInBounds_toArray, List.set_cons_zero, List.set_cons_succ, List.getElem_toArray, List.getElem_cons_succ, List.getElem_cons_zero]
        refine wpAnyH_take (i := 9) (v := ?_) rfl (by kernel_rfl) (by kernel_rfl) (by kernel_rfl) (fun _ _ _ h => h) (Or.inl ⟨by rfl, ?_⟩) (by assumption) ?_
        rotate_left
        · intro w hSw; (try dsimp only at hSw); go_simp; try with_reducible rfl
        simp only [Act.put, List.setIfInBounds_toArray, List.set_cons_zero, List.set_cons_succ, List.getElem_toArray, List.getElem_cons_succ, List.getElem_cons_zero]
        refine wpAnyH_take (i := 10) (v := ?_) rfl (by kernel_rfl) (by kernel_rfl) (by kernel_rfl) (fun _ _ _ h => h) (Or.inl ⟨by rfl, ?_⟩) (by assumption) ?_
        rotate_left
        · intro w hSw; (try dsimp only at hSw); go_simp; try with_reducible rfl
        simp only [Act.put, List.setIfInBounds_toArray, List.set_cons_zero, List.set_cons_succ, List.getElem_toArray, List.getElem_cons_succ, List.getElem_cons_zero]
        clear hHeld
        have hw0 : w.heap.size < W0.heap.size := (Array.getElem?_eq_some_iff.1 HXD.out).1
        have hlo0 : lo ≤ W0.heap.size := by omega
        have HBW : Hid (Below W0.heap.size W0 W0) := Below.refl _ _
        have HSS : Hid (∀ wx : World, Below W0.heap.size W0 wx → wx.cell? ⟨w.heap.size, 0, none⟩ = some (.int .i64 f.what) ∧ wx.cell? ⟨w.heap.size, 1, none⟩ = some (.int .i64 f.num) ∧ wx.cell? ⟨w.heap.size, 2, none⟩ = some (.string f.v)) := fun wx hx => three_cellsF ((hx.block _ hw0).trans HXD.out)
        refine wpAnyH_ready (rs := [0, 6]) (by kernel_rfl) (by simp) ?_
        refine AllReadyH.cons rfl (fun K hK => ?_) (AllReadyH.cons rfl (fun K hK => ?_) AllReadyH.nil)
        · go_simp
          have HB2 : Hid (Below W0.heap.size W0 (W0.alloc (.cells #[] 62))) := HBW.out.alloc HBW.out.size _
          have RD : Hid ((W0.alloc (.cells #[] 62)).ownsRow W0.heap.size 62 3 (.slice (some ⟨W0.heap.size, 0, none⟩) 0 0) 0 []) := own_new0 (heap_newF W0 _) HBW.out.size 3
          refine hK.out _ _ (HSS.out _ HB2.out) (fun _ => ?_)
          clear hK K HBW
          have HBW := HB2
          clear HB2
          generalize W0.alloc (.cells #[] 62) = W1 at *
          refine wpAnyH_ready (rs := [4, 6]) (by kernel_rfl) (by simp) ?_
          refine AllReadyH.cons rfl (fun K hK => ?_) (AllReadyH.cons rfl (fun K hK => ?_) AllReadyH.nil)
          · refine step_append_any _ rfl _ _ 71 rfl W0.heap.size 62 i0 _ 3 32 Tryz.underlying71 hi hz0 hz1 hz2 rfl (by decide) _ 0 [] rfl RD.out _ 0 _ [] rfl (.inl rfl) rfl (fun u hu => by cases hu) (by unfold maxLen; omega) (by omega) HBW.out.size ?_
            intro va W2 hown hgrow hat
            simp only [Nat.zero_add, List.nil_append] at hown
            have HB2 : Hid (Below W0.heap.size W0 W2) := HBW.out.grown hgrow HBW.out.size (fun q e => own_ge RD.out q e)
            refine hK.out _ _ (HSS.out _ HB2.out) (fun _ => ?_)
            clear hat hgrow RD
            clear hK K HBW
            have HBW := HB2
            clear HB2
            have RD := toHidC hown
            obtain ⟨pa, qa, rfl⟩ := own_slice hown
            clear hown
            refine wpAnyH_ready (rs := [6]) (by kernel_rfl) (by simp) ?_
            refine AllReadyH.cons rfl (fun K hK => ?_) AllReadyH.nil
            go_simp
            have HB2 : Hid (Below W0.heap.size W0 (W2.alloc (.cells #[.int .i64 f.what, .int .i64 f.num, .string f.v] 62))) := HBW.out.alloc HBW.out.size _
            have BX : Hid ((W2.alloc (.cells #[.int .i64 f.what, .int .i64 f.num, .string f.v] 62)).heap[W2.heap.size]? = some (.cells #[.int .i64 f.what, .int .i64 f.num, .string f.v] 62 (0, 0))) := heap_newF W2 _
            have RD2 := toHidC (ownsRow_keep RD.out ((Below.refl _ W2).alloc (Nat.le_refl _) (.cells #[.int .i64 f.what, .int .i64 f.num, .string f.v] 62)))
            have HNE : Hid (∀ q, Value.ownBlock _ = some q → some (W2.heap.size) ≠ some q) := fun q hq e => by have := own_lt RD.out q hq; injection e with e; omega
            refine hK.out _ _ (HSS.out _ HB2.out) (fun _ => ?_)
            clear hK K HBW
            have HBW := HB2
            clear HB2
            have hBF : W2.heap.size < (W2.alloc (.cells #[.int .i64 f.what, .int .i64 f.num, .string f.v] 62)).heap.size := by rw [World.size_alloc]; omega
            clear RD
            have RD := RD2
            clear RD2
            generalize W2.alloc (.cells #[.int .i64 f.what, .int .i64 f.num, .string f.v] 62) = W3 at *
            refine wpAnyH_ready (rs := [7]) (by kernel_rfl) (by simp) ?_
            refine AllReadyH.cons rfl (fun K hK => ?_) AllReadyH.nil
            refine step_append_any _ rfl _ _ 71 rfl W0.heap.size 62 i0 _ 3 32 Tryz.underlying71 hi hz0 hz1 hz2 rfl (by decide) _ 0 [] rfl RD.out _ 1 _ (fldRow f) rfl (.inr ⟨_, rfl, World.news_of_block BX.out⟩) rfl (fun u hu => by simp only [fldRow, List.mem_cons, List.not_mem_nil, or_false] at hu; rcases hu with rfl | rfl | rfl <;> rfl) (by unfold maxLen; omega) (by omega) HBW.out.size ?_
            intro vb W4 hown hgrow hat
            simp only [Nat.zero_add, List.nil_append] at hown
            have HB2 : Hid (Below W0.heap.size W0 W4) := HBW.out.grown hgrow HBW.out.size (fun q e => own_ge RD.out q e)
            refine hK.out _ _ (HSS.out _ HB2.out) (fun _ => ?_)
            clear hat hgrow RD
            clear hK K HBW
            have HBW := HB2
            clear HB2
            have RD := toHidC hown
            obtain ⟨pb, qb, rfl⟩ := own_slice hown
            clear hown
            refine wpAnyH_ready (rs := [11]) (by kernel_rfl) (by simp) ?_
            refine AllReadyH.cons rfl (fun K hK => ?_) AllReadyH.nil
            refine step_append_any _ rfl _ _ 71 rfl W0.heap.size 62 i0 _ 3 32 Tryz.underlying71 hi hz0 hz1 hz2 rfl (by decide) _ 1 (fldRow f) rfl RD.out _ 0 _ [] rfl (.inl rfl) rfl (fun u hu => by cases hu) (by unfold maxLen; omega) (by omega) HBW.out.size ?_
            intro vc W5 hown hgrow hat
            simp only [Nat.add_zero, List.append_nil] at hown
            have HB2 : Hid (Below W0.heap.size W0 W5) := HBW.out.grown hgrow HBW.out.size (fun q e => own_ge RD.out q e)
            refine hK.out _ _ (HSS.out _ HB2.out) (fun _ => ?_)
            clear hat hgrow RD
            clear hK K HBW
            have HBW := HB2
            clear HB2
            have RD := toHidC hown
            obtain ⟨pc, qc, rfl⟩ := own_slice hown
            clear hown
            have hHeld := HSS.out _ HBW.out
            refine wpAnyH_take (i := 12) (v := ?_) rfl (by kernel_rfl) (by kernel_rfl) (by kernel_rfl) (fun _ _ _ h => h) (Or.inl ⟨by rfl, ?_⟩) (by assumption) ?_
            rotate_left
            · intro w hSw; (try dsimp only at hSw); go_simp; try with_reducible rfl
            simp only [Act.put, List.setIfInBounds_toArray, List.set_cons_zero, List.set_cons_succ, List.getElem_toArray, List.getElem_cons_succ, List.getElem_cons_zero]
            clear hHeld
            refine wpAnyH_done (by kernel_rfl) ?_ _
            refine NoPanic.normal ?_
            go_wp2
            go_ret
            refine ⟨_, rfl, ?_, grownF_below (below_step (below_step HB0.out HBD.out) HBW.out) _, fun q hq => .inr ?_⟩
            · have h := own_mono RD.out hlo0
              have e0 : fs = [] := List.eq_nil_of_length_eq_zero h0
              have e1 : putF fs f = [f] := by rw [e0]; rfl
              rw [e1]
              exact h
            · have := own_ge RD.out q hq
              omega
          · go_simp
            have HB2 : Hid (Below W0.heap.size W0 (W1.alloc (.cells #[.int .i64 f.what, .int .i64 f.num, .string f.v] 62))) := HBW.out.alloc HBW.out.size _
            have BX : Hid ((W1.alloc (.cells #[.int .i64 f.what, .int .i64 f.num, .string f.v] 62)).heap[W1.heap.size]? = some (.cells #[.int .i64 f.what, .int .i64 f.num, .string f.v] 62 (0, 0))) := heap_newF W1 _
            have RD2 := toHidC (ownsRow_keep RD.out ((Below.refl _ W1).alloc (Nat.le_refl _) (.cells #[.int .i64 f.what, .int .i64 f.num, .string f.v] 62)))
            have HNE : Hid (∀ q, Value.ownBlock _ = some q → some (W1.heap.size) ≠ some q) := fun q hq e => by have := own_lt RD.out q hq; injection e with e; omega
            refine hK.out _ _ (HSS.out _ HB2.out) (fun _ => ?_)
            clear hK K HBW
            have HBW := HB2
            clear HB2
            have hBF : W1.heap.size < (W1.alloc (.cells #[.int .i64 f.what, .int .i64 f.num, .string f.v] 62)).heap.size := by rw [World.size_alloc]; omega
            clear RD
            have RD := RD2
            clear RD2
            generalize W1.alloc (.cells #[.int .i64 f.what, .int .i64 f.num, .string f.v] 62) = W2 at *
            refine wpAnyH_ready (rs := [4]) (by kernel_rfl) (by simp) ?_
            refine AllReadyH.cons rfl (fun K hK => ?_) AllReadyH.nil
            refine step_append_any _ rfl _ _ 71 rfl W0.heap.size 62 i0 _ 3 32 Tryz.underlying71 hi hz0 hz1 hz2 rfl (by decide) _ 0 [] rfl RD.out _ 0 _ [] rfl (.inl rfl) rfl (fun u hu => by cases hu) (by unfold maxLen; omega) (by omega) HBW.out.size ?_
            intro va W3 hown hgrow hat
            simp only [Nat.zero_add, List.nil_append] at hown
            have HB2 : Hid (Below W0.heap.size W0 W3) := HBW.out.grown hgrow HBW.out.size (fun q e => own_ge RD.out q e)
            have BX2 := toHidC ((hgrow.block _ hBF (fun e => HNE.out _ e.symm rfl)).trans BX.out)
            have hBF2 := Nat.lt_of_lt_of_le hBF hgrow.size
            refine hK.out _ _ (HSS.out _ HB2.out) (fun _ => ?_)
            clear hat hgrow RD
            clear BX HNE hBF
            have BX := BX2
            have hBF := hBF2
            clear BX2 hBF2
            clear hK K HBW
            have HBW := HB2
            clear HB2
            have RD := toHidC hown
            obtain ⟨pa, qa, rfl⟩ := own_slice hown
            clear hown
            refine wpAnyH_ready (rs := [7]) (by kernel_rfl) (by simp) ?_
            refine AllReadyH.cons rfl (fun K hK => ?_) AllReadyH.nil
            refine step_append_any _ rfl _ _ 71 rfl W0.heap.size 62 i0 _ 3 32 Tryz.underlying71 hi hz0 hz1 hz2 rfl (by decide) _ 0 [] rfl RD.out _ 1 _ (fldRow f) rfl (.inr ⟨_, rfl, World.news_of_block BX.out⟩) rfl (fun u hu => by simp only [fldRow, List.mem_cons, List.not_mem_nil, or_false] at hu; rcases hu with rfl | rfl | rfl <;> rfl) (by unfold maxLen; omega) (by omega) HBW.out.size ?_
            intro vb W4 hown hgrow hat
            simp only [Nat.zero_add, List.nil_append] at hown
            have HB2 : Hid (Below W0.heap.size W0 W4) := HBW.out.grown hgrow HBW.out.size (fun q e => own_ge RD.out q e)
            refine hK.out _ _ (HSS.out _ HB2.out) (fun _ => ?_)
            clear hat hgrow RD
            clear hK K HBW
            have HBW := HB2
            clear HB2
            have RD := toHidC hown
            obtain ⟨pb, qb, rfl⟩ := own_slice hown
            clear hown
            refine wpAnyH_ready (rs := [11]) (by kernel_rfl) (by simp) ?_
            refine AllReadyH.cons rfl (fun K hK => ?_) AllReadyH.nil
            refine step_append_any _ rfl _ _ 71 rfl W0.heap.size 62 i0 _ 3 32 Tryz.underlying71 hi hz0 hz1 hz2 rfl (by decide) _ 1 (fldRow f) rfl RD.out _ 0 _ [] rfl (.inl rfl) rfl (fun u hu => by cases hu) (by unfold maxLen; omega) (by omega) HBW.out.size ?_
            intro vc W5 hown hgrow hat
            simp only [Nat.add_zero, List.append_nil] at hown
            have HB2 : Hid (Below W0.heap.size W0 W5) := HBW.out.grown hgrow HBW.out.size (fun q e => own_ge RD.out q e)
            refine hK.out _ _ (HSS.out _ HB2.out) (fun _ => ?_)
            clear hat hgrow RD
            clear hK K HBW
            have HBW := HB2
            clear HB2
            have RD := toHidC hown
            obtain ⟨pc, qc, rfl⟩ := own_slice hown
            clear hown
            have hHeld := HSS.out _ HBW.out
            refine wpAnyH_take (i := 12) (v := ?_) rfl (by kernel_rfl) (by kernel_rfl) (by kernel_rfl) (fun _ _ _ h => h) (Or.inl ⟨by rfl, ?_⟩) (by assumption) ?_
            rotate_left
            · intro w hSw; (try dsimp only at hSw); go_simp; try with_reducible rfl
            simp only [Act.put, List.setIfInBounds_toArray, List.set_cons_zero, List.set_cons_succ, List.getElem_toArray, List.getElem_cons_succ, List.getElem_cons_zero]
            clear hHeld
            refine wpAnyH_done (by kernel_rfl) ?_ _
            refine NoPanic.normal ?_
            go_wp2
            go_ret
            refine ⟨_, rfl, ?_, grownF_below (below_step (below_step HB0.out HBD.out) HBW.out) _, fun q hq => .inr ?_⟩
            · have h := own_mono RD.out hlo0
              have e0 : fs = [] := List.eq_nil_of_length_eq_zero h0
              have e1 : putF fs f = [f] := by rw [e0]; rfl
              rw [e1]
              exact h
            · have := own_ge RD.out q hq
              omega
        · go_simp
          have HB2 : Hid (Below W0.heap.size W0 (W0.alloc (.cells #[.int .i64 f.what, .int .i64 f.num, .string f.v] 62))) := HBW.out.alloc HBW.out.size _
          have BX : Hid ((W0.alloc (.cells #[.int .i64 f.what, .int .i64 f.num, .string f.v] 62)).heap[W0.heap.size]? = some (.cells #[.int .i64 f.what, .int .i64 f.num, .string f.v] 62 (0, 0))) := heap_newF W0 _
          refine hK.out _ _ (HSS.out _ HB2.out) (fun _ => ?_)
          clear hK K HBW
          have HBW := HB2
          clear HB2
          have hBF : W0.heap.size < (W0.alloc (.cells #[.int .i64 f.what, .int .i64 f.num, .string f.v] 62)).heap.size := by rw [World.size_alloc]; omega
          generalize W0.alloc (.cells #[.int .i64 f.what, .int .i64 f.num, .string f.v] 62) = W1 at *
          refine wpAnyH_ready (rs := [0]) (by kernel_rfl) (by simp) ?_
          refine AllReadyH.cons rfl (fun K hK => ?_) AllReadyH.nil
          go_simp
          have HB2 : Hid (Below W0.heap.size W0 (W1.alloc (.cells #[] 62))) := HBW.out.alloc HBW.out.size _
          have RD : Hid ((W1.alloc (.cells #[] 62)).ownsRow W0.heap.size 62 3 (.slice (some ⟨W1.heap.size, 0, none⟩) 0 0) 0 []) := own_new0 (heap_newF W1 _) HBW.out.size 3
          have HNE : Hid (∀ q, (Value.slice (some ⟨W1.heap.size, 0, none⟩) 0 0).ownBlock = some q → some (W0.heap.size) ≠ some q) := fun q hq e => by have hq2 : W1.heap.size = q := Option.some.inj hq; injection e with e; omega
          have BX2 := toHidC ((Below.heap_alloc W1 (.cells #[] 62) _ hBF).trans BX.out)
          have hBF2 : W0.heap.size < (W1.alloc (.cells #[] 62)).heap.size := by rw [World.size_alloc]; omega
          refine hK.out _ _ (HSS.out _ HB2.out) (fun _ => ?_)
          clear hK K HBW
          have HBW := HB2
          clear HB2
          clear BX hBF
          have BX := BX2
          have hBF := hBF2
          clear BX2 hBF2
          generalize W1.alloc (.cells #[] 62) = W2 at *
          refine wpAnyH_ready (rs := [4]) (by kernel_rfl) (by simp) ?_
          refine AllReadyH.cons rfl (fun K hK => ?_) AllReadyH.nil
          refine step_append_any _ rfl _ _ 71 rfl W0.heap.size 62 i0 _ 3 32 Tryz.underlying71 hi hz0 hz1 hz2 rfl (by decide) _ 0 [] rfl RD.out _ 0 _ [] rfl (.inl rfl) rfl (fun u hu => by cases hu) (by unfold maxLen; omega) (by omega) HBW.out.size ?_
          intro va W3 hown hgrow hat
          simp only [Nat.zero_add, List.nil_append] at hown
          have HB2 : Hid (Below W0.heap.size W0 W3) := HBW.out.grown hgrow HBW.out.size (fun q e => own_ge RD.out q e)
          have BX2 := toHidC ((hgrow.block _ hBF (fun e => HNE.out _ e.symm rfl)).trans BX.out)
          have hBF2 := Nat.lt_of_lt_of_le hBF hgrow.size
          refine hK.out _ _ (HSS.out _ HB2.out) (fun _ => ?_)
          clear hat hgrow RD
          clear BX HNE hBF
          have BX := BX2
          have hBF := hBF2
          clear BX2 hBF2
          clear hK K HBW
          have HBW := HB2
          clear HB2
          have RD := toHidC hown
          obtain ⟨pa, qa, rfl⟩ := own_slice hown
          clear hown
          refine wpAnyH_ready (rs := [7]) (by kernel_rfl) (by simp) ?_
          refine AllReadyH.cons rfl (fun K hK => ?_) AllReadyH.nil
          refine step_append_any _ rfl _ _ 71 rfl W0.heap.size 62 i0 _ 3 32 Tryz.underlying71 hi hz0 hz1 hz2 rfl (by decide) _ 0 [] rfl RD.out _ 1 _ (fldRow f) rfl (.inr ⟨_, rfl, World.news_of_block BX.out⟩) rfl (fun u hu => by simp only [fldRow, List.mem_cons, List.not_mem_nil, or_false] at hu; rcases hu with rfl | rfl | rfl <;> rfl) (by unfold maxLen; omega) (by omega) HBW.out.size ?_
          intro vb W4 hown hgrow hat
          simp only [Nat.zero_add, List.nil_append] at hown
          have HB2 : Hid (Below W0.heap.size W0 W4) := HBW.out.grown hgrow HBW.out.size (fun q e => own_ge RD.out q e)
          refine hK.out _ _ (HSS.out _ HB2.out) (fun _ => ?_)
          clear hat hgrow RD
          clear hK K HBW
          have HBW := HB2
          clear HB2
          have RD := toHidC hown
          obtain ⟨pb, qb, rfl⟩ := own_slice hown
          clear hown
          refine wpAnyH_ready (rs := [11]) (by kernel_rfl) (by simp) ?_
          refine AllReadyH.cons rfl (fun K hK => ?_) AllReadyH.nil
          refine step_append_any _ rfl _ _ 71 rfl W0.heap.size 62 i0 _ 3 32 Tryz.underlying71 hi hz0 hz1 hz2 rfl (by decide) _ 1 (fldRow f) rfl RD.out _ 0 _ [] rfl (.inl rfl) rfl (fun u hu => by cases hu) (by unfold maxLen; omega) (by omega) HBW.out.size ?_
          intro vc W5 hown hgrow hat
          simp only [Nat.add_zero, List.append_nil] at hown
          have HB2 : Hid (Below W0.heap.size W0 W5) := HBW.out.grown hgrow HBW.out.size (fun q e => own_ge RD.out q e)
          refine hK.out _ _ (HSS.out _ HB2.out) (fun _ => ?_)
          clear hat hgrow RD
          clear hK K HBW
          have HBW := HB2
          clear HB2
          have RD := toHidC hown
          obtain ⟨pc, qc, rfl⟩ := own_slice hown
          clear hown
          have hHeld := HSS.out _ HBW.out
          refine wpAnyH_take (i := 12) (v := ?_) rfl (by kernel_rfl) (by kernel_rfl) (by kernel_rfl) (fun _ _ _ h => h) (Or.inl ⟨by rfl, ?_⟩) (by assumption) ?_
          rotate_left
          · intro w hSw; (try dsimp only at hSw); go_simp; try with_reducible rfl
          simp only [Act.put, List.setIfInBounds_toArray, List.set_cons_zero, List.set_cons_succ, List.getElem_toArray, List.getElem_cons_succ, List.getElem_cons_zero]
          clear hHeld
          refine wpAnyH_done (by kernel_rfl) ?_ _
          refine NoPanic.normal ?_
          go_wp2
          go_ret
          refine ⟨_, rfl, ?_, grownF_below (below_step (below_step HB0.out HBD.out) HBW.out) _, fun q hq => .inr ?_⟩
          · have h := own_mono RD.out hlo0
            have e0 : fs = [] := List.eq_nil_of_length_eq_zero h0
            have e1 : putF fs f = [f] := by rw [e0]; rfl
            rw [e1]
            exact h
          · have := own_ge RD.out q hq
            omega
      · cases hv
        unfold maxLen at hcm
        have hje : j = fs.length := by omega
        subst hje
        have hcc : (fs.length : Int) ≤ (lc : Int) := by omega
        rw [List.take_length, List.drop_length] at HP
        by_cases hjn : lc = fs.length
        · subst hjn
          clear hj0 hjl hw2
          obtain ⟨x0, x1, x2⟩ := three_cellsF HX3.out
          go_wp2
          refine wp_region_noPanic ?_
          refine wp_region_held_drew (S := fun w' => w'.cell? ⟨w.heap.size, 0, none⟩ = some (.int .i64 f.what) ∧ w'.cell? ⟨w.heap.size, 1, none⟩ = some (.int .i64 f.num) ∧ w'.cell? ⟨w.heap.size, 2, none⟩ = some (.string f.v)) (by kernel_rfl) ?_ (fun hHeld => ?_)
          · exact ⟨x0, x1, x2⟩
          clear x0 x1 x2
          have HBD : Hid (Below w1.heap.size w1 wr3.drew) := HB3.out.drew
          have HOD : Hid (wr3.drew.ownsRow lo 62 3 (.slice _ _ _) fs.length (fldRows fs)) := ownsRow_keep HOW3.out (Below.refl _ _).drew
          have HXD : Hid (wr3.drew.heap[w.heap.size]? = some (.cells #[.int .i64 f.what, .int .i64 f.num, .string f.v] 62 (0, 0))) := HX3.out
          generalize wr3.drew = W0 at *
          clear HB3 HOW3 HX3
          refine wpAnyH_take (i := 1) (v := ?_) rfl (by kernel_rfl) (by kernel_rfl) (by kernel_rfl) (fun _ _ _ h => h) (Or.inl ⟨by rfl, ?_⟩) (by assumption) ?_
          rotate_left
          · intro w hSw; (try dsimp only at hSw); go_simp; try with_reducible rfl
          simp only [Act.put, List.setIfInBounds_toArray, List.set_cons_zero, List.set_cons_succ, List.getElem_toArray, List.getElem_cons_succ, List.getElem_cons_zero]
          refine wpAnyH_take (i := 2) (v := ?_) rfl (by kernel_rfl) (by kernel_rfl) (by kernel_rfl) (fun _ _ _ h => h) (Or.inl ⟨by rfl, ?_⟩) (by assumption) ?_
          rotate_left
          · intro w hSw; (try dsimp only at hSw); go_simp; try with_reducible rfl
          simp only [Act.put, List.setIfInBounds_toArray, List.set_cons_zero, List.set_cons_succ, List.getElem_toArray, List.getElem_cons_succ, List.getElem_cons_zero]
          refine wpAnyH_take (i := 3) (v := ?_) rfl (by kernel_rfl) (by kernel_rfl) (by kernel_rfl) (fun _ _ _ h => h) (Or.inl ⟨by rfl, ?_⟩) (by assumption) ?_
          rotate_left
          · intro w hSw; (try dsimp only at hSw); go_simp; try with_reducible rfl
          simp only [Act.put, List.setIfInBounds_toArray, List.set_cons_zero, List.set_cons_succ, List.getElem_toArray, List.getElem_cons_succ, List.getElem_cons_zero]
          refine wpAnyH_take (i := 5) (v := ?_) rfl (by kernel_rfl) (by kernel_rfl) (by kernel_rfl) (fun _ _ _ h => h) (Or.inl ⟨by rfl, ?_⟩) (by assumption) ?_
          rotate_left
          · intro w hSw; (try dsimp only at hSw); go_simp; try with_reducible rfl
          simp only [Act.put, List.setIfInBounds_toArray, List.set_cons_zero, List.set_cons_succ, List.getElem_toArray, List.getElem_cons_succ, List.getElem_cons_zero]
          refine wpAnyH_take (i := 8) (v := ?_) rfl (by kernel_rfl) (by kernel_rfl) (by kernel_rfl) (fun _ _ _ h => h) (Or.inl ⟨by rfl, ?_⟩) (by assumption) ?_
          rotate_left
          · intro w hSw; (try dsimp only at hSw); go_simp; try with_reducible rfl
          simp only [Act.put, List.setIfInBounds_toArray, List.set_cons_zero, List.set_cons_succ, List.getElem_toArray, List.getElem_cons_succ, List.getElem_cons_zero]
          refine wpAnyH_take (i := 9) (v := ?_) rfl (by kernel_rfl) (by kernel_rfl) (by kernel_rfl) (fun _ _ _ h => h) (Or.inl ⟨by rfl, ?_⟩) (by assumption) ?_
          rotate_left
          · intro w hSw; (try dsimp only at hSw); go_simp; try with_reducible rfl
          simp only [Act.put, List.setIfInBounds_toArray, List.set_cons_zero, List.set_cons_succ, List.getElem_toArray, List.getElem_cons_succ, List.getElem_cons_zero]
          refine wpAnyH_take (i := 10) (v := ?_) rfl (by kernel_rfl) (by kernel_rfl) (by kernel_rfl) (fun _ _ _ h => h) (Or.inl ⟨by rfl, ?_⟩) (by assumption) ?_
          rotate_left
          · intro w hSw; (try dsimp only at hSw); go_simp; try with_reducible rfl
          simp only [Act.put, List.setIfInBounds_toArray, List.set_cons_zero, List.set_cons_succ, List.getElem_toArray, List.getElem_cons_succ, List.getElem_cons_zero]
          clear hHeld
          have hw0 : w.heap.size < W0.heap.size := (Array.getElem?_eq_some_iff.1 HXD.out).1
          have hlo0 : lo ≤ W0.heap.size := by omega
          have HBW : Hid (Below W0.heap.size W0 W0) := Below.refl _ _
          have HSS : Hid (∀ wx : World, Below W0.heap.size W0 wx → wx.cell? ⟨w.heap.size, 0, none⟩ = some (.int .i64 f.what) ∧ wx.cell? ⟨w.heap.size, 1, none⟩ = some (.int .i64 f.num) ∧ wx.cell? ⟨w.heap.size, 2, none⟩ = some (.string f.v)) := fun wx hx => three_cellsF ((hx.block _ hw0).trans HXD.out)
          have HSR : Hid (∀ wx : World, Below W0.heap.size W0 wx → ∀ q u, (fldRows fs)[q]? = some u → wx.cell? ⟨g, q, none⟩ = some u) := fun wx hx => own_src (ownsRow_keep HOD.out hx)
          refine wpAnyH_ready (rs := [0, 6]) (by kernel_rfl) (by simp) ?_
          refine AllReadyH.cons rfl (fun K hK => ?_) (AllReadyH.cons rfl (fun K hK => ?_) AllReadyH.nil)
          · go_simp
            have HB2 : Hid (Below W0.heap.size W0 (W0.alloc (.cells #[] 62))) := HBW.out.alloc HBW.out.size _
            have RD : Hid ((W0.alloc (.cells #[] 62)).ownsRow W0.heap.size 62 3 (.slice (some ⟨W0.heap.size, 0, none⟩) 0 0) 0 []) := own_new0 (heap_newF W0 _) HBW.out.size 3
            refine hK.out _ _ (HSS.out _ HB2.out) (fun _ => ?_)
            clear hK K HBW
            have HBW := HB2
            clear HB2
            generalize W0.alloc (.cells #[] 62) = W1 at *
            refine wpAnyH_ready (rs := [4, 6]) (by kernel_rfl) (by simp) ?_
            refine AllReadyH.cons rfl (fun K hK => ?_) (AllReadyH.cons rfl (fun K hK => ?_) AllReadyH.nil)
            · refine step_append_any _ rfl _ _ 71 rfl W0.heap.size 62 i0 _ 3 32 Tryz.underlying71 hi hz0 hz1 hz2 rfl (by decide) _ 0 [] rfl RD.out _ fs.length _ (fldRows fs) rfl (.inr ⟨_, rfl, fun q u hu => by rw [addr_add, Nat.zero_add]; exact HSR.out _ HBW.out q u hu⟩) (fldRows_len _) fld_one (by unfold maxLen; omega) (by omega) HBW.out.size ?_
              intro va W2 hown hgrow hat
              simp only [Nat.zero_add, List.nil_append] at hown
              have HB2 : Hid (Below W0.heap.size W0 W2) := HBW.out.grown hgrow HBW.out.size (fun q e => own_ge RD.out q e)
              refine hK.out _ _ (HSS.out _ HB2.out) (fun _ => ?_)
              clear hat hgrow RD
              clear hK K HBW
              have HBW := HB2
              clear HB2
              have RD := toHidC hown
              obtain ⟨pa, qa, rfl⟩ := own_slice hown
              clear hown
              refine wpAnyH_ready (rs := [6]) (by kernel_rfl) (by simp) ?_
              refine AllReadyH.cons rfl (fun K hK => ?_) AllReadyH.nil
              go_simp
              have HB2 : Hid (Below W0.heap.size W0 (W2.alloc (.cells #[.int .i64 f.what, .int .i64 f.num, .string f.v] 62))) := HBW.out.alloc HBW.out.size _
              have BX : Hid ((W2.alloc (.cells #[.int .i64 f.what, .int .i64 f.num, .string f.v] 62)).heap[W2.heap.size]? = some (.cells #[.int .i64 f.what, .int .i64 f.num, .string f.v] 62 (0, 0))) := heap_newF W2 _
              have RD2 := toHidC (ownsRow_keep RD.out ((Below.refl _ W2).alloc (Nat.le_refl _) (.cells #[.int .i64 f.what, .int .i64 f.num, .string f.v] 62)))
              have HNE : Hid (∀ q, Value.ownBlock _ = some q → some (W2.heap.size) ≠ some q) := fun q hq e => by have := own_lt RD.out q hq; injection e with e; omega
              refine hK.out _ _ (HSS.out _ HB2.out) (fun _ => ?_)
              clear hK K HBW
              have HBW := HB2
              clear HB2
              have hBF : W2.heap.size < (W2.alloc (.cells #[.int .i64 f.what, .int .i64 f.num, .string f.v] 62)).heap.size := by rw [World.size_alloc]; omega
              clear RD
              have RD := RD2
              clear RD2
              generalize W2.alloc (.cells #[.int .i64 f.what, .int .i64 f.num, .string f.v] 62) = W3 at *
              refine wpAnyH_ready (rs := [7]) (by kernel_rfl) (by simp) ?_
              refine AllReadyH.cons rfl (fun K hK => ?_) AllReadyH.nil
              refine step_append_any _ rfl _ _ 71 rfl W0.heap.size 62 i0 _ 3 32 Tryz.underlying71 hi hz0 hz1 hz2 rfl (by decide) _ fs.length (fldRows fs) rfl RD.out _ 1 _ (fldRow f) rfl (.inr ⟨_, rfl, World.news_of_block BX.out⟩) rfl (fun u hu => by simp only [fldRow, List.mem_cons, List.not_mem_nil, or_false] at hu; rcases hu with rfl | rfl | rfl <;> rfl) (by unfold maxLen; omega) (by omega) HBW.out.size ?_
              intro vb W4 hown hgrow hat
              have HB2 : Hid (Below W0.heap.size W0 W4) := HBW.out.grown hgrow HBW.out.size (fun q e => own_ge RD.out q e)
              refine hK.out _ _ (HSS.out _ HB2.out) (fun _ => ?_)
              clear hat hgrow RD
              clear hK K HBW
              have HBW := HB2
              clear HB2
              have RD := toHidC hown
              obtain ⟨pb, qb, rfl⟩ := own_slice hown
              clear hown
              refine wpAnyH_ready (rs := [11]) (by kernel_rfl) (by simp) ?_
              refine AllReadyH.cons rfl (fun K hK => ?_) AllReadyH.nil
              refine step_append_any _ rfl _ _ 71 rfl W0.heap.size 62 i0 _ 3 32 Tryz.underlying71 hi hz0 hz1 hz2 rfl (by decide) _ (fs.length + 1) (fldRows fs ++ fldRow f) rfl RD.out _ 0 _ [] rfl (.inl rfl) rfl (fun u hu => by cases hu) (by unfold maxLen; omega) (by omega) HBW.out.size ?_
              intro vc W5 hown hgrow hat
              simp only [Nat.add_zero, List.append_nil] at hown
              have HB2 : Hid (Below W0.heap.size W0 W5) := HBW.out.grown hgrow HBW.out.size (fun q e => own_ge RD.out q e)
              refine hK.out _ _ (HSS.out _ HB2.out) (fun _ => ?_)
              clear hat hgrow RD
              clear hK K HBW
              have HBW := HB2
              clear HB2
              have RD := toHidC hown
              obtain ⟨pc, qc, rfl⟩ := own_slice hown
              clear hown
              have hHeld := HSS.out _ HBW.out
              refine wpAnyH_take (i := 12) (v := ?_) rfl (by kernel_rfl) (by kernel_rfl) (by kernel_rfl) (fun _ _ _ h => h) (Or.inl ⟨by rfl, ?_⟩) (by assumption) ?_
              rotate_left
              · intro w hSw; (try dsimp only at hSw); go_simp; try with_reducible rfl
              simp only [Act.put, List.setIfInBounds_toArray, List.set_cons_zero, List.set_cons_succ, List.getElem_toArray, List.getElem_cons_succ, List.getElem_cons_zero]
              clear hHeld
              refine wpAnyH_done (by kernel_rfl) ?_ _
              refine NoPanic.normal ?_
              go_wp2
              go_ret
              refine ⟨_, rfl, ?_, grownF_below (below_step (below_step HB0.out HBD.out) HBW.out) _, fun q hq => .inr ?_⟩
              · have h := own_mono RD.out hlo0
                rw [HP.out, fldRows_app, List.length_append]
                exact h
              · have := own_ge RD.out q hq
                omega
            · go_simp
              have HB2 : Hid (Below W0.heap.size W0 (W1.alloc (.cells #[.int .i64 f.what, .int .i64 f.num, .string f.v] 62))) := HBW.out.alloc HBW.out.size _
              have BX : Hid ((W1.alloc (.cells #[.int .i64 f.what, .int .i64 f.num, .string f.v] 62)).heap[W1.heap.size]? = some (.cells #[.int .i64 f.what, .int .i64 f.num, .string f.v] 62 (0, 0))) := heap_newF W1 _
              have RD2 := toHidC (ownsRow_keep RD.out ((Below.refl _ W1).alloc (Nat.le_refl _) (.cells #[.int .i64 f.what, .int .i64 f.num, .string f.v] 62)))
              have HNE : Hid (∀ q, Value.ownBlock _ = some q → some (W1.heap.size) ≠ some q) := fun q hq e => by have := own_lt RD.out q hq; injection e with e; omega
              refine hK.out _ _ (HSS.out _ HB2.out) (fun _ => ?_)
              clear hK K HBW
              have HBW := HB2
              clear HB2
              have hBF : W1.heap.size < (W1.alloc (.cells #[.int .i64 f.what, .int .i64 f.num, .string f.v] 62)).heap.size := by rw [World.size_alloc]; omega
              clear RD
              have RD := RD2
              clear RD2
              generalize W1.alloc (.cells #[.int .i64 f.what, .int .i64 f.num, .string f.v] 62) = W2 at *
              refine wpAnyH_ready (rs := [4]) (by kernel_rfl) (by simp) ?_
              refine AllReadyH.cons rfl (fun K hK => ?_) AllReadyH.nil
              refine step_append_any _ rfl _ _ 71 rfl W0.heap.size 62 i0 _ 3 32 Tryz.underlying71 hi hz0 hz1 hz2 rfl (by decide) _ 0 [] rfl RD.out _ fs.length _ (fldRows fs) rfl (.inr ⟨_, rfl, fun q u hu => by rw [addr_add, Nat.zero_add]; exact HSR.out _ HBW.out q u hu⟩) (fldRows_len _) fld_one (by unfold maxLen; omega) (by omega) HBW.out.size ?_
              intro va W3 hown hgrow hat
              simp only [Nat.zero_add, List.nil_append] at hown
              have HB2 : Hid (Below W0.heap.size W0 W3) := HBW.out.grown hgrow HBW.out.size (fun q e => own_ge RD.out q e)
              have BX2 := toHidC ((hgrow.block _ hBF (fun e => HNE.out _ e.symm rfl)).trans BX.out)
              have hBF2 := Nat.lt_of_lt_of_le hBF hgrow.size
              refine hK.out _ _ (HSS.out _ HB2.out) (fun _ => ?_)
              clear hat hgrow RD
              clear BX HNE hBF
              have BX := BX2
              have hBF := hBF2
              clear BX2 hBF2
              clear hK K HBW
              have HBW := HB2
              clear HB2
              have RD := toHidC hown
              obtain ⟨pa, qa, rfl⟩ := own_slice hown
              clear hown
              refine wpAnyH_ready (rs := [7]) (by kernel_rfl) (by simp) ?_
              refine AllReadyH.cons rfl (fun K hK => ?_) AllReadyH.nil
              refine step_append_any _ rfl _ _ 71 rfl W0.heap.size 62 i0 _ 3 32 Tryz.underlying71 hi hz0 hz1 hz2 rfl (by decide) _ fs.length (fldRows fs) rfl RD.out _ 1 _ (fldRow f) rfl (.inr ⟨_, rfl, World.news_of_block BX.out⟩) rfl (fun u hu => by simp only [fldRow, List.mem_cons, List.not_mem_nil, or_false] at hu; rcases hu with rfl | rfl | rfl <;> rfl) (by unfold maxLen; omega) (by omega) HBW.out.size ?_
              intro vb W4 hown hgrow hat
              have HB2 : Hid (Below W0.heap.size W0 W4) := HBW.out.grown hgrow HBW.out.size (fun q e => own_ge RD.out q e)
              refine hK.out _ _ (HSS.out _ HB2.out) (fun _ => ?_)
              clear hat hgrow RD
              clear hK K HBW
              have HBW := HB2
              clear HB2
              have RD := toHidC hown
              obtain ⟨pb, qb, rfl⟩ := own_slice hown
              clear hown
              refine wpAnyH_ready (rs := [11]) (by kernel_rfl) (by simp) ?_
              refine AllReadyH.cons rfl (fun K hK => ?_) AllReadyH.nil
              refine step_append_any _ rfl _ _ 71 rfl W0.heap.size 62 i0 _ 3 32 Tryz.underlying71 hi hz0 hz1 hz2 rfl (by decide) _ (fs.length + 1) (fldRows fs ++ fldRow f) rfl RD.out _ 0 _ [] rfl (.inl rfl) rfl (fun u hu => by cases hu) (by unfold maxLen; omega) (by omega) HBW.out.size ?_
              intro vc W5 hown hgrow hat
              simp only [Nat.add_zero, List.append_nil] at hown
              have HB2 : Hid (Below W0.heap.size W0 W5) := HBW.out.grown hgrow HBW.out.size (fun q e => own_ge RD.out q e)
              refine hK.out _ _ (HSS.out _ HB2.out) (fun _ => ?_)
              clear hat hgrow RD
              clear hK K HBW
              have HBW := HB2
              clear HB2
              have RD := toHidC hown
              obtain ⟨pc, qc, rfl⟩ := own_slice hown
              clear hown
              have hHeld := HSS.out _ HBW.out
              refine wpAnyH_take (i := 12) (v := ?_) rfl (by kernel_rfl) (by kernel_rfl) (by kernel_rfl) (fun _ _ _ h => h) (Or.inl ⟨by rfl, ?_⟩) (by assumption) ?_
              rotate_left
              · intro w hSw; (try dsimp only at hSw); go_simp; try with_reducible rfl
              simp only [Act.put, List.setIfInBounds_toArray, List.set_cons_zero, List.set_cons_succ, List.getElem_toArray, List.getElem_cons_succ, List.getElem_cons_zero]
              clear hHeld
              refine wpAnyH_done (by kernel_rfl) ?_ _
              refine NoPanic.normal ?_
              go_wp2
              go_ret
              refine ⟨_, rfl, ?_, grownF_below (below_step (below_step HB0.out HBD.out) HBW.out) _, fun q hq => .inr ?_⟩
              · have h := own_mono RD.out hlo0
                rw [HP.out, fldRows_app, List.length_append]
                exact h
              · have := own_ge RD.out q hq
                omega
          · go_simp
            have HB2 : Hid (Below W0.heap.size W0 (W0.alloc (.cells #[.int .i64 f.what, .int .i64 f.num, .string f.v] 62))) := HBW.out.alloc HBW.out.size _
            have BX : Hid ((W0.alloc (.cells #[.int .i64 f.what, .int .i64 f.num, .string f.v] 62)).heap[W0.heap.size]? = some (.cells #[.int .i64 f.what, .int .i64 f.num, .string f.v] 62 (0, 0))) := heap_newF W0 _
            refine hK.out _ _ (HSS.out _ HB2.out) (fun _ => ?_)
            clear hK K HBW
            have HBW := HB2
            clear HB2
            have hBF : W0.heap.size < (W0.alloc (.cells #[.int .i64 f.what, .int .i64 f.num, .string f.v] 62)).heap.size := by rw [World.size_alloc]; omega
            generalize W0.alloc (.cells #[.int .i64 f.what, .int .i64 f.num, .string f.v] 62) = W1 at *
            refine wpAnyH_ready (rs := [0]) (by kernel_rfl) (by simp) ?_
            refine AllReadyH.cons rfl (fun K hK => ?_) AllReadyH.nil
            go_simp
            have HB2 : Hid (Below W0.heap.size W0 (W1.alloc (.cells #[] 62))) := HBW.out.alloc HBW.out.size _
            have RD : Hid ((W1.alloc (.cells #[] 62)).ownsRow W0.heap.size 62 3 (.slice (some ⟨W1.heap.size, 0, none⟩) 0 0) 0 []) := own_new0 (heap_newF W1 _) HBW.out.size 3
            have HNE : Hid (∀ q, (Value.slice (some ⟨W1.heap.size, 0, none⟩) 0 0).ownBlock = some q → some (W0.heap.size) ≠ some q) := fun q hq e => by have hq2 : W1.heap.size = q := Option.some.inj hq; injection e with e; omega
            have BX2 := toHidC ((Below.heap_alloc W1 (.cells #[] 62) _ hBF).trans BX.out)
            have hBF2 : W0.heap.size < (W1.alloc (.cells #[] 62)).heap.size := by rw [World.size_alloc]; omega
            refine hK.out _ _ (HSS.out _ HB2.out) (fun _ => ?_)
            clear hK K HBW
            have HBW := HB2
            clear HB2
            clear BX hBF
            have BX := BX2
            have hBF := hBF2
            clear BX2 hBF2
            generalize W1.alloc (.cells #[] 62) = W2 at *
            refine wpAnyH_ready (rs := [4]) (by kernel_rfl) (by simp) ?_
            refine AllReadyH.cons rfl (fun K hK => ?_) AllReadyH.nil
            refine step_append_any _ rfl _ _ 71 rfl W0.heap.size 62 i0 _ 3 32 Tryz.underlying71 hi hz0 hz1 hz2 rfl (by decide) _ 0 [] rfl RD.out _ fs.length _ (fldRows fs) rfl (.inr ⟨_, rfl, fun q u hu => by rw [addr_add, Nat.zero_add]; exact HSR.out _ HBW.out q u hu⟩) (fldRows_len _) fld_one (by unfold maxLen; omega) (by omega) HBW.out.size ?_
            intro va W3 hown hgrow hat
            simp only [Nat.zero_add, List.nil_append] at hown
            have HB2 : Hid (Below W0.heap.size W0 W3) := HBW.out.grown hgrow HBW.out.size (fun q e => own_ge RD.out q e)
            have BX2 := toHidC ((hgrow.block _ hBF (fun e => HNE.out _ e.symm rfl)).trans BX.out)
            have hBF2 := Nat.lt_of_lt_of_le hBF hgrow.size
            refine hK.out _ _ (HSS.out _ HB2.out) (fun _ => ?_)
            clear hat hgrow RD
            clear BX HNE hBF
            have BX := BX2
            have hBF := hBF2
            clear BX2 hBF2
            clear hK K HBW
            have HBW := HB2
            clear HB2
            have RD := toHidC hown
            obtain ⟨pa, qa, rfl⟩ := own_slice hown
            clear hown
            refine wpAnyH_ready (rs := [7]) (by kernel_rfl) (by simp) ?_
            refine AllReadyH.cons rfl (fun K hK => ?_) AllReadyH.nil
            refine step_append_any _ rfl _ _ 71 rfl W0.heap.size 62 i0 _ 3 32 Tryz.underlying71 hi hz0 hz1 hz2 rfl (by decide) _ fs.length (fldRows fs) rfl RD.out _ 1 _ (fldRow f) rfl (.inr ⟨_, rfl, World.news_of_block BX.out⟩) rfl (fun u hu => by simp only [fldRow, List.mem_cons, List.not_mem_nil, or_false] at hu; rcases hu with rfl | rfl | rfl <;> rfl) (by unfold maxLen; omega) (by omega) HBW.out.size ?_
            intro vb W4 hown hgrow hat
            have HB2 : Hid (Below W0.heap.size W0 W4) := HBW.out.grown hgrow HBW.out.size (fun q e => own_ge RD.out q e)
            refine hK.out _ _ (HSS.out _ HB2.out) (fun _ => ?_)
            clear hat hgrow RD
            clear hK K HBW
            have HBW := HB2
            clear HB2
            have RD := toHidC hown
            obtain ⟨pb, qb, rfl⟩ := own_slice hown
            clear hown
            refine wpAnyH_ready (rs := [11]) (by kernel_rfl) (by simp) ?_
            refine AllReadyH.cons rfl (fun K hK => ?_) AllReadyH.nil
            refine step_append_any _ rfl _ _ 71 rfl W0.heap.size 62 i0 _ 3 32 Tryz.underlying71 hi hz0 hz1 hz2 rfl (by decide) _ (fs.length + 1) (fldRows fs ++ fldRow f) rfl RD.out _ 0 _ [] rfl (.inl rfl) rfl (fun u hu => by cases hu) (by unfold maxLen; omega) (by omega) HBW.out.size ?_
            intro vc W5 hown hgrow hat
            simp only [Nat.add_zero, List.append_nil] at hown
            have HB2 : Hid (Below W0.heap.size W0 W5) := HBW.out.grown hgrow HBW.out.size (fun q e => own_ge RD.out q e)
            refine hK.out _ _ (HSS.out _ HB2.out) (fun _ => ?_)
            clear hat hgrow RD
            clear hK K HBW
            have HBW := HB2
            clear HB2
            have RD := toHidC hown
            obtain ⟨pc, qc, rfl⟩ := own_slice hown
            clear hown
            have hHeld := HSS.out _ HBW.out
            refine wpAnyH_take (i := 12) (v := ?_) rfl (by kernel_rfl) (by kernel_rfl) (by kernel_rfl) (fun _ _ _ h => h) (Or.inl ⟨by rfl, ?_⟩) (by assumption) ?_
            rotate_left
            · intro w hSw; (try dsimp only at hSw); go_simp; try with_reducible rfl
            simp only [Act.put, List.setIfInBounds_toArray, List.set_cons_zero, List.set_cons_succ, List.getElem_toArray, List.getElem_cons_succ, List.getElem_cons_zero]
            clear hHeld
            refine wpAnyH_done (by kernel_rfl) ?_ _
            refine NoPanic.normal ?_
            go_wp2
            go_ret
            refine ⟨_, rfl, ?_, grownF_below (below_step (below_step HB0.out HBD.out) HBW.out) _, fun q hq => .inr ?_⟩
            · have h := own_mono RD.out hlo0
              rw [HP.out, fldRows_app, List.length_append]
              exact h
            · have := own_ge RD.out q hq
              omega
        · clear hj0 hjl hw2
          obtain ⟨x0, x1, x2⟩ := three_cellsF HX3.out
          go_wp2
          refine wp_region_noPanic ?_
          refine wp_region_held_drew (S := fun w' => w'.cell? ⟨w.heap.size, 0, none⟩ = some (.int .i64 f.what) ∧ w'.cell? ⟨w.heap.size, 1, none⟩ = some (.int .i64 f.num) ∧ w'.cell? ⟨w.heap.size, 2, none⟩ = some (.string f.v)) (by kernel_rfl) ?_ (fun hHeld => ?_)
          · exact ⟨x0, x1, x2⟩
          clear x0 x1 x2
          have HBD : Hid (Below w1.heap.size w1 wr3.drew) := HB3.out.drew
          have HOD : Hid (wr3.drew.ownsRow lo 62 3 (.slice _ _ _) fs.length (fldRows fs)) := ownsRow_keep HOW3.out (Below.refl _ _).drew
          have HXD : Hid (wr3.drew.heap[w.heap.size]? = some (.cells #[.int .i64 f.what, .int .i64 f.num, .string f.v] 62 (0, 0))) := HX3.out
          generalize wr3.drew = W0 at *
          clear HB3 HOW3 HX3
          refine wpAnyH_take (i := 1) (v := ?_) rfl (by kernel_rfl) (by kernel_rfl) (by kernel_rfl) (fun _ _ _ h => h) (Or.inl ⟨by rfl, ?_⟩) (by assumption) ?_
          rotate_left
          · intro w hSw; (try dsimp only at hSw); go_simp; try with_reducible rfl
          simp only [Act.put, List.setIfInBounds_toArray, List.set_cons_zero, List.set_cons_succ, List.getElem_toArray, List.getElem_cons_succ, List.getElem_cons_zero]
          refine wpAnyH_take (i := 2) (v := ?_) rfl (by kernel_rfl) (by kernel_rfl) (by kernel_rfl) (fun _ _ _ h => h) (Or.inl ⟨by rfl, ?_⟩) (by assumption) ?_
          rotate_left
          · intro w hSw; (try dsimp only at hSw); go_simp; try with_reducible rfl
          simp only [Act.put, List.setIfInBounds_toArray, List.set_cons_zero, List.set_cons_succ, List.getElem_toArray, List.getElem_cons_succ, List.getElem_cons_zero]
          refine wpAnyH_take (i := 3) (v := ?_) rfl (by kernel_rfl) (by kernel_rfl) (by kernel_rfl) (fun _ _ _ h => h) (Or.inl ⟨by rfl, ?_⟩) (by assumption) ?_
          rotate_left
          · intro w hSw; (try dsimp only at hSw); go_simp; try with_reducible rfl
          simp only [Act.put, List.setIfInBounds_toArray, List.set_cons_zero, List.set_cons_succ, List.getElem_toArray, List.getElem_cons_succ, List.getElem_cons_zero]
          refine wpAnyH_take (i := 5) (v := ?_) rfl (by kernel_rfl) (by kernel_rfl) (by kernel_rfl) (fun _ _ _ h => h) (Or.inl ⟨by rfl, ?_⟩) (by assumption) ?_
          rotate_left
          · intro w hSw; (try dsimp only at hSw); go_simp; try with_reducible rfl
          simp only [Act.put, List.setIfInBounds_toArray, List.set_cons_zero, List.set_cons_succ, List.getElem_toArray, List.getElem_cons_succ, List.getElem_cons_zero]
          refine wpAnyH_take (i := 8) (v := ?_) rfl (by kernel_rfl) (by kernel_rfl) (by kernel_rfl) (fun _ _ _ h => h) (Or.inl ⟨by rfl, ?_⟩) (by assumption) ?_
          rotate_left
          · intro w hSw; (try dsimp only at hSw); go_simp; try with_reducible rfl
          simp only [Act.put, List.setIfInBounds_toArray, List.set_cons_zero, List.set_cons_succ, List.getElem_toArray, List.getElem_cons_succ, List.getElem_cons_zero]
          refine wpAnyH_take (i := 9) (v := ?_) rfl (by kernel_rfl) (by kernel_rfl) (by kernel_rfl) (fun _ _ _ h => h) (Or.inl ⟨by rfl, ?_⟩) (by assumption) ?_
          rotate_left
          · intro w hSw; (try dsimp only at hSw); go_simp; try with_reducible rfl
          simp only [Act.put, List.setIfInBounds_toArray, List.set_cons_zero, List.set_cons_succ, List.getElem_toArray, List.getElem_cons_succ, List.getElem_cons_zero]
          refine wpAnyH_take (i := 10) (v := ?_) rfl (by kernel_rfl) (by kernel_rfl) (by kernel_rfl) (fun _ _ _ h => h) (Or.inl ⟨by rfl, ?_⟩) (by assumption) ?_
          rotate_left
          · intro w hSw; (try dsimp only at hSw); go_simp; try with_reducible rfl
          simp only [Act.put, List.setIfInBounds_toArray, List.set_cons_zero, List.set_cons_succ, List.getElem_toArray, List.getElem_cons_succ, List.getElem_cons_zero]
          clear hHeld
          have hw0 : w.heap.size < W0.heap.size := (Array.getElem?_eq_some_iff.1 HXD.out).1
          have hlo0 : lo ≤ W0.heap.size := by omega
          have HBW : Hid (Below W0.heap.size W0 W0) := Below.refl _ _
          have HSS : Hid (∀ wx : World, Below W0.heap.size W0 wx → wx.cell? ⟨w.heap.size, 0, none⟩ = some (.int .i64 f.what) ∧ wx.cell? ⟨w.heap.size, 1, none⟩ = some (.int .i64 f.num) ∧ wx.cell? ⟨w.heap.size, 2, none⟩ = some (.string f.v)) := fun wx hx => three_cellsF ((hx.block _ hw0).trans HXD.out)
          have HSR : Hid (∀ wx : World, Below W0.heap.size W0 wx → ∀ q u, (fldRows fs)[q]? = some u → wx.cell? ⟨g, q, none⟩ = some u) := fun wx hx => own_src (ownsRow_keep HOD.out hx)
          refine wpAnyH_ready (rs := [0, 6]) (by kernel_rfl) (by simp) ?_
          refine AllReadyH.cons rfl (fun K hK => ?_) (AllReadyH.cons rfl (fun K hK => ?_) AllReadyH.nil)
          · go_simp
            have HB2 : Hid (Below W0.heap.size W0 (W0.alloc (.cells #[] 62))) := HBW.out.alloc HBW.out.size _
            have RD : Hid ((W0.alloc (.cells #[] 62)).ownsRow W0.heap.size 62 3 (.slice (some ⟨W0.heap.size, 0, none⟩) 0 0) 0 []) := own_new0 (heap_newF W0 _) HBW.out.size 3
            refine hK.out _ _ (HSS.out _ HB2.out) (fun _ => ?_)
            clear hK K HBW
            have HBW := HB2
            clear HB2
            generalize W0.alloc (.cells #[] 62) = W1 at *
            refine wpAnyH_ready (rs := [4, 6]) (by kernel_rfl) (by simp) ?_
            refine AllReadyH.cons rfl (fun K hK => ?_) (AllReadyH.cons rfl (fun K hK => ?_) AllReadyH.nil)
            · refine step_append_any _ rfl _ _ 71 rfl W0.heap.size 62 i0 _ 3 32 Tryz.underlying71 hi hz0 hz1 hz2 rfl (by decide) _ 0 [] rfl RD.out _ fs.length _ (fldRows fs) rfl (.inr ⟨_, rfl, fun q u hu => by rw [addr_add, Nat.zero_add]; exact HSR.out _ HBW.out q u hu⟩) (fldRows_len _) fld_one (by unfold maxLen; omega) (by omega) HBW.out.size ?_
              intro va W2 hown hgrow hat
              simp only [Nat.zero_add, List.nil_append] at hown
              have HB2 : Hid (Below W0.heap.size W0 W2) := HBW.out.grown hgrow HBW.out.size (fun q e => own_ge RD.out q e)
              refine hK.out _ _ (HSS.out _ HB2.out) (fun _ => ?_)
              clear hat hgrow RD
              clear hK K HBW
              have HBW := HB2
              clear HB2
              have RD := toHidC hown
              obtain ⟨pa, qa, rfl⟩ := own_slice hown
              clear hown
              refine wpAnyH_ready (rs := [6]) (by kernel_rfl) (by simp) ?_
              refine AllReadyH.cons rfl (fun K hK => ?_) AllReadyH.nil
              go_simp
              have HB2 : Hid (Below W0.heap.size W0 (W2.alloc (.cells #[.int .i64 f.what, .int .i64 f.num, .string f.v] 62))) := HBW.out.alloc HBW.out.size _
              have BX : Hid ((W2.alloc (.cells #[.int .i64 f.what, .int .i64 f.num, .string f.v] 62)).heap[W2.heap.size]? = some (.cells #[.int .i64 f.what, .int .i64 f.num, .string f.v] 62 (0, 0))) := heap_newF W2 _
              have RD2 := toHidC (ownsRow_keep RD.out ((Below.refl _ W2).alloc (Nat.le_refl _) (.cells #[.int .i64 f.what, .int .i64 f.num, .string f.v] 62)))
              have HNE : Hid (∀ q, Value.ownBlock _ = some q → some (W2.heap.size) ≠ some q) := fun q hq e => by have := own_lt RD.out q hq; injection e with e; omega
              refine hK.out _ _ (HSS.out _ HB2.out) (fun _ => ?_)
              clear hK K HBW
              have HBW := HB2
              clear HB2
              have hBF : W2.heap.size < (W2.alloc (.cells #[.int .i64 f.what, .int .i64 f.num, .string f.v] 62)).heap.size := by rw [World.size_alloc]; omega
              clear RD
              have RD := RD2
              clear RD2
              generalize W2.alloc (.cells #[.int .i64 f.what, .int .i64 f.num, .string f.v] 62) = W3 at *
              refine wpAnyH_ready (rs := [7]) (by kernel_rfl) (by simp) ?_
              refine AllReadyH.cons rfl (fun K hK => ?_) AllReadyH.nil
              refine step_append_any _ rfl _ _ 71 rfl W0.heap.size 62 i0 _ 3 32 Tryz.underlying71 hi hz0 hz1 hz2 rfl (by decide) _ fs.length (fldRows fs) rfl RD.out _ 1 _ (fldRow f) rfl (.inr ⟨_, rfl, World.news_of_block BX.out⟩) rfl (fun u hu => by simp only [fldRow, List.mem_cons, List.not_mem_nil, or_false] at hu; rcases hu with rfl | rfl | rfl <;> rfl) (by unfold maxLen; omega) (by omega) HBW.out.size ?_
              intro vb W4 hown hgrow hat
              have HB2 : Hid (Below W0.heap.size W0 W4) := HBW.out.grown hgrow HBW.out.size (fun q e => own_ge RD.out q e)
              refine hK.out _ _ (HSS.out _ HB2.out) (fun _ => ?_)
              clear hat hgrow RD
              clear hK K HBW
              have HBW := HB2
              clear HB2
              have RD := toHidC hown
              obtain ⟨pb, qb, rfl⟩ := own_slice hown
              clear hown
              refine wpAnyH_ready (rs := [11]) (by kernel_rfl) (by simp) ?_
              refine AllReadyH.cons rfl (fun K hK => ?_) AllReadyH.nil
              refine step_append_any _ rfl _ _ 71 rfl W0.heap.size 62 i0 _ 3 32 Tryz.underlying71 hi hz0 hz1 hz2 rfl (by decide) _ (fs.length + 1) (fldRows fs ++ fldRow f) rfl RD.out _ 0 _ [] rfl (.inl rfl) rfl (fun u hu => by cases hu) (by unfold maxLen; omega) (by omega) HBW.out.size ?_
              intro vc W5 hown hgrow hat
              simp only [Nat.add_zero, List.append_nil] at hown
              have HB2 : Hid (Below W0.heap.size W0 W5) := HBW.out.grown hgrow HBW.out.size (fun q e => own_ge RD.out q e)
              refine hK.out _ _ (HSS.out _ HB2.out) (fun _ => ?_)
              clear hat hgrow RD
              clear hK K HBW
              have HBW := HB2
              clear HB2
              have RD := toHidC hown
              obtain ⟨pc, qc, rfl⟩ := own_slice hown
              clear hown
              have hHeld := HSS.out _ HBW.out
              refine wpAnyH_take (i := 12) (v := ?_) rfl (by kernel_rfl) (by kernel_rfl) (by kernel_rfl) (fun _ _ _ h => h) (Or.inl ⟨by rfl, ?_⟩) (by assumption) ?_
              rotate_left
              · intro w hSw; (try dsimp only at hSw); go_simp; try with_reducible rfl
              simp only [Act.put, List.setIfInBounds_toArray, List.set_cons_zero, List.set_cons_succ, List.getElem_toArray, List.getElem_cons_succ, List.getElem_cons_zero]
              clear hHeld
              refine wpAnyH_done (by kernel_rfl) ?_ _
              refine NoPanic.normal ?_
              go_wp2
              go_ret
              refine ⟨_, rfl, ?_, grownF_below (below_step (below_step HB0.out HBD.out) HBW.out) _, fun q hq => .inr ?_⟩
              · have h := own_mono RD.out hlo0
                rw [HP.out, fldRows_app, List.length_append]
                exact h
              · have := own_ge RD.out q hq
                omega
            · go_simp
              have HB2 : Hid (Below W0.heap.size W0 (W1.alloc (.cells #[.int .i64 f.what, .int .i64 f.num, .string f.v] 62))) := HBW.out.alloc HBW.out.size _
              have BX : Hid ((W1.alloc (.cells #[.int .i64 f.what, .int .i64 f.num, .string f.v] 62)).heap[W1.heap.size]? = some (.cells #[.int .i64 f.what, .int .i64 f.num, .string f.v] 62 (0, 0))) := heap_newF W1 _
              have RD2 := toHidC (ownsRow_keep RD.out ((Below.refl _ W1).alloc (Nat.le_refl _) (.cells #[.int .i64 f.what, .int .i64 f.num, .string f.v] 62)))
              have HNE : Hid (∀ q, Value.ownBlock _ = some q → some (W1.heap.size) ≠ some q) := fun q hq e => by have := own_lt RD.out q hq; injection e with e; omega
              refine hK.out _ _ (HSS.out _ HB2.out) (fun _ => ?_)
              clear hK K HBW
              have HBW := HB2
              clear HB2
              have hBF : W1.heap.size < (W1.alloc (.cells #[.int .i64 f.what, .int .i64 f.num, .string f.v] 62)).heap.size := by rw [World.size_alloc]; omega
              clear RD
              have RD := RD2
              clear RD2
              generalize W1.alloc (.cells #[.int .i64 f.what, .int .i64 f.num, .string f.v] 62) = W2 at *
              refine wpAnyH_ready (rs := [4]) (by kernel_rfl) (by simp) ?_
              refine AllReadyH.cons rfl (fun K hK => ?_) AllReadyH.nil
              refine step_append_any _ rfl _ _ 71 rfl W0.heap.size 62 i0 _ 3 32 Tryz.underlying71 hi hz0 hz1 hz2 rfl (by decide) _ 0 [] rfl RD.out _ fs.length _ (fldRows fs) rfl (.inr ⟨_, rfl, fun q u hu => by rw [addr_add, Nat.zero_add]; exact HSR.out _ HBW.out q u hu⟩) (fldRows_len _) fld_one (by unfold maxLen; omega) (by omega) HBW.out.size ?_
              intro va W3 hown hgrow hat
              simp only [Nat.zero_add, List.nil_append] at hown
              have HB2 : Hid (Below W0.heap.size W0 W3) := HBW.out.grown hgrow HBW.out.size (fun q e => own_ge RD.out q e)
              have BX2 := toHidC ((hgrow.block _ hBF (fun e => HNE.out _ e.symm rfl)).trans BX.out)
              have hBF2 := Nat.lt_of_lt_of_le hBF hgrow.size
              refine hK.out _ _ (HSS.out _ HB2.out) (fun _ => ?_)
              clear hat hgrow RD
              clear BX HNE hBF
              have BX := BX2
              have hBF := hBF2
              clear BX2 hBF2
              clear hK K HBW
              have HBW := HB2
              clear HB2
              have RD := toHidC hown
              obtain ⟨pa, qa, rfl⟩ := own_slice hown
              clear hown
              refine wpAnyH_ready (rs := [7]) (by kernel_rfl) (by simp) ?_
              refine AllReadyH.cons rfl (fun K hK => ?_) AllReadyH.nil
              refine step_append_any _ rfl _ _ 71 rfl W0.heap.size 62 i0 _ 3 32 Tryz.underlying71 hi hz0 hz1 hz2 rfl (by decide) _ fs.length (fldRows fs) rfl RD.out _ 1 _ (fldRow f) rfl (.inr ⟨_, rfl, World.news_of_block BX.out⟩) rfl (fun u hu => by simp only [fldRow, List.mem_cons, List.not_mem_nil, or_false] at hu; rcases hu with rfl | rfl | rfl <;> rfl) (by unfold maxLen; omega) (by omega) HBW.out.size ?_
              intro vb W4 hown hgrow hat
              have HB2 : Hid (Below W0.heap.size W0 W4) := HBW.out.grown hgrow HBW.out.size (fun q e => own_ge RD.out q e)
              refine hK.out _ _ (HSS.out _ HB2.out) (fun _ => ?_)
              clear hat hgrow RD
              clear hK K HBW
              have HBW := HB2
              clear HB2
              have RD := toHidC hown
              obtain ⟨pb, qb, rfl⟩ := own_slice hown
              clear hown
              refine wpAnyH_ready (rs := [11]) (by kernel_rfl) (by simp) ?_
              refine AllReadyH.cons rfl (fun K hK => ?_) AllReadyH.nil
              refine step_append_any _ rfl _ _ 71 rfl W0.heap.size 62 i0 _ 3 32 Tryz.underlying71 hi hz0 hz1 hz2 rfl (by decide) _ (fs.length + 1) (fldRows fs ++ fldRow f) rfl RD.out _ 0 _ [] rfl (.inl rfl) rfl (fun u hu => by cases hu) (by unfold maxLen; omega) (by omega) HBW.out.size ?_
              intro vc W5 hown hgrow hat
              simp only [Nat.add_zero, List.append_nil] at hown
              have HB2 : Hid (Below W0.heap.size W0 W5) := HBW.out.grown hgrow HBW.out.size (fun q e => own_ge RD.out q e)
              refine hK.out _ _ (HSS.out _ HB2.out) (fun _ => ?_)
              clear hat hgrow RD
              clear hK K HBW
              have HBW := HB2
              clear HB2
              have RD := toHidC hown
              obtain ⟨pc, qc, rfl⟩ := own_slice hown
              clear hown
              have hHeld := HSS.out _ HBW.out
              refine wpAnyH_take (i := 12) (v := ?_) rfl (by kernel_rfl) (by kernel_rfl) (by kernel_rfl) (fun _ _ _ h => h) (Or.inl ⟨by rfl, ?_⟩) (by assumption) ?_
              rotate_left
              · intro w hSw; (try dsimp only at hSw); go_simp; try with_reducible rfl
              simp only [Act.put, List.setIfInBounds_toArray, List.set_cons_zero, List.set_cons_succ, List.getElem_toArray, List.getElem_cons_succ, List.getElem_cons_zero]
              clear hHeld
              refine wpAnyH_done (by kernel_rfl) ?_ _
              refine NoPanic.normal ?_
              go_wp2
              go_ret
              refine ⟨_, rfl, ?_, grownF_below (below_step (below_step HB0.out HBD.out) HBW.out) _, fun q hq => .inr ?_⟩
              · have h := own_mono RD.out hlo0
                rw [HP.out, fldRows_app, List.length_append]
                exact h
              · have := own_ge RD.out q hq
                omega
          · go_simp
            have HB2 : Hid (Below W0.heap.size W0 (W0.alloc (.cells #[.int .i64 f.what, .int .i64 f.num, .string f.v] 62))) := HBW.out.alloc HBW.out.size _
            have BX : Hid ((W0.alloc (.cells #[.int .i64 f.what, .int .i64 f.num, .string f.v] 62)).heap[W0.heap.size]? = some (.cells #[.int .i64 f.what, .int .i64 f.num, .string f.v] 62 (0, 0))) := heap_newF W0 _
            refine hK.out _ _ (HSS.out _ HB2.out) (fun _ => ?_)
            clear hK K HBW
            have HBW := HB2
            clear HB2
            have hBF : W0.heap.size < (W0.alloc (.cells #[.int .i64 f.what, .int .i64 f.num, .string f.v] 62)).heap.size := by rw [World.size_alloc]; omega
            generalize W0.alloc (.cells #[.int .i64 f.what, .int .i64 f.num, .string f.v] 62) = W1 at *
            refine wpAnyH_ready (rs := [0]) (by kernel_rfl) (by simp) ?_
            refine AllReadyH.cons rfl (fun K hK => ?_) AllReadyH.nil
            go_simp
            have HB2 : Hid (Below W0.heap.size W0 (W1.alloc (.cells #[] 62))) := HBW.out.alloc HBW.out.size _
            have RD : Hid ((W1.alloc (.cells #[] 62)).ownsRow W0.heap.size 62 3 (.slice (some ⟨W1.heap.size, 0, none⟩) 0 0) 0 []) := own_new0 (heap_newF W1 _) HBW.out.size 3
            have HNE : Hid (∀ q, (Value.slice (some ⟨W1.heap.size, 0, none⟩) 0 0).ownBlock = some q → some (W0.heap.size) ≠ some q) := fun q hq e => by have hq2 : W1.heap.size = q := Option.some.inj hq; injection e with e; omega
            have BX2 := toHidC ((Below.heap_alloc W1 (.cells #[] 62) _ hBF).trans BX.out)
            have hBF2 : W0.heap.size < (W1.alloc (.cells #[] 62)).heap.size := by rw [World.size_alloc]; omega
            refine hK.out _ _ (HSS.out _ HB2.out) (fun _ => ?_)
            clear hK K HBW
            have HBW := HB2
            clear HB2
            clear BX hBF
            have BX := BX2
            have hBF := hBF2
            clear BX2 hBF2
            generalize W1.alloc (.cells #[] 62) = W2 at *
            refine wpAnyH_ready (rs := [4]) (by kernel_rfl) (by simp) ?_
            refine AllReadyH.cons rfl (fun K hK => ?_) AllReadyH.nil
            refine step_append_any _ rfl _ _ 71 rfl W0.heap.size 62 i0 _ 3 32 Tryz.underlying71 hi hz0 hz1 hz2 rfl (by decide) _ 0 [] rfl RD.out _ fs.length _ (fldRows fs) rfl (.inr ⟨_, rfl, fun q u hu => by rw [addr_add, Nat.zero_add]; exact HSR.out _ HBW.out q u hu⟩) (fldRows_len _) fld_one (by unfold maxLen; omega) (by omega) HBW.out.size ?_
            intro va W3 hown hgrow hat
            simp only [Nat.zero_add, List.nil_append] at hown
            have HB2 : Hid (Below W0.heap.size W0 W3) := HBW.out.grown hgrow HBW.out.size (fun q e => own_ge RD.out q e)
            have BX2 := toHidC ((hgrow.block _ hBF (fun e => HNE.out _ e.symm rfl)).trans BX.out)
            have hBF2 := Nat.lt_of_lt_of_le hBF hgrow.size
            refine hK.out _ _ (HSS.out _ HB2.out) (fun _ => ?_)
            clear hat hgrow RD
            clear BX HNE hBF
            have BX := BX2
            have hBF := hBF2
            clear BX2 hBF2
            clear hK K HBW
            have HBW := HB2
            clear HB2
            have RD := toHidC hown
            obtain ⟨pa, qa, rfl⟩ := own_slice hown
            clear hown
            refine wpAnyH_ready (rs := [7]) (by kernel_rfl) (by simp) ?_
            refine AllReadyH.cons rfl (fun K hK => ?_) AllReadyH.nil
            refine step_append_any _ rfl _ _ 71 rfl W0.heap.size 62 i0 _ 3 32 Tryz.underlying71 hi hz0 hz1 hz2 rfl (by decide) _ fs.length (fldRows fs) rfl RD.out _ 1 _ (fldRow f) rfl (.inr ⟨_, rfl, World.news_of_block BX.out⟩) rfl (fun u hu => by simp only [fldRow, List.mem_cons, List.not_mem_nil, or_false] at hu; rcases hu with rfl | rfl | rfl <;> rfl) (by unfold maxLen; omega) (by omega) HBW.out.size ?_
            intro vb W4 hown hgrow hat
            have HB2 : Hid (Below W0.heap.size W0 W4) := HBW.out.grown hgrow HBW.out.size (fun q e => own_ge RD.out q e)
            refine hK.out _ _ (HSS.out _ HB2.out) (fun _ => ?_)
            clear hat hgrow RD
            clear hK K HBW
            have HBW := HB2
            clear HB2
            have RD := toHidC hown
            obtain ⟨pb, qb, rfl⟩ := own_slice hown
            clear hown
            refine wpAnyH_ready (rs := [11]) (by kernel_rfl) (by simp) ?_
            refine AllReadyH.cons rfl (fun K hK => ?_) AllReadyH.nil
            refine step_append_any _ rfl _ _ 71 rfl W0.heap.size 62 i0 _ 3 32 Tryz.underlying71 hi hz0 hz1 hz2 rfl (by decide) _ (fs.length + 1) (fldRows fs ++ fldRow f) rfl RD.out _ 0 _ [] rfl (.inl rfl) rfl (fun u hu => by cases hu) (by unfold maxLen; omega) (by omega) HBW.out.size ?_
            intro vc W5 hown hgrow hat
            simp only [Nat.add_zero, List.append_nil] at hown
            have HB2 : Hid (Below W0.heap.size W0 W5) := HBW.out.grown hgrow HBW.out.size (fun q e => own_ge RD.out q e)
            refine hK.out _ _ (HSS.out _ HB2.out) (fun _ => ?_)
            clear hat hgrow RD
            clear hK K HBW
            have HBW := HB2
            clear HB2
            have RD := toHidC hown
            obtain ⟨pc, qc, rfl⟩ := own_slice hown
            clear hown
            have hHeld := HSS.out _ HBW.out
            refine wpAnyH_take (i := 12) (v := ?_) rfl (by kernel_rfl) (by kernel_rfl) (by kernel_rfl) (fun _ _ _ h => h) (Or.inl ⟨by rfl, ?_⟩) (by assumption) ?_
            rotate_left
            · intro w hSw; (try dsimp only at hSw); go_simp; try with_reducible rfl
            simp only [Act.put, List.setIfInBounds_toArray, List.set_cons_zero, List.set_cons_succ, List.getElem_toArray, List.getElem_cons_succ, List.getElem_cons_zero]
            clear hHeld
            refine wpAnyH_done (by kernel_rfl) ?_ _
            refine NoPanic.normal ?_
            go_wp2
            go_ret
            refine ⟨_, rfl, ?_, grownF_below (below_step (below_step HB0.out HBD.out) HBW.out) _, fun q hq => .inr ?_⟩
            · have h := own_mono RD.out hlo0
              rw [HP.out, fldRows_app, List.length_append]
              exact h
            · have := own_ge RD.out q hq
              omega
end Go.Proofs.YtfjblenkcfdbiaaGreat
