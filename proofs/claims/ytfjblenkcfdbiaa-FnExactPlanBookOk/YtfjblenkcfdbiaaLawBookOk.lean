
/-
  The law FnExactPlanBookOk answers true at every book, and turns nothing that was there.
-/
import Derived.Test.YtfjblenkcfdbiaaBook7
namespace Go.Proofs.Ytfjblenkcfdbiaa
open Go.RowKit

set_option maxHeartbeats 6400000 in
theorem lawBookOk_walk (vk vp ve : Value) (ks ps : List Tri) (es : List Ent) (w : World) (hB : BookAt w vk vp ve ks ps es) (nB : BNames ks ps es) :
    Calls Try.prog 5 #[.agg #[vk, vp, ve]] w fun e w' => e = .returned (.bool true) ∧ Below w.heap.size w w' := by
  have HB : Hid (BookAt w vk vp ve ks ps es) := hB
  have NB : Hid (BNames ks ps es) := nB
  obtain ⟨⟨ak, ck, rfl, -, -, -⟩, ⟨ap, cp, rfl, -, -, -⟩, ⟨ae, ce, rfl, -, -, -⟩⟩ := hB
  clear nB
  have HX0 : Hid (OwnAt w (w.alloc (.cells #[.slice ak ks.length ck, .slice ap ps.length cp, .slice ae es.length ce] 44)) [[.slice ak ks.length ck, .slice ap ps.length cp, .slice ae es.length ce]]) := (OwnAt.start w).push rfl _ _
  go_enter Try.func5, Try.ntmps5
  go_wp2_with fail
  refine (szBook_any _ _ _ ks ps es _ _ (HB.out.keep HX0.out.below) NB.out (by omega) (by omega)).mono ?_
  rintro e w1 ⟨rfl, hb1⟩
  have HX1 : Hid (OwnAt w w1 _) := HX0.out.call hb1
  clear HX0 hb1
  by_cases hsz : (szBook ks ps es : Int) ≤ 1048576
  · rw [szR_pos hsz]
    have SB : Hid (BSmall ks ps es) := BSmall.of (by omega)
    have hge : 0 ≤ 1048576 - (szBook ks ps es : Int) := by omega
    generalize 1048576 - (szBook ks ps es : Int) = r at *
    clear hsz
    have GB : Hid (∀ wx : World, Below w.heap.size w wx → Calls Try.prog 19 #[.agg #[.slice ak ks.length ck, .slice ap ps.length cp, .slice ae es.length ce]] wx fun e w' => ∃ uk up ue, e = .returned (.agg #[uk, up, ue]) ∧ BookAt w' uk up ue ks ps es ∧ Below wx.heap.size wx w') :=
      fun wx hx => (toBook_own _ _ _ ks ps es wx (HB.out.keep hx) SB.out).mono fun _ _ ⟨uk, up, ue, he, ho, hb⟩ => ⟨uk, up, ue, he, ho.at SB.out, hb⟩
    have y0 : w1.cell? ⟨w.heap.size, 0, none⟩ = some (.slice ak ks.length ck) := (HX1.out.has 0 _ rfl 0 _ rfl).1
    have y1 : w1.cell? ⟨w.heap.size, 1, none⟩ = some (.slice ap ps.length cp) := (HX1.out.has 0 _ rfl 1 _ rfl).1
    have y2 : w1.cell? ⟨w.heap.size, 2, none⟩ = some (.slice ae es.length ce) := (HX1.out.has 0 _ rfl 2 _ rfl).1
    go_wp2_with fail
    refine (GB.out _ HX1.out.below).mono ?_
    rintro e w2 ⟨uk, up, ue, rfl, hB2, hb2⟩
    go_wp2_with fail
    refine (specBookOk_any _ _ _ ks ps es _ hB2 NB.out SB.out).mono ?_
    rintro e w3 ⟨rfl, hb3⟩
    have HX3 : Hid (OwnAt w w3 _) := (HX1.out.call hb2).call hb3
    clear HX1 hb2 hb3 hB2 y0 y1 y2
    have y0 : w3.cell? ⟨w.heap.size, 0, none⟩ = some (.slice ak ks.length ck) := (HX3.out.has 0 _ rfl 0 _ rfl).1
    have y1 : w3.cell? ⟨w.heap.size, 1, none⟩ = some (.slice ap ps.length cp) := (HX3.out.has 0 _ rfl 1 _ rfl).1
    have y2 : w3.cell? ⟨w.heap.size, 2, none⟩ = some (.slice ae es.length ce) := (HX3.out.has 0 _ rfl 2 _ rfl).1
    go_wp2_with fail
    refine (GB.out _ HX3.out.below).mono ?_
    rintro e w4 ⟨xk, xp, xe, rfl, hB4, hb4⟩
    have HB4 : Hid (BookAt w4 xk xp xe ks ps es) := hB4
    have HX4 : Hid (OwnAt w w4 _) := HX3.out.call hb4
    obtain ⟨⟨ck4, lk4, rfl, -, -, -⟩, ⟨cp4, lp4, rfl, -, -, -⟩, ⟨ce4, le4, rfl, -, -, -⟩⟩ := hB4
    clear hb4 HX3 y0 y1 y2
    have HB5 : Hid (OwnAt w4 (w4.alloc (.cells #[.slice ck4 ks.length lk4, .slice cp4 ps.length lp4, .slice ce4 es.length le4] 49)) [[.slice ck4 ks.length lk4, .slice cp4 ps.length lp4, .slice ce4 es.length le4]]) := (OwnAt.start w4).push rfl _ _
    go_wp2_with fail
    refine (bookOk_any _ _ _ ks ps es _ (HB4.out.keep HB5.out.below) NB.out SB.out).mono ?_
    rintro e w6 ⟨rfl, hb6⟩
    have HX6 : Hid (OwnAt w w6 _) := (HX4.out.call HB5.out.below).call hb6
    have HB6 : Hid (OwnAt w4 w6 _) := HB5.out.call hb6
    have HT6 : Hid (BookAt w6 (.slice ck4 ks.length lk4) (.slice cp4 ps.length lp4) (.slice ce4 es.length le4) ks ps es) := HB4.out.keep HB6.out.below
    clear hb6 HX4 HB5 HB4
    generalize bookB ks ps es = ok
    have hok : (ok != ok) = false := by simp
    go_wp2
    go_region_held3 (fun w' => ((w'.cell? ⟨w.heap.size, 0, none⟩ = some (.slice ak ks.length ck) ∧ w'.cell? ⟨w.heap.size, 1, none⟩ = some (.slice ap ps.length cp) ∧ w'.cell? ⟨w.heap.size, 2, none⟩ = some (.slice ae es.length ce)) ∧ (w'.cell? ⟨w4.heap.size, 0, none⟩ = some (.slice ck4 ks.length lk4) ∧ w'.cell? ⟨w4.heap.size, 1, none⟩ = some (.slice cp4 ps.length lp4) ∧ w'.cell? ⟨w4.heap.size, 2, none⟩ = some (.slice ce4 es.length le4))) ∧ Below w6.heap.size w6 w')
      (first
        | (have ha := HX6.out.call (Below.refl _ w6).drew; have hc := HB6.out.call (Below.refl _ w6).drew; exact ⟨⟨⟨(ha.has 0 _ rfl 0 _ rfl).1, (ha.has 0 _ rfl 1 _ rfl).1, (ha.has 0 _ rfl 2 _ rfl).1⟩, (hc.has 0 _ rfl 0 _ rfl).1, (hc.has 0 _ rfl 1 _ rfl).1, (hc.has 0 _ rfl 2 _ rfl).1⟩, (Below.refl _ _).drew⟩)
        | (obtain ⟨⟨⟨s0, s1, s2⟩, s3, s4, s5⟩, s6⟩ := ‹_ ∧ Below w6.heap.size w6 _›; exact ⟨⟨⟨cell_keep hb7 (Nat.le_refl _) s0, cell_keep hb7 (Nat.le_refl _) s1, cell_keep hb7 (Nat.le_refl _) s2⟩, cell_keep hb7 (Nat.le_refl _) s3, cell_keep hb7 (Nat.le_refl _) s4, cell_keep hb7 (Nat.le_refl _) s5⟩, below_step s6 hb7⟩))
      (first
        | (go_at_call 19; refine (GB.out _ (below_step HX6.out.below (‹_ ∧ Below w6.heap.size w6 _›).2)).mono ?_; rintro e w7 ⟨zk, zp, ze, rfl, hB7, hb7⟩)
        | (go_at_call 21; refine (eqBook_any _ _ _ _ _ _ ks ps es _ (HT6.out.keep (‹_ ∧ Below w6.heap.size w6 _›).2) hB7).mono ?_; rintro e w7 ⟨rfl, hb7⟩))
    go_wp2
    go_ret
    exact ⟨rfl, below_step HX6.out.below (‹_ ∧ Below w6.heap.size w6 w7›).2⟩
  · rw [szR_neg hsz]
    go_wp2
    go_ret
    exact ⟨rfl, HX1.out.below⟩
end Go.Proofs.Ytfjblenkcfdbiaa
