
/-
  The law FnExactPlanChangeOk answers true at every base and every change, and turns nothing that was there.
-/
import Derived.Test.YtfjblenkcfdbiaaFits4
import Derived.Test.YtfjblenkcfdbiaaFitsS2
import Derived.Test.YtfjblenkcfdbiaaBoxes
namespace Go.Proofs.Ytfjblenkcfdbiaa
open Go.RowKit

theorem cells2 {w w' : World} {ak ap : Option Addr} {nk np ck cp : Nat} {f v : ByteArray} {what num : Int} (h : BoxesAt w w' [[.slice ak nk ck, .slice ap np cp], [.string f, .int .i64 what, .int .i64 num, .string v]]) :
    (w'.cell? ⟨w.heap.size, 0, none⟩ = some (.slice ak nk ck) ∧ w'.cell? ⟨w.heap.size, 1, none⟩ = some (.slice ap np cp) ∧ w'.cell? ⟨w.heap.size + 1, 0, none⟩ = some (.string f) ∧ w'.cell? ⟨w.heap.size + 1, 1, none⟩ = some (.int .i64 what) ∧ w'.cell? ⟨w.heap.size + 1, 2, none⟩ = some (.int .i64 num) ∧ w'.cell? ⟨w.heap.size + 1, 3, none⟩ = some (.string v)) ∧ BoxesAt w w' [[.slice ak nk ck, .slice ap np cp], [.string f, .int .i64 what, .int .i64 num, .string v]] :=
  ⟨⟨h.has 0 _ rfl 0 _ rfl, h.has 0 _ rfl 1 _ rfl, h.has 1 _ rfl 0 _ rfl, h.has 1 _ rfl 1 _ rfl, h.has 1 _ rfl 2 _ rfl, h.has 1 _ rfl 3 _ rfl⟩, h⟩

set_option maxHeartbeats 6400000 in
theorem lawChangeOk_walk (vk vp : Value) (ks ps : List Tri) (c : Chg) (w : World) (hk : TrisAt w vk ks) (hp : TrisAt w vp ps) (nk : Names ks) (np : Names ps) (hfm : c.f.size ≤ maxLen) (hvm : c.v.size ≤ maxLen) :
    Calls Try.prog 4 #[.agg #[vk, vp], .agg #[.string c.f, .int .i64 c.what, .int .i64 c.num, .string c.v]] w fun e w' => e = .returned (.bool true) ∧ Below w.heap.size w w' := by
  have HK := hk; have HP := hp
  obtain ⟨ak, ck, rfl, -, -, -⟩ := hk
  obtain ⟨ap, cp, rfl, -, -, -⟩ := hp
  have HK1 : Hid (TrisAt w (.slice ak ks.length ck) ks) := HK
  have HP1 : Hid (TrisAt w (.slice ap ps.length cp) ps) := HP
  have NK : Hid (Names ks) := nk
  have NP : Hid (Names ps) := np
  have HF : Hid (c.f.size ≤ maxLen ∧ c.v.size ≤ maxLen) := ⟨hfm, hvm⟩
  clear HK HP nk np hfm hvm
  obtain ⟨f, what, num, v⟩ := c
  dsimp only at *
  have HX0 : Hid (BoxesAt w ((w.alloc (.cells #[.slice ak ks.length ck, .slice ap ps.length cp] 25)).alloc (.cells #[.string f, .int .i64 what, .int .i64 num, .string v] 36)) [[.slice ak ks.length ck, .slice ap ps.length cp], [.string f, .int .i64 what, .int .i64 num, .string v]]) :=
    ((BoxesAt.start w).push rfl _ _).push (by simp) _ _
  go_enter Try.func4, Try.ntmps4
  go_wp2_with fail
  refine (szBase_any _ _ ks ps _ _ (HK1.out.keep HX0.out.below) (HP1.out.keep HX0.out.below) NK.out NP.out (by omega) (by omega)).mono ?_
  rintro e w1 ⟨rfl, hb1⟩
  have hx1 := HX0.out.call hb1
  have HX1 : Hid (BoxesAt w w1 [[.slice ak ks.length ck, .slice ap ps.length cp], [.string f, .int .i64 what, .int .i64 num, .string v]]) := hx1
  clear hx1 hb1 HX0
  by_cases hsz : ((szTris ks + szTris ps : Nat) : Int) ≤ 1048576
  · rw [szR_pos hsz]
    have lk : ks.length ≤ 1048576 := by unfold szTris at hsz; omega
    have lp : ps.length ≤ 1048576 := by unfold szTris at hsz; omega
    have hge : 0 ≤ 1048576 - ((szTris ks + szTris ps : Nat) : Int) := by omega
    have hle : 1048576 - ((szTris ks + szTris ps : Nat) : Int) ≤ 1048576 := by omega
    generalize 1048576 - ((szTris ks + szTris ps : Nat) : Int) = r at *
    clear hsz
    have y0 : w1.cell? ⟨w.heap.size + 1, 0, none⟩ = some (.string f) := HX1.out.has 1 _ rfl 0 _ rfl
    have y1 : w1.cell? ⟨w.heap.size + 1, 1, none⟩ = some (.int .i64 what) := HX1.out.has 1 _ rfl 1 _ rfl
    have y2 : w1.cell? ⟨w.heap.size + 1, 2, none⟩ = some (.int .i64 num) := HX1.out.has 1 _ rfl 2 _ rfl
    have y3 : w1.cell? ⟨w.heap.size + 1, 3, none⟩ = some (.string v) := HX1.out.has 1 _ rfl 3 _ rfl
    go_wp2_with fail
    refine (szChange_any ⟨f, what, num, v⟩ r _ HF.out.1 HF.out.2 hge hle).mono ?_
    rintro e w2 ⟨rfl, hb2⟩
    have hx2 := HX1.out.call hb2
    have HX2 : Hid (BoxesAt w w2 [[.slice ak ks.length ck, .slice ap ps.length cp], [.string f, .int .i64 what, .int .i64 num, .string v]]) := hx2
    clear hx2 hb2 HX1 y0 y1 y2 y3
    dsimp only
    by_cases hs2 : ((f.size + v.size : Nat) : Int) ≤ r
    · rw [szR_pos hs2]
      have hge2 : 0 ≤ r - ((f.size + v.size : Nat) : Int) := by omega
      have hf : f.size ≤ 1048576 := by omega
      have hv : v.size ≤ 1048576 := by omega
      generalize r - ((f.size + v.size : Nat) : Int) = r2 at *
      clear hs2
      have GB : Hid (∀ wx : World, Below w.heap.size w wx → Calls Try.prog 10 #[.agg #[.slice ak ks.length ck, .slice ap ps.length cp]] wx fun e w' => ∃ uk up, e = .returned (.agg #[uk, up]) ∧ TrisAt w' uk ks ∧ TrisAt w' up ps ∧ Below wx.heap.size wx w') := fun wx hx => toBase_any _ _ ks ps wx (HK1.out.keep hx) (HP1.out.keep hx) lk lp
      have GC : Hid (∀ wx : World, Calls Try.prog 15 #[.agg #[.string f, .int .i64 what, .int .i64 num, .string v]] wx fun e w' => e = .returned (.agg #[.string f, .int .i64 what, .int .i64 num, .string v]) ∧ Below wx.heap.size wx w') := fun wx => toChange_any ⟨f, what, num, v⟩ wx
      go_upto_region 8 with fail
      go_cut [6] (fun s6 wc => s6 = .bool (baseB ks ps && fitB ks ps ⟨f, what, num, v⟩) ∧ BoxesAt w wc [[.slice ak ks.length ck, .slice ap ps.length cp], [.string f, .int .i64 what, .int .i64 num, .string v]])
      case first =>
        go_region_held3 (fun w' => (w'.cell? ⟨w.heap.size, 0, none⟩ = some (.slice ak ks.length ck) ∧ w'.cell? ⟨w.heap.size, 1, none⟩ = some (.slice ap ps.length cp) ∧ w'.cell? ⟨w.heap.size + 1, 0, none⟩ = some (.string f) ∧ w'.cell? ⟨w.heap.size + 1, 1, none⟩ = some (.int .i64 what) ∧ w'.cell? ⟨w.heap.size + 1, 2, none⟩ = some (.int .i64 num) ∧ w'.cell? ⟨w.heap.size + 1, 3, none⟩ = some (.string v)) ∧ BoxesAt w w' [[.slice ak ks.length ck, .slice ap ps.length cp], [.string f, .int .i64 what, .int .i64 num, .string v]])
          (first | (refine cells2 ?_; exact HX2.out.call (Below.refl _ _).drew) | (refine cells2 ?_; exact (‹_ ∧ BoxesAt w _ _›).2.call hb3))
          (first | (go_at_call 10; refine (GB.out _ (‹_ ∧ BoxesAt w _ _›).2.below).mono ?_; rintro e w3 ⟨uk, up, rfl, tk, tp, hb3⟩) | (go_at_call 15; refine (GC.out _).mono ?_; rintro e w3 ⟨rfl, hb3⟩) | (go_at_call 14; refine (specChangeOk_any _ _ ks ps ⟨f, what, num, v⟩ _ (by first | exact tk | exact tk.keep hb3) (by first | exact tp | exact tp.keep hb3) NK.out NP.out hf hv).mono ?_; rintro e w3 ⟨rfl, hb3⟩))
        all_goals (go_wp2_with fail; go_meet; exact ⟨rfl, (‹_ ∧ BoxesAt w _ _›).2⟩)
      case rest =>
        obtain ⟨rfl, hbx⟩ := hcut
        have HX3 : Hid (BoxesAt w wc [[.slice ak ks.length ck, .slice ap ps.length cp], [.string f, .int .i64 what, .int .i64 num, .string v]]) := hbx
        obtain ⟨⟨x0, x1, y0, y1, y2, y3⟩, -⟩ := cells2 hbx
        clear hbx HX2
        go_wp2_with fail
        refine (GB.out _ HX3.out.below).mono ?_
        rintro e w4 ⟨uk, up, rfl, tk, tp, hb4⟩
        have HT4 : Hid (TrisAt w4 uk ks ∧ TrisAt w4 up ps) := ⟨tk, tp⟩
        have HX4 : Hid (BoxesAt w w4 [[.slice ak ks.length ck, .slice ap ps.length cp], [.string f, .int .i64 what, .int .i64 num, .string v]]) := HX3.out.call hb4
        obtain ⟨xa, xc, hxe, -, -, -⟩ := tk
        obtain ⟨ya, yc, hye, -, -, -⟩ := tp
        subst hxe hye
        have hd0 : (w4.alloc (.cells #[.slice xa ks.length xc, .slice ya ps.length yc] 31)).cell? ⟨w4.heap.size, 0, none⟩ = some (.slice xa ks.length xc) := by simp
        have hd1 : (w4.alloc (.cells #[.slice xa ks.length xc, .slice ya ps.length yc] 31)).cell? ⟨w4.heap.size, 1, none⟩ = some (.slice ya ps.length yc) := by simp
        have HB5 : Hid (Below w4.heap.size w4 (w4.alloc (.cells #[.slice xa ks.length xc, .slice ya ps.length yc] 31))) := (Below.refl _ _).alloc (Nat.le_refl _) _
        have HZ5 : Hid (w4.heap.size < (w4.alloc (.cells #[.slice xa ks.length xc, .slice ya ps.length yc] 31)).heap.size) := by show _ < _; simp
        have HD : Hid ((w4.alloc (.cells #[.slice xa ks.length xc, .slice ya ps.length yc] 31)).cell? ⟨w4.heap.size, 0, none⟩ = some (.slice xa ks.length xc) ∧ (w4.alloc (.cells #[.slice xa ks.length xc, .slice ya ps.length yc] 31)).cell? ⟨w4.heap.size, 1, none⟩ = some (.slice ya ps.length yc)) := ⟨hd0, hd1⟩
        clear hb4 x0 x1 y0 y1 y2 y3 HX3 hd0 hd1
        go_upto_region 10 with fail
        generalize w4.alloc (.cells #[.slice xa ks.length xc, .slice ya ps.length yc] 31) = w5 at *
        have HX5 : Hid (BoxesAt w w5 [[.slice ak ks.length ck, .slice ap ps.length cp], [.string f, .int .i64 what, .int .i64 num, .string v]]) := HX4.out.call HB5.out
        have HT5 : Hid (TrisAt w5 (.slice xa ks.length xc) ks ∧ TrisAt w5 (.slice ya ps.length yc) ps) := ⟨HT4.out.1.keep HB5.out, HT4.out.2.keep HB5.out⟩
        clear HX4 HT4
        go_cut [8] (fun s8 wc => s8 = .bool (baseB ks ps && fitB ks ps ⟨f, what, num, v⟩) ∧ BoxesAt w wc [[.slice ak ks.length ck, .slice ap ps.length cp], [.string f, .int .i64 what, .int .i64 num, .string v]] ∧ Below w5.heap.size w5 wc)
        case first =>
          go_region_held3 (fun w' => ((w'.cell? ⟨w4.heap.size, 0, none⟩ = some (.slice xa ks.length xc) ∧ w'.cell? ⟨w4.heap.size, 1, none⟩ = some (.slice ya ps.length yc)) ∧ (w'.cell? ⟨w.heap.size + 1, 0, none⟩ = some (.string f) ∧ w'.cell? ⟨w.heap.size + 1, 1, none⟩ = some (.int .i64 what) ∧ w'.cell? ⟨w.heap.size + 1, 2, none⟩ = some (.int .i64 num) ∧ w'.cell? ⟨w.heap.size + 1, 3, none⟩ = some (.string v))) ∧ (BoxesAt w w' [[.slice ak ks.length ck, .slice ap ps.length cp], [.string f, .int .i64 what, .int .i64 num, .string v]] ∧ Below w5.heap.size w5 w'))
            (first | exact ⟨⟨⟨by simpa using HD.out.1, by simpa using HD.out.2⟩, (cells2 (HX5.out.call (Below.refl _ _).drew)).1.2.2⟩, HX5.out.call (Below.refl _ _).drew, (Below.refl _ _).drew⟩ | (obtain ⟨⟨⟨s0, s1⟩, -⟩, s2, s3⟩ := ‹_ ∧ BoxesAt w _ _ ∧ _›; exact ⟨⟨⟨cell_keep hb6 (Nat.le_refl _) s0, cell_keep hb6 (Nat.le_refl _) s1⟩, (cells2 (s2.call hb6)).1.2.2⟩, s2.call hb6, below_step s3 hb6⟩))
            (first | (go_at_call 15; refine (GC.out _).mono ?_; rintro e w6 ⟨rfl, hb6⟩) | (go_at_call 16; refine (changeOk_any _ _ ks ps ⟨f, what, num, v⟩ _ (HT5.out.1.keep (‹_ ∧ BoxesAt w _ _ ∧ _›).2.2) (HT5.out.2.keep (‹_ ∧ BoxesAt w _ _ ∧ _›).2.2) NK.out NP.out hf hv).mono ?_; rintro e w6 ⟨rfl, hb6⟩))
          all_goals (go_wp2_with fail; go_meet; exact ⟨rfl, (‹_ ∧ BoxesAt w _ _ ∧ _›).2⟩)
        case rest =>
          obtain ⟨rfl, hbx, hbw⟩ := hcut
          have HX6 : Hid (BoxesAt w wc [[.slice ak ks.length ck, .slice ap ps.length cp], [.string f, .int .i64 what, .int .i64 num, .string v]]) := hbx
          have HT6 : Hid (TrisAt wc (.slice xa ks.length xc) ks ∧ TrisAt wc (.slice ya ps.length yc) ps) := ⟨HT5.out.1.keep hbw, HT5.out.2.keep hbw⟩
          have HD6 : Hid (wc.cell? ⟨w4.heap.size, 0, none⟩ = some (.slice xa ks.length xc) ∧ wc.cell? ⟨w4.heap.size, 1, none⟩ = some (.slice ya ps.length yc)) := ⟨cell_keep hbw (Nat.le_refl _) HD.out.1, cell_keep hbw (Nat.le_refl _) HD.out.2⟩
          clear hbx hbw HD HX5 HT5
          generalize (baseB ks ps && fitB ks ps ⟨f, what, num, v⟩) = ok
          have hok : (ok != ok) = false := by simp
          go_wp2
          go_region_held3 (fun w' => ((w'.cell? ⟨w4.heap.size, 0, none⟩ = some (.slice xa ks.length xc) ∧ w'.cell? ⟨w4.heap.size, 1, none⟩ = some (.slice ya ps.length yc)) ∧ (w'.cell? ⟨w.heap.size, 0, none⟩ = some (.slice ak ks.length ck) ∧ w'.cell? ⟨w.heap.size, 1, none⟩ = some (.slice ap ps.length cp))) ∧ (BoxesAt w w' [[.slice ak ks.length ck, .slice ap ps.length cp], [.string f, .int .i64 what, .int .i64 num, .string v]] ∧ Below wc.heap.size wc w'))
            (first | exact ⟨⟨⟨by simpa using HD6.out.1, by simpa using HD6.out.2⟩, ⟨by simpa using (cells2 HX6.out).1.1, by simpa using (cells2 HX6.out).1.2.1⟩⟩, HX6.out.call (Below.refl _ _).drew, (Below.refl _ _).drew⟩ | (obtain ⟨⟨⟨s0, s1⟩, r0, r1⟩, s2, s3⟩ := ‹_ ∧ BoxesAt w _ _ ∧ _›; exact ⟨⟨⟨cell_keep hb7 (Nat.le_refl _) s0, cell_keep hb7 (Nat.le_refl _) s1⟩, ⟨cell_keep hb7 (Nat.le_refl _) r0, cell_keep hb7 (Nat.le_refl _) r1⟩⟩, s2.call hb7, below_step s3 hb7⟩))
            (first | (go_at_call 10; refine (GB.out _ (‹_ ∧ BoxesAt w _ _ ∧ _›).2.1.below).mono ?_; rintro e w7 ⟨zk, zp, rfl, uk7, up7, hb7⟩) | (go_at_call 12; refine (eqBase_any _ _ _ _ ks ps _ (HT6.out.1.keep (‹_ ∧ BoxesAt w _ _ ∧ _›).2.2) (HT6.out.2.keep (‹_ ∧ BoxesAt w _ _ ∧ _›).2.2) uk7 up7).mono ?_; rintro e w7 ⟨rfl, hb7⟩))
          go_wp2
          go_ret
          exact ⟨rfl, (‹_ ∧ BoxesAt w w7 _ ∧ _›).2.1.below⟩
    · rw [szR_neg hs2]
      go_wp2
      go_ret
      exact ⟨rfl, HX2.out.below⟩
  · rw [szR_neg hsz]
    go_wp2
    go_ret
    exact ⟨rfl, HX1.out.below⟩
end Go.Proofs.Ytfjblenkcfdbiaa
