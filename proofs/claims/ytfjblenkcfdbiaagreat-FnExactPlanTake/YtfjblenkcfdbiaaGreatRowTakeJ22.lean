/-
  For the proof of take_holds: part 22 (Book7, NewsS).
-/
import Derived.Test.YtfjblenkcfdbiaaGreatRowTakeJ21
/-
  The specification: an entry, a book that is ok.
-/
namespace Go.Proofs.YtfjblenkcfdbiaaGreat
open Go.RowKit
attribute [local go_sem] Later.cell Later.frozen

def fldRound (ks ps : List Tri) (n : ByteArray) (l : List Fld) (i : Nat) : Bool := (baseB ks ps && fitB ks ps (chgOf n (fat l i))) && ascF l i
def entB (ks ps : List Tri) (n : ByteArray) (l : List Fld) : Bool := nameB n && (decide (0 < l.length) && allB l.length (fldRound ks ps n l))
theorem book_eq (ks ps : List Tri) (es : List Ent) : bookB ks ps es = (baseB ks ps && (decide (es.length ≤ 12) && allB es.length fun i => entB ks ps (eat es i).name (eat es i).fs && ascE es i)) := by
  unfold bookB namesE
  cases hb : baseB ks ps
  · rfl
  · rw [Bool.true_and, Bool.true_and, Bool.and_assoc, ← allB_and]
    congr 1
    refine allB_congr fun j _ => ?_
    have e : allB (eat es j).fs.length (fldRound ks ps (eat es j).name (eat es j).fs) = allB (eat es j).fs.length fun i => ascF (eat es j).fs i && fitB ks ps (chgOf (eat es j).name (fat (eat es j).fs i)) :=
      allB_congr fun i _ => by unfold fldRound; rw [hb, Bool.true_and, Bool.and_comm]
    unfold entB fieldsB
    rw [e]
    generalize (allB (eat es j).fs.length fun i => ascF (eat es j).fs i && fitB ks ps (chgOf (eat es j).name (fat (eat es j).fs i))) = q
    generalize decide (0 < (eat es j).fs.length) = r
    cases nameB (eat es j).name <;> cases ascE es j <;> cases q <;> cases r <;> rfl

set_option maxRecDepth 100000 in
set_option maxHeartbeats 3200000 in
theorem l3EntryOk_any (vk vp fv : Value) (ks ps : List Tri) (n : ByteArray) (l : List Fld) (w : World) (hk : TrisAt w vk ks) (hp : TrisAt w vp ps) (nk : Names ks) (np : Names ps) (hv : FldsAt w fv l) (hn : n.size ≤ 1048576) (hs : ∀ f ∈ l, f.v.size ≤ 1048576) :
    Calls Tryz.prog 54 #[.agg #[vk, vp], .agg #[.string n, fv]] w fun e w' => e = .returned (.bool (entB ks ps n l)) ∧ Below w.heap.size w w' := by
  have HKP : Hid ((TrisAt w vk ks ∧ TrisAt w vp ps) ∧ (Names ks ∧ Names ps)) := ⟨⟨hk, hp⟩, nk, np⟩
  obtain ⟨ak, ck, rfl, -, -, -⟩ := hk
  obtain ⟨ap, cp, rfl, -, -, -⟩ := hp
  obtain ⟨a, cap, rfl, hlc, hcm, hc⟩ := hv
  unfold maxLen at hcm
  have HC : Hid (∀ i f, l[i]? = some f → ∃ b off, a = some ⟨b, off, none⟩ ∧ FldAt w b (off + i * 3) f) := hc
  have HS : Hid (∀ f ∈ l, f.v.size ≤ 1048576) := hs
  clear hc hs nk np
  have HO0 : Hid (OwnAt w ((w.alloc (.cells #[.slice ak ks.length ck, .slice ap ps.length cp] 36)).alloc (.cells #[.string n, .slice a l.length cap] 73)) [[.slice ak ks.length ck, .slice ap ps.length cp], [.string n, .slice a l.length cap]]) := ((OwnAt.start w).push rfl _ _).push (by simp) _ _
  have HE : Hid (entB ks ps n l = (nameB n && (decide (0 < l.length) && allB l.length (fldRound ks ps n l)))) := rfl
  go_enter Tryz.func54, Tryz.ntmps54
  go_wp2_with fail
  refine (l1NameOk_any n _ (by unfold maxLen; omega)).mono ?_
  generalize nameB n = nb at *
  rintro e w1 ⟨rfl, rfl⟩
  cases nb
  · go_wp2
    go_ret
    exact ⟨ret_bool (by rw [HE.out]; rfl), HO0.out.below⟩
  by_cases hz : l.length = 0
  · have hz' : (((l.length : Nat) : Int) == 0) = true := by simp [hz]
    have HF : Hid (entB ks ps n l = false) := by show _ = _; rw [HE.out]; simp [hz]
    clear hz
    go_wp2
    go_ret
    exact ⟨ret_bool HF.out.symm, HO0.out.below⟩
  have hz' : (((l.length : Nat) : Int) == 0) = false := by rw [beq_eq_false_iff_ne]; omega
  have HE2 : Hid (entB ks ps n l = allB l.length (fldRound ks ps n l)) := by
    show _ = _
    have : decide (0 < l.length) = true := by simp; omega
    rw [HE.out, this]; rfl
  clear HE hz
  go_wp2
  go_loopw [5, 6] (fun i _ wr => ∃ k : Nat, k ≤ l.length ∧ i = .int .i64 k ∧ OwnAt w wr [[.slice ak ks.length ck, .slice ap ps.length cp], [.string n, .slice a l.length cap]] ∧ Hid (∀ j, j < k → fldRound ks ps n l j = true)) (fun i _ _ => l.length - (intOf i).toNat)
  case atStart => exact ⟨0, Nat.zero_le _, rfl, HO0.out, fun j hj => absurd hj (Nat.not_lt_zero _)⟩
  case round =>
    obtain ⟨k, hk, rfl, ho, HA⟩ := hrel
    have HO1 : Hid (OwnAt w wr [[.slice ak ks.length ck, .slice ap ps.length cp], [.string n, .slice a l.length cap]]) := ho
    have y0 : wr.cell? ⟨w.heap.size + 1, 0, none⟩ = some (.string n) := (HO1.out.has 1 _ rfl 0 _ rfl).1
    have y1 : wr.cell? ⟨w.heap.size + 1, 1, none⟩ = some (.slice a l.length cap) := (HO1.out.has 1 _ rfl 1 _ rfl).1
    by_cases hlt : k < l.length
    · obtain ⟨b, off, rfl, hc⟩ := HC.out k _ (fat_get hlt)
      obtain ⟨d0, d1, d2⟩ := hc.keep ho.below (Nat.le_refl _)
      have hbz : b < wr.heap.size := lt_of_cell d0
      have hsk : (fat l k).v.size ≤ 1048576 := HS.out _ (List.mem_of_getElem? (fat_get hlt))
      have hk0 : (0 : Int) ≤ (k : Int) := by omega
      have hk1 : (k : Int) < (l.length : Int) := by omega
      have BAD : Hid (fldRound ks ps n l k = false → entB ks ps n l = false) := fun h => by rw [HE2.out, allB_false hlt h]
      have HB2 : Hid (Below wr.heap.size wr (wr.alloc (.cells #[.int .i64 (fat l k).what, .int .i64 (fat l k).num, .string (fat l k).v] 62))) := (Below.refl _ _).alloc (Nat.le_refl _) _
      have HO2 : Hid (OwnAt w (wr.alloc (.cells #[.int .i64 (fat l k).what, .int .i64 (fat l k).num, .string (fat l k).v] 62)) [[.slice ak ks.length ck, .slice ap ps.length cp], [.string n, .slice (some ⟨b, off, none⟩) l.length cap]]) := ho.call HB2.out
      have HF2 : Hid (FldAt (wr.alloc (.cells #[.int .i64 (fat l k).what, .int .i64 (fat l k).num, .string (fat l k).v] 62)) wr.heap.size 0 (fat l k)) := ⟨by simp, by simp, by simp⟩
      have HFIT : Hid (∀ wx : World, Below w.heap.size w wx → Calls Tryz.prog 26 #[.agg #[.slice ak ks.length ck, .slice ap ps.length cp], .agg #[.string n, .int .i64 (fat l k).what, .int .i64 (fat l k).num, .string (fat l k).v]] wx fun e w' => e = .returned (.bool (baseB ks ps && fitB ks ps (chgOf n (fat l k)))) ∧ Below wx.heap.size wx w') := fun wx hx => specChangeOk_any _ _ ks ps (chgOf n (fat l k)) wx (HKP.out.1.1.keep hx) (HKP.out.1.2.keep hx) HKP.out.2.1 HKP.out.2.2 hn hsk
      have MID : Hid (0 < k → ∃ m, k = m + 1 ∧ FldAt wr b (off + m * 3) (fat l m) ∧ ascF l k = !decide ((fat l k).what ≤ (fat l m).what)) := fun hz => by
        obtain ⟨m, rfl⟩ : ∃ m, k = m + 1 := ⟨k - 1, by omega⟩
        obtain ⟨b', off', hbo, hcm'⟩ := HC.out m _ (fat_get (by omega))
        cases hbo
        exact ⟨m, rfl, hcm'.keep ho.below (Nat.le_refl _), by simp [ascF]⟩
      have KR : Hid (fldRound ks ps n l k = ((baseB ks ps && fitB ks ps (chgOf n (fat l k))) && ascF l k)) := rfl
      clear ho hc
      go_upto_region 7 with fail
      generalize wr.alloc (.cells #[.int .i64 (fat l k).what, .int .i64 (fat l k).num, .string (fat l k).v] 62) = w2 at *
      clear y0 y1 d0 d1 d2
      have e0 : w2.cell? ⟨w.heap.size, 0, none⟩ = some (.slice ak ks.length ck) := (HO2.out.has 0 _ rfl 0 _ rfl).1
      have e1 : w2.cell? ⟨w.heap.size, 1, none⟩ = some (.slice ap ps.length cp) := (HO2.out.has 0 _ rfl 1 _ rfl).1
      have e2 : w2.cell? ⟨w.heap.size + 1, 0, none⟩ = some (.string n) := (HO2.out.has 1 _ rfl 0 _ rfl).1
      have e3 : w2.cell? ⟨w.heap.size + 1, 1, none⟩ = some (.slice (some ⟨b, off, none⟩) l.length cap) := (HO2.out.has 1 _ rfl 1 _ rfl).1
      have ez : w.heap.size + 1 < w2.heap.size := lt_of_cell e2
      have ey : w.heap.size < w2.heap.size := lt_of_cell e0
      obtain ⟨n0, n1, n2⟩ := HF2.out
      simp only [Nat.zero_add] at n1 n2
      have nz : wr.heap.size < w2.heap.size := lt_of_cell n0
      have hne := Later.some w2
      have hbz2 : b < w2.heap.size := by have := HB2.out.size; omega
      have GF : Hid (∀ (y : Later w2), Calls Tryz.prog 26 #[.agg #[.slice ak ks.length ck, .slice ap ps.length cp], .agg #[.string n, .int .i64 (fat l k).what, .int .i64 (fat l k).num, .string (fat l k).v]] y.val fun e w'' => e = .returned (.bool (baseB ks ps && fitB ks ps (chgOf n (fat l k)))) ∧ ∃ z : Later w2, w'' = z.val) := fun y => Calls.later (HFIT.out y.val (below_step HO2.out.below y.below))
      clear HFIT HF2
      generalize (baseB ks ps && fitB ks ps (chgOf n (fat l k))) = ft at *
      cases ft
      · refine wp_region_later (by kernel_rfl) (by kernel_rfl) ?_
        repeat (go_big_quiet_step (first | (go_at_call 26; exact GF.out _)))
        refine wpQuiet_nil ?_
        rintro _ ⟨x, rfl⟩
        go_wp2
        go_ret
        exact ⟨ret_bool (BAD.out (by rw [KR.out]; rfl)).symm, below_step HO2.out.below x.below⟩
      · by_cases hz : 0 < k
        · obtain ⟨m, hkm, hf, hh⟩ := MID.out hz
          have HH : Hid (ascF l k = !decide ((fat l k).what ≤ (fat l m).what)) := hh
          obtain ⟨g0, g1, g2⟩ := hf.keep HB2.out (Nat.le_refl _)
          have hz' : decide (0 < k) = true := by simp [hz]
          have hi0 : (0 : Int) ≤ (m : Int) := by omega
          have hi1 : (m : Int) < (l.length : Int) := by omega
          have hi2 : (0 : Int) < (m : Int) + 1 := by omega
          have hw1 : IntKind.i64.wrap (m : Int) = (m : Int) := by rw [IntKind.wrap_i64]; omega
          have hw2 : IntKind.i64.wrap ((m : Int) + 1 - 1) = (m : Int) := by rw [IntKind.wrap_i64]; omega
          have HKM : Hid (k = m + 1) := hkm
          clear hh hf
          subst hkm
          by_cases hq : (fat l (m + 1)).what ≤ (fat l m).what
          · have hq' : decide ((fat l (m + 1)).what ≤ (fat l m).what) = true := by simp [hq]
            have HQ : Hid (ascF l (m + 1) = false) := by show _ = _; rw [HH.out, hq']; rfl
            refine wp_region_later (by kernel_rfl) (by kernel_rfl) ?_
            repeat (go_big_quiet_step (first | (go_at_call 26; exact GF.out _)))
            refine wpQuiet_nil ?_
            rintro _ ⟨x, rfl⟩
            go_wp2
            go_ret
            exact ⟨ret_bool (BAD.out (by rw [KR.out, HQ.out]; rfl)).symm, below_step HO2.out.below x.below⟩
          · have hq' : decide ((fat l (m + 1)).what ≤ (fat l m).what) = false := by simp; omega
            have HQ : Hid (ascF l (m + 1) = true) := by show _ = _; rw [HH.out, hq']; rfl
            refine wp_region_later (by kernel_rfl) (by kernel_rfl) ?_
            repeat (go_big_quiet_step (first | (go_at_call 26; exact GF.out _)))
            refine wpQuiet_nil ?_
            rintro _ ⟨x, rfl⟩
            go_wp2
            exact ⟨⟨m + 1 + 1, by omega, by go_num, HO2.out.call x.below, fun j hj => if e : j = m + 1 then by rw [e, KR.out, HQ.out]; rfl else HA.out j (by omega)⟩, by simp [intOf]; omega⟩
        · have hz' : decide (0 < k) = false := by simp; omega
          have HQ : Hid (ascF l k = true) := by
            show ascF l k = true
            obtain rfl : k = 0 := by omega
            exact ascF_zero l
          refine wp_region_later (by kernel_rfl) (by kernel_rfl) ?_
          repeat (go_big_quiet_step (first | (go_at_call 26; exact GF.out _)))
          refine wpQuiet_nil ?_
          rintro _ ⟨x, rfl⟩
          go_wp2
          exact ⟨⟨k + 1, by omega, by go_num, HO2.out.call x.below, fun j hj => if e : j = k then by rw [e, KR.out, HQ.out]; rfl else HA.out j (by omega)⟩, by simp [intOf]; omega⟩
    · clear ho
      go_wp2
      go_ret
      exact ⟨ret_bool (by rw [HE2.out]; exact (allB_true fun j hj => HA.out j (by omega)).symm), HO1.out.below⟩

set_option maxRecDepth 100000 in
set_option maxHeartbeats 3200000 in
theorem specBookOk_any (vk vp ve : Value) (ks ps : List Tri) (es : List Ent) (w : World) (hB : BookAt w vk vp ve ks ps es) (nB : BNames ks ps es) (sB : BSmall ks ps es) :
    Calls Tryz.prog 24 #[.agg #[vk, vp, ve]] w fun e w' => e = .returned (.bool (bookB ks ps es)) ∧ Below w.heap.size w w' := by
  have HB : Hid (BookAt w vk vp ve ks ps es) := hB
  have NB : Hid (BNames ks ps es) := nB
  have SB : Hid (BSmall ks ps es) := sB
  obtain ⟨⟨ak, ck, rfl, -, -, -⟩, ⟨ap, cp, rfl, -, -, -⟩, ⟨ae, ce, rfl, hlc, hcm, hc⟩⟩ := hB
  unfold maxLen at hcm
  have HC : Hid (∀ i f, es[i]? = some f → ∃ b off, ae = some ⟨b, off, none⟩ ∧ EntAt w b (off + i * 2) f) := hc
  clear nB sB hc
  have HX0 : Hid (OwnAt w (w.alloc (.cells #[.slice ak ks.length ck, .slice ap ps.length cp, .slice ae es.length ce] 39)) [[.slice ak ks.length ck, .slice ap ps.length cp, .slice ae es.length ce]]) := (OwnAt.start w).push rfl _ _
  have HE : Hid (bookB ks ps es = (baseB ks ps && (decide (es.length ≤ 12) && allB es.length fun i => entB ks ps (eat es i).name (eat es i).fs && ascE es i))) := book_eq ks ps es
  go_enter Tryz.func24, Tryz.ntmps24
  go_wp2_with fail
  refine (specBase_any _ _ ks ps _ (HB.out.k.keep HX0.out.below) (HB.out.p.keep HX0.out.below) NB.out.k NB.out.p).mono ?_
  rintro e w1 ⟨rfl, hb1⟩
  have HX1 : Hid (OwnAt w w1 _) := HX0.out.call hb1
  clear HX0 hb1
  have y0 : w1.cell? ⟨w.heap.size, 0, none⟩ = some (.slice ak ks.length ck) := (HX1.out.has 0 _ rfl 0 _ rfl).1
  have y1 : w1.cell? ⟨w.heap.size, 1, none⟩ = some (.slice ap ps.length cp) := (HX1.out.has 0 _ rfl 1 _ rfl).1
  have y2 : w1.cell? ⟨w.heap.size, 2, none⟩ = some (.slice ae es.length ce) := (HX1.out.has 0 _ rfl 2 _ rfl).1
  have hbb : (kindsB ks && pointsB ps) = baseB ks ps := rfl
  rw [hbb]; clear hbb
  cases hb : baseB ks ps
  · have HBF : Hid (bookB ks ps es = false) := by show _ = _; rw [HE.out, hb]; rfl
    clear hb
    go_wp2
    go_ret
    exact ⟨ret_bool HBF.out.symm, HX1.out.below⟩
  by_cases h12 : (12 : Int) < (es.length : Int)
  · have HBF : Hid (bookB ks ps es = false) := by
      show _ = _
      have : decide (es.length ≤ 12) = false := by simp; omega
      rw [HE.out, this]; cases baseB ks ps <;> rfl
    clear hb
    go_wp2
    go_ret
    exact ⟨ret_bool HBF.out.symm, HX1.out.below⟩
  have HE2 : Hid (bookB ks ps es = allB es.length fun i => entB ks ps (eat es i).name (eat es i).fs && ascE es i) := by
    show _ = _
    have : decide (es.length ≤ 12) = true := by simp; omega
    rw [HE.out, this, hb]; rfl
  clear HE hb
  go_wp2
  clear y0 y1 y2
  go_loopw [3] (fun i wr => ∃ k : Nat, k ≤ es.length ∧ i = .int .i64 k ∧ OwnAt w wr [[.slice ak ks.length ck, .slice ap ps.length cp, .slice ae es.length ce]] ∧ Hid (∀ j, j < k → (entB ks ps (eat es j).name (eat es j).fs && ascE es j) = true)) (fun i _ => es.length - (intOf i).toNat)
  case atStart => exact ⟨0, Nat.zero_le _, rfl, HX1.out, fun j hj => absurd hj (Nat.not_lt_zero _)⟩
  case round =>
    obtain ⟨k, hk, rfl, ho, HA⟩ := hrel
    have HO1 : Hid (OwnAt w wr [[.slice ak ks.length ck, .slice ap ps.length cp, .slice ae es.length ce]]) := ho
    have y0 : wr.cell? ⟨w.heap.size, 0, none⟩ = some (.slice ak ks.length ck) := (HO1.out.has 0 _ rfl 0 _ rfl).1
    have y1 : wr.cell? ⟨w.heap.size, 1, none⟩ = some (.slice ap ps.length cp) := (HO1.out.has 0 _ rfl 1 _ rfl).1
    have y2 : wr.cell? ⟨w.heap.size, 2, none⟩ = some (.slice ae es.length ce) := (HO1.out.has 0 _ rfl 2 _ rfl).1
    have yz : w.heap.size < wr.heap.size := lt_of_cell y0
    by_cases hlt : k < es.length
    · obtain ⟨b, off, rfl, hc⟩ := HC.out k _ (eat_get hlt)
      obtain ⟨fv, d0, d1, hfl⟩ := hc.keep ho.below
      have HFL : Hid (FldsAt wr fv (eat es k).fs) := hfl
      obtain ⟨fa, fc, rfl, -, -, -⟩ := hfl
      have dz : b < wr.heap.size := lt_of_cell d0
      have HM : Hid (eat es k ∈ es) := List.mem_of_getElem? (eat_get hlt)
      have hk0 : (0 : Int) ≤ (k : Int) := by omega
      have hk1 : (k : Int) < (es.length : Int) := by omega
      have hne := Later.some wr
      have GE : Hid (∀ y : Later wr, Calls Tryz.prog 54 #[.agg #[.slice ak ks.length ck, .slice ap ps.length cp], .agg #[.string (eat es k).name, .slice fa (eat es k).fs.length fc]] y.val fun e w'' => e = .returned (.bool (entB ks ps (eat es k).name (eat es k).fs)) ∧ ∃ z : Later wr, w'' = z.val) :=
        fun y => Calls.later (l3EntryOk_any _ _ _ ks ps (eat es k).name (eat es k).fs y.val ((HB.out.k.keep HO1.out.below).keep y.below) ((HB.out.p.keep HO1.out.below).keep y.below) NB.out.k NB.out.p (HFL.out.keep y.below) (SB.out.n _ HM.out) (SB.out.v _ HM.out))
      have MID : Hid (0 < k → ∃ m, k = m + 1 ∧ EntAt wr b (off + m * 2) (eat es m) ∧ ascE es k = !geB (eat es m).name (eat es k).name) := fun hz => by
        obtain ⟨m, rfl⟩ : ∃ m, k = m + 1 := ⟨k - 1, by omega⟩
        obtain ⟨b', off', hbo, hcm'⟩ := HC.out m _ (eat_get (by omega))
        cases hbo
        exact ⟨m, rfl, hcm'.keep ho.below, ascE_succ es m⟩
      have BAD : Hid ((entB ks ps (eat es k).name (eat es k).fs && ascE es k) = false → bookB ks ps es = false) := fun h => by rw [HE2.out, allB_false hlt h]
      generalize hee : entB ks ps (eat es k).name (eat es k).fs = ee at *
      have HEE : Hid (entB ks ps (eat es k).name (eat es k).fs = ee) := hee
      clear hee ho hc
      cases ee
      · go_wp2
        refine wp_region_later (by kernel_rfl) (by kernel_rfl) ?_
        repeat (go_big_quiet_step (first | (go_at_call 54; exact GE.out _)))
        refine wpQuiet_nil ?_
        rintro _ ⟨x, rfl⟩
        go_wp2
        go_ret
        exact ⟨ret_bool (BAD.out rfl).symm, below_step HO1.out.below x.below⟩
      · by_cases hz : 0 < k
        · obtain ⟨m, hkm, ⟨fv', g0, g1, hfl'⟩, hh⟩ := MID.out hz
          obtain ⟨fa', fc', rfl, -, -, -⟩ := hfl'
          have HH : Hid (ascE es k = !geB (eat es m).name (eat es k).name) := hh
          have hz' : decide (0 < k) = true := by simp [hz]
          have hi0 : (0 : Int) ≤ (m : Int) := by omega
          have hi1 : (m : Int) < (es.length : Int) := by omega
          have hi2 : (0 : Int) < (m : Int) + 1 := by omega
          have hw1 : IntKind.i64.wrap (m : Int) = (m : Int) := by rw [IntKind.wrap_i64]; omega
          have hw2 : IntKind.i64.wrap ((m : Int) + 1 - 1) = (m : Int) := by rw [IntKind.wrap_i64]; omega
          clear hh
          subst hkm
          go_wp2
          refine wp_region_later (by kernel_rfl) (by kernel_rfl) ?_
          repeat (go_big_quiet_step (first | (go_at_call 54; exact GE.out _)))
          refine wpQuiet_nil ?_
          rintro _ ⟨x, rfl⟩
          go_wp2
          · rename_i h
            go_ret
            exact ⟨ret_bool (BAD.out (by rw [HH.out]; unfold geB; rw [h]; rfl)).symm, below_step HO1.out.below x.below⟩
          · rename_i h
            exact ⟨⟨m + 1 + 1, by omega, by go_num, HO1.out.call x.below, fun j hj => if e : j = m + 1 then by rw [e, HEE.out, HH.out]; unfold geB; rw [h]; rfl else HA.out j (by omega)⟩, by simp [intOf]; omega⟩
        · have hz' : decide (0 < k) = false := by simp; omega
          have HQ : Hid (ascE es k = true) := by
            show ascE es k = true
            obtain rfl : k = 0 := by omega
            exact ascE_zero es
          go_wp2
          refine wp_region_later (by kernel_rfl) (by kernel_rfl) ?_
          repeat (go_big_quiet_step (first | (go_at_call 54; exact GE.out _)))
          refine wpQuiet_nil ?_
          rintro _ ⟨x, rfl⟩
          go_wp2
          exact ⟨⟨k + 1, by omega, by go_num, HO1.out.call x.below, fun j hj => if e : j = k then by rw [e, HEE.out, HQ.out]; rfl else HA.out j (by omega)⟩, by simp [intOf]; omega⟩
    · clear ho
      go_wp2
      go_ret
      exact ⟨ret_bool (by rw [HE2.out]; exact (allB_true fun j hj => HA.out j (by omega)).symm), HO1.out.below⟩
end Go.Proofs.YtfjblenkcfdbiaaGreat

/-
  The specification: what a book has said; the news.
-/
namespace Go.Proofs.YtfjblenkcfdbiaaGreat
open Go.RowKit
attribute [local go_sem] Later.cell Later.frozen

theorem find_at {α : Type} {p : α → Bool} {l : List α} {k : Nat} {x : α} (hk : l[k]? = some x) (hp : p x = true) (hn : ∀ (j : Nat) (y : α), j < k → l[j]? = some y → p y = false) : l.find? p = some x := by
  obtain ⟨hlt, rfl⟩ := List.getElem?_eq_some_iff.1 hk
  rw [List.find?_eq_some_iff_getElem]
  exact ⟨hp, k, hlt, rfl, fun j hj => by simp [hn j _ hj (List.getElem?_eq_getElem (by omega))]⟩
theorem find_no {α : Type} {p : α → Bool} {l : List α} (hn : ∀ (j : Nat) (y : α), l[j]? = some y → p y = false) : l.find? p = none := by
  rw [List.find?_eq_none]
  intro x hx
  obtain ⟨i, hi, rfl⟩ := List.getElem_of_mem hx
  simp [hn i _ (List.getElem?_eq_getElem hi)]

set_option maxHeartbeats 1600000 in
theorem l3At_any (vk vp ve : Value) (es : List Ent) (n : ByteArray) (w : World) (he : EntsAt w ve es) :
    Calls Tryz.prog 27 #[.agg #[vk, vp, ve], .string n] w fun e w' => ∃ r : Int, e = .returned (.int .i64 r) ∧ ((r = -1 ∧ es.find? (fun e => decide (e.name = n)) = none) ∨ ∃ k : Nat, k < es.length ∧ r = (k : Int) ∧ es.find? (fun e => decide (e.name = n)) = some (eat es k)) ∧ Below w.heap.size w w' := by
  obtain ⟨ae, ce, rfl, hlc, hcm, hc⟩ := he
  unfold maxLen at hcm
  have HC : Hid (∀ i f, es[i]? = some f → ∃ b off, ae = some ⟨b, off, none⟩ ∧ EntAt w b (off + i * 2) f) := hc
  clear hc
  have HX0 : Hid (OwnAt w (w.alloc (.cells #[vk, vp, .slice ae es.length ce] 39)) [[vk, vp, .slice ae es.length ce]]) := (OwnAt.start w).push rfl _ _
  have y0 : (w.alloc (.cells #[vk, vp, .slice ae es.length ce] 39)).cell? ⟨w.heap.size, 0, none⟩ = some vk := by simp
  have y1 : (w.alloc (.cells #[vk, vp, .slice ae es.length ce] 39)).cell? ⟨w.heap.size, 1, none⟩ = some vp := by simp
  have y2 : (w.alloc (.cells #[vk, vp, .slice ae es.length ce] 39)).cell? ⟨w.heap.size, 2, none⟩ = some (.slice ae es.length ce) := by simp
  go_enter Tryz.func27, Tryz.ntmps27
  go_wp2
  generalize w.alloc (.cells #[vk, vp, .slice ae es.length ce] 39) = w1 at *
  go_loopw [5] (fun i wr => wr = w1 ∧ ∃ k : Nat, k ≤ es.length ∧ i = .int .i64 k ∧ Hid (∀ j y, j < k → es[j]? = some y → decide (y.name = n) = false)) (fun i _ => es.length - (intOf i).toNat)
  case atStart => exact ⟨rfl, 0, Nat.zero_le _, rfl, fun j y hj => absurd hj (Nat.not_lt_zero _)⟩
  case round =>
    obtain ⟨rfl, k, hk, rfl, HA⟩ := hrel
    by_cases hlt : k < es.length
    · obtain ⟨b, off, rfl, hc⟩ := HC.out k _ (eat_get hlt)
      obtain ⟨fv, d0, d1, hfl⟩ := hc.keep HX0.out.below
      obtain ⟨fa, fc, rfl, -, -, -⟩ := hfl
      have hk0 : (0 : Int) ≤ (k : Int) := by omega
      have hk1 : (k : Int) < (es.length : Int) := by omega
      have HG : Hid (es[k]? = some (eat es k)) := eat_get hlt
      by_cases hx : (eat es k).name = n
      · have h1 : ((eat es k).name.toList == n.toList) = true := str_eq hx
        have HX : Hid ((eat es k).name = n) := hx
        clear hx hc
        go_wp2
        go_ret
        exact ⟨_, rfl, .inr ⟨k, hlt, rfl, find_at HG.out (by simp [HX.out]) HA.out⟩, HX0.out.below⟩
      · have h1 : ((eat es k).name.toList == n.toList) = false := str_ne hx
        have HX : Hid (¬ (eat es k).name = n) := hx
        clear hx hc
        go_wp2
        exact ⟨⟨by trivial, k + 1, by omega, by go_num, fun j y hj hy => if e : j = k then by subst e; rw [HG.out] at hy; cases hy; simp [HX.out] else HA.out j y (by omega) hy⟩, by simp [intOf]; omega⟩
    · go_wp2
      go_ret
      exact ⟨_, rfl, .inl ⟨rfl, find_no fun j y hy => HA.out j y (by have := (List.getElem?_eq_some_iff.1 hy).1; omega) hy⟩, HX0.out.below⟩

set_option maxHeartbeats 3200000 in
theorem l4Has_any (vk vp ve : Value) (es : List Ent) (n : ByteArray) (f : Fld) (w : World) (he : EntsAt w ve es) :
    Calls Tryz.prog 43 #[.agg #[vk, vp, ve], .string n, .agg #[.int .i64 f.what, .int .i64 f.num, .string f.v]] w fun e w' => e = .returned (.bool (hasS es (chgOf n f))) ∧ Below w.heap.size w w' := by
  have HEN : Hid (EntsAt w ve es) := he
  obtain ⟨ae, ce, rfl, hlc, hcm, hc⟩ := he
  unfold maxLen at hcm
  have HC : Hid (∀ i f, es[i]? = some f → ∃ b off, ae = some ⟨b, off, none⟩ ∧ EntAt w b (off + i * 2) f) := hc
  clear hc
  have HX0 : Hid (OwnAt w ((w.alloc (.cells #[vk, vp, .slice ae es.length ce] 39)).alloc (.cells #[.int .i64 f.what, .int .i64 f.num, .string f.v] 62)) [[vk, vp, .slice ae es.length ce], [.int .i64 f.what, .int .i64 f.num, .string f.v]]) := ((OwnAt.start w).push rfl _ _).push (by simp) _ _
  have HH : Hid (hasS es (chgOf n f) = match es.find? fun e => decide (e.name = n) with
      | none => false
      | some e => match e.fs.find? fun g => decide (g.what = f.what) with
        | none => false
        | some g => !latC (chgOf n f) (chgOf e.name g)) := rfl
  go_enter Tryz.func43, Tryz.ntmps43
  go_wp2_with fail
  refine (l3At_any _ _ _ es n _ (HEN.out.keep HX0.out.below)).mono ?_
  rintro e w1 ⟨r, rfl, hr, hb1⟩
  have HX1 : Hid (OwnAt w w1 [[vk, vp, .slice ae es.length ce], [.int .i64 f.what, .int .i64 f.num, .string f.v]]) := HX0.out.call hb1
  clear HX0 hb1
  have y0 : w1.cell? ⟨w.heap.size, 0, none⟩ = some vk := (HX1.out.has 0 _ rfl 0 _ rfl).1
  have y1 : w1.cell? ⟨w.heap.size, 1, none⟩ = some vp := (HX1.out.has 0 _ rfl 1 _ rfl).1
  have y2 : w1.cell? ⟨w.heap.size, 2, none⟩ = some (.slice ae es.length ce) := (HX1.out.has 0 _ rfl 2 _ rfl).1
  rcases hr with ⟨rfl, hf⟩ | ⟨k0, hk0, rfl, hf⟩
  · have HF : Hid (hasS es (chgOf n f) = false) := by show _ = _; rw [HH.out, hf]
    clear hf HH
    go_wp2
    go_loopw [8, 9] (fun _ _ wr => wr = w1) (fun _ _ _ => 0)
    case atStart => rfl
    case round =>
      obtain rfl := hrel
      go_wp2
      go_ret
      exact ⟨ret_bool HF.out.symm, HX1.out.below⟩
  · obtain ⟨b, off, rfl, hc⟩ := HC.out k0 _ (eat_get hk0)
    obtain ⟨fv, d0, d1, hfl⟩ := hc.keep HX1.out.below
    obtain ⟨fa, fc, rfl, hfc, hfm, hfe⟩ := hfl
    unfold maxLen at hfm
    have HFE : Hid (∀ i g, (eat es k0).fs[i]? = some g → ∃ b off, fa = some ⟨b, off, none⟩ ∧ FldAt w1 b (off + i * 3) g) := hfe
    have HF : Hid (hasS es (chgOf n f) = match (eat es k0).fs.find? fun g => decide (g.what = f.what) with
        | none => false
        | some g => !latC (chgOf n f) (chgOf (eat es k0).name g)) := by show _ = _; rw [HH.out, hf]
    clear hf HH hfe hc
    have hk1 : (0 : Int) ≤ (k0 : Int) := by omega
    have hk2 : (k0 : Int) < (es.length : Int) := by omega
    generalize eat es k0 = t at *
    obtain ⟨nm, fs⟩ := t
    dsimp only at *
    have HD : Hid (w1.cell? ⟨b, off + k0 * 2, none⟩ = some (.string nm) ∧ w1.cell? ⟨b, off + k0 * 2 + 1, none⟩ = some (.slice fa fs.length fc)) := ⟨d0, d1⟩
    clear d0 d1 y0 y1 y2
    go_wp2
    go_loopw [8, 9] (fun i _ wr => ∃ k : Nat, k ≤ fs.length ∧ i = .int .i64 k ∧ Below w1.heap.size w1 wr ∧ Hid (∀ (j : Nat) (y : Fld), j < k → fs[j]? = some y → decide (y.what = f.what) = false)) (fun i _ _ => fs.length - (intOf i).toNat)
    case atStart => exact ⟨0, Nat.zero_le _, rfl, Below.refl _ _, fun j y hj => absurd hj (Nat.not_lt_zero _)⟩
    case round =>
      obtain ⟨k, hk, rfl, hbr, HA⟩ := hrel
      have HXr : Hid (OwnAt w wr [[vk, vp, .slice (some ⟨b, off, none⟩) es.length ce], [.int .i64 f.what, .int .i64 f.num, .string f.v]]) := HX1.out.call hbr
      have y0 : wr.cell? ⟨w.heap.size, 0, none⟩ = some vk := (HXr.out.has 0 _ rfl 0 _ rfl).1
      have y1 : wr.cell? ⟨w.heap.size, 1, none⟩ = some vp := (HXr.out.has 0 _ rfl 1 _ rfl).1
      have y2 : wr.cell? ⟨w.heap.size, 2, none⟩ = some (.slice (some ⟨b, off, none⟩) es.length ce) := (HXr.out.has 0 _ rfl 2 _ rfl).1
      have z0 : wr.cell? ⟨w.heap.size + 1, 0, none⟩ = some (.int .i64 f.what) := (HXr.out.has 1 _ rfl 0 _ rfl).1
      have z1 : wr.cell? ⟨w.heap.size + 1, 1, none⟩ = some (.int .i64 f.num) := (HXr.out.has 1 _ rfl 1 _ rfl).1
      have z2 : wr.cell? ⟨w.heap.size + 1, 2, none⟩ = some (.string f.v) := (HXr.out.has 1 _ rfl 2 _ rfl).1
      have d0 := cell_keep hbr (Nat.le_refl _) HD.out.1
      have d1 := cell_keep hbr (Nat.le_refl _) HD.out.2
      have zz : w.heap.size + 1 < wr.heap.size := lt_of_cell z0
      by_cases hlt : k < fs.length
      · obtain ⟨gb, go, rfl, hg⟩ := HFE.out k _ (fat_get hlt)
        obtain ⟨g0, g1, g2⟩ := hg.keep hbr (Nat.le_refl _)
        have HG : Hid (fs[k]? = some (fat fs k)) := fat_get hlt
        have hk3 : (0 : Int) ≤ (k : Int) := by omega
        have hk4 : (k : Int) < (fs.length : Int) := by omega
        by_cases hx : (fat fs k).what = f.what
        · have hq : ((fat fs k).what == f.what) = true := by simp [hx]
          have HX : Hid ((fat fs k).what = f.what) := hx
          have HBN : Hid (Below wr.heap.size wr (wr.alloc (.cells #[.int .i64 (fat fs k).what, .int .i64 (fat fs k).num, .string (fat fs k).v] 62))) := (Below.refl _ _).alloc (Nat.le_refl _) _
          clear hx hg
          go_wp2_with fail
          refine (l3Later_any (chgOf n f) (chgOf nm (fat fs k)) _).mono ?_
          rintro e w2 ⟨rfl, hb2⟩
          have HRES : Hid ((!latC (chgOf n f) (chgOf nm (fat fs k))) = hasS es (chgOf n f)) := by
            show _ = _
            rw [HF.out, find_at HG.out (by simp [HX.out]) HA.out]
          go_wp2
          go_ret
          exact ⟨ret_bool HRES.out, below_step (below_step HXr.out.below HBN.out) hb2⟩
        · have hq : ((fat fs k).what == f.what) = false := by simp [hx]
          have HX : Hid (¬ (fat fs k).what = f.what) := hx
          have HBN : Hid (Below wr.heap.size wr (wr.alloc (.cells #[.int .i64 (fat fs k).what, .int .i64 (fat fs k).num, .string (fat fs k).v] 62))) := (Below.refl _ _).alloc (Nat.le_refl _) _
          clear hx hg
          go_wp2
          exact ⟨⟨k + 1, by omega, by go_num, below_step hbr HBN.out, fun j y hj hy => if e : j = k then by subst e; rw [HG.out] at hy; cases hy; simp [HX.out] else HA.out j y (by omega) hy⟩, by simp [intOf]; omega⟩
      · have HRES : Hid (hasS es (chgOf n f) = false) := by
          show _ = _
          rw [HF.out, find_no fun j y hy => HA.out j y (by have := (List.getElem?_eq_some_iff.1 hy).1; omega) hy]
        go_wp2
        go_ret
        exact ⟨ret_bool HRES.out.symm, HXr.out.below⟩
end Go.Proofs.YtfjblenkcfdbiaaGreat
