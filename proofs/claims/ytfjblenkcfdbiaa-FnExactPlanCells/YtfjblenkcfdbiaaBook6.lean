
/-
  impl: fields that are ok; a book that is ok.
-/
import Derived.Test.YtfjblenkcfdbiaaBook5
import Derived.Deep.DeepCutAuto
namespace Go.Proofs.Ytfjblenkcfdbiaa
open Go.RowKit
attribute [local go_sem] Later.cell Later.frozen

theorem changeOf_any (f : Fld) (n : ByteArray) (w : World) :
    Calls Try.prog 91 #[.agg #[.int .i64 f.what, .int .i64 f.num, .string f.v], .string n] w fun e w' => e = .returned (.agg #[.string n, .int .i64 f.what, .int .i64 f.num, .string f.v]) ∧ Below w.heap.size w w' := by
  go_enter Try.func91, Try.ntmps91
  go_wp2
  exact bodyPost_ret (v := .agg #[.string n, .int .i64 f.what, .int .i64 f.num, .string f.v]) (by simp [results, Try.results91, go_sem]) rfl ⟨rfl, ((Below.refl _ _).alloc (Nat.le_refl _) _).alloc (by simp) _⟩

theorem ascF_zero (l : List Fld) : ascF l 0 = true := by simp [ascF]

set_option maxHeartbeats 3200000 in
theorem fieldsOk_any (vk vp fv : Value) (ks ps : List Tri) (n : ByteArray) (l : List Fld) (w : World) (hk : TrisAt w vk ks) (hp : TrisAt w vp ps) (hv : FldsAt w fv l) (hn : n.size ≤ 1048576) (hs : ∀ f ∈ l, f.v.size ≤ 1048576) :
    Calls Try.prog 56 #[.agg #[vk, vp], .agg #[.string n, fv]] w fun e w' => e = .returned (.bool (fieldsB ks ps n l)) ∧ Below w.heap.size w w' := by
  have HKP : Hid (TrisAt w vk ks ∧ TrisAt w vp ps) := ⟨hk, hp⟩
  obtain ⟨ak, ck, rfl, -, -, -⟩ := hk
  obtain ⟨ap, cp, rfl, -, -, -⟩ := hp
  obtain ⟨a, cap, rfl, hlc, hcm, hc⟩ := hv
  unfold maxLen at hcm
  have HC : Hid (∀ i f, l[i]? = some f → ∃ b off, a = some ⟨b, off, none⟩ ∧ FldAt w b (off + i * 3) f) := hc
  have HS : Hid (∀ f ∈ l, f.v.size ≤ 1048576) := hs
  clear hc hs
  have HO0 : Hid (OwnAt w ((w.alloc (.cells #[.slice ak ks.length ck, .slice ap ps.length cp] 31)).alloc (.cells #[.string n, .slice a l.length cap] 90)) [[.slice ak ks.length ck, .slice ap ps.length cp], [.string n, .slice a l.length cap]]) := ((OwnAt.start w).push rfl _ _).push (by simp) _ _
  have HE : Hid (fieldsB ks ps n l = ((allB l.length fun i => ascF l i && fitB ks ps (chgOf n (fat l i))) && decide (0 < l.length))) := rfl
  go_enter Try.func56, Try.ntmps56
  go_wp2
  go_loopw [5, 6, 10] (fun _ _ i wr => ∃ k : Nat, k ≤ l.length ∧ i = .int .i64 k ∧ OwnAt w wr [[.slice ak ks.length ck, .slice ap ps.length cp], [.string n, .slice a l.length cap]] ∧ Hid (∀ j, j < k → (ascF l j && fitB ks ps (chgOf n (fat l j))) = true)) (fun _ _ i _ => l.length - (intOf i).toNat)
  case atStart => exact ⟨0, Nat.zero_le _, rfl, HO0.out, fun j hj => absurd hj (Nat.not_lt_zero _)⟩
  case round =>
    obtain ⟨k, hk, rfl, ho, HA⟩ := hrel
    have HO1 : Hid (OwnAt w wr [[.slice ak ks.length ck, .slice ap ps.length cp], [.string n, .slice a l.length cap]]) := ho
    by_cases hlt : k < l.length
    · obtain ⟨b, off, rfl, hc⟩ := HC.out k _ (fat_get hlt)
      obtain ⟨d0, d1, d2⟩ := hc.keep ho.below (Nat.le_refl _)
      have hbz : b < wr.heap.size := lt_of_cell d0
      have hsk : (fat l k).v.size ≤ 1048576 := HS.out _ (List.mem_of_getElem? (fat_get hlt))
      have hk0 : (0 : Int) ≤ (k : Int) := by omega
      have hk1 : (k : Int) < (l.length : Int) := by omega
      have BAD : Hid ((ascF l k && fitB ks ps (chgOf n (fat l k))) = false → fieldsB ks ps n l = false) := fun h => by rw [HE.out, allB_false hlt h]; rfl
      have HB2 : Hid (Below wr.heap.size wr (wr.alloc (.cells #[.int .i64 (fat l k).what, .int .i64 (fat l k).num, .string (fat l k).v] 130))) := (Below.refl _ _).alloc (Nat.le_refl _) _
      have HO2 : Hid (OwnAt w (wr.alloc (.cells #[.int .i64 (fat l k).what, .int .i64 (fat l k).num, .string (fat l k).v] 130)) [[.slice ak ks.length ck, .slice ap ps.length cp], [.string n, .slice (some ⟨b, off, none⟩) l.length cap]]) := ho.call HB2.out
      have HF2 : Hid (FldAt (wr.alloc (.cells #[.int .i64 (fat l k).what, .int .i64 (fat l k).num, .string (fat l k).v] 130)) wr.heap.size 0 (fat l k)) := ⟨by simp, by simp, by simp⟩
      have HFIT : Hid (∀ wx : World, Below w.heap.size w wx → Calls Try.prog 50 #[.agg #[.slice ak ks.length ck, .slice ap ps.length cp], .agg #[.string n, .int .i64 (fat l k).what, .int .i64 (fat l k).num, .string (fat l k).v]] wx fun e w' => e = .returned (.bool (fitB ks ps (chgOf n (fat l k)))) ∧ Below wx.heap.size wx w') := fun wx hx => changeFits_any _ _ ks ps (chgOf n (fat l k)) wx (HKP.out.1.keep hx) (HKP.out.2.keep hx) hn hsk
      have MID : Hid (0 < k → ∃ m, k = m + 1 ∧ FldAt wr b (off + m * 3) (fat l m) ∧ ascF l k = !decide ((fat l k).what ≤ (fat l m).what)) := fun hz => by
        obtain ⟨m, rfl⟩ : ∃ m, k = m + 1 := ⟨k - 1, by omega⟩
        obtain ⟨b', off', hbo, hcm'⟩ := HC.out m _ (fat_get (by omega))
        cases hbo
        exact ⟨m, rfl, hcm'.keep ho.below (Nat.le_refl _), by simp [ascF]⟩
      clear ho hc
      go_upto_region 4 with fail
      generalize wr.alloc (.cells #[.int .i64 (fat l k).what, .int .i64 (fat l k).num, .string (fat l k).v] 130) = w2 at *
      have nz : wr.heap.size < w2.heap.size := lt_of_cell HF2.out.1
      go_cut [28] (fun s28 wc => s28 = .bool (!ascF l k) ∧ Below w2.heap.size w2 wc)
      case first =>
        have e2 : w2.cell? ⟨w.heap.size + 1, 0, none⟩ = some (.string n) := (HO2.out.has 1 _ rfl 0 _ rfl).1
        have e3 : w2.cell? ⟨w.heap.size + 1, 1, none⟩ = some (.slice (some ⟨b, off, none⟩) l.length cap) := (HO2.out.has 1 _ rfl 1 _ rfl).1
        have ez : w.heap.size + 1 < w2.heap.size := lt_of_cell e2
        obtain ⟨n0, n1, n2⟩ := HF2.out
        simp only [Nat.zero_add] at n1 n2
        have hne := Later.some w2
        have hbz2 : b < w2.heap.size := by have := HB2.out.size; omega
        by_cases hz : 0 < k
        · obtain ⟨m, hkm, hf, hh⟩ := MID.out hz
          subst hkm
          obtain ⟨g0, g1, g2⟩ := hf.keep HB2.out (Nat.le_refl _)
          have hi0 : (0 : Int) ≤ (m : Int) := by omega
          have hi1 : (m : Int) < (l.length : Int) := by omega
          have hi2 : (0 : Int) < (m : Int) + 1 := by omega
          have hw1 : IntKind.i64.wrap (m : Int) = (m : Int) := by rw [IntKind.wrap_i64]; omega
          have hw2 : IntKind.i64.wrap ((m : Int) + 1 - 1) = (m : Int) := by rw [IntKind.wrap_i64]; omega
          have HH : Hid (ascF l (m + 1) = !decide ((fat l (m + 1)).what ≤ (fat l m).what)) := hh
          clear hh hf
          refine wp_region_later (by kernel_rfl) (by kernel_rfl) ?_
          repeat (go_big_quiet_step (fail))
          refine wpQuiet_nil ?_
          rintro _ ⟨x, rfl⟩
          go_wp2_with fail
          go_meet
          exact ⟨by rw [HH.out, Bool.not_not], x.below⟩
        · have hz' : decide (0 < k) = false := by simp; omega
          have HH : Hid (ascF l k = true) := by
            show ascF l k = true
            obtain rfl : k = 0 := by omega
            exact ascF_zero l
          refine wp_region_later (by kernel_rfl) (by kernel_rfl) ?_
          repeat (go_big_quiet_step (fail))
          refine wpQuiet_nil ?_
          rintro _ ⟨x, rfl⟩
          go_wp2_with fail
          go_meet
          exact ⟨by rw [HH.out]; rfl, x.below⟩
      case rest =>
        obtain ⟨rfl, hbc⟩ := hcut
        have HO3 : Hid (OwnAt w wc [[.slice ak ks.length ck, .slice ap ps.length cp], [.string n, .slice (some ⟨b, off, none⟩) l.length cap]]) := HO2.out.call hbc
        have e0 : wc.cell? ⟨w.heap.size, 0, none⟩ = some (.slice ak ks.length ck) := (HO3.out.has 0 _ rfl 0 _ rfl).1
        have e1 : wc.cell? ⟨w.heap.size, 1, none⟩ = some (.slice ap ps.length cp) := (HO3.out.has 0 _ rfl 1 _ rfl).1
        have e2 : wc.cell? ⟨w.heap.size + 1, 0, none⟩ = some (.string n) := (HO3.out.has 1 _ rfl 0 _ rfl).1
        have e3 : wc.cell? ⟨w.heap.size + 1, 1, none⟩ = some (.slice (some ⟨b, off, none⟩) l.length cap) := (HO3.out.has 1 _ rfl 1 _ rfl).1
        have ez : w.heap.size + 1 < wc.heap.size := lt_of_cell e2
        have ey : w.heap.size < wc.heap.size := lt_of_cell e0
        obtain ⟨n0, n1, n2⟩ := HF2.out.keep hbc (Nat.le_refl _)
        simp only [Nat.zero_add] at n1 n2
        have nz2 : wr.heap.size < wc.heap.size := lt_of_cell n0
        have hne := Later.some wc
        have GF : Hid (∀ (y : Later wc), Calls Try.prog 50 #[.agg #[.slice ak ks.length ck, .slice ap ps.length cp], .agg #[.string n, .int .i64 (fat l k).what, .int .i64 (fat l k).num, .string (fat l k).v]] y.val fun e w'' => e = .returned (.bool (fitB ks ps (chgOf n (fat l k)))) ∧ ∃ z : Later wc, w'' = z.val) := fun y => Calls.later (HFIT.out y.val (below_step HO3.out.below y.below))
        have GC : Hid (∀ (y : Later wc), Calls Try.prog 91 #[.agg #[.int .i64 (fat l k).what, .int .i64 (fat l k).num, .string (fat l k).v], .string n] y.val fun e w'' => e = .returned (.agg #[.string n, .int .i64 (fat l k).what, .int .i64 (fat l k).num, .string (fat l k).v]) ∧ ∃ z : Later wc, w'' = z.val) := fun y => Calls.later (changeOf_any (fat l k) n y.val)
        clear MID HFIT HF2 HB2 HO2 hbc d0 d1 d2
        have HAF : Hid (∃ q, ascF l k = q) := ⟨_, rfl⟩
        generalize haf : ascF l k = af at *
        have HAF : Hid (ascF l k = af) := haf
        clear haf
        generalize hft : fitB ks ps (chgOf n (fat l k)) = ft at *
        have HFT : Hid (fitB ks ps (chgOf n (fat l k)) = ft) := hft
        clear hft
        cases af
        · go_wp2
          go_ret
          exact ⟨ret_bool (BAD.out rfl).symm, HO3.out.below⟩
        · go_wp2
          refine wp_region_later (by kernel_rfl) (by kernel_rfl) ?_
          repeat (go_big_quiet_step (first | (go_at_call 50; exact GF.out _) | (go_at_call 91; exact GC.out _)))
          refine wpQuiet_nil ?_
          rintro _ ⟨x, rfl⟩
          cases ft
          · go_wp2
            go_ret
            exact ⟨ret_bool (BAD.out rfl).symm, below_step HO3.out.below x.below⟩
          · go_wp2
            go_roundw
            case rel => exact ⟨k + 1, by omega, by go_num, HO3.out.call x.below, fun j hj => if e : j = k then by rw [e, HAF.out, HFT.out]; rfl else HA.out j (by omega)⟩
            case measure => simp [intOf]; omega
    · have e0 : wr.cell? ⟨w.heap.size + 1, 0, none⟩ = some (.string n) := (HO1.out.has 1 _ rfl 0 _ rfl).1
      have e1 : wr.cell? ⟨w.heap.size + 1, 1, none⟩ = some (.slice a l.length cap) := (HO1.out.has 1 _ rfl 1 _ rfl).1
      have HF : Hid (fieldsB ks ps n l = decide (0 < l.length)) := by
        show _ = _
        rw [HE.out, allB_true fun j hj => HA.out j (by omega)]; rfl
      clear ho
      go_wp2
      go_ret
      exact ⟨ret_bool (by rw [HF.out] <;> simp), HO1.out.below⟩

theorem ENames.of {ks ps : List Tri} {es : List Ent} (h : BSmall ks ps es) : ENames es := fun e he => ⟨by have := h.n e he; unfold maxLen; omega, fun f hf => by have := h.v e he f hf; unfold maxLen; omega⟩

set_option maxHeartbeats 3200000 in
theorem bookOk_any (vk vp ve : Value) (ks ps : List Tri) (es : List Ent) (w : World) (hB : BookAt w vk vp ve ks ps es) (nB : BNames ks ps es) (sB : BSmall ks ps es) :
    Calls Try.prog 20 #[.agg #[vk, vp, ve]] w fun e w' => e = .returned (.bool (bookB ks ps es)) ∧ Below w.heap.size w w' := by
  have HB : Hid (BookAt w vk vp ve ks ps es) := hB
  have NB : Hid (BNames ks ps es) := nB
  have SB : Hid (BSmall ks ps es) := sB
  obtain ⟨⟨ak, ck, rfl, -, -, -⟩, ⟨ap, cp, rfl, -, -, -⟩, ⟨ae, ce, rfl, hlc, hcm, hc⟩⟩ := hB
  unfold maxLen at hcm
  have HC : Hid (∀ i f, es[i]? = some f → ∃ b off, ae = some ⟨b, off, none⟩ ∧ EntAt w b (off + i * 2) f) := hc
  clear nB sB hc
  have HX0 : Hid (OwnAt w (w.alloc (.cells #[.slice ak ks.length ck, .slice ap ps.length cp, .slice ae es.length ce] 49)) [[.slice ak ks.length ck, .slice ap ps.length cp, .slice ae es.length ce]]) := (OwnAt.start w).push rfl _ _
  have HE : Hid (bookB ks ps es = (baseB ks ps && (namesE es && allB es.length fun i => fieldsB ks ps (eat es i).name (eat es i).fs))) := rfl
  go_enter Try.func20, Try.ntmps20
  go_wp2_with fail
  refine (baseOk_any _ _ ks ps _ (HB.out.k.keep HX0.out.below) (HB.out.p.keep HX0.out.below) NB.out.k NB.out.p).mono ?_
  rintro e w1 ⟨rfl, hb1⟩
  have HX1 : Hid (OwnAt w w1 _) := HX0.out.call hb1
  clear HX0 hb1
  have y0 : w1.cell? ⟨w.heap.size, 0, none⟩ = some (.slice ak ks.length ck) := (HX1.out.has 0 _ rfl 0 _ rfl).1
  have y1 : w1.cell? ⟨w.heap.size, 1, none⟩ = some (.slice ap ps.length cp) := (HX1.out.has 0 _ rfl 1 _ rfl).1
  have y2 : w1.cell? ⟨w.heap.size, 2, none⟩ = some (.slice ae es.length ce) := (HX1.out.has 0 _ rfl 2 _ rfl).1
  have hbb : (kindsB ks && pointsB ps) = baseB ks ps := rfl
  rw [hbb]; clear hbb
  generalize baseB ks ps = bb at *
  cases bb
  · go_wp2
    go_ret
    exact ⟨ret_bool (by rw [HE.out]; rfl), HX1.out.below⟩
  go_wp2_with fail
  refine (namesEntry_any _ es _ (HB.out.e.keep HX1.out.below) NB.out.e).mono ?_
  rintro e w2 ⟨rfl, hb2⟩
  have HX2 : Hid (OwnAt w w2 _) := HX1.out.call hb2
  clear HX1 hb2 y0 y1 y2
  have y0 : w2.cell? ⟨w.heap.size, 0, none⟩ = some (.slice ak ks.length ck) := (HX2.out.has 0 _ rfl 0 _ rfl).1
  have y1 : w2.cell? ⟨w.heap.size, 1, none⟩ = some (.slice ap ps.length cp) := (HX2.out.has 0 _ rfl 1 _ rfl).1
  have y2 : w2.cell? ⟨w.heap.size, 2, none⟩ = some (.slice ae es.length ce) := (HX2.out.has 0 _ rfl 2 _ rfl).1
  generalize namesE es = ne at *
  cases ne
  · go_wp2
    go_ret
    exact ⟨ret_bool (by rw [HE.out]; rfl), HX2.out.below⟩
  have HE2 : Hid (bookB ks ps es = allB es.length fun i => fieldsB ks ps (eat es i).name (eat es i).fs) := HE.out
  clear HE
  go_wp2
  clear y0 y1 y2
  go_loopw [4, 18] (fun _ i wr => ∃ k : Nat, k ≤ es.length ∧ i = .int .i64 k ∧ OwnAt w wr [[.slice ak ks.length ck, .slice ap ps.length cp, .slice ae es.length ce]] ∧ Hid (∀ j, j < k → fieldsB ks ps (eat es j).name (eat es j).fs = true)) (fun _ i _ => es.length - (intOf i).toNat)
  case atStart => exact ⟨0, Nat.zero_le _, rfl, HX2.out, fun j hj => absurd hj (Nat.not_lt_zero _)⟩
  case round =>
    obtain ⟨k, hk, rfl, ho, HA⟩ := hrel
    have HO1 : Hid (OwnAt w wr [[.slice ak ks.length ck, .slice ap ps.length cp, .slice ae es.length ce]]) := ho
    by_cases hlt : k < es.length
    · obtain ⟨b, off, rfl, hc⟩ := HC.out k _ (eat_get hlt)
      obtain ⟨fv, d0, d1, hfl⟩ := hc.keep ho.below
      have HFL : Hid (FldsAt wr fv (eat es k).fs) := hfl
      obtain ⟨fa, fc, rfl, -, -, -⟩ := hfl
      have y0 : wr.cell? ⟨w.heap.size, 0, none⟩ = some (.slice ak ks.length ck) := (HO1.out.has 0 _ rfl 0 _ rfl).1
      have y1 : wr.cell? ⟨w.heap.size, 1, none⟩ = some (.slice ap ps.length cp) := (HO1.out.has 0 _ rfl 1 _ rfl).1
      have y2 : wr.cell? ⟨w.heap.size, 2, none⟩ = some (.slice (some ⟨b, off, none⟩) es.length ce) := (HO1.out.has 0 _ rfl 2 _ rfl).1
      have yz : w.heap.size < wr.heap.size := lt_of_cell y0
      have HM : Hid (eat es k ∈ es) := List.mem_of_getElem? (eat_get hlt)
      have hk0 : (0 : Int) ≤ (k : Int) := by omega
      have hk1 : (k : Int) < (es.length : Int) := by omega
      have HBN : Hid (∀ o : Obj, Below wr.heap.size wr (wr.alloc o)) := fun o => (Below.refl _ _).alloc (Nat.le_refl _) _
      clear ho hc
      go_wp2_with fail
      refine (fieldsOk_any _ _ _ ks ps (eat es k).name (eat es k).fs _ ((HB.out.k.keep HO1.out.below).keep (HBN.out _)) ((HB.out.p.keep HO1.out.below).keep (HBN.out _)) (HFL.out.keep (HBN.out _)) (SB.out.n _ HM.out) (SB.out.v _ HM.out)).mono ?_
      rintro e w3 ⟨rfl, hb3⟩
      have HO3 : Hid (OwnAt w w3 _) := (HO1.out.call (HBN.out _)).call hb3
      clear hb3
      cases hft : fieldsB ks ps (eat es k).name (eat es k).fs
      · have HFT : Hid (fieldsB ks ps (eat es k).name (eat es k).fs = false) := hft
        clear hft
        go_wp2
        go_ret
        exact ⟨ret_bool (by rw [HE2.out]; exact (allB_false hlt HFT.out).symm), HO3.out.below⟩
      · have HFT : Hid (fieldsB ks ps (eat es k).name (eat es k).fs = true) := hft
        clear hft
        go_wp2
        exact ⟨⟨k + 1, by omega, by go_num, HO3.out, fun j hj => if e : j = k then by rw [e]; exact HFT.out else HA.out j (by omega)⟩, by simp [intOf]; omega⟩
    · go_wp2
      go_ret
      exact ⟨ret_bool (by rw [HE2.out]; exact (allB_true fun j hj => HA.out j (by omega)).symm), HO1.out.below⟩
end Go.Proofs.Ytfjblenkcfdbiaa
