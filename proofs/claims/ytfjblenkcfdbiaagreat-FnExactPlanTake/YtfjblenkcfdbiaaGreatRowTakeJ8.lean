/-
  For the proof of take_holds: part 8 (Book6, News1).
-/
import Derived.Deep.DeepCutAuto
import Derived.Test.YtfjblenkcfdbiaaGreatRowTakeJ7
/-
  impl: fields that are ok; a book that is ok.
-/
namespace Go.Proofs.YtfjblenkcfdbiaaGreat
open Go.RowKit
attribute [local go_sem] Later.cell Later.frozen

theorem changeOf_any (f : Fld) (n : ByteArray) (w : World) :
    Calls Tryz.prog 67 #[.agg #[.int .i64 f.what, .int .i64 f.num, .string f.v], .string n] w fun e w' => e = .returned (.agg #[.string n, .int .i64 f.what, .int .i64 f.num, .string f.v]) ∧ Below w.heap.size w w' := by
  go_enter Tryz.func67, Tryz.ntmps67
  go_wp2
  exact bodyPost_ret (v := .agg #[.string n, .int .i64 f.what, .int .i64 f.num, .string f.v]) (by simp [results, Tryz.results67, go_sem]) rfl ⟨rfl, ((Below.refl _ _).alloc (Nat.le_refl _) _).alloc (by simp) _⟩

theorem ascF_zero (l : List Fld) : ascF l 0 = true := by simp [ascF]

set_option maxHeartbeats 3200000 in
theorem fieldsOk_any (vk vp fv : Value) (ks ps : List Tri) (n : ByteArray) (l : List Fld) (w : World) (hk : TrisAt w vk ks) (hp : TrisAt w vp ps) (hv : FldsAt w fv l) (hn : n.size ≤ 1048576) (hs : ∀ f ∈ l, f.v.size ≤ 1048576) :
    Calls Tryz.prog 66 #[.agg #[vk, vp], .agg #[.string n, fv]] w fun e w' => e = .returned (.bool (fieldsB ks ps n l)) ∧ Below w.heap.size w w' := by
  have HKP : Hid (TrisAt w vk ks ∧ TrisAt w vp ps) := ⟨hk, hp⟩
  obtain ⟨ak, ck, rfl, -, -, -⟩ := hk
  obtain ⟨ap, cp, rfl, -, -, -⟩ := hp
  obtain ⟨a, cap, rfl, hlc, hcm, hc⟩ := hv
  unfold maxLen at hcm
  have HC : Hid (∀ i f, l[i]? = some f → ∃ b off, a = some ⟨b, off, none⟩ ∧ FldAt w b (off + i * 3) f) := hc
  have HS : Hid (∀ f ∈ l, f.v.size ≤ 1048576) := hs
  clear hc hs
  have HO0 : Hid (OwnAt w ((w.alloc (.cells #[.slice ak ks.length ck, .slice ap ps.length cp] 36)).alloc (.cells #[.string n, .slice a l.length cap] 73)) [[.slice ak ks.length ck, .slice ap ps.length cp], [.string n, .slice a l.length cap]]) := ((OwnAt.start w).push rfl _ _).push (by simp) _ _
  have HE : Hid (fieldsB ks ps n l = ((allB l.length fun i => ascF l i && fitB ks ps (chgOf n (fat l i))) && decide (0 < l.length))) := rfl
  go_enter Tryz.func66, Tryz.ntmps66
  go_wp2
  go_loopw [5, 6, 10] (fun _ _ i wr => ∃ k : Nat, k ≤ l.length ∧ i = .int .i64 k ∧ OwnAt w wr [[.slice ak ks.length ck, .slice ap ps.length cp], [.string n, .slice a l.length cap]] ∧ Hid (∀ j, j < k → (ascF l j && fitB ks ps (chgOf n (fat l j))) = true)) (fun _ _ i _ => l.length - (intOf i).toNat)
  case atStart => exact ⟨0, Nat.zero_le _, rfl, HO0.out, fun j hj => absurd hj (Nat.not_lt_zero _)⟩
  case round =>
    obtain ⟨k, hk, rfl, ho, HA⟩ := hrel
    have HO1 : Hid (OwnAt w wr [[.slice ak ks.length ck, .slice ap ps.length cp], [.string n, .slice a l.length cap]]) := ho
    by_cases hlt : k < l.length
    · obtain ⟨b, off, rfl, hc⟩ := HC.out k _ (fat_get hlt)
      obtain ⟨d0, d1, d2⟩ := hc.keep ho.below (Nat.le_refl _)
      have hbz : b < wr.heap.size := lt_of_cell d0
      have hsk : (fat l k).v.size ≤ 1048576 := HS.out _ (List.mem_of_getElem? (fat_get hlt))
      have hk0 : (0 : Int) ≤ (k : Int) := by omega
      have hk1 : (k : Int) < (l.length : Int) := by omega
      have BAD : Hid ((ascF l k && fitB ks ps (chgOf n (fat l k))) = false → fieldsB ks ps n l = false) := fun h => by rw [HE.out, allB_false hlt h]; rfl
      have HB2 : Hid (Below wr.heap.size wr (wr.alloc (.cells #[.int .i64 (fat l k).what, .int .i64 (fat l k).num, .string (fat l k).v] 62))) := (Below.refl _ _).alloc (Nat.le_refl _) _
      have HO2 : Hid (OwnAt w (wr.alloc (.cells #[.int .i64 (fat l k).what, .int .i64 (fat l k).num, .string (fat l k).v] 62)) [[.slice ak ks.length ck, .slice ap ps.length cp], [.string n, .slice (some ⟨b, off, none⟩) l.length cap]]) := ho.call HB2.out
      have HF2 : Hid (FldAt (wr.alloc (.cells #[.int .i64 (fat l k).what, .int .i64 (fat l k).num, .string (fat l k).v] 62)) wr.heap.size 0 (fat l k)) := ⟨by simp, by simp, by simp⟩
      have HFIT : Hid (∀ wx : World, Below w.heap.size w wx → Calls Tryz.prog 33 #[.agg #[.slice ak ks.length ck, .slice ap ps.length cp], .agg #[.string n, .int .i64 (fat l k).what, .int .i64 (fat l k).num, .string (fat l k).v]] wx fun e w' => e = .returned (.bool (fitB ks ps (chgOf n (fat l k)))) ∧ Below wx.heap.size wx w') := fun wx hx => changeFits_any _ _ ks ps (chgOf n (fat l k)) wx (HKP.out.1.keep hx) (HKP.out.2.keep hx) hn hsk
      have MID : Hid (0 < k → ∃ m, k = m + 1 ∧ FldAt wr b (off + m * 3) (fat l m) ∧ ascF l k = !decide ((fat l k).what ≤ (fat l m).what)) := fun hz => by
        obtain ⟨m, rfl⟩ : ∃ m, k = m + 1 := ⟨k - 1, by omega⟩
        obtain ⟨b', off', hbo, hcm'⟩ := HC.out m _ (fat_get (by omega))
        cases hbo
        exact ⟨m, rfl, hcm'.keep ho.below (Nat.le_refl _), by simp [ascF]⟩
      clear ho hc
      go_upto_region 4 with fail
      generalize wr.alloc (.cells #[.int .i64 (fat l k).what, .int .i64 (fat l k).num, .string (fat l k).v] 62) = w2 at *
      have nz : wr.heap.size < w2.heap.size := lt_of_cell HF2.out.1
      go_cut [28] (fun s28 wc => s28 = .bool (!ascF l k) ∧ Below w2.heap.size w2 wc)
      case first =>
        have e2 : w2.cell? ⟨w.heap.size + 1, 0, none⟩ = some (.string n) := (HO2.out.has 1 _ rfl 0 _ rfl).1
        have e3 : w2.cell? ⟨w.heap.size + 1, 1, none⟩ = some (.slice (some ⟨b, off, none⟩) l.length cap) := (HO2.out.has 1 _ rfl 1 _ rfl).1
        have ez : w.heap.size + 1 < w2.heap.size := lt_of_cell e2
        obtain ⟨n0, n1, n2⟩ := HF2.out
        simp only [Nat.zero_add] at n1 n2
        have hne := Later.some w2
        have hbz2 : b < w2.heap.size := by have := HB2.out.size; omega
        by_cases hz : 0 < k
        · obtain ⟨m, hkm, hf, hh⟩ := MID.out hz
          subst hkm
          obtain ⟨g0, g1, g2⟩ := hf.keep HB2.out (Nat.le_refl _)
          have hi0 : (0 : Int) ≤ (m : Int) := by omega
          have hi1 : (m : Int) < (l.length : Int) := by omega
          have hi2 : (0 : Int) < (m : Int) + 1 := by omega
          have hw1 : IntKind.i64.wrap (m : Int) = (m : Int) := by rw [IntKind.wrap_i64]; omega
          have hw2 : IntKind.i64.wrap ((m : Int) + 1 - 1) = (m : Int) := by rw [IntKind.wrap_i64]; omega
          have HH : Hid (ascF l (m + 1) = !decide ((fat l (m + 1)).what ≤ (fat l m).what)) := hh
          clear hh hf
          refine wp_region_later (by kernel_rfl) (by kernel_rfl) ?_
          repeat (go_big_quiet_step (fail))
          refine wpQuiet_nil ?_
          rintro _ ⟨x, rfl⟩
          go_wp2_with fail
          go_meet
          exact ⟨by rw [HH.out, Bool.not_not], x.below⟩
        · have hz' : decide (0 < k) = false := by simp; omega
          have HH : Hid (ascF l k = true) := by
            show ascF l k = true
            obtain rfl : k = 0 := by omega
            exact ascF_zero l
          refine wp_region_later (by kernel_rfl) (by kernel_rfl) ?_
          repeat (go_big_quiet_step (fail))
          refine wpQuiet_nil ?_
          rintro _ ⟨x, rfl⟩
          go_wp2_with fail
          go_meet
          exact ⟨by rw [HH.out]; rfl, x.below⟩
      case rest =>
        obtain ⟨rfl, hbc⟩ := hcut
        have HO3 : Hid (OwnAt w wc [[.slice ak ks.length ck, .slice ap ps.length cp], [.string n, .slice (some ⟨b, off, none⟩) l.length cap]]) := HO2.out.call hbc
        have e0 : wc.cell? ⟨w.heap.size, 0, none⟩ = some (.slice ak ks.length ck) := (HO3.out.has 0 _ rfl 0 _ rfl).1
        have e1 : wc.cell? ⟨w.heap.size, 1, none⟩ = some (.slice ap ps.length cp) := (HO3.out.has 0 _ rfl 1 _ rfl).1
        have e2 : wc.cell? ⟨w.heap.size + 1, 0, none⟩ = some (.string n) := (HO3.out.has 1 _ rfl 0 _ rfl).1
        have e3 : wc.cell? ⟨w.heap.size + 1, 1, none⟩ = some (.slice (some ⟨b, off, none⟩) l.length cap) := (HO3.out.has 1 _ rfl 1 _ rfl).1
        have ez : w.heap.size + 1 < wc.heap.size := lt_of_cell e2
        have ey : w.heap.size < wc.heap.size := lt_of_cell e0
        obtain ⟨n0, n1, n2⟩ := HF2.out.keep hbc (Nat.le_refl _)
        simp only [Nat.zero_add] at n1 n2
        have nz2 : wr.heap.size < wc.heap.size := lt_of_cell n0
        have hne := Later.some wc
        have GF : Hid (∀ (y : Later wc), Calls Tryz.prog 33 #[.agg #[.slice ak ks.length ck, .slice ap ps.length cp], .agg #[.string n, .int .i64 (fat l k).what, .int .i64 (fat l k).num, .string (fat l k).v]] y.val fun e w'' => e = .returned (.bool (fitB ks ps (chgOf n (fat l k)))) ∧ ∃ z : Later wc, w'' = z.val) := fun y => Calls.later (HFIT.out y.val (below_step HO3.out.below y.below))
        have GC : Hid (∀ (y : Later wc), Calls Tryz.prog 67 #[.agg #[.int .i64 (fat l k).what, .int .i64 (fat l k).num, .string (fat l k).v], .string n] y.val fun e w'' => e = .returned (.agg #[.string n, .int .i64 (fat l k).what, .int .i64 (fat l k).num, .string (fat l k).v]) ∧ ∃ z : Later wc, w'' = z.val) := fun y => Calls.later (changeOf_any (fat l k) n y.val)
        clear MID HFIT HF2 HB2 HO2 hbc d0 d1 d2
        have HAF : Hid (∃ q, ascF l k = q) := ⟨_, rfl⟩
        generalize haf : ascF l k = af at *
        have HAF : Hid (ascF l k = af) := haf
        clear haf
        generalize hft : fitB ks ps (chgOf n (fat l k)) = ft at *
        have HFT : Hid (fitB ks ps (chgOf n (fat l k)) = ft) := hft
        clear hft
        cases af
        · go_wp2
          go_ret
          exact ⟨ret_bool (BAD.out rfl).symm, HO3.out.below⟩
        · go_wp2
          refine wp_region_later (by kernel_rfl) (by kernel_rfl) ?_
          repeat (go_big_quiet_step (first | (go_at_call 33; exact GF.out _) | (go_at_call 67; exact GC.out _)))
          refine wpQuiet_nil ?_
          rintro _ ⟨x, rfl⟩
          cases ft
          · go_wp2
            go_ret
            exact ⟨ret_bool (BAD.out rfl).symm, below_step HO3.out.below x.below⟩
          · go_wp2
            go_roundw
            case rel => exact ⟨k + 1, by omega, by go_num, HO3.out.call x.below, fun j hj => if e : j = k then by rw [e, HAF.out, HFT.out]; rfl else HA.out j (by omega)⟩
            case measure => simp [intOf]; omega
    · have e0 : wr.cell? ⟨w.heap.size + 1, 0, none⟩ = some (.string n) := (HO1.out.has 1 _ rfl 0 _ rfl).1
      have e1 : wr.cell? ⟨w.heap.size + 1, 1, none⟩ = some (.slice a l.length cap) := (HO1.out.has 1 _ rfl 1 _ rfl).1
      have HF : Hid (fieldsB ks ps n l = decide (0 < l.length)) := by
        show _ = _
        rw [HE.out, allB_true fun j hj => HA.out j (by omega)]; rfl
      clear ho
      go_wp2
      go_ret
      exact ⟨ret_bool (by rw [HF.out] <;> simp), HO1.out.below⟩

theorem ENames.of {ks ps : List Tri} {es : List Ent} (h : BSmall ks ps es) : ENames es := fun e he => ⟨by have := h.n e he; unfold maxLen; omega, fun f hf => by have := h.v e he f hf; unfold maxLen; omega⟩

set_option maxHeartbeats 3200000 in
theorem bookOk_any (vk vp ve : Value) (ks ps : List Tri) (es : List Ent) (w : World) (hB : BookAt w vk vp ve ks ps es) (nB : BNames ks ps es) (sB : BSmall ks ps es) :
    Calls Tryz.prog 31 #[.agg #[vk, vp, ve]] w fun e w' => e = .returned (.bool (bookB ks ps es)) ∧ Below w.heap.size w w' := by
  have HB : Hid (BookAt w vk vp ve ks ps es) := hB
  have NB : Hid (BNames ks ps es) := nB
  have SB : Hid (BSmall ks ps es) := sB
  obtain ⟨⟨ak, ck, rfl, -, -, -⟩, ⟨ap, cp, rfl, -, -, -⟩, ⟨ae, ce, rfl, hlc, hcm, hc⟩⟩ := hB
  unfold maxLen at hcm
  have HC : Hid (∀ i f, es[i]? = some f → ∃ b off, ae = some ⟨b, off, none⟩ ∧ EntAt w b (off + i * 2) f) := hc
  clear nB sB hc
  have HX0 : Hid (OwnAt w (w.alloc (.cells #[.slice ak ks.length ck, .slice ap ps.length cp, .slice ae es.length ce] 39)) [[.slice ak ks.length ck, .slice ap ps.length cp, .slice ae es.length ce]]) := (OwnAt.start w).push rfl _ _
  have HE : Hid (bookB ks ps es = (baseB ks ps && (namesE es && allB es.length fun i => fieldsB ks ps (eat es i).name (eat es i).fs))) := rfl
  go_enter Tryz.func31, Tryz.ntmps31
  go_wp2_with fail
  refine (baseOk_any _ _ ks ps _ (HB.out.k.keep HX0.out.below) (HB.out.p.keep HX0.out.below) NB.out.k NB.out.p).mono ?_
  rintro e w1 ⟨rfl, hb1⟩
  have HX1 : Hid (OwnAt w w1 _) := HX0.out.call hb1
  clear HX0 hb1
  have y0 : w1.cell? ⟨w.heap.size, 0, none⟩ = some (.slice ak ks.length ck) := (HX1.out.has 0 _ rfl 0 _ rfl).1
  have y1 : w1.cell? ⟨w.heap.size, 1, none⟩ = some (.slice ap ps.length cp) := (HX1.out.has 0 _ rfl 1 _ rfl).1
  have y2 : w1.cell? ⟨w.heap.size, 2, none⟩ = some (.slice ae es.length ce) := (HX1.out.has 0 _ rfl 2 _ rfl).1
  have hbb : (kindsB ks && pointsB ps) = baseB ks ps := rfl
  rw [hbb]; clear hbb
  generalize baseB ks ps = bb at *
  cases bb
  · go_wp2
    go_ret
    exact ⟨ret_bool (by rw [HE.out]; rfl), HX1.out.below⟩
  go_wp2_with fail
  refine (namesEntry_any _ es _ (HB.out.e.keep HX1.out.below) NB.out.e).mono ?_
  rintro e w2 ⟨rfl, hb2⟩
  have HX2 : Hid (OwnAt w w2 _) := HX1.out.call hb2
  clear HX1 hb2 y0 y1 y2
  have y0 : w2.cell? ⟨w.heap.size, 0, none⟩ = some (.slice ak ks.length ck) := (HX2.out.has 0 _ rfl 0 _ rfl).1
  have y1 : w2.cell? ⟨w.heap.size, 1, none⟩ = some (.slice ap ps.length cp) := (HX2.out.has 0 _ rfl 1 _ rfl).1
  have y2 : w2.cell? ⟨w.heap.size, 2, none⟩ = some (.slice ae es.length ce) := (HX2.out.has 0 _ rfl 2 _ rfl).1
  generalize namesE es = ne at *
  cases ne
  · go_wp2
    go_ret
    exact ⟨ret_bool (by rw [HE.out]; rfl), HX2.out.below⟩
  have HE2 : Hid (bookB ks ps es = allB es.length fun i => fieldsB ks ps (eat es i).name (eat es i).fs) := HE.out
  clear HE
  go_wp2
  clear y0 y1 y2
  go_loopw [4, 18] (fun _ i wr => ∃ k : Nat, k ≤ es.length ∧ i = .int .i64 k ∧ OwnAt w wr [[.slice ak ks.length ck, .slice ap ps.length cp, .slice ae es.length ce]] ∧ Hid (∀ j, j < k → fieldsB ks ps (eat es j).name (eat es j).fs = true)) (fun _ i _ => es.length - (intOf i).toNat)
  case atStart => exact ⟨0, Nat.zero_le _, rfl, HX2.out, fun j hj => absurd hj (Nat.not_lt_zero _)⟩
  case round =>
    obtain ⟨k, hk, rfl, ho, HA⟩ := hrel
    have HO1 : Hid (OwnAt w wr [[.slice ak ks.length ck, .slice ap ps.length cp, .slice ae es.length ce]]) := ho
    by_cases hlt : k < es.length
    · obtain ⟨b, off, rfl, hc⟩ := HC.out k _ (eat_get hlt)
      obtain ⟨fv, d0, d1, hfl⟩ := hc.keep ho.below
      have HFL : Hid (FldsAt wr fv (eat es k).fs) := hfl
      obtain ⟨fa, fc, rfl, -, -, -⟩ := hfl
      have y0 : wr.cell? ⟨w.heap.size, 0, none⟩ = some (.slice ak ks.length ck) := (HO1.out.has 0 _ rfl 0 _ rfl).1
      have y1 : wr.cell? ⟨w.heap.size, 1, none⟩ = some (.slice ap ps.length cp) := (HO1.out.has 0 _ rfl 1 _ rfl).1
      have y2 : wr.cell? ⟨w.heap.size, 2, none⟩ = some (.slice (some ⟨b, off, none⟩) es.length ce) := (HO1.out.has 0 _ rfl 2 _ rfl).1
      have yz : w.heap.size < wr.heap.size := lt_of_cell y0
      have HM : Hid (eat es k ∈ es) := List.mem_of_getElem? (eat_get hlt)
      have hk0 : (0 : Int) ≤ (k : Int) := by omega
      have hk1 : (k : Int) < (es.length : Int) := by omega
      have HBN : Hid (∀ o : Obj, Below wr.heap.size wr (wr.alloc o)) := fun o => (Below.refl _ _).alloc (Nat.le_refl _) _
      clear ho hc
      go_wp2_with fail
      refine (fieldsOk_any _ _ _ ks ps (eat es k).name (eat es k).fs _ ((HB.out.k.keep HO1.out.below).keep (HBN.out _)) ((HB.out.p.keep HO1.out.below).keep (HBN.out _)) (HFL.out.keep (HBN.out _)) (SB.out.n _ HM.out) (SB.out.v _ HM.out)).mono ?_
      rintro e w3 ⟨rfl, hb3⟩
      have HO3 : Hid (OwnAt w w3 _) := (HO1.out.call (HBN.out _)).call hb3
      clear hb3
      cases hft : fieldsB ks ps (eat es k).name (eat es k).fs
      · have HFT : Hid (fieldsB ks ps (eat es k).name (eat es k).fs = false) := hft
        clear hft
        go_wp2
        go_ret
        exact ⟨ret_bool (by rw [HE2.out]; exact (allB_false hlt HFT.out).symm), HO3.out.below⟩
      · have HFT : Hid (fieldsB ks ps (eat es k).name (eat es k).fs = true) := hft
        clear hft
        go_wp2
        exact ⟨⟨k + 1, by omega, by go_num, HO3.out, fun j hj => if e : j = k then by rw [e]; exact HFT.out else HA.out j (by omega)⟩, by simp [intOf]; omega⟩
    · go_wp2
      go_ret
      exact ⟨ret_bool (by rw [HE2.out]; exact (allB_true fun j hj => HA.out j (by omega)).symm), HO1.out.below⟩
end Go.Proofs.YtfjblenkcfdbiaaGreat

/-
  Lists of changes; what a book says, change by change: impl's changesOf.
-/
namespace Go.Proofs.YtfjblenkcfdbiaaGreat
open Go.RowKit

def chgRow (c : Chg) : List Value := [.string c.f, .int .i64 c.what, .int .i64 c.num, .string c.v]
def chgRows (l : List Chg) : List Value := l.flatMap chgRow
theorem chgRows_len (l : List Chg) : (chgRows l).length = l.length * 4 := by
  induction l with
  | nil => rfl
  | cons c l ih => simp only [chgRows, List.flatMap_cons, List.length_append, List.length_cons] at *; simp only [chgRow, List.length_cons, List.length_nil]; omega
theorem chgRows_snoc (l : List Chg) (c : Chg) : chgRows (l ++ [c]) = chgRows l ++ chgRow c := by simp [chgRows]
/-- What a book says. -/
def chgsOf (es : List Ent) : List Chg := es.flatMap fun e => e.fs.map (chgOf e.name)
theorem chgsOf_take (es : List Ent) (k : Nat) (e : Ent) (h : es[k]? = some e) : chgsOf (es.take (k + 1)) = chgsOf (es.take k) ++ e.fs.map (chgOf e.name) := by
  obtain ⟨hk, rfl⟩ := List.getElem?_eq_some_iff.1 h
  rw [List.take_succ_eq_append_getElem hk]
  simp only [chgsOf, List.flatMap_append, List.flatMap_cons, List.flatMap_nil, List.append_nil]
theorem chgsOf_len (es : List Ent) : (chgsOf es).length = sumN (fun e => e.fs.length) es := by
  induction es with
  | nil => rfl
  | cons e es ih => simp only [chgsOf, List.flatMap_cons, List.length_append, sumN, List.length_map] at *; omega
theorem sum_fs_le (es : List Ent) : sumN (fun e => e.fs.length) es ≤ sumN szEnt es := by
  induction es with
  | nil => exact Nat.le_refl _
  | cons e es ih => simp only [sumN, szEnt, szFlds] at *; omega
/-- A slice of changes of the call's own. -/
def ChgsNew (w : World) (base : Nat) (v : Value) (l : List Chg) : Prop := w.ownsRow base 43 4 v l.length (chgRows l)
theorem infoChange : (Tryz.prog.info? 43).map (fun i => (i.zero, i.size, i.bytes)) = some (some (.agg #[.string ByteArray.empty, .int .i64 0, .int .i64 0, .string ByteArray.empty]), 4, 48) := by kernel_rfl

/-- A change's cells. -/
def ChgAt (w : World) (b o : Nat) (c : Chg) : Prop := w.cell? ⟨b, o, none⟩ = some (.string c.f) ∧ w.cell? ⟨b, o + 1, none⟩ = some (.int .i64 c.what) ∧ w.cell? ⟨b, o + 2, none⟩ = some (.int .i64 c.num) ∧ w.cell? ⟨b, o + 3, none⟩ = some (.string c.v)
def ChgsAt (w : World) (v : Value) (l : List Chg) : Prop :=
  ∃ a cap, v = .slice a l.length cap ∧ l.length ≤ cap ∧ cap ≤ maxLen ∧ ∀ i c, l[i]? = some c → ∃ b off, a = some ⟨b, off, none⟩ ∧ ChgAt w b (off + i * 4) c
theorem ChgAt.keep {w w' : World} {b o B : Nat} {c : Chg} (h : ChgAt w b o c) (hb : Below B w w') (hB : w.heap.size ≤ B) : ChgAt w' b o c :=
  ⟨cell_keep hb hB h.1, cell_keep hb hB h.2.1, cell_keep hb hB h.2.2.1, cell_keep hb hB h.2.2.2⟩
theorem ChgsAt.keep {w w' : World} {v : Value} {l : List Chg} (h : ChgsAt w v l) (hb : Below w.heap.size w w') : ChgsAt w' v l := by
  obtain ⟨a, cap, rfl, h1, h2, h3⟩ := h
  refine ⟨a, cap, rfl, h1, h2, fun i t ht => ?_⟩
  obtain ⟨b, off, ha, hc⟩ := h3 i t ht
  exact ⟨b, off, ha, hc.keep hb (Nat.le_refl _)⟩
theorem chgRows_at (l : List Chg) (i : Nat) (c : Chg) (h : l[i]? = some c) (j : Nat) (hj : j < 4) : (chgRows l)[i * 4 + j]? = (chgRow c)[j]? := by
  induction l generalizing i with
  | nil => simp at h
  | cons a l ih =>
    have e : chgRows (a :: l) = chgRow a ++ chgRows l := by simp [chgRows]
    rw [e]
    cases i with
    | zero =>
      simp at h; subst h
      rw [List.getElem?_append_left (by simp [chgRow]; omega)]; simp
    | succ i =>
      rw [List.getElem?_append_right (by simp [chgRow]; omega)]
      have : (i + 1) * 4 + j - (chgRow a).length = i * 4 + j := by simp [chgRow]; omega
      rw [this]
      exact ih i (by simpa using h)
theorem ChgsNew.at {w : World} {base : Nat} {v : Value} {l : List Chg} (h : ChgsNew w base v l) : ChgsAt w v l := by
  obtain ⟨h1, h2⟩ := h
  rcases h2 with ⟨rfl, h0⟩ | ⟨g, cap, cur, rfl, _, hb, hn, hc, hs, ht⟩
  · have : l = [] := List.length_eq_zero_iff.1 h0
    subst this
    exact ⟨none, 0, rfl, Nat.le_refl _, Nat.zero_le _, fun i c hc => by simp at hc⟩
  · refine ⟨some ⟨g, 0, none⟩, cap, rfl, hn, hc, fun i c hi => ⟨g, 0, rfl, ?_⟩⟩
    have hil : i < l.length := (List.getElem?_eq_some_iff.1 hi).1
    have one : ∀ j, j < 4 → w.cell? ⟨g, 0 + i * 4 + j, none⟩ = (chgRow c)[j]? := fun j hj => by
      rw [← chgRows_at l i c hi j hj, ← ht, List.getElem?_take]
      rw [if_pos (by omega)]
      simp [World.cell?, hb]
    refine ⟨?_, ?_, ?_, ?_⟩
    · simpa [chgRow] using one 0 (by omega)
    · simpa [chgRow] using one 1 (by omega)
    · simpa [chgRow] using one 2 (by omega)
    · simpa [chgRow] using one 3 (by omega)
def cat' (l : List Chg) (i : Nat) : Chg := l.getD i ⟨⟨#[]⟩, 0, 0, ⟨#[]⟩⟩
theorem cat_get {l : List Chg} {i : Nat} (h : i < l.length) : l[i]? = some (cat' l i) := by simp [cat', h]
theorem cell_four_new (w : World) (a b c d : Value) (t : TypeId) : ∀ j u, [a, b, c, d][j]? = some u → (w.alloc (.cells #[a, b, c, d] t)).cell? ((⟨w.heap.size, 0, none⟩ : Addr).add j) = some u := by
  intro j u hj
  match j, hj with
  | 0, hj => simp at hj; subst hj; simp [Addr.add]
  | 1, hj => simp at hj; subst hj; simp [Addr.add]
  | 2, hj => simp at hj; subst hj; simp [Addr.add]
  | 3, hj => simp at hj; subst hj; simp [Addr.add]
  | j + 4, hj => simp at hj
theorem ownsRow_keep {w w' : World} {base : Nat} {e : TypeId} {size : Nat} {v : Value} {n : Nat} {xs : List Value} (h : w.ownsRow base e size v n xs) (hb : Below w.heap.size w w') : w'.ownsRow base e size v n xs := by
  obtain ⟨h1, h2⟩ := h
  refine ⟨h1, ?_⟩
  rcases h2 with h2 | ⟨g, cap, cur, hv, hg, hh, rest⟩
  · exact .inl h2
  · exact .inr ⟨g, cap, cur, hv, hg, (hb.block g (Array.getElem?_eq_some_iff.1 hh).1).trans hh, rest⟩

/-- A block of another kind is not the row's. -/
theorem own_other {w : World} {base : Nat} {e : TypeId} {size : Nat} {v : Value} {n : Nat} {xs : List Value} {B : Nat} {C : Array Value} {t : TypeId} (h : w.ownsRow base e size v n xs) (hB : w.heap[B]? = some (.cells C t)) (hne : e ≠ t) : some B ≠ v.ownBlock := by
  intro hk
  rcases h.2 with ⟨rfl, _⟩ | ⟨g, cap, cur, rfl, _, hb, _⟩
  · cases hk
  · cases hk
    rw [hb] at hB
    injection hB with hB
    injection hB with h1 h2 h3
    exact hne h2

set_option maxHeartbeats 3200000 in
theorem changesOf_any (vk vp ve : Value) (es : List Ent) (w : World) (he : EntsAt w ve es) (hsz : sumN (fun e => e.fs.length) es ≤ 1048576) (hel : es.length ≤ 1048576) :
    Calls Tryz.prog 32 #[.agg #[vk, vp, ve]] w fun e w' => ∃ v, e = .returned v ∧ ChgsNew w' w.heap.size v (chgsOf es) ∧ Below w.heap.size w w' := by
  obtain ⟨i0, hi, hz0, hz1, hz2⟩ := info_parts infoChange
  obtain ⟨ae, ce, rfl, hlc, hcm, hc⟩ := he
  unfold maxLen at hcm
  have HC : Hid (∀ i f, es[i]? = some f → ∃ b off, ae = some ⟨b, off, none⟩ ∧ EntAt w b (off + i * 2) f) := hc
  have HSZ : Hid (∀ k, (chgsOf (es.take k)).length ≤ 1048576) := fun k => by
    rw [chgsOf_len]; exact Nat.le_trans (sumN_take_le _ es k) hsz
  clear hc
  have HX0 : Hid (Below w.heap.size w (w.alloc (.cells #[vk, vp, .slice ae es.length ce] 39))) := (Below.refl _ _).alloc (Nat.le_refl _) _
  go_enter Tryz.func32, Tryz.ntmps32
  go_wp2
  go_loopw [3, 5, 7, 11] (fun o _ _ i wr => ∃ k : Nat, k ≤ es.length ∧ i = .int .i64 k ∧ ChgsNew wr w.heap.size o (chgsOf (es.take k)) ∧ Below w.heap.size w wr) (fun _ _ _ i _ => es.length - (intOf i).toNat)
  case atStart => exact ⟨0, Nat.zero_le _, rfl, ⟨rfl, .inl ⟨rfl, rfl⟩⟩, HX0.out⟩
  case round =>
    obtain ⟨k, hk, rfl, hown, hb⟩ := hrel
    by_cases hlt : k < es.length
    · obtain ⟨b, off, rfl, hc⟩ := HC.out k _ (eat_get hlt)
      obtain ⟨fv, d0', d1', hfl⟩ := hc
      have d0 := cell_keep hb (Nat.le_refl _) d0'
      have d1 := cell_keep hb (Nat.le_refl _) d1'
      have HK : Hid (chgsOf (es.take (k + 1)) = chgsOf (es.take k) ++ (eat es k).fs.map (chgOf (eat es k).name) ∧ (chgsOf (es.take (k + 1))).length ≤ 1048576) := ⟨chgsOf_take es k _ (eat_get hlt), HSZ.out (k + 1)⟩
      obtain ⟨fa, fc, rfl, hfc, hfm, hfe⟩ := hfl
      unfold maxLen at hfm
      have HFE : Hid (∀ i f, (eat es k).fs[i]? = some f → ∃ b off, fa = some ⟨b, off, none⟩ ∧ FldAt w b (off + i * 3) f) := hfe
      clear hfe d0' d1'
      generalize eat es k = t at *
      obtain ⟨nm, fs⟩ := t
      dsimp only at *
      have hk0 : (0 : Int) ≤ (k : Int) := by omega
      have hk1 : (k : Int) < (es.length : Int) := by omega
      have HOW : Hid (ChgsNew wr w.heap.size u3 (chgsOf (es.take k))) := hown
      have HB1 : Hid ((wr.alloc (.cells #[.string nm, .slice fa fs.length fc] 73)).heap[wr.heap.size]? = some (.cells #[.string nm, .slice fa fs.length fc] 73)) := by show (wr.heap.push _)[wr.heap.size]? = _; simp
      generalize hcs : chgsOf (es.take k) = cs at *
      clear hcs hown
      go_wp2
      obtain ⟨B5, hB5⟩ : ∃ B5, wr.heap.size = B5 := ⟨_, rfl⟩
      have HST : Hid (ChgsNew (wr.alloc (.cells #[.string nm, .slice fa fs.length fc] 73)) w.heap.size u3 cs) := ownsRow_keep HOW.out ((Below.refl _ _).alloc (Nat.le_refl _) _)
      have HBS : Hid (Below w.heap.size w (wr.alloc (.cells #[.string nm, .slice fa fs.length fc] 73))) := hb.alloc hb.size _
      rw [hB5] at HB1
      simp only [hB5]
      generalize wr.alloc (.cells #[.string nm, .slice fa fs.length fc] 73) = ws at *
      clear HOW d0 d1 hb hB5
      go_loopw [3, 7, 18] (fun o _ i wx => ∃ j : Nat, j ≤ fs.length ∧ i = .int .i64 j ∧ ChgsNew wx w.heap.size o (cs ++ (fs.take j).map (chgOf nm)) ∧ Below w.heap.size w wx ∧ wx.heap[B5]? = some (.cells #[.string nm, .slice fa fs.length fc] 73)) (fun _ _ i _ => fs.length - (intOf i).toNat)
      case atStart => exact ⟨0, Nat.zero_le _, rfl, by simpa using HST.out, HBS.out, HB1.out⟩
      case round =>
        clear HST HBS HB1
        obtain ⟨j, hj, rfl, hown, hbx, hbox⟩ := hrel
        have n0 : wr.cell? ⟨B5, 0, none⟩ = some (.string nm) := by simp [World.cell?, hbox]
        have n1 : wr.cell? ⟨B5, 1, none⟩ = some (.slice fa fs.length fc) := by simp [World.cell?, hbox]
        have hz5 : B5 < wr.heap.size := (Array.getElem?_eq_some_iff.1 hbox).1
        by_cases hjl : j < fs.length
        · obtain ⟨fb, fo, rfl, hf⟩ := HFE.out j _ (fat_get hjl)
          obtain ⟨g0, g1, g2⟩ := hf.keep hbx (Nat.le_refl _)
          have HJ : Hid (cs ++ (fs.take (j + 1)).map (chgOf nm) = cs ++ (fs.take j).map (chgOf nm) ++ [chgOf nm (fat fs j)] ∧ (cs ++ (fs.take j).map (chgOf nm)).length + 1 ≤ 1048576) := by
            refine ⟨?_, ?_⟩
            · have : fs[j] = fat fs j := by simp [fat, hjl]
              rw [List.take_succ_eq_append_getElem hjl, List.map_append, this]; simp
            · have h1 := HK.out.2
              rw [HK.out.1] at h1
              simp at h1 ⊢; omega
          have HBX : Hid (Below w.heap.size w wr) := hbx
          have HBO : Hid (wr.heap[B5]? = some (.cells #[.string nm, .slice (some ⟨fb, fo, none⟩) fs.length fc] 73)) := hbox
          have HON : Hid (ChgsNew wr w.heap.size u3 (cs ++ (fs.take j).map (chgOf nm))) := hown
          clear hf hbx hbox hown
          generalize fat fs j = t at *
          generalize hcc : cs ++ (fs.take j).map (chgOf nm) = cc at *
          clear hcc
          have hj0 : (0 : Int) ≤ (j : Int) := by omega
          have hj1 : (j : Int) < (fs.length : Int) := by omega
          have HAL : Hid (Below wr.heap.size wr (wr.alloc (.cells #[.int .i64 t.what, .int .i64 t.num, .string t.v] 62))) := (Below.refl _ _).alloc (Nat.le_refl _) _
          go_wp2_with fail
          refine (changeOf_any t nm _).mono ?_
          rintro e w1 ⟨rfl, hb1⟩
          have hbw1 : Below wr.heap.size wr w1 := below_step HAL.out hb1
          have hown1 : ChgsNew w1 w.heap.size u3 cc := ownsRow_keep HON.out hbw1
          have hbox1 := (hbw1.block B5 hz5).trans HBO.out
          have hsz1 := hbw1.size
          have hB1 : Below w.heap.size w w1 := below_step HBX.out hbw1
          have hlen : cc.length + 1 ≤ 1048576 := HJ.out.2
          go_wp2_with (at_builtin; refine wpList_append_own _ rfl _ _ 50 rfl w.heap.size 43 i0 (.agg #[.string ByteArray.empty, .int .i64 0, .int .i64 0, .string ByteArray.empty]) 4 48 Tryz.underlying50 hi hz0 hz1 hz2 rfl (by decide) _ _ _ rfl (hown1.alloc _) ⟨w1.heap.size, 0, none⟩ 1 1 (chgRow (chgOf nm t)) rfl rfl (cell_four_new _ _ _ _ _ _) (fun x hx => by simp [chgRow, chgOf] at hx; rcases hx with rfl | rfl | rfl | rfl <;> rfl) (by unfold maxLen; omega) (by omega) (by have := hB1.size; simp; omega) ?_; intro v' w3 hown' hgrow3 hnil3)
          have hbox3 : w3.heap[B5]? = _ := (hgrow3.block B5 (by simp; omega) (own_other hown1 hbox1 (by decide))).trans ((Below.heap_alloc _ _ _ (by omega)).trans hbox1)
          refine ⟨⟨j + 1, by omega, by go_num, ?_, (hB1.alloc hB1.size _).grown hgrow3 (by have := hB1.size; simp; omega) (own_ge hown1), hbox3⟩, by simp [intOf]; omega⟩
          rw [HJ.out.1]
          unfold ChgsNew
          rw [chgRows_snoc, List.length_append]
          exact hown'
        · have HFI : Hid (ChgsNew wr w.heap.size u3 (chgsOf (es.take (k + 1)))) := by
            show ChgsNew wr w.heap.size u3 _
            rw [HK.out.1]
            rw [List.take_of_length_le (by omega)] at hown; exact hown
          go_wp2
          exact ⟨⟨k + 1, by omega, by go_num, HFI.out, hbx⟩, by simp [intOf]; omega⟩
    · have HFI : Hid (ChgsNew wr w.heap.size u3 (chgsOf es)) := by
        rw [List.take_of_length_le (by omega)] at hown; exact hown
      go_wp2
      go_ret
      exact ⟨u3, rfl, HFI.out, hb⟩
end Go.Proofs.YtfjblenkcfdbiaaGreat
