
/-
  The law's marks over books: what they may turn.
-/
import Derived.Test.YtfjblenkcfdbiaaGreatMark2
namespace Go.Proofs.YtfjblenkcfdbiaaGreat
open Go.RowKit

/-- Blocks from lo up to hi may have turned, and new ones come; what could be written can be. -/
structure Only (lo hi : Nat) (w w' : World) : Prop where
  below : Below lo w w'
  up : ∀ k, hi ≤ k → k < w.heap.size → w'.heap[k]? = w.heap[k]?
  stays : ∀ B o n, B < w.heap.size → w.there B o n → w'.there B o n
theorem Only.refl (lo hi : Nat) (w : World) : Only lo hi w w := ⟨Below.refl _ _, fun _ _ _ => rfl, fun _ _ _ _ h => h⟩
theorem Only.trans {lo hi : Nat} {w w1 w2 : World} (h : Only lo hi w w1) (k : Only lo hi w1 w2) : Only lo hi w w2 :=
  ⟨h.below.trans k.below, fun j hj hl => (k.up j hj (Nat.lt_of_lt_of_le hl h.below.size)).trans (h.up j hj hl), fun B o n hB ht => k.stays B o n (Nat.lt_of_lt_of_le hB h.below.size) (h.stays B o n hB ht)⟩
theorem Only.call {lo hi : Nat} {w w1 : World} (hb : Below w.heap.size w w1) (hl : lo ≤ w.heap.size) : Only lo hi w w1 :=
  ⟨hb.mono hl, fun j _ hj => hb.block j hj, fun _ _ _ hB ht => there_keep ht hb hB⟩
theorem Only.mark {lo hi : Nat} {w w1 : World} {b N p : Nat} {f : Nat → Value} (h : MarkAt w w1 b N f p) (hl : lo ≤ b) (hh : b < hi) : Only lo hi w w1 :=
  ⟨⟨h.grown.os, h.grown.tape, h.grown.output, h.grown.size, fun j hj => h.grown.block j (by have := h.big; omega) (by simp; omega)⟩,
   fun j hj hl' => h.grown.block j hl' (by simp; omega),
   fun B o n hB ht => by
     by_cases e : B = b
     · subst e; exact h.stays o n ht
     · intro q hq
       have hblk := h.grown.block B hB (by simp; exact e)
       have := ht q hq
       rw [World.cell?_of_block (w := w) hblk, World.frozen?_of_block (w := w) hblk]
       exact this⟩
theorem Only.set {lo hi : Nat} (w : World) {b o : Nat} (v : Value) (hl : lo ≤ b) (hh : b < hi) : Only lo hi w (w.setCell ⟨b, o, none⟩ v) :=
  ⟨(Below.refl _ _).setCell (p := ⟨b, o, none⟩) hl v, fun j hj _ => Below.heap_setCell w ⟨b, o, none⟩ v j (by show j ≠ b; omega), fun _ _ _ _ ht => World.there_setCells ht b o [v]⟩

set_option maxHeartbeats 1600000 in
theorem markBase_any (bk bp nk np k lo hi : Nat) (w : World) (hk : bk < w.heap.size) (hp : bp < w.heap.size) (tk : w.there bk 0 (nk * 3)) (tp : w.there bp 0 (np * 3)) (ek : nk ≤ 1048576) (ep : np ≤ 1048576) (hk8 : k ≤ 100000000)
    (l1 : lo ≤ bk) (l2 : lo ≤ bp) (h1 : bk < hi) (h2 : bp < hi) (hlo : lo ≤ w.heap.size) :
    Calls Tryz.prog 37 #[.agg #[.slice (some ⟨bk, 0, none⟩) nk nk, .slice (some ⟨bp, 0, none⟩) np np], .int .i64 k] w fun e w' => e = .returned (.int .i64 ((k + nk * 3 + np * 3 : Nat) : Int)) ∧ Only lo hi w w' ∧ ∀ j, j < w.heap.size → j ≠ bk → j ≠ bp → w'.heap[j]? = w.heap[j]? := by
  have HX0 : Hid (OwnAt w (w.alloc (.cells #[.slice (some ⟨bk, 0, none⟩) nk nk, .slice (some ⟨bp, 0, none⟩) np np] 36)) [[.slice (some ⟨bk, 0, none⟩) nk nk, .slice (some ⟨bp, 0, none⟩) np np]]) := (OwnAt.start w).push rfl _ _
  have HT : Hid (w.there bk 0 (nk * 3) ∧ w.there bp 0 (np * 3)) := ⟨tk, tp⟩
  clear tk tp
  go_enter Tryz.func37, Tryz.ntmps37
  go_wp2_with fail
  refine (markKinds_any bk nk nk k _ (by simp; omega) (there_keep HT.out.1 HX0.out.below hk) ek (by omega)).mono ?_
  rintro e w1 ⟨rfl, hM1⟩
  have HO1 : Hid (Only lo hi w w1) := (Only.call HX0.out.below hlo).trans (Only.mark hM1 l1 h1)
  have hne : ¬ w.heap.size = bk := by omega
  have y0 : w1.cell? ⟨w.heap.size, 0, none⟩ = some (.slice (some ⟨bk, 0, none⟩) nk nk) := by
    rw [World.cell?_of_block (w := w.alloc _) (hM1.grown.block w.heap.size (by simp) (by simp; omega))]; simp
  have y1 : w1.cell? ⟨w.heap.size, 1, none⟩ = some (.slice (some ⟨bp, 0, none⟩) np np) := by
    rw [World.cell?_of_block (w := w.alloc _) (hM1.grown.block w.heap.size (by simp) (by simp; omega))]; simp
  have HJ1 : Hid (∀ j, j < w.heap.size → j ≠ bk → w1.heap[j]? = w.heap[j]?) := fun j hj h1 => (hM1.grown.block j (by simp; omega) (by simp; exact h1)).trans (HX0.out.below.block j hj)
  clear hM1
  generalize hkk : k + nk * 3 = k1 at *
  have hk1 : k1 ≤ 1000000000 := by omega
  go_wp2_with fail
  refine (markPoints_any bp np np k1 _ (Nat.lt_of_lt_of_le hp HO1.out.below.size) (HO1.out.stays _ _ _ hp HT.out.2) ep hk1).mono ?_
  rintro e w2 ⟨rfl, hM2⟩
  have HO2 : Hid (Only lo hi w w2) := HO1.out.trans (Only.mark hM2 l2 h2)
  have HJ2 : Hid (∀ j, j < w1.heap.size → j ≠ bp → w2.heap[j]? = w1.heap[j]?) := fun j hj h1 => hM2.grown.block j hj (by simp; exact h1)
  clear hM2
  generalize hk2 : k1 + np * 3 = k2 at *
  go_wp2
  go_ret
  exact ⟨ret_int (by rw [← hk2, ← hkk]), HO2.out, fun j hj h1 h2 => (HJ2.out j (Nat.lt_of_lt_of_le hj HO1.out.below.size) h2).trans (HJ1.out j hj h1)⟩

/-- What marking entries needs. -/
structure EntsMk (lo hi : Nat) (w : World) (b : Nat) (es : List Ent) : Prop where
  l : lo ≤ b
  h : b < hi
  z : b < w.heap.size
  t : w.there b 0 (es.length * 2)
  f : ∀ (i : Nat) (e : Ent), es[i]? = some e → ∃ fb : Nat, fb ≠ b ∧ lo ≤ fb ∧ fb < hi ∧ fb < w.heap.size ∧ w.cell? ⟨b, i * 2 + 1, none⟩ = some (.slice (some ⟨fb, 0, none⟩) e.fs.length e.fs.length) ∧ w.there fb 0 (e.fs.length * 3)
theorem EntsMk.call {lo hi : Nat} {w w1 : World} {b : Nat} {es : List Ent} (h : EntsMk lo hi w b es) (hb : Below w.heap.size w w1) : EntsMk lo hi w1 b es :=
  ⟨h.l, h.h, Nat.lt_of_lt_of_le h.z hb.size, there_keep h.t hb h.z, fun i e he => by
    obtain ⟨fb, f0, f1, f2, f3, f4, f5⟩ := h.f i e he
    exact ⟨fb, f0, f1, f2, Nat.lt_of_lt_of_le f3 hb.size, cell_keep hb (Nat.le_refl _) f4, there_keep f5 hb f3⟩⟩
theorem EntsMk.set {lo hi : Nat} {w : World} {b : Nat} {es : List Ent} (h : EntsMk lo hi w b es) (m : Nat) (v : Value) : EntsMk lo hi (w.setCell ⟨b, m * 2, none⟩ v) b es :=
  ⟨h.l, h.h, by simpa using h.z, World.there_setCells h.t b (m * 2) [v], fun i e he => by
    obtain ⟨fb, f0, f1, f2, f3, f4, f5⟩ := h.f i e he
    exact ⟨fb, f0, f1, f2, by simpa using f3, (World.cell?_setCell_other w ⟨b, m * 2, none⟩ ⟨b, i * 2 + 1, none⟩ v (by simp <;> omega)).trans f4, World.there_setCells f5 b (m * 2) [v]⟩⟩
theorem EntsMk.mark {lo hi : Nat} {w w1 : World} {b fb N p : Nat} {g : Nat → Value} {es : List Ent} (h : EntsMk lo hi w b es) (hM : MarkAt w w1 fb N g p) (hne : fb ≠ b) (hl : lo ≤ fb) (hh : fb < hi) : EntsMk lo hi w1 b es := by
  have ho : Only lo hi w w1 := Only.mark hM hl hh
  refine ⟨h.l, h.h, Nat.lt_of_lt_of_le h.z hM.grown.size, ho.stays _ _ _ h.z h.t, fun i e he => ?_⟩
  obtain ⟨fb', f0, f1, f2, f3, f4, f5⟩ := h.f i e he
  exact ⟨fb', f0, f1, f2, Nat.lt_of_lt_of_le f3 hM.grown.size, (World.cell?_of_block (w := w) (hM.grown.block b h.z (by simp; omega))).trans f4, ho.stays _ _ _ f3 f5⟩

set_option maxHeartbeats 3200000 in
theorem markEntries_any (b k lo hi : Nat) (es : List Ent) (w : World) (hE : EntsMk lo hi w b es) (hel : es.length ≤ 1048576) (hsz : sumN (fun e => e.fs.length) es ≤ 1048576) (hk8 : k ≤ 200000000) (hlo : lo ≤ w.heap.size) :
    Calls Tryz.prog 38 #[.slice (some ⟨b, 0, none⟩) es.length es.length, .int .i64 k] w fun e w' => (∃ k' : Nat, k ≤ k' ∧ k' ≤ k + 4194304 ∧ e = .returned (.int .i64 (k' : Int))) ∧ Only lo hi w w' := by
  have HS : Hid (∀ m, sumN (fun e : Ent => e.fs.length) (es.take m) ≤ 1048576) := fun m => Nat.le_trans (sumN_take_le _ es m) hsz
  have HE : Hid (EntsMk lo hi w b es) := hE
  clear hE
  go_enter Tryz.func38, Tryz.ntmps38
  go_wp2
  go_loopw [1, 5] (fun kk i wr => ∃ m s : Nat, m ≤ es.length ∧ i = .int .i64 m ∧ Hid (sumN (fun e : Ent => e.fs.length) (es.take m) = s) ∧ kk = .int .i64 ((k + m + s * 3 : Nat) : Int) ∧ EntsMk lo hi wr b es ∧ Only lo hi w wr) (fun _ i _ => es.length - (intOf i).toNat)
  case atStart => exact ⟨0, 0, Nat.zero_le _, rfl, rfl, rfl, HE.out, Only.refl _ _ _⟩
  case round =>
    obtain ⟨m, s, hm, rfl, HQ, rfl, hE, hO⟩ := hrel
    have HE1 : Hid (EntsMk lo hi wr b es) := hE
    have HO1 : Hid (Only lo hi w wr) := hO
    have hs1 : s ≤ 1048576 := by rw [← HQ.out]; exact HS.out m
    clear hE hO
    by_cases hlt : m < es.length
    · have hm0 : (0 : Int) ≤ (m : Int) := by omega
      have hm1 : (m : Int) < (es.length : Int) := by omega
      have HT : Hid (sumN (fun e : Ent => e.fs.length) (es.take (m + 1)) = s + (eat es m).fs.length) := by
        show _ = _
        rw [sumN_take_succ _ es m _ (eat_get hlt), HQ.out]
      have hs2 : s + (eat es m).fs.length ≤ 1048576 := by rw [← HT.out]; exact HS.out (m + 1)
      have HG : Hid (es[m]? = some (eat es m)) := eat_get hlt
      generalize eat es m = t at *
      have hlo1 : lo ≤ wr.heap.size := Nat.le_trans hlo HO1.out.below.size
      generalize hK : k + m + s * 3 = K at *
      go_wp2_with fail
      refine (markText_any K (by omega) _).mono ?_
      rintro e w1 ⟨rfl, hb1⟩
      have hE1 := HE1.out.call hb1
      obtain ⟨⟨v0, c0⟩, f0⟩ : (∃ v, w1.cell? ⟨b, m * 2, none⟩ = some v) ∧ w1.frozen? ⟨b, m * 2, none⟩ = false := by
        have := hE1.t (m * 2) (by omega)
        simpa [Option.isSome_iff_exists] using this
      have HE2 : Hid (EntsMk lo hi (w1.setCell ⟨b, m * 2, none⟩ (.string (mkT K))) b es) := hE1.set m _
      have HO2 : Hid (Only lo hi w (w1.setCell ⟨b, m * 2, none⟩ (.string (mkT K)))) := (HO1.out.trans (Only.call hb1 hlo1)).trans (Only.set _ _ hE1.l hE1.h)
      obtain ⟨fb, g0, g1, g2, g3, g4, g5⟩ := hE1.f m t HG.out
      clear hb1
      have c1 : w1.cell? ⟨b, m * 2 + 1, none⟩ = some (.slice (some ⟨fb, 0, none⟩) t.fs.length t.fs.length) := g4
      have HF : Hid ((w1.setCell ⟨b, m * 2, none⟩ (.string (mkT K))).there fb 0 (t.fs.length * 3)) := World.there_setCells g5 b (m * 2) [.string (mkT K)]
      have HW : Hid (Calls Tryz.prog 79 #[.slice (some ⟨fb, 0, none⟩) t.fs.length t.fs.length, .int .i64 ((K : Int) + 1)] (w1.setCell ⟨b, m * 2, none⟩ (.string (mkT K))) fun e w' => e = .returned (.int .i64 ((K + 1 + t.fs.length * 3 : Nat) : Int)) ∧ MarkAt (w1.setCell ⟨b, m * 2, none⟩ (.string (mkT K))) w' fb (t.fs.length * 3) (mkV 3 patField (K + 1)) (t.fs.length * 3)) := by
        have h := markFields_any fb t.fs.length t.fs.length (K + 1) (w1.setCell ⟨b, m * 2, none⟩ (.string (mkT K))) (by simpa using g3) HF.out (by omega) (by omega)
        rw [show ((K + 1 : Nat) : Int) = (K : Int) + 1 by push_cast; rfl] at h
        exact h
      clear hE1 g4 g5
      go_wp2_with fail
      refine HW.out.mono ?_
      rintro e w2 ⟨rfl, hM2⟩
      have HE3 : Hid (EntsMk lo hi w2 b es) := HE2.out.mark hM2 g0 g1 g2
      have HO3 : Hid (Only lo hi w w2) := HO2.out.trans (Only.mark hM2 g1 g2)
      clear hM2 HW HF
      generalize hK2 : K + 1 + t.fs.length * 3 = K2 at *
      go_wp2
      exact ⟨⟨m + 1, s + t.fs.length, by omega, by go_num, HT, by congr 1; omega, HE3.out, HO3.out⟩, by simp [intOf]; omega⟩
    · generalize hK : k + m + s * 3 = K at *
      go_wp2
      go_ret
      exact ⟨⟨K, by omega, by omega, rfl⟩, HO1.out⟩

theorem there_same {w0 w : World} {B o n : Nat} (h : w0.there B o n) (he : w.heap[B]? = w0.heap[B]?) : w.there B o n := by
  intro q hq
  have := h q hq
  rw [World.cell?_of_block (w := w0) he, World.frozen?_of_block (w := w0) he]
  exact this
theorem EntsMk.of {lo : Nat} {w0 w : World} {ve : Value} {es : List Ent} (h : EntsOwn lo w0 ve es) (hb : ∀ k, lo ≤ k → k < w0.heap.size → w.heap[k]? = w0.heap[k]?) (hs : w0.heap.size ≤ w.heap.size) : ∃ b : Nat, ve = .slice (some ⟨b, 0, none⟩) es.length es.length ∧ EntsMk lo w0.heap.size w b es := by
  obtain ⟨b, rows, hl, hv, hh, _, hr⟩ := h
  refine ⟨b, hv, hl, hh.big, Nat.lt_of_lt_of_le hh.big hs, there_same hh.room (hb b hl hh.big), fun i e he => ?_⟩
  obtain ⟨fb, h0, h1, h2, h3⟩ := hr i e he
  exact ⟨fb, h0, h1, h3.big, Nat.lt_of_lt_of_le h3.big hs, (World.cell?_of_block (w := w0) (hb b hl hh.big)).trans (hh.cell h2 (j := 1) rfl), there_same h3.room (hb fb h1 h3.big)⟩
theorem EntsMk.only {lo hi : Nat} {w w1 : World} {b : Nat} {es : List Ent} (h : EntsMk lo hi w b es) (ho : Only lo hi w w1) (hs : w1.heap[b]? = w.heap[b]?) : EntsMk lo hi w1 b es :=
  ⟨h.l, h.h, Nat.lt_of_lt_of_le h.z ho.below.size, ho.stays _ _ _ h.z h.t, fun i e he => by
    obtain ⟨fb, f0, f1, f2, f3, f4, f5⟩ := h.f i e he
    exact ⟨fb, f0, f1, f2, Nat.lt_of_lt_of_le f3 ho.below.size, (World.cell?_of_block (w := w) hs).trans f4, ho.stays _ _ _ f3 f5⟩⟩

set_option maxHeartbeats 1600000 in
theorem markBook_any (vk vp ve : Value) (ks ps : List Tri) (es : List Ent) (k lo : Nat) (w0 w : World) (hB : BookOwn lo w0 vk vp ve ks ps es) (hb0 : ∀ k, lo ≤ k → k < w0.heap.size → w.heap[k]? = w0.heap[k]?) (hsz0 : w0.heap.size ≤ w.heap.size) (sB : BSmall ks ps es) (hsz : sumN (fun e => e.fs.length) es ≤ 1048576) (hk8 : k ≤ 100000000) :
    Calls Tryz.prog 13 #[.agg #[vk, vp, ve], .int .i64 k] w fun e w' => (∃ k' : Nat, k ≤ k' ∧ k' ≤ k + 16777216 ∧ e = .returned (.int .i64 (k' : Int))) ∧ Only lo w0.heap.size w w' := by
  obtain ⟨⟨bk, lk, rfl, hk⟩, ⟨bp, lp, rfl, hp⟩, he, hd⟩ := hB
  obtain ⟨be, rfl, hE⟩ := EntsMk.of he hb0 hsz0
  have hne : bk ≠ be := hd _ _ _ _ _ _ (.inl rfl) rfl
  have hne' : bp ≠ be := hd _ _ _ _ _ _ (.inr rfl) rfl
  have HE : Hid (EntsMk lo w0.heap.size w be es) := hE
  have HKP : Hid (w.there bk 0 (ks.length * 3) ∧ w.there bp 0 (ps.length * 3)) := ⟨there_same hk.room (hb0 bk lk hk.big), there_same hp.room (hb0 bp lp hp.big)⟩
  have hk0 := hk.big
  have hp0 := hp.big
  have he0 := hE.h
  have SB : Hid (BSmall ks ps es) := sB
  have sk := sB.k
  have sp := sB.p
  clear hk hp he hE sB hd
  have HX0 : Hid (Below w.heap.size w (w.alloc (.cells #[.slice (some ⟨bk, 0, none⟩) ks.length ks.length, .slice (some ⟨bp, 0, none⟩) ps.length ps.length, .slice (some ⟨be, 0, none⟩) es.length es.length] 39))) := (Below.refl _ _).alloc (Nat.le_refl _) _
  go_enter Tryz.func13, Tryz.ntmps13
  go_wp2_with fail
  refine (markBase_any bk bp ks.length ps.length k lo w0.heap.size _ (by simp; omega) (by simp; omega) (there_keep HKP.out.1 HX0.out (by omega)) (there_keep HKP.out.2 HX0.out (by omega)) sk sp hk8 lk lp hk0 hp0 (by simp; omega)).mono ?_
  rintro e w1 ⟨rfl, hO1, hJ1⟩
  have HO1 : Hid (Only lo w0.heap.size w w1) := (Only.call HX0.out (by omega)).trans hO1
  have HE1 : Hid (EntsMk lo w0.heap.size w1 be es) := (HE.out.call HX0.out).only hO1 (hJ1 be (by simp; omega) (Ne.symm hne) (Ne.symm hne'))
  have y0 : w1.cell? ⟨w.heap.size, 0, none⟩ = some (.slice (some ⟨bk, 0, none⟩) ks.length ks.length) := by
    rw [World.cell?_of_block (w := w.alloc _) (hO1.up w.heap.size (by omega) (by simp))]; simp
  have y1 : w1.cell? ⟨w.heap.size, 1, none⟩ = some (.slice (some ⟨bp, 0, none⟩) ps.length ps.length) := by
    rw [World.cell?_of_block (w := w.alloc _) (hO1.up w.heap.size (by omega) (by simp))]; simp
  have y2 : w1.cell? ⟨w.heap.size, 2, none⟩ = some (.slice (some ⟨be, 0, none⟩) es.length es.length) := by
    rw [World.cell?_of_block (w := w.alloc _) (hO1.up w.heap.size (by omega) (by simp))]; simp
  clear hO1 hJ1
  generalize hK : k + ks.length * 3 + ps.length * 3 = K at *
  go_wp2_with fail
  refine (markEntries_any be K lo w0.heap.size es _ HE1.out SB.out.e hsz (by omega) (by have := HO1.out.below.size; omega)).mono ?_
  rintro e w2 ⟨⟨k', h1, h2, rfl⟩, hO2⟩
  have HO2 : Hid (Only lo w0.heap.size w w2) := HO1.out.trans hO2
  clear hO2
  go_wp2
  go_ret
  exact ⟨⟨k', by omega, by omega, rfl⟩, HO2.out⟩
end Go.Proofs.YtfjblenkcfdbiaaGreat
