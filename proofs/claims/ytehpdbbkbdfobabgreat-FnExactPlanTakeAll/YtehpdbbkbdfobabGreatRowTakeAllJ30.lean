/-
  For the proof of takeall_holds: part 30 (All2).
-/
import Derived.Test.YtehpdbbkbdfobabGreatRowTakeAllJ29
namespace Go.Proofs.YtehpdbbkbdfobabGreat
open Go.RowKit
set_option linter.unusedSimpArgs false
set_option linter.unusedVariables false

/-- Not a type of a book's rows. -/
def NT (T : TypeId) : Prop := T ≠ 125 ∧ T ≠ 127 ∧ T ≠ 82 ∧ T ≠ 71
theorem EMk.far {w w' : World} {g : Nat} {l : List EntV} {k mn mf : Nat} {r : Option Nat} (h : EMk w g l k mn mf) (hg : w.grownBy w' r) (h1 : some g ≠ r) (h2 : ∀ p ∈ l, ∀ b, p.2.ownBlock = some b → some b ≠ r) : EMk w' g l k mn mf := by
  have hb := hg.block g h.z h1
  exact ⟨Nat.lt_of_lt_of_le h.z hg.size, there_same h.t hb, fun i q hq => (World.cell?_of_block (w := w) hb).trans (h.s i q hq), fun i q hq hi => (h.r i q hq hi).far hg (h2 q (List.mem_of_getElem? hq)), fun i hi => (World.cell?_of_block (w := w) hb).trans (h.n i hi), fun i q hi hq => (h.f i q hi hq).far hg (h2 q (List.mem_of_getElem? hq))⟩
theorem EntsM.far {w w' : World} {z : Value} {l : List EntV} {k : Nat} {r : Option Nat} (h : EntsM w z l k) (hg : w.grownBy w' r) (hn : ∀ j, SZ z l j → some j ≠ r) : EntsM w' z l k := by
  rcases h with h | ⟨g, cap, rfl, h2⟩
  · exact .inl h
  · exact .inr ⟨g, cap, rfl, h2.far hg (hn g (.inl rfl)) (fun p hp b hb => hn b (.inr ⟨p, hp, hb⟩))⟩

set_option maxHeartbeats 1600000 in
theorem markBookI_any (x y z : Value) (ks ps : List Tri) (es : List Ent) (lo : Nat) (w : World) (hB : BookNew lo w x y z ks ps es) (hlo : lo ≤ w.heap.size) (lk : ks.length ≤ 1048576) (lp : ps.length ≤ 1048576) (le : es.length ≤ 1048576) (hsz : sumN (fun e => e.fs.length) es ≤ 1048576) :
    Calls Tryz.prog 14 #[.agg #[x, y, z], .int .i64 1] w fun e w' => ∃ M : Nat, e = .returned (.int .i64 (M : Int)) ∧ M ≤ 20000000 ∧ BookM w' x y z M ∧ Below lo w w' ∧ (∀ (w2 : World) (r : Option Nat), (∀ j, r = some j → ∃ (C : Array Value) (T : TypeId), NT T ∧ w.heap[j]? = some (.cells C T (0, 0))) → w'.grownBy w2 r → BookM w2 x y z M) ∧ ∀ (X : Nat) (C : Array Value) (T : TypeId), NT T → w.heap[X]? = some (.cells C T (0, 0)) → w'.heap[X]? = some (.cells C T (0, 0)) := by
  obtain ⟨hk, hp, l, hl, hE⟩ := hB
  obtain ⟨ax, cx, rfl⟩ := own_slice hk
  obtain ⟨ay, cy, rfl⟩ := own_slice hp
  obtain ⟨az, cz, rfl⟩ := own_slice hE.row
  have hll : l.length ≤ 1048576 := by rw [← hl, List.length_map] at le; exact le
  have hls : sumN (fun p : EntV => p.1.fs.length) l ≤ 1048576 := by rw [← hl, sumN_map] at hsz; exact hsz
  have axy : ∀ j, (Value.slice ax ks.length cx).ownBlock = some j → (Value.slice ay ps.length cy).ownBlock ≠ some j := fun j h1 h2 => own_apart hk hp (by decide) j h2 h1.symm
  have axz : ∀ j, (Value.slice ax ks.length cx).ownBlock = some j → (Value.slice az l.length cz).ownBlock ≠ some j := fun j h1 h2 => own_apart hk hE.row (by decide) j h2 h1.symm
  have ayz : ∀ j, (Value.slice ay ps.length cy).ownBlock = some j → (Value.slice az l.length cz).ownBlock ≠ some j := fun j h1 h2 => own_apart hp hE.row (by decide) j h2 h1.symm
  have axf : ∀ p ∈ l, ∀ j, (Value.slice ax ks.length cx).ownBlock = some j → p.2.ownBlock ≠ some j := fun p hpl j h1 h2 => own_apart hk (hE.flds p hpl) (by decide) j h2 h1.symm
  have ayf : ∀ p ∈ l, ∀ j, (Value.slice ay ps.length cy).ownBlock = some j → p.2.ownBlock ≠ some j := fun p hpl j h1 h2 => own_apart hp (hE.flds p hpl) (by decide) j h2 h1.symm
  have HR : Hid (Roo w (.slice ax ks.length cx) ks.length 3 ∧ Roo w (.slice ay ps.length cy) ps.length 3 ∧ PairsNew w lo (.slice az l.length cz) l) := ⟨Roo.of hk, Roo.of hp, hE⟩
  have HAP : Hid ((∀ j, (Value.slice ax ks.length cx).ownBlock = some j → (Value.slice ay ps.length cy).ownBlock ≠ some j) ∧ (∀ j, Own2 (.slice ax ks.length cx) (.slice ay ps.length cy) j → ¬ SZ (.slice az l.length cz) l j)) := by
    refine ⟨axy, fun j h1 h2 => ?_⟩
    rcases h1 with h1 | h1 <;> rcases h2 with h2 | ⟨p, hpl, h2⟩
    · exact axz j h1 h2
    · exact axf p hpl j h1 h2
    · exact ayz j h1 h2
    · exact ayf p hpl j h1 h2
  have HGE : Hid ((∀ j, Own2 (.slice ax ks.length cx) (.slice ay ps.length cy) j → lo ≤ j ∧ j < w.heap.size) ∧ ∀ j, SZ (.slice az l.length cz) l j → lo ≤ j ∧ j < w.heap.size) := by
    refine ⟨fun j h => ?_, fun j h => ?_⟩
    · rcases h with h | h
      · exact ⟨own_ge hk j h, own_lt hk j h⟩
      · exact ⟨own_ge hp j h, own_lt hp j h⟩
    · rcases h with h | ⟨p, hpl, h⟩
      · exact ⟨own_ge hE.row j h, own_lt hE.row j h⟩
      · exact ⟨own_ge (hE.flds p hpl) j h, own_lt (hE.flds p hpl) j h⟩
  have HNB : Hid (∀ (X : Nat) (C : Array Value) (T : TypeId), NT T → w.heap[X]? = some (.cells C T (0, 0)) → ¬ Own2 (.slice ax ks.length cx) (.slice ay ps.length cy) X ∧ ¬ SZ (.slice az l.length cz) l X) := fun X C T hT hX => by
    refine ⟨fun h => ?_, fun h => ?_⟩
    · rcases h with h | h
      · exact own_other hk hX (fun e => hT.1 e.symm) h.symm
      · exact own_other hp hX (fun e => hT.2.1 e.symm) h.symm
    · rcases h with h | ⟨p, hpl, h⟩
      · exact own_other hE.row hX (fun e => hT.2.2.1 e.symm) h.symm
      · exact own_other (hE.flds p hpl) hX (fun e => hT.2.2.2 e.symm) h.symm
  clear hk hp hE axy axz ayz axf ayf hl le hsz
  have HX0 : Hid (OwnAt w (w.alloc (.cells #[.slice ax ks.length cx, .slice ay ps.length cy, .slice az l.length cz] 39)) [[.slice ax ks.length cx, .slice ay ps.length cy, .slice az l.length cz]]) := (OwnAt.start w).push rfl _ _
  go_enter Tryz.func14, Tryz.ntmps14
  go_wp2_with fail
  refine (markBaseG_any _ _ ks.length ps.length 1 _ (HR.out.1.keep HX0.out.below) (HR.out.2.1.keep HX0.out.below) HAP.out.1 lk lp (by omega)).mono ?_
  rintro e w1 ⟨rfl, hMx, hMy, hF⟩
  have hs0 : (w.alloc (.cells #[.slice ax ks.length cx, .slice ay ps.length cy, .slice az l.length cz] 39)).heap.size = w.heap.size + 1 := by simp
  have hnS : ¬ Own2 (.slice ax ks.length cx) (.slice ay ps.length cy) w.heap.size := fun h => by have := (HGE.out.1 _ h).2; omega
  have y0 : w1.cell? ⟨w.heap.size, 0, none⟩ = some (.slice ax ks.length cx) := hF.cell (by omega) hnS (HX0.out.has 0 _ rfl 0 _ rfl).1
  have y1 : w1.cell? ⟨w.heap.size, 1, none⟩ = some (.slice ay ps.length cy) := hF.cell (by omega) hnS (HX0.out.has 0 _ rfl 1 _ rfl).1
  have y2 : w1.cell? ⟨w.heap.size, 2, none⟩ = some (.slice az l.length cz) := hF.cell (by omega) hnS (HX0.out.has 0 _ rfl 2 _ rfl).1
  have HM1 : Hid (RowM w1 (.slice ax ks.length cx) ks.length 3 (mkV 3 patKind 1) ∧ RowM w1 (.slice ay ps.length cy) ps.length 3 (mkV 3 patPoint (1 + ks.length * 3))) := ⟨hMx, hMy⟩
  have HP1 : Hid (PairsNew w1 lo (.slice az l.length cz) l) := by
    have h0 := HR.out.2.2.keep HX0.out.below
    refine ⟨ownsRow_sameM h0.row (fun j hj hlt => hF.block j hlt (fun hS => HAP.out.2 j hS (.inl hj))), fun p hpl => ownsRow_sameM (h0.flds p hpl) (fun j hj hlt => hF.block j hlt (fun hS => HAP.out.2 j hS (.inr ⟨p, hpl, hj⟩))), h0.apart⟩
  have HF1 : Hid (Below lo w w1) := (HX0.out.below.mono hlo).trans (hF.below (by omega) (fun j hj => (HGE.out.1 j hj).1))
  have HBX1 : Hid (∀ (X : Nat) (C : Array Value) (T : TypeId), NT T → w.heap[X]? = some (.cells C T (0, 0)) → w1.heap[X]? = some (.cells C T (0, 0))) := fun X C T hT hX => by
    have hlt := (Array.getElem?_eq_some_iff.1 hX).1
    exact (hF.block X (by omega) (HNB.out X C T hT hX).1).trans ((HX0.out.below.block X hlt).trans hX)
  clear hMx hMy hF hnS hs0
  generalize hK : 1 + ks.length * 3 + ps.length * 3 = K at *
  go_wp2_with fail
  refine (markEntsN_any _ K lo l _ HP1.out hll hls (by omega)).mono ?_
  rintro e w2 ⟨rfl, hE2, hF2⟩
  have hkl := kAt_le K l.length hll hls
  have HO : Hid (BookM w2 (.slice ax ks.length cx) (.slice ay ps.length cy) (.slice az l.length cz) (kAt l K l.length) ∧ Below lo w w2 ∧ (∀ (w3 : World) (r : Option Nat), (∀ j, r = some j → ∃ (C : Array Value) (T : TypeId), NT T ∧ w.heap[j]? = some (.cells C T (0, 0))) → w2.grownBy w3 r → BookM w3 (.slice ax ks.length cx) (.slice ay ps.length cy) (.slice az l.length cz) (kAt l K l.length)) ∧ ∀ (X : Nat) (C : Array Value) (T : TypeId), NT T → w.heap[X]? = some (.cells C T (0, 0)) → w2.heap[X]? = some (.cells C T (0, 0))) := by
    have hsz1 := HF1.out.size
    have hr : ∀ (v : Value), (∀ j, v.ownBlock = some j → Own2 (.slice ax ks.length cx) (.slice ay ps.length cy) j) → ∀ j, v.ownBlock = some j → j < w1.heap.size → w2.heap[j]? = w1.heap[j]? := fun v hv j hj hlt => hF2.block j hlt (fun hS => HAP.out.2 j (hv j hj) hS)
    have hx2 : RowM w2 (.slice ax ks.length cx) ks.length 3 (mkV 3 patKind 1) := by
      rcases HM1.out.1 with h | ⟨b, cap, hv, hb, hh⟩
      · exact .inl h
      · exact .inr ⟨b, cap, hv, Nat.lt_of_lt_of_le hb hF2.size, fun q hq => (World.cell?_of_block (w := w1) (hr _ (fun j hj => .inl hj) b (by rw [hv]; rfl) hb)).trans (hh q hq)⟩
    have hy2 : RowM w2 (.slice ay ps.length cy) ps.length 3 (mkV 3 patPoint (1 + ks.length * 3)) := by
      rcases HM1.out.2 with h | ⟨b, cap, hv, hb, hh⟩
      · exact .inl h
      · exact .inr ⟨b, cap, hv, Nat.lt_of_lt_of_le hb hF2.size, fun q hq => (World.cell?_of_block (w := w1) (hr _ (fun j hj => .inr hj) b (by rw [hv]; rfl) hb)).trans (hh q hq)⟩
    refine ⟨⟨ks.length, ps.length, l, lk, lp, hll, hls, hx2, hy2, by rw [hK]; exact hE2, by rw [hK]⟩, HF1.out.trans (hF2.below (Nat.le_trans hlo hsz1) (fun j hj => (HGE.out.2 j hj).1)), fun w3 r hr3 hg3 => ?_, fun X C T hT hX => (hF2.block X (Nat.lt_of_lt_of_le (Array.getElem?_eq_some_iff.1 hX).1 hsz1) (HNB.out X C T hT hX).2).trans (HBX1.out X C T hT hX)⟩
    have n1 : ∀ j, Own2 (.slice ax ks.length cx) (.slice ay ps.length cy) j → some j ≠ r := fun j hj e => by
      obtain ⟨C, T, hT, hX⟩ := hr3 j e.symm
      exact (HNB.out j C T hT hX).1 hj
    have n2 : ∀ j, SZ (.slice az l.length cz) l j → some j ≠ r := fun j hj e => by
      obtain ⟨C, T, hT, hX⟩ := hr3 j e.symm
      exact (HNB.out j C T hT hX).2 hj
    exact ⟨ks.length, ps.length, l, lk, lp, hll, hls, hx2.far hg3 (fun j hj => n1 j (.inl hj)), hy2.far hg3 (fun j hj => n1 j (.inr hj)), by rw [hK]; exact hE2.far hg3 n2, by rw [hK]⟩
  clear hE2 hF2
  generalize kAt l K l.length = M at *
  go_wp2
  go_ret
  exact ⟨M, rfl, by omega, HO.out⟩


def mkI (k q : Nat) : Value := .int .i64 ((k + q : Nat) : Int)
set_option maxHeartbeats 1600000 in
theorem markIntNil_any (k : Nat) (w : World) : Calls Tryz.prog 28 #[.slice none 0 0, .int .i64 k] w fun e w' => e = .returned (.int .i64 k) ∧ w' = w := by
  go_enter Tryz.func28, Tryz.ntmps28
  go_wp2
  go_loopw [1, 5] (fun kk i wr => i = .int .i64 0 ∧ kk = .int .i64 k ∧ wr = w) (fun _ _ _ => 0)
  case atStart => exact ⟨rfl, rfl, rfl⟩
  case round =>
    obtain ⟨rfl, rfl, rfl⟩ := hrel
    go_wp2
    go_ret
    exact ⟨rfl, rfl⟩
theorem heldIntNil_any (k : Nat) (w : World) : Calls Tryz.prog 29 #[.slice none 0 0, .int .i64 k] w fun e w' => e = .returned (.int .i64 k) ∧ w' = w := by
  go_enter Tryz.func29, Tryz.ntmps29
  go_wp2
  go_loopw [1, 5] (fun kk i wr => i = .int .i64 0 ∧ kk = .int .i64 k ∧ wr = w) (fun _ _ _ => 0)
  case atStart => exact ⟨rfl, rfl, rfl⟩
  case round =>
    obtain ⟨rfl, rfl, rfl⟩ := hrel
    go_wp2
    go_ret
    exact ⟨rfl, rfl⟩
set_option maxHeartbeats 1600000 in
theorem markInts_any (b n cap k : Nat) (w : World) (hb : b < w.heap.size) (ht : w.there b 0 n) (hn : n ≤ 1048576) (hk : k ≤ 1000000000) :
    Calls Tryz.prog 28 #[.slice (some ⟨b, 0, none⟩) n cap, .int .i64 k] w fun e w' => e = .returned (.int .i64 ((k + n : Nat) : Int)) ∧ MarkAt w w' b n (mkI k) n := by
  have HT : Hid (w.there b 0 n) := ht
  clear ht
  go_enter Tryz.func28, Tryz.ntmps28
  go_wp2
  go_loopw [1, 5] (fun kk i wr => ∃ m : Nat, m ≤ n ∧ i = .int .i64 m ∧ kk = .int .i64 ((k : Int) + (m : Int)) ∧ MarkAt w wr b n (mkI k) m) (fun _ i _ => n - (intOf i).toNat)
  case atStart => exact ⟨0, Nat.zero_le _, rfl, by simp, MarkAt.start _ HT.out hb⟩
  case round =>
    obtain ⟨m, hm, rfl, rfl, hM⟩ := hrel
    have HM0 : Hid (MarkAt w wr b n (mkI k) m) := hM
    clear hM
    by_cases hlt : m < n
    · have hm0 : (0 : Int) ≤ (m : Int) := by omega
      have hm1 : (m : Int) < (n : Int) := by omega
      have e0 : Hid (mkI k m = .int .i64 ((k : Int) + (m : Int))) := by
        show _ = _
        unfold mkI
        rw [show ((k + m : Nat) : Int) = (k : Int) + (m : Int) by push_cast; omega]
      obtain ⟨⟨v0, c0⟩, f0⟩ := HM0.out.free m hlt
      have HN := toHid (HM0.out.set hlt e0.out)
      go_wp2
      exact ⟨⟨m + 1, by omega, by go_num, by first | (congr 1; done) | (congr 1; push_cast; omega), HN.out⟩, by simp [intOf]; omega⟩
    · have HF : Hid (m = n) := by show m = n; omega
      go_wp2
      go_ret
      have h := HM0.out
      rw [HF.out] at h ⊢
      exact ⟨ret_int (by push_cast; rfl), h⟩
set_option maxHeartbeats 1600000 in
theorem heldInts_any (b n cap k : Nat) (w : World) (hM : ∀ q, q < n → w.cell? ⟨b, q, none⟩ = some (mkI k q)) (hn : n ≤ 1048576) (hk : k ≤ 1000000000) :
    Calls Tryz.prog 29 #[.slice (some ⟨b, 0, none⟩) n cap, .int .i64 k] w fun e w' => e = .returned (.int .i64 ((k + n : Nat) : Int)) ∧ Below w.heap.size w w' := by
  have HM : Hid (∀ q, q < n → w.cell? ⟨b, q, none⟩ = some (mkI k q)) := hM
  clear hM
  go_enter Tryz.func29, Tryz.ntmps29
  go_wp2
  go_loopw [1, 5] (fun kk i wr => ∃ m : Nat, m ≤ n ∧ i = .int .i64 m ∧ kk = .int .i64 ((k : Int) + (m : Int)) ∧ Below w.heap.size w wr) (fun _ i _ => n - (intOf i).toNat)
  case atStart => exact ⟨0, Nat.zero_le _, rfl, by simp, Below.refl _ _⟩
  case round =>
    obtain ⟨m, hm, rfl, rfl, hb⟩ := hrel
    by_cases hlt : m < n
    · have hm0 : (0 : Int) ≤ (m : Int) := by omega
      have hm1 : (m : Int) < (n : Int) := by omega
      have c0 : wr.cell? ⟨b, m, none⟩ = some (.int .i64 ((k : Int) + (m : Int))) := by
        have h := cell_keep hb (Nat.le_refl _) (HM.out m hlt)
        unfold mkI at h
        rw [show ((k + m : Nat) : Int) = (k : Int) + (m : Int) by push_cast; omega] at h
        exact h
      have ht : (((k : Int) + (m : Int)) != ((k : Int) + (m : Int))) = false := by simp
      have HB : Hid (Below w.heap.size w wr) := hb
      clear hb
      go_wp2
      exact ⟨⟨m + 1, by omega, by go_num, by first | (congr 1; done) | (congr 1; push_cast; omega), HB.out⟩, by simp [intOf]; omega⟩
    · have HF : Hid (m = n) := by show m = n; omega
      go_wp2
      go_ret
      rw [HF.out]
      exact ⟨ret_int (by push_cast; rfl), hb⟩
theorem markIntG_any (v : Value) (n k : Nat) (w : World) (h : Roo w v n 1) (hn : n ≤ 1048576) (hk : k ≤ 1000000000) :
    Calls Tryz.prog 28 #[v, .int .i64 k] w fun e w' => e = .returned (.int .i64 ((k + n : Nat) : Int)) ∧ RowM w' v n 1 (mkI k) ∧ w.grownBy w' v.ownBlock := by
  rcases h with ⟨rfl, rfl⟩ | ⟨b, cap, rfl, hb, ht⟩
  · refine (markIntNil_any k w).mono ?_
    rintro e w' ⟨rfl, rfl⟩
    exact ⟨by simp, .inl ⟨rfl, rfl⟩, below_grown (Below.refl _ _) _⟩
  · rw [Nat.mul_one] at ht
    refine (markInts_any b n cap k w hb ht hn hk).mono ?_
    rintro e w' ⟨rfl, hM⟩
    exact ⟨rfl, .inr ⟨b, cap, rfl, Nat.lt_of_lt_of_le hb hM.grown.size, fun q hq => hM.has q (by omega)⟩, hM.grown⟩
theorem heldIntG_any (v : Value) (n k : Nat) (w : World) (h : RowM w v n 1 (mkI k)) (hn : n ≤ 1048576) (hk : k ≤ 1000000000) :
    Calls Tryz.prog 29 #[v, .int .i64 k] w fun e w' => e = .returned (.int .i64 ((k + n : Nat) : Int)) ∧ Below w.heap.size w w' := by
  rcases h with ⟨rfl, rfl⟩ | ⟨b, cap, rfl, hb, ht⟩
  · refine (heldIntNil_any k w).mono ?_
    rintro e w' ⟨rfl, rfl⟩
    exact ⟨by simp, Below.refl _ _⟩
  · exact heldInts_any b n cap k w (fun q hq => ht q (by omega)) hn hk
end Go.Proofs.YtehpdbbkbdfobabGreat
