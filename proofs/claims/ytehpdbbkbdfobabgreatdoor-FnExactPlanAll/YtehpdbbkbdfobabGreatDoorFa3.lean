/-
  Joined: Fa2, Fa3.
-/
import Derived.Test.YtehpdbbkbdfobabGreatDoorFa1
import Derived.Test.YtehpdbbkbdfobabGreatDoorSt11
import Derived.Test.YtehpdbbkbdfobabGreatDoorSt14

/-
  All flights that stand: the program's.
-/
namespace Go.Proofs.YtehpdbbkbdfobabGreatDoor.Fa
open Go.RowKit Go.Proofs.YtehpdbbkbdfobabGreatDoor Go.Proofs.YtehpdbbkbdfobabGreatDoor.Sd Go.Proofs.YtehpdbbkbdfobabGreatDoor.Pa
set_option linter.unusedSimpArgs false
set_option linter.unusedVariables false

set_option maxRecDepth 100000 in
set_option maxHeartbeats 6400000 in
theorem planAll_any (vk vp ve : Value) (ks ps : List Tri) (es : List Ent) (w : World) (hB : BookAt w vk vp ve ks ps es) (nB : BNames ks ps es) (sB : BSmall ks ps es) (hN : NeedIn w) (hes : es.length ≤ 1048576) :
    Calls Tryz.prog 23 #[.agg #[vk, vp, ve]] w fun e w' => ∃ v, e = .returned v ∧ FlsNew w' w.heap.size v (allR ks ps es) ∧ Below w.heap.size w w' := by
  obtain ⟨i0, hi0, hz0, hz1, hz2⟩ := info_parts infoFl
  have HB : Hid (∀ wx : World, Below w.heap.size w wx → BookAt wx vk vp ve ks ps es) := fun wx hx => hB.keep hx
  have HN : Hid (∀ wx : World, Below w.heap.size w wx → NeedIn wx) := fun wx hx => hN.keep hx
  obtain ⟨⟨ak, ck, rfl, -, -, -⟩, ⟨ap, cp, rfl, -, -, -⟩, ⟨ae, ce, rfl, he1, he2, -⟩⟩ := hB
  unfold maxLen at he2
  have A1 : Hid (Below w.heap.size w (w.alloc (.cells #[.slice ak ks.length ck, .slice ap ps.length cp, .slice ae es.length ce] 28))) := (Below.refl _ _).alloc (Nat.le_refl _) _
  have Q0 : Hid (∀ wx : World, Below (w.alloc (.cells #[.slice ak ks.length ck, .slice ap ps.length cp, .slice ae es.length ce] 28)).heap.size (w.alloc (.cells #[.slice ak ks.length ck, .slice ap ps.length cp, .slice ae es.length ce] 28)) wx → (wx.cell? ⟨w.heap.size, 0, none⟩ = some (.slice ak ks.length ck) ∧ wx.cell? ⟨w.heap.size, 1, none⟩ = some (.slice ap ps.length cp) ∧ wx.cell? ⟨w.heap.size, 2, none⟩ = some (.slice ae es.length ce))) := fun wx hx => ⟨cell_keep hx (Nat.le_refl _) (by simp [go_sem]), cell_keep hx (Nat.le_refl _) (by simp [go_sem]), cell_keep hx (Nat.le_refl _) (by simp [go_sem])⟩
  obtain ⟨p0, p1, p2⟩ := Q0.out _ (Below.refl _ _)
  go_enter Tryz.func23, Tryz.ntmps23
  go_wp2_with fail
  generalize (w.alloc (.cells #[.slice ak ks.length ck, .slice ap ps.length cp, .slice ae es.length ce] 28)) = w1 at *
  refine (bookOk_any _ _ _ ks ps es _ (HB.out _ A1.out) nB sB).mono ?_
  rintro e w2 ⟨rfl, hb2⟩
  have B2 : Hid (Below w1.heap.size w1 w2) := hb2
  clear hb2 p0 p1 p2
  obtain ⟨p0, p1, p2⟩ := Q0.out _ B2.out
  cases hbb : bookB ks ps es
  · have HE : Hid (allR ks ps es = []) := by show _ = _; unfold allR; rw [hbb]; rfl
    clear hbb
    go_wp2
    go_ret
    exact ⟨.slice none 0 0, rfl, by rw [HE.out]; exact FlsNew.nil _ _, below_step A1.out B2.out⟩
  have HBB : Hid (bookB ks ps es = true) := hbb
  have HE : Hid (allR ks ps es = (allE es).map (flV ks)) := by show _ = _; unfold allR; rw [hbb]; rfl
  have HKN : Hid (∀ t ∈ ks, t.s.size ≤ 1048576) := book_kinds HBB.out
  clear hbb
  go_wp2_with fail
  clear p0 p1 p2
  go_loopw [3, 14] (fun v i wr => ∃ k : Nat, k ≤ es.length ∧ i = .int .i64 k ∧ (∃ a c, v = .slice a (allE (es.take k)).length c) ∧ Hid (FlsNew wr w2.heap.size v ((allE (es.take k)).map (flV ks)) ∧ Below w1.heap.size w1 wr ∧ w2.heap.size ≤ wr.heap.size)) (fun _ i _ => es.length - (intOf i).toNat)
  case atStart => exact ⟨0, Nat.zero_le _, rfl, ⟨none, 0, rfl⟩, FlsNew.nil _ _, B2.out, Nat.le_refl _⟩
  case round =>
    obtain ⟨k, hk, rfl, ⟨a, c, rfl⟩, HI⟩ := hrel
    by_cases hlt : k < es.length
    · have hmem : eat es k ∈ es := List.mem_of_getElem? (eat_get hlt)
      have HTK := Lv.toHid (allE_take hlt)
      have HFT : Hid (∀ f ∈ (eat es k).fs, valB2 ks ps f.what f.v = true ∧ f.v.size ≤ 1048576) := fun f hf => ⟨book_fits HBB.out _ hmem f hf, sB.v _ hmem f hf⟩
      have HFL : Hid ((eat es k).fs.length ≤ 1048576 ∧ (eat es k).name.size ≤ 1048576) := ⟨sB.f _ hmem, sB.n _ hmem⟩
      obtain ⟨a9, c9, e9, -, -, h9⟩ := (HB.out _ (below_step A1.out HI.out.2.1)).e
      obtain ⟨b, off, ha, fv, d0, d1, hfl⟩ := h9 _ _ (eat_get hlt)
      cases e9
      subst ha
      clear h9 hmem
      obtain ⟨⟨en, fs⟩, hen⟩ : ∃ e, eat es k = e := ⟨_, rfl⟩
      rw [hen] at HTK HFT HFL d0 hfl
      have HFF := Lv.toHid hfl
      dsimp only at HTK HFT HFL d0 hfl HFF
      obtain ⟨af, cf, rfl, -, -, -⟩ := hfl
      clear hen
      have zd := lt_of_cell d0
      obtain ⟨p0, p1, p2⟩ := Q0.out _ HI.out.2.1
      have zp := lt_of_cell p0
      have hk0 : (0 : Int) ≤ (k : Int) := by omega
      have hk1 : (k : Int) < (es.length : Int) := by omega
      have BA : Hid (Below wr.heap.size wr (wr.alloc (.cells #[.string en, .slice af fs.length cf] 83))) := (Below.refl _ _).alloc (Nat.le_refl _) _
      have GS : Hid (Calls Tryz.prog 54 #[.agg #[.slice ak ks.length ck, .slice ap ps.length cp], .agg #[.string en, .slice af fs.length cf]] (wr.alloc (.cells #[.string en, .slice af fs.length cf] 83)) fun e w' => ∃ rt, e = .returned (.tuple #[.agg (stC ks en fs rt), .bool (stB fs)]) ∧ (stB fs = true → RtIs w' (wr.alloc (.cells #[.string en, .slice af fs.length cf] 83)).heap.size rt (lastV fs 4)) ∧ Below (wr.alloc (.cells #[.string en, .slice af fs.length cf] 83)).heap.size (wr.alloc (.cells #[.string en, .slice af fs.length cf] 83)) w') := standing_any _ _ _ ks ps en fs _ (HB.out _ (below_step A1.out (below_step HI.out.2.1 BA.out))).k (HFF.out.keep BA.out) HFT.out HKN.out HFL.out.1 HFL.out.2 (HN.out _ (below_step A1.out (below_step HI.out.2.1 BA.out)))
      have ZA : Hid (wr.heap.size ≤ (wr.alloc (.cells #[.string en, .slice af fs.length cf] 83)).heap.size) := BA.out.size
      obtain ⟨qs, hqs, hQ0⟩ := HI.out.1
      have HQ0 := Lv.toHid hQ0
      have HQS := Lv.toHid hqs
      clear hQ0 hqs
      go_wp2_with fail
      generalize (wr.alloc (.cells #[.string en, .slice af fs.length cf] 83)) = w3 at *
      refine GS.out.mono ?_
      rintro e w4 ⟨rt, rfl, hrt, hb4⟩
      have I4 : Hid (FlsNew w4 w2.heap.size (.slice a (allE (es.take k)).length c) ((allE (es.take k)).map (flV ks)) ∧ Below w1.heap.size w1 w4 ∧ w2.heap.size ≤ w4.heap.size) := ⟨(HI.out.1.keep BA.out).keep hb4, below_step (below_step HI.out.2.1 BA.out) hb4, by have := HI.out.2.2; have := ZA.out; have := hb4.size; omega⟩
      have HQ4 := Lv.toHid ((HQ0.out.keep BA.out).keep hb4)
      have HI0 := HI
      have Z34 : Hid (wr.heap.size ≤ w3.heap.size) := ZA.out
      clear hb4 p0 p1 p2 d0 d1 zd zp GS BA ZA HI
      cases hst : stB fs
      · have HTN : Hid (allE (es.take (k + 1)) = allE (es.take k)) := by show _ = _; rw [HTK.out, hst]; simp
        have hsc : stC ks en fs rt = #[.string ⟨#[]⟩, .string ⟨#[]⟩, .int .i64 0, .int .i64 0, .int .i64 0, .int .i64 0, .int .i64 0, .slice none 0 0] := by unfold stC; rw [hst]; rfl
        rw [hsc]
        have I5 : Hid (FlsNew (w4.alloc (.cells #[.string ⟨#[]⟩, .string ⟨#[]⟩, .int .i64 0, .int .i64 0, .int .i64 0, .int .i64 0, .int .i64 0, .slice none 0 0] 52)) w2.heap.size (.slice a (allE (es.take k)).length c) ((allE (es.take k)).map (flV ks)) ∧ Below w1.heap.size w1 (w4.alloc (.cells #[.string ⟨#[]⟩, .string ⟨#[]⟩, .int .i64 0, .int .i64 0, .int .i64 0, .int .i64 0, .int .i64 0, .slice none 0 0] 52)) ∧ w2.heap.size ≤ (w4.alloc (.cells #[.string ⟨#[]⟩, .string ⟨#[]⟩, .int .i64 0, .int .i64 0, .int .i64 0, .int .i64 0, .int .i64 0, .slice none 0 0] 52)).heap.size) := by
          have hb : Below w4.heap.size w4 (w4.alloc (.cells #[.string ⟨#[]⟩, .string ⟨#[]⟩, .int .i64 0, .int .i64 0, .int .i64 0, .int .i64 0, .int .i64 0, .slice none 0 0] 52)) := (Below.refl _ _).alloc (Nat.le_refl _) _
          exact ⟨I4.out.1.keep hb, below_step I4.out.2.1 hb, Nat.le_trans I4.out.2.2 hb.size⟩
        clear hst hsc hrt
        go_wp2
        exact ⟨⟨k + 1, by omega, by go_num, by rw [HTN.out]; exact ⟨a, c, rfl⟩, by rw [HTN.out]; exact I5⟩, by simp [intOf]; omega⟩
      · have HTN : Hid (allE (es.take (k + 1)) = allE (es.take k) ++ [⟨en, fs⟩]) := by show _ = _; rw [HTK.out, hst]; rfl
        have hrt' := rt_new (e := ⟨en, fs⟩) (hrt hst)
        obtain ⟨ra, rc, rfl⟩ := ownF_slice hrt'
        have hsc : stC ks en fs (.slice ra (rtW ⟨en, fs⟩).length rc) = #[.string en, .string (kdOf ks (lastV fs 1)).s, .int .i64 (kdOf ks (lastV fs 1)).x, .int .i64 (kdOf ks (lastV fs 1)).y, .int .i64 (frOf (lastV fs 2)), .int .i64 (byOf (lastV fs 2)), .int .i64 (lvOf (lastV fs 3)), .slice ra (rtW ⟨en, fs⟩).length rc] := by unfold stC; rw [hst]; rfl
        rw [hsc]
        have HFV : Hid (flV ks ⟨en, fs⟩ = ⟨en, kdOf ks (lastV fs 1), frOf (lastV fs 2), byOf (lastV fs 2), lvOf (lastV fs 3), rtW ⟨en, fs⟩⟩) := rfl
        have HRT := Lv.toHid hrt'
        clear hsc hst hrt hrt'
        generalize kdOf ks (lastV fs 1) = kt at *
        generalize frOf (lastV fs 2) = kx at *
        generalize byOf (lastV fs 2) = ky at *
        generalize lvOf (lastV fs 3) = kz at *
        generalize hrw : rtW ⟨en, fs⟩ = RW at *
        generalize hrn : RW.length = rn at *
        have hnn : (allE (es.take k)).length ≤ 1048576 := by
          have h1 := allE_len (es.take k)
          rw [List.length_take] at h1
          omega
        have hqs := HQS.out
        have hQ := HQ4.out
        have hql : qs.length = (allE (es.take k)).length := by have := congrArg List.length hqs; simpa using this
        have hown0 : w4.ownsRow w2.heap.size 52 8 (.slice a (allE (es.take k)).length c) (allE (es.take k)).length (flRows qs) := by
          have h := hQ.row
          rw [hql] at h
          exact h
        have h24 := I4.out.2.2
        have BB : Hid (Below w4.heap.size w4 (w4.alloc (.cells #[.string en, .string kt.s, .int .i64 kt.x, .int .i64 kt.y, .int .i64 kx, .int .i64 ky, .int .i64 kz, .slice ra rn rc] 52))) := (Below.refl _ _).alloc (Nat.le_refl _) _
        have BC : Hid (Below (w4.alloc (.cells #[.string en, .string kt.s, .int .i64 kt.x, .int .i64 kt.y, .int .i64 kx, .int .i64 ky, .int .i64 kz, .slice ra rn rc] 52)).heap.size (w4.alloc (.cells #[.string en, .string kt.s, .int .i64 kt.x, .int .i64 kt.y, .int .i64 kx, .int .i64 ky, .int .i64 kz, .slice ra rn rc] 52)) ((w4.alloc (.cells #[.string en, .string kt.s, .int .i64 kt.x, .int .i64 kt.y, .int .i64 kx, .int .i64 ky, .int .i64 kz, .slice ra rn rc] 52)).alloc (.cells #[.string en, .string kt.s, .int .i64 kt.x, .int .i64 kt.y, .int .i64 kx, .int .i64 ky, .int .i64 kz, .slice ra rn rc] 52))) := (Below.refl _ _).alloc (Nat.le_refl _) _
        have SRC : ((w4.alloc (.cells #[.string en, .string kt.s, .int .i64 kt.x, .int .i64 kt.y, .int .i64 kx, .int .i64 ky, .int .i64 kz, .slice ra rn rc] 52)).alloc (.cells #[.string en, .string kt.s, .int .i64 kt.x, .int .i64 kt.y, .int .i64 kx, .int .i64 ky, .int .i64 kz, .slice ra rn rc] 52)).heap[w4.heap.size + 1]? = some (.cells #[.string en, .string kt.s, .int .i64 kt.x, .int .i64 kt.y, .int .i64 kx, .int .i64 ky, .int .i64 kz, .slice ra rn rc] 52 (0, 0)) := by
          have h := Lv.heap_newF (w4.alloc (.cells #[.string en, .string kt.s, .int .i64 kt.x, .int .i64 kt.y, .int .i64 kx, .int .i64 ky, .int .i64 kz, .slice ra rn rc] 52)) (.cells #[.string en, .string kt.s, .int .i64 kt.x, .int .i64 kt.y, .int .i64 kx, .int .i64 ky, .int .i64 kz, .slice ra rn rc] 52)
          rw [show (w4.alloc (.cells #[.string en, .string kt.s, .int .i64 kt.x, .int .i64 kt.y, .int .i64 kx, .int .i64 ky, .int .i64 kz, .slice ra rn rc] 52)).heap.size = w4.heap.size + 1 by simp] at h
          exact h
        have HSRC := Lv.toHid SRC
        clear SRC
        go_wp2_with (at_builtin; refine wpList_append_any _ rfl _ _ 58 rfl w2.heap.size 52 i0 _ 8 96 Tryz.underlying58 hi0 hz0 hz1 hz2 rfl (by decide) _ (allE (es.take k)).length _ rfl (ownF_keep (ownF_keep hown0 BB.out) BC.out) _ 1 1 [.string en, .string kt.s, .int .i64 kt.x, .int .i64 kt.y, .int .i64 kx, .int .i64 ky, .int .i64 kz, .slice ra rn rc] rfl (.inr ⟨_, rfl, World.news_of_block HSRC.out⟩) rfl (fun u hu => by simp at hu; rcases hu with rfl | rfl | rfl | rfl | rfl | rfl | rfl | rfl <;> rfl) (by unfold maxLen; omega) (by omega) (by simp; omega) ?_; intro vq wx hown hgrow hat)
        have HNW : Hid (FlsNew wx w2.heap.size vq ((allE (es.take (k + 1))).map (flV ks)) ∧ Below w1.heap.size w1 wx ∧ w2.heap.size ≤ wx.heap.size) := by
          refine ⟨⟨qs ++ [(⟨en, kt, kx, ky, kz, RW⟩, .slice ra rn rc)], ?_, ?_⟩, ?_, ?_⟩
          · rw [HTN.out, List.map_append, List.map_append, hqs]
            simp [HFV.out]
          · refine ((hQ.keep BB.out).keep BC.out).push (ownF_keep (ownF_keep (ownF_mono HRT.out (by have := Z34.out; have := HI0.out.2.2; omega)) BB.out) BC.out) (fun p hp => ?_) hgrow (by rw [hql]; exact hown)
            intro q hq e
            have h1 := ownF_lt (HQ0.out.rt p hp) q hq
            have h2 := ownF_ge HRT.out q e
            have h3 := Z34.out
            omega
          · exact (below_step (below_step I4.out.2.1 BB.out) BC.out).grown hgrow (below_step (below_step I4.out.2.1 BB.out) BC.out).size (fun q hq => by have h1 := ownF_ge hown0 q hq; have h2 := B2.out.size; omega)
          · have h1 := hgrow.size; have h2 := BC.out.size; have h3 := BB.out.size; omega
        obtain ⟨qa, qc, rfl⟩ := ownF_slice hown
        have HTL : Hid ((allE (es.take (k + 1))).length = (allE (es.take k)).length + 1) := by show _ = _; rw [HTN.out]; simp
        exact ⟨⟨k + 1, by omega, by go_num, by rw [HTL.out]; exact ⟨_, _, rfl⟩, HNW⟩, by simp [intOf]; omega⟩
    · have HF : Hid (es.take k = es) := List.take_of_length_le (by omega)
      go_wp2
      go_ret
      exact ⟨_, rfl, by rw [HE.out, ← HF.out]; rw [HF.out]; have h := HI.out.1; rw [HF.out] at h ⊢; exact h.mono (Nat.le_trans A1.out.size B2.out.size), below_step A1.out HI.out.2.1⟩
end Go.Proofs.YtehpdbbkbdfobabGreatDoor.Fa

/-
  All flights that stand: the specification's.
-/
namespace Go.Proofs.YtehpdbbkbdfobabGreatDoor.Fa
open Go.RowKit Go.Proofs.YtehpdbbkbdfobabGreatDoor Go.Proofs.YtehpdbbkbdfobabGreatDoor.Sd Go.Proofs.YtehpdbbkbdfobabGreatDoor.Pa
set_option linter.unusedSimpArgs false
set_option linter.unusedVariables false

theorem FlsNew.zero {w : World} {B g : Nat} (h : w.heap[g]? = some (.cells #[] 52 (0, 0))) (hb : B ≤ g) : FlsNew w B (.slice (some ⟨g, 0, none⟩) 0 0) [] :=
  ⟨[], rfl, ⟨rfl, .inr ⟨g, 0, #[], rfl, hb, h, Nat.le_refl _, Nat.zero_le _, rfl, rfl⟩⟩, (fun p hp => by cases hp), List.Pairwise.nil⟩
/-- While the loop goes on: the book in its box, the flights so far. -/
structure FI (w wr : World) (BK : Array Value) (v : Value) (l : List FlV) : Prop where
  fl : FlsNew wr w.heap.size v l
  below : Below w.heap.size w wr
  box : wr.heap[w.heap.size]? = some (.cells BK 28 (0, 0))
  own : ∀ q, v.ownBlock = some q → w.heap.size < q
theorem stC_one {W : World} {B : Nat} {ks : List Tri} {en : ByteArray} {fs : List Fld} {rt : Value} (h : stB fs = true → RtIs W B rt (lastV fs 4)) : (stC ks en fs rt).all (·.oneCell') = true := by
  unfold stC
  cases hs : stB fs with
  | false => simp [zero8, Value.oneCell']
  | true =>
    obtain ⟨a, n, c, rfl⟩ := (h hs).slice
    simp [flO, flC, Value.oneCell']
set_option maxRecDepth 100000 in
set_option maxHeartbeats 12800000 in
theorem specAll_any (vk vp ve : Value) (ks ps : List Tri) (es : List Ent) (w : World) (hB : BookAt w vk vp ve ks ps es) (nB : BNames ks ps es) (sB : BSmall ks ps es) (hes : es.length ≤ 1048576) :
    Calls Tryz.prog 22 #[.agg #[vk, vp, ve]] w fun e w' => ∃ v, e = .returned v ∧ FlsNew w' w.heap.size v (allR ks ps es) ∧ Below w.heap.size w w' := by
  obtain ⟨i0, hi0, hz0, hz1, hz2⟩ := info_parts infoFl
  have HB : Hid (∀ wx : World, Below w.heap.size w wx → BookAt wx vk vp ve ks ps es) := fun wx hx => hB.keep hx
  obtain ⟨⟨ak, ck, rfl, -, -, -⟩, ⟨ap, cp, rfl, -, -, -⟩, ⟨ae, ce, rfl, he1, he2, -⟩⟩ := hB
  unfold maxLen at he2
  have A1 : Hid (Below w.heap.size w ((w.alloc (.cells #[.slice ak ks.length ck, .slice ap ps.length cp, .slice ae es.length ce] 28)).alloc (.cells #[] 52))) := ((Below.refl _ _).alloc (Nat.le_refl _) _).alloc (by simp) _
  have E1 : Hid (((w.alloc (.cells #[.slice ak ks.length ck, .slice ap ps.length cp, .slice ae es.length ce] 28)).alloc (.cells #[] 52)).heap[w.heap.size + 1]? = some (.cells #[] 52 (0, 0))) := by
    have h := Lv.heap_newF (w.alloc (.cells #[.slice ak ks.length ck, .slice ap ps.length cp, .slice ae es.length ce] 28)) (.cells #[] 52)
    rw [show (w.alloc (.cells #[.slice ak ks.length ck, .slice ap ps.length cp, .slice ae es.length ce] 28)).heap.size = w.heap.size + 1 by simp] at h
    exact h
  have X1 : Hid (((w.alloc (.cells #[.slice ak ks.length ck, .slice ap ps.length cp, .slice ae es.length ce] 28)).alloc (.cells #[] 52)).heap[w.heap.size]? = some (.cells #[.slice ak ks.length ck, .slice ap ps.length cp, .slice ae es.length ce] 28 (0, 0))) := by
    show _ = _
    rw [(((Below.refl _ _).alloc (Nat.le_refl _) _ : Below (w.alloc (.cells #[.slice ak ks.length ck, .slice ap ps.length cp, .slice ae es.length ce] 28)).heap.size (w.alloc (.cells #[.slice ak ks.length ck, .slice ap ps.length cp, .slice ae es.length ce] 28)) ((w.alloc (.cells #[.slice ak ks.length ck, .slice ap ps.length cp, .slice ae es.length ce] 28)).alloc (.cells #[] 52)))).block _ (by simp)]
    exact Lv.heap_newF w _
  have Q0 : Hid (∀ wx : World, Below ((w.alloc (.cells #[.slice ak ks.length ck, .slice ap ps.length cp, .slice ae es.length ce] 28)).alloc (.cells #[] 52)).heap.size ((w.alloc (.cells #[.slice ak ks.length ck, .slice ap ps.length cp, .slice ae es.length ce] 28)).alloc (.cells #[] 52)) wx → (wx.cell? ⟨w.heap.size, 0, none⟩ = some (.slice ak ks.length ck) ∧ wx.cell? ⟨w.heap.size, 1, none⟩ = some (.slice ap ps.length cp) ∧ wx.cell? ⟨w.heap.size, 2, none⟩ = some (.slice ae es.length ce))) := fun wx hx => ⟨cell_keep hx (Nat.le_refl _) (by simp [go_sem]), cell_keep hx (Nat.le_refl _) (by simp [go_sem]), cell_keep hx (Nat.le_refl _) (by simp [go_sem])⟩
  obtain ⟨p0, p1, p2⟩ := Q0.out _ (Below.refl _ _)
  go_enter Tryz.func22, Tryz.ntmps22
  go_wp2_with fail
  generalize ((w.alloc (.cells #[.slice ak ks.length ck, .slice ap ps.length cp, .slice ae es.length ce] 28)).alloc (.cells #[] 52)) = w1 at *
  refine (specBookOk_any _ _ _ ks ps es _ (HB.out _ A1.out) nB sB).mono ?_
  rintro e w2 ⟨rfl, hb2⟩
  have B2 : Hid (Below w1.heap.size w1 w2) := hb2
  have X2 : Hid (w2.heap[w.heap.size]? = some (.cells #[.slice ak ks.length ck, .slice ap ps.length cp, .slice ae es.length ce] 28 (0, 0))) := below_block hb2 X1.out
  have E2 : Hid (w2.heap[w.heap.size + 1]? = some (.cells #[] 52 (0, 0))) := below_block hb2 E1.out
  clear hb2 p0 p1 p2
  obtain ⟨p0, p1, p2⟩ := Q0.out _ B2.out
  cases hbb : bookB ks ps es
  · have HE : Hid (allR ks ps es = []) := by show _ = _; unfold allR; rw [hbb]; rfl
    clear hbb
    go_wp2
    go_ret
    exact ⟨_, rfl, by rw [HE.out]; exact FlsNew.zero E2.out (by omega), below_step A1.out B2.out⟩
  have HBB : Hid (bookB ks ps es = true) := hbb
  have HE : Hid (allR ks ps es = (allE es).map (flV ks)) := by show _ = _; unfold allR; rw [hbb]; rfl
  have HKK : Hid (kindsB ks = true) := book_kindsB HBB.out
  clear hbb
  go_wp2_with fail
  clear p0 p1 p2
  go_loopw [3, 4] (fun v i wr => ∃ k : Nat, k ≤ es.length ∧ i = .int .i64 k ∧ (∃ a c, v = .slice a (allE (es.take k)).length c) ∧ Hid (FI w wr #[.slice ak ks.length ck, .slice ap ps.length cp, .slice ae es.length ce] v ((allE (es.take k)).map (flV ks)))) (fun _ i _ => es.length - (intOf i).toNat)
  case atStart => exact ⟨0, Nat.zero_le _, rfl, ⟨_, _, rfl⟩, FlsNew.zero E2.out (by omega), below_step A1.out B2.out, X2.out, (fun q hq => by have h3 : (some (w.heap.size + 1) : Option Nat) = some q := hq; injection h3 with h3; omega)⟩
  case round =>
    obtain ⟨k, hk, rfl, ⟨a, c, rfl⟩, HI⟩ := hrel
    have p0 := cell_blk HI.out.box (i := 0) rfl
    have p1 := cell_blk HI.out.box (i := 1) rfl
    have p2 := cell_blk HI.out.box (i := 2) rfl
    have zp := lt_of_cell p0
    by_cases hlt : k < es.length
    · have hmem : eat es k ∈ es := List.mem_of_getElem? (eat_get hlt)
      have HTK := Lv.toHid (allE_take hlt)
      have HFT : Hid (∀ f ∈ (eat es k).fs, valB2 ks ps f.what f.v = true ∧ f.v.size ≤ 1048576) := fun f hf => ⟨book_fits HBB.out _ hmem f hf, sB.v _ hmem f hf⟩
      have HAS : Hid (AscF (eat es k).fs) := book_ascF HBB.out _ hmem
      obtain ⟨a9, c9, e9, -, -, h9⟩ := (HB.out _ HI.out.below).e
      obtain ⟨b, off, ha, fv, d0, d1, hfl⟩ := h9 _ _ (eat_get hlt)
      cases e9
      subst ha
      clear h9 hmem
      obtain ⟨⟨en, fs⟩, hen⟩ : ∃ e, eat es k = e := ⟨_, rfl⟩
      rw [hen] at HTK HFT HAS d0 hfl
      have HFF := Lv.toHid hfl
      dsimp only at HTK HFT HAS d0 hfl HFF
      obtain ⟨af, cf, rfl, -, -, -⟩ := hfl
      clear hen
      have hk0 : (0 : Int) ≤ (k : Int) := by omega
      have hk1 : (k : Int) < (es.length : Int) := by omega
      have HSS : Hid (∀ wx : World, Below wr.heap.size wr wx → ((wx.cell? ⟨w.heap.size, 0, none⟩ = some (.slice ak ks.length ck) ∧ wx.cell? ⟨w.heap.size, 1, none⟩ = some (.slice ap ps.length cp) ∧ wx.cell? ⟨w.heap.size, 2, none⟩ = some (.slice (some ⟨b, off, none⟩) es.length ce)) ∧ wx.cell? ⟨b, off + k * 2, none⟩ = some (.string en) ∧ wx.cell? ⟨b, off + k * 2 + 1, none⟩ = some (.slice af fs.length cf))) := fun wx hx => ⟨⟨cell_keep hx (Nat.le_refl _) p0, cell_keep hx (Nat.le_refl _) p1, cell_keep hx (Nat.le_refl _) p2⟩, cell_keep hx (Nat.le_refl _) d0, cell_keep hx (Nat.le_refl _) d1⟩
      have GS : Hid (∀ wx : World, Below wr.heap.size wr wx → Calls Tryz.prog 51 #[.agg #[.slice ak ks.length ck, .slice ap ps.length cp, .slice (some ⟨b, off, none⟩) es.length ce], .agg #[.string en, .slice af fs.length cf]] wx fun e w' => ∃ rt, e = .returned (.tuple #[.agg (stC ks en fs rt), .bool (stB fs)]) ∧ (stB fs = true → RtIs w' wx.heap.size rt (lastV fs 4)) ∧ Below wx.heap.size wx w') := fun wx hx => l6Stands_any _ _ _ _ ks ps en fs wx (HB.out _ (below_step HI.out.below hx)).k (HFF.out.keep hx) HKK.out HFT.out HAS.out ⟨_, _, _, rfl⟩ ⟨_, _, _, rfl⟩
      go_wp2
      refine wp_region_noPanic ?_
      refine wp_region_held_drew (S := fun wx => ((wx.cell? ⟨w.heap.size, 0, none⟩ = some (.slice ak ks.length ck) ∧ wx.cell? ⟨w.heap.size, 1, none⟩ = some (.slice ap ps.length cp) ∧ wx.cell? ⟨w.heap.size, 2, none⟩ = some (.slice (some ⟨b, off, none⟩) es.length ce)) ∧ wx.cell? ⟨b, off + k * 2, none⟩ = some (.string en) ∧ wx.cell? ⟨b, off + k * 2 + 1, none⟩ = some (.slice af fs.length cf))) (by kernel_rfl) ?_ (fun hHeld => ?_)
      · exact HSS.out _ (Below.refl _ _).drew
      have BD : Hid (Below wr.heap.size wr wr.drew) := (Below.refl _ _).drew
      generalize wr.drew = W0 at *
      clear p0 p1 p2 d0 d1
      refine wpAnyH_take (i := 0) (v := ?_) rfl (by kernel_rfl) (by kernel_rfl) (by kernel_rfl) (fun _ _ _ h => h) (Or.inl ⟨by rfl, ?_⟩) (by assumption) ?_
      rotate_left
      · intro w hSw; (try dsimp only at hSw); go_simp; try with_reducible rfl
      simp only [Act.put, List.setIfInBounds_toArray, List.set_cons_zero, List.set_cons_succ, List.getElem_toArray, List.getElem_cons_succ, List.getElem_cons_zero]
      refine wpAnyH_take (i := 1) (v := ?_) rfl (by kernel_rfl) (by kernel_rfl) (by kernel_rfl) (fun _ _ _ h => h) (Or.inl ⟨by rfl, ?_⟩) (by assumption) ?_
      rotate_left
      · intro w hSw; (try dsimp only at hSw); go_simp; try with_reducible rfl
      simp only [Act.put, List.setIfInBounds_toArray, List.set_cons_zero, List.set_cons_succ, List.getElem_toArray, List.getElem_cons_succ, List.getElem_cons_zero]
      refine wpAnyH_take (i := 2) (v := ?_) rfl (by kernel_rfl) (by kernel_rfl) (by kernel_rfl) (fun _ _ _ h => h) (Or.inl ⟨by rfl, ?_⟩) (by assumption) ?_
      rotate_left
      · intro w hSw; (try dsimp only at hSw); go_simp; try with_reducible rfl
      simp only [Act.put, List.setIfInBounds_toArray, List.set_cons_zero, List.set_cons_succ, List.getElem_toArray, List.getElem_cons_succ, List.getElem_cons_zero]
      refine wpAnyH_take (i := 3) (v := ?_) rfl (by kernel_rfl) (by kernel_rfl) (by kernel_rfl) (fun _ _ _ h => h) (Or.inl ⟨by rfl, ?_⟩) (by assumption) ?_
      rotate_left
      · intro w hSw; (try dsimp only at hSw); go_simp; try with_reducible rfl
      simp only [Act.put, List.setIfInBounds_toArray, List.set_cons_zero, List.set_cons_succ, List.getElem_toArray, List.getElem_cons_succ, List.getElem_cons_zero]
      refine wpAnyH_take (i := 4) (v := ?_) rfl (by kernel_rfl) (by kernel_rfl) (by kernel_rfl) (fun _ _ _ h => h) (Or.inl ⟨by rfl, ?_⟩) (by assumption) ?_
      rotate_left
      · intro w hSw; (try dsimp only at hSw); go_simp; try with_reducible rfl
      simp only [Act.put, List.setIfInBounds_toArray, List.set_cons_zero, List.set_cons_succ, List.getElem_toArray, List.getElem_cons_succ, List.getElem_cons_zero]
      refine wpAnyH_take (i := 5) (v := ?_) rfl (by kernel_rfl) (by kernel_rfl) (by kernel_rfl) (fun _ _ _ h => h) (Or.inl ⟨by rfl, ?_⟩) (by assumption) ?_
      rotate_left
      · intro w hSw; (try dsimp only at hSw); go_simp; try with_reducible rfl
      simp only [Act.put, List.setIfInBounds_toArray, List.set_cons_zero, List.set_cons_succ, List.getElem_toArray, List.getElem_cons_succ, List.getElem_cons_zero]
      clear hHeld
      refine wpAnyH_ready (rs := [6, 10]) (by kernel_rfl) (by simp) ?_
      refine AllReadyH.cons rfl (fun K hK => ?_) (AllReadyH.cons rfl (fun K hK => ?_) AllReadyH.nil)
      · go_simp
        refine (GS.out _ BD.out).mono ?_
        rintro e W1 ⟨rt, rfl, hrt, hb⟩
        have B1 : Hid (Below wr.heap.size wr W1) := below_step BD.out hb
        have R1 : Hid (stB fs = true → RtIs W1 wr.heap.size rt (lastV fs 4)) := fun h => (hrt h).mono BD.out.size
        refine hK.out _ _ (HSS.out _ B1.out) (fun hHeld => ?_)
        clear hK K hb hrt BD
        refine wpAnyH_take (i := 7) (v := ?_) rfl (by kernel_rfl) (by kernel_rfl) (by kernel_rfl) (fun _ _ _ h => h) (Or.inl ⟨by rfl, ?_⟩) (by assumption) ?_
        rotate_left
        · intro w hSw; (try dsimp only at hSw); go_simp; try with_reducible rfl
        simp only [Act.put, List.setIfInBounds_toArray, List.set_cons_zero, List.set_cons_succ, List.getElem_toArray, List.getElem_cons_succ, List.getElem_cons_zero]
        refine wpAnyH_take (i := 8) (v := ?_) rfl (by kernel_rfl) (by kernel_rfl) (by kernel_rfl) (fun _ _ _ h => h) (Or.inl ⟨by rfl, ?_⟩) (by assumption) ?_
        rotate_left
        · intro w hSw; (try dsimp only at hSw); go_simp; try with_reducible rfl
        simp only [Act.put, List.setIfInBounds_toArray, List.set_cons_zero, List.set_cons_succ, List.getElem_toArray, List.getElem_cons_succ, List.getElem_cons_zero]
        refine wpAnyH_take (i := 9) (v := ?_) rfl (by kernel_rfl) (by kernel_rfl) (by kernel_rfl) (fun _ _ _ h => h) (Or.inl ⟨by rfl, ?_⟩) (by assumption) ?_
        rotate_left
        · intro w hSw; (try dsimp only at hSw); go_simp; try with_reducible rfl
        simp only [Act.put, List.setIfInBounds_toArray, List.set_cons_zero, List.set_cons_succ, List.getElem_toArray, List.getElem_cons_succ, List.getElem_cons_zero]
        clear hHeld
        have BA : Hid (Below W1.heap.size W1 (W1.alloc (.cells #[.string ⟨#[]⟩, .string ⟨#[]⟩, .int .i64 0, .int .i64 0, .int .i64 0, .int .i64 0, .int .i64 0, .slice none 0 0] 52))) := (Below.refl _ _).alloc (Nat.le_refl _) _
        have FA : Hid ((W1.alloc (.cells #[.string ⟨#[]⟩, .string ⟨#[]⟩, .int .i64 0, .int .i64 0, .int .i64 0, .int .i64 0, .int .i64 0, .slice none 0 0] 52)).heap[W1.heap.size]? = some (.cells #[.string ⟨#[]⟩, .string ⟨#[]⟩, .int .i64 0, .int .i64 0, .int .i64 0, .int .i64 0, .int .i64 0, .slice none 0 0] 52 (0, 0))) := Lv.heap_newF W1 _
        have hfb : wr.heap.size ≤ W1.heap.size := B1.out.size
        refine wpAnyH_ready (rs := [10]) (by kernel_rfl) (by simp) ?_
        refine AllReadyH.cons rfl (fun K hK => ?_) AllReadyH.nil
        go_simp
        refine hK.out _ _ (HSS.out _ (below_step B1.out BA.out)) (fun _ => ?_)
        clear hK K
        have B2' : Hid (Below wr.heap.size wr (W1.alloc (.cells #[.string ⟨#[]⟩, .string ⟨#[]⟩, .int .i64 0, .int .i64 0, .int .i64 0, .int .i64 0, .int .i64 0, .slice none 0 0] 52))) := below_step B1.out BA.out
        have R2 : Hid (stB fs = true → RtIs (W1.alloc (.cells #[.string ⟨#[]⟩, .string ⟨#[]⟩, .int .i64 0, .int .i64 0, .int .i64 0, .int .i64 0, .int .i64 0, .slice none 0 0] 52)) wr.heap.size rt (lastV fs 4)) := fun h => (R1.out h).keep BA.out
        generalize (W1.alloc (.cells #[.string ⟨#[]⟩, .string ⟨#[]⟩, .int .i64 0, .int .i64 0, .int .i64 0, .int .i64 0, .int .i64 0, .slice none 0 0] 52)) = W2 at *
        generalize W1.heap.size = FB at *
        clear BA R1 B1
        have hszz : (stC ks en fs rt).size = 8 := by unfold stC; cases stB fs <;> rfl
        have honn : (stC ks en fs rt).all (·.oneCell') = true := stC_one R2.out
        have B3 : Hid (Below wr.heap.size wr (W2.setRow FB (stC ks en fs rt))) := below_setRow B2'.out hfb _
        have F3 : Hid ((W2.setRow FB (stC ks en fs rt)).heap[FB]? = some (.cells (stC ks en fs rt) 52 (0, 0))) := setRow_heap _ _ _ _ _ _ FA.out
        have R3 : Hid (stB fs = true → RtIs (W2.setRow FB (stC ks en fs rt)) wr.heap.size rt (lastV fs 4)) := fun h => (R2.out h).row FA.out
        refine wpAnyH_ready (rs := [11]) (by kernel_rfl) (by simp) ?_
        refine AllReadyH.cons rfl (fun K hK => ?_) AllReadyH.nil
        refine step_store_rowC rfl 52 _ _ rfl FB (stC ks en fs rt) rfl rfl 52 _ FA.out (by rw [hszz]; kernel_rfl) (by rw [hszz]; rfl) honn ?_
        refine hK.out _ _ (HSS.out _ B3.out) (fun hHeld => ?_)
        clear hK K FA R2 B2'
        generalize (W2.setRow FB (stC ks en fs rt)) = WX at *
        have BX := B3
        have FX := F3
        have RX := R3
        clear B3 F3 R3
        refine wpAnyH_take (i := 12) (v := ?_) rfl (by kernel_rfl) (by kernel_rfl) (by kernel_rfl) (fun _ _ _ h => h) (Or.inl ⟨by rfl, ?_⟩) (by assumption) ?_
        rotate_left
        · intro w hSw; (try dsimp only at hSw); go_simp; try with_reducible rfl
        simp only [Act.put, List.setIfInBounds_toArray, List.set_cons_zero, List.set_cons_succ, List.getElem_toArray, List.getElem_cons_succ, List.getElem_cons_zero]
        clear hHeld
        -- the flight lies in FB
        refine wpAnyH_done (by kernel_rfl) ?_ _
        refine NoPanic.normal ?_
        cases hst : stB fs
        · have HTN : Hid (allE (es.take (k + 1)) = allE (es.take k)) := by show _ = _; rw [HTK.out, hst]; simp
          have I5 : Hid (FI w WX #[.slice ak ks.length ck, .slice ap ps.length cp, .slice (some ⟨b, off, none⟩) es.length ce] (.slice a (allE (es.take k)).length c) ((allE (es.take k)).map (flV ks))) := ⟨HI.out.fl.keep BX.out, below_step HI.out.below BX.out, below_block BX.out HI.out.box, HI.out.own⟩
          clear hst
          go_wp2
          exact ⟨⟨k + 1, by omega, by go_num, by rw [HTN.out]; exact ⟨a, c, rfl⟩, by rw [HTN.out]; exact I5⟩, by simp [intOf]; omega⟩
        · have HTN : Hid (allE (es.take (k + 1)) = allE (es.take k) ++ [⟨en, fs⟩]) := by show _ = _; rw [HTK.out, hst]; rfl
          have hrt' := rt_new (e := ⟨en, fs⟩) (RX.out hst)
          obtain ⟨ra, rc, rfl⟩ := ownF_slice hrt'
          have hsc : stC ks en fs (.slice ra (rtW ⟨en, fs⟩).length rc) = #[.string en, .string (kdOf ks (lastV fs 1)).s, .int .i64 (kdOf ks (lastV fs 1)).x, .int .i64 (kdOf ks (lastV fs 1)).y, .int .i64 (frOf (lastV fs 2)), .int .i64 (byOf (lastV fs 2)), .int .i64 (lvOf (lastV fs 3)), .slice ra (rtW ⟨en, fs⟩).length rc] := by unfold stC; rw [hst]; rfl
          rw [hsc] at FX ⊢
          have HFV : Hid (flV ks ⟨en, fs⟩ = ⟨en, kdOf ks (lastV fs 1), frOf (lastV fs 2), byOf (lastV fs 2), lvOf (lastV fs 3), rtW ⟨en, fs⟩⟩) := rfl
          have HRT := Lv.toHid hrt'
          clear hsc hst hrt' RX
          generalize kdOf ks (lastV fs 1) = kt at *
          generalize frOf (lastV fs 2) = kx at *
          generalize byOf (lastV fs 2) = ky at *
          generalize lvOf (lastV fs 3) = kz at *
          generalize hrw : rtW ⟨en, fs⟩ = RW at *
          generalize hrn : RW.length = rn at *
          have hnn : (allE (es.take k)).length ≤ 1048576 := by
            have h1 := allE_len (es.take k)
            rw [List.length_take] at h1
            omega
          obtain ⟨qs, hqs, hQ0⟩ := HI.out.fl
          have HQ0 := Lv.toHid hQ0
          have hQ := hQ0.keep BX.out
          have hql : qs.length = (allE (es.take k)).length := by have := congrArg List.length hqs; simpa using this
          have hown0 : WX.ownsRow w.heap.size 52 8 (.slice a (allE (es.take k)).length c) (allE (es.take k)).length (flRows qs) := by
            have h := hQ.row
            rw [hql] at h
            exact h
          have f0 := cell_blk FX.out (i := 0) rfl
          have f1 := cell_blk FX.out (i := 1) rfl
          have f2 := cell_blk FX.out (i := 2) rfl
          have f3 := cell_blk FX.out (i := 3) rfl
          have f4 := cell_blk FX.out (i := 4) rfl
          have f5 := cell_blk FX.out (i := 5) rfl
          have f6 := cell_blk FX.out (i := 6) rfl
          have f7 := cell_blk FX.out (i := 7) rfl
          have hwx := BX.out.size
          have hwr := HI.out.below.size
          have hwb := lt_of_block HI.out.box
          have BC : Hid (Below WX.heap.size WX (WX.alloc (.cells #[.string en, .string kt.s, .int .i64 kt.x, .int .i64 kt.y, .int .i64 kx, .int .i64 ky, .int .i64 kz, .slice ra rn rc] 52))) := (Below.refl _ _).alloc (Nat.le_refl _) _
          have HSRC : Hid ((WX.alloc (.cells #[.string en, .string kt.s, .int .i64 kt.x, .int .i64 kt.y, .int .i64 kx, .int .i64 ky, .int .i64 kz, .slice ra rn rc] 52)).heap[WX.heap.size]? = some (.cells #[.string en, .string kt.s, .int .i64 kt.x, .int .i64 kt.y, .int .i64 kx, .int .i64 ky, .int .i64 kz, .slice ra rn rc] 52 (0, 0))) := Lv.heap_newF WX _
          go_wp2_with (at_builtin; refine wpList_append_any _ rfl _ _ 58 rfl w.heap.size 52 i0 _ 8 96 Tryz.underlying58 hi0 hz0 hz1 hz2 rfl (by decide) _ (allE (es.take k)).length _ rfl (ownF_keep hown0 BC.out) _ 1 1 [.string en, .string kt.s, .int .i64 kt.x, .int .i64 kt.y, .int .i64 kx, .int .i64 ky, .int .i64 kz, .slice ra rn rc] rfl (.inr ⟨_, rfl, World.news_of_block HSRC.out⟩) rfl (fun u hu => by simp at hu; rcases hu with rfl | rfl | rfl | rfl | rfl | rfl | rfl | rfl <;> rfl) (by unfold maxLen; omega) (by omega) (by simp; omega) ?_; intro vq wx hown hgrow hat)
          have HNW : Hid (FI w wx #[.slice ak ks.length ck, .slice ap ps.length cp, .slice (some ⟨b, off, none⟩) es.length ce] vq ((allE (es.take (k + 1))).map (flV ks))) := by
            refine ⟨⟨qs ++ [(⟨en, kt, kx, ky, kz, RW⟩, .slice ra rn rc)], ?_, ?_⟩, ?_, ?_, ?_⟩
            · rw [HTN.out, List.map_append, List.map_append, hqs]
              simp [HFV.out]
            · refine (hQ.keep BC.out).push (ownF_keep (ownF_mono HRT.out (by omega)) BC.out) (fun p hp => ?_) hgrow (by rw [hql]; exact hown)
              intro q hq e
              have h1 := ownF_lt (HQ0.out.rt p hp) q hq
              have h2 := ownF_ge HRT.out q e
              omega
            · exact (below_step (below_step HI.out.below BX.out) BC.out).grown hgrow (below_step (below_step HI.out.below BX.out) BC.out).size (fun q hq => by have h1 := HI.out.own q hq; omega)
            · exact (hgrow.block _ (by simp; omega) (fun e => by have h1 := HI.out.own _ e.symm; omega)).trans (below_block BC.out (below_block BX.out HI.out.box))
            · intro q hq
              rcases hat with e | e
              · rw [e] at hq; exact HI.out.own q hq
              · rw [e] at hq; injection hq with hq; have h2 := BC.out.size; omega
          obtain ⟨qa, qc, rfl⟩ := ownF_slice hown
          have HTL : Hid ((allE (es.take (k + 1))).length = (allE (es.take k)).length + 1) := by show _ = _; rw [HTN.out]; simp
          exact ⟨⟨k + 1, by omega, by go_num, by rw [HTL.out]; exact ⟨_, _, rfl⟩, HNW⟩, by simp [intOf]; omega⟩
      · go_simp
        have BA : Hid (Below W0.heap.size W0 (W0.alloc (.cells #[.string ⟨#[]⟩, .string ⟨#[]⟩, .int .i64 0, .int .i64 0, .int .i64 0, .int .i64 0, .int .i64 0, .slice none 0 0] 52))) := (Below.refl _ _).alloc (Nat.le_refl _) _
        have FA0 : Hid ((W0.alloc (.cells #[.string ⟨#[]⟩, .string ⟨#[]⟩, .int .i64 0, .int .i64 0, .int .i64 0, .int .i64 0, .int .i64 0, .slice none 0 0] 52)).heap[W0.heap.size]? = some (.cells #[.string ⟨#[]⟩, .string ⟨#[]⟩, .int .i64 0, .int .i64 0, .int .i64 0, .int .i64 0, .int .i64 0, .slice none 0 0] 52 (0, 0))) := Lv.heap_newF W0 _
        have hfb : wr.heap.size ≤ W0.heap.size := BD.out.size
        have B0 : Hid (Below wr.heap.size wr (W0.alloc (.cells #[.string ⟨#[]⟩, .string ⟨#[]⟩, .int .i64 0, .int .i64 0, .int .i64 0, .int .i64 0, .int .i64 0, .slice none 0 0] 52))) := below_step BD.out BA.out
        refine hK.out _ _ (HSS.out _ B0.out) (fun _ => ?_)
        clear hK K
        generalize (W0.alloc (.cells #[.string ⟨#[]⟩, .string ⟨#[]⟩, .int .i64 0, .int .i64 0, .int .i64 0, .int .i64 0, .int .i64 0, .slice none 0 0] 52)) = W1 at *
        generalize W0.heap.size = FB at *
        clear BA BD
        refine wpAnyH_ready (rs := [6]) (by kernel_rfl) (by simp) ?_
        refine AllReadyH.cons rfl (fun K hK => ?_) AllReadyH.nil
        go_simp
        refine (GS.out _ B0.out).mono ?_
        rintro e W2 ⟨rt, rfl, hrt, hb⟩
        have B2' : Hid (Below wr.heap.size wr W2) := below_step B0.out hb
        have R2 : Hid (stB fs = true → RtIs W2 wr.heap.size rt (lastV fs 4)) := fun h => (hrt h).mono B0.out.size
        have FA : Hid (W2.heap[FB]? = some (.cells #[.string ⟨#[]⟩, .string ⟨#[]⟩, .int .i64 0, .int .i64 0, .int .i64 0, .int .i64 0, .int .i64 0, .slice none 0 0] 52 (0, 0))) := below_block hb FA0.out
        refine hK.out _ _ (HSS.out _ B2'.out) (fun hHeld => ?_)
        clear hK K hb hrt B0 FA0
        refine wpAnyH_take (i := 7) (v := ?_) rfl (by kernel_rfl) (by kernel_rfl) (by kernel_rfl) (fun _ _ _ h => h) (Or.inl ⟨by rfl, ?_⟩) (by assumption) ?_
        rotate_left
        · intro w hSw; (try dsimp only at hSw); go_simp; try with_reducible rfl
        simp only [Act.put, List.setIfInBounds_toArray, List.set_cons_zero, List.set_cons_succ, List.getElem_toArray, List.getElem_cons_succ, List.getElem_cons_zero]
        refine wpAnyH_take (i := 8) (v := ?_) rfl (by kernel_rfl) (by kernel_rfl) (by kernel_rfl) (fun _ _ _ h => h) (Or.inl ⟨by rfl, ?_⟩) (by assumption) ?_
        rotate_left
        · intro w hSw; (try dsimp only at hSw); go_simp; try with_reducible rfl
        simp only [Act.put, List.setIfInBounds_toArray, List.set_cons_zero, List.set_cons_succ, List.getElem_toArray, List.getElem_cons_succ, List.getElem_cons_zero]
        refine wpAnyH_take (i := 9) (v := ?_) rfl (by kernel_rfl) (by kernel_rfl) (by kernel_rfl) (fun _ _ _ h => h) (Or.inl ⟨by rfl, ?_⟩) (by assumption) ?_
        rotate_left
        · intro w hSw; (try dsimp only at hSw); go_simp; try with_reducible rfl
        simp only [Act.put, List.setIfInBounds_toArray, List.set_cons_zero, List.set_cons_succ, List.getElem_toArray, List.getElem_cons_succ, List.getElem_cons_zero]
        clear hHeld
        have hszz : (stC ks en fs rt).size = 8 := by unfold stC; cases stB fs <;> rfl
        have honn : (stC ks en fs rt).all (·.oneCell') = true := stC_one R2.out
        have B3 : Hid (Below wr.heap.size wr (W2.setRow FB (stC ks en fs rt))) := below_setRow B2'.out hfb _
        have F3 : Hid ((W2.setRow FB (stC ks en fs rt)).heap[FB]? = some (.cells (stC ks en fs rt) 52 (0, 0))) := setRow_heap _ _ _ _ _ _ FA.out
        have R3 : Hid (stB fs = true → RtIs (W2.setRow FB (stC ks en fs rt)) wr.heap.size rt (lastV fs 4)) := fun h => (R2.out h).row FA.out
        refine wpAnyH_ready (rs := [11]) (by kernel_rfl) (by simp) ?_
        refine AllReadyH.cons rfl (fun K hK => ?_) AllReadyH.nil
        refine step_store_rowC rfl 52 _ _ rfl FB (stC ks en fs rt) rfl rfl 52 _ FA.out (by rw [hszz]; kernel_rfl) (by rw [hszz]; rfl) honn ?_
        refine hK.out _ _ (HSS.out _ B3.out) (fun hHeld => ?_)
        clear hK K FA R2 B2'
        generalize (W2.setRow FB (stC ks en fs rt)) = WX at *
        have BX := B3
        have FX := F3
        have RX := R3
        clear B3 F3 R3
        refine wpAnyH_take (i := 12) (v := ?_) rfl (by kernel_rfl) (by kernel_rfl) (by kernel_rfl) (fun _ _ _ h => h) (Or.inl ⟨by rfl, ?_⟩) (by assumption) ?_
        rotate_left
        · intro w hSw; (try dsimp only at hSw); go_simp; try with_reducible rfl
        simp only [Act.put, List.setIfInBounds_toArray, List.set_cons_zero, List.set_cons_succ, List.getElem_toArray, List.getElem_cons_succ, List.getElem_cons_zero]
        clear hHeld
        -- the flight lies in FB
        refine wpAnyH_done (by kernel_rfl) ?_ _
        refine NoPanic.normal ?_
        cases hst : stB fs
        · have HTN : Hid (allE (es.take (k + 1)) = allE (es.take k)) := by show _ = _; rw [HTK.out, hst]; simp
          have I5 : Hid (FI w WX #[.slice ak ks.length ck, .slice ap ps.length cp, .slice (some ⟨b, off, none⟩) es.length ce] (.slice a (allE (es.take k)).length c) ((allE (es.take k)).map (flV ks))) := ⟨HI.out.fl.keep BX.out, below_step HI.out.below BX.out, below_block BX.out HI.out.box, HI.out.own⟩
          clear hst
          go_wp2
          exact ⟨⟨k + 1, by omega, by go_num, by rw [HTN.out]; exact ⟨a, c, rfl⟩, by rw [HTN.out]; exact I5⟩, by simp [intOf]; omega⟩
        · have HTN : Hid (allE (es.take (k + 1)) = allE (es.take k) ++ [⟨en, fs⟩]) := by show _ = _; rw [HTK.out, hst]; rfl
          have hrt' := rt_new (e := ⟨en, fs⟩) (RX.out hst)
          obtain ⟨ra, rc, rfl⟩ := ownF_slice hrt'
          have hsc : stC ks en fs (.slice ra (rtW ⟨en, fs⟩).length rc) = #[.string en, .string (kdOf ks (lastV fs 1)).s, .int .i64 (kdOf ks (lastV fs 1)).x, .int .i64 (kdOf ks (lastV fs 1)).y, .int .i64 (frOf (lastV fs 2)), .int .i64 (byOf (lastV fs 2)), .int .i64 (lvOf (lastV fs 3)), .slice ra (rtW ⟨en, fs⟩).length rc] := by unfold stC; rw [hst]; rfl
          rw [hsc] at FX ⊢
          have HFV : Hid (flV ks ⟨en, fs⟩ = ⟨en, kdOf ks (lastV fs 1), frOf (lastV fs 2), byOf (lastV fs 2), lvOf (lastV fs 3), rtW ⟨en, fs⟩⟩) := rfl
          have HRT := Lv.toHid hrt'
          clear hsc hst hrt' RX
          generalize kdOf ks (lastV fs 1) = kt at *
          generalize frOf (lastV fs 2) = kx at *
          generalize byOf (lastV fs 2) = ky at *
          generalize lvOf (lastV fs 3) = kz at *
          generalize hrw : rtW ⟨en, fs⟩ = RW at *
          generalize hrn : RW.length = rn at *
          have hnn : (allE (es.take k)).length ≤ 1048576 := by
            have h1 := allE_len (es.take k)
            rw [List.length_take] at h1
            omega
          obtain ⟨qs, hqs, hQ0⟩ := HI.out.fl
          have HQ0 := Lv.toHid hQ0
          have hQ := hQ0.keep BX.out
          have hql : qs.length = (allE (es.take k)).length := by have := congrArg List.length hqs; simpa using this
          have hown0 : WX.ownsRow w.heap.size 52 8 (.slice a (allE (es.take k)).length c) (allE (es.take k)).length (flRows qs) := by
            have h := hQ.row
            rw [hql] at h
            exact h
          have f0 := cell_blk FX.out (i := 0) rfl
          have f1 := cell_blk FX.out (i := 1) rfl
          have f2 := cell_blk FX.out (i := 2) rfl
          have f3 := cell_blk FX.out (i := 3) rfl
          have f4 := cell_blk FX.out (i := 4) rfl
          have f5 := cell_blk FX.out (i := 5) rfl
          have f6 := cell_blk FX.out (i := 6) rfl
          have f7 := cell_blk FX.out (i := 7) rfl
          have hwx := BX.out.size
          have hwr := HI.out.below.size
          have hwb := lt_of_block HI.out.box
          have BC : Hid (Below WX.heap.size WX (WX.alloc (.cells #[.string en, .string kt.s, .int .i64 kt.x, .int .i64 kt.y, .int .i64 kx, .int .i64 ky, .int .i64 kz, .slice ra rn rc] 52))) := (Below.refl _ _).alloc (Nat.le_refl _) _
          have HSRC : Hid ((WX.alloc (.cells #[.string en, .string kt.s, .int .i64 kt.x, .int .i64 kt.y, .int .i64 kx, .int .i64 ky, .int .i64 kz, .slice ra rn rc] 52)).heap[WX.heap.size]? = some (.cells #[.string en, .string kt.s, .int .i64 kt.x, .int .i64 kt.y, .int .i64 kx, .int .i64 ky, .int .i64 kz, .slice ra rn rc] 52 (0, 0))) := Lv.heap_newF WX _
          go_wp2_with (at_builtin; refine wpList_append_any _ rfl _ _ 58 rfl w.heap.size 52 i0 _ 8 96 Tryz.underlying58 hi0 hz0 hz1 hz2 rfl (by decide) _ (allE (es.take k)).length _ rfl (ownF_keep hown0 BC.out) _ 1 1 [.string en, .string kt.s, .int .i64 kt.x, .int .i64 kt.y, .int .i64 kx, .int .i64 ky, .int .i64 kz, .slice ra rn rc] rfl (.inr ⟨_, rfl, World.news_of_block HSRC.out⟩) rfl (fun u hu => by simp at hu; rcases hu with rfl | rfl | rfl | rfl | rfl | rfl | rfl | rfl <;> rfl) (by unfold maxLen; omega) (by omega) (by simp; omega) ?_; intro vq wx hown hgrow hat)
          have HNW : Hid (FI w wx #[.slice ak ks.length ck, .slice ap ps.length cp, .slice (some ⟨b, off, none⟩) es.length ce] vq ((allE (es.take (k + 1))).map (flV ks))) := by
            refine ⟨⟨qs ++ [(⟨en, kt, kx, ky, kz, RW⟩, .slice ra rn rc)], ?_, ?_⟩, ?_, ?_, ?_⟩
            · rw [HTN.out, List.map_append, List.map_append, hqs]
              simp [HFV.out]
            · refine (hQ.keep BC.out).push (ownF_keep (ownF_mono HRT.out (by omega)) BC.out) (fun p hp => ?_) hgrow (by rw [hql]; exact hown)
              intro q hq e
              have h1 := ownF_lt (HQ0.out.rt p hp) q hq
              have h2 := ownF_ge HRT.out q e
              omega
            · exact (below_step (below_step HI.out.below BX.out) BC.out).grown hgrow (below_step (below_step HI.out.below BX.out) BC.out).size (fun q hq => by have h1 := HI.out.own q hq; omega)
            · exact (hgrow.block _ (by simp; omega) (fun e => by have h1 := HI.out.own _ e.symm; omega)).trans (below_block BC.out (below_block BX.out HI.out.box))
            · intro q hq
              rcases hat with e | e
              · rw [e] at hq; exact HI.out.own q hq
              · rw [e] at hq; injection hq with hq; have h2 := BC.out.size; omega
          obtain ⟨qa, qc, rfl⟩ := ownF_slice hown
          have HTL : Hid ((allE (es.take (k + 1))).length = (allE (es.take k)).length + 1) := by show _ = _; rw [HTN.out]; simp
          exact ⟨⟨k + 1, by omega, by go_num, by rw [HTL.out]; exact ⟨_, _, rfl⟩, HNW⟩, by simp [intOf]; omega⟩
    · have HF : Hid (es.take k = es) := List.take_of_length_le (by omega)
      go_wp2
      go_ret
      exact ⟨_, rfl, by have h := HI.out.fl; rw [HF.out] at h ⊢; rw [HE.out]; exact h, HI.out.below⟩
end Go.Proofs.YtehpdbbkbdfobabGreatDoor.Fa
