
/-
  All flights that stand: the program's.
-/
import Derived.Test.YtehpdbbkbdfobabGreatDoorFa1
import Derived.Test.YtehpdbbkbdfobabGreatDoorSt11
namespace Go.Proofs.YtehpdbbkbdfobabGreatDoor.Fa
open Go.RowKit Go.Proofs.YtehpdbbkbdfobabGreatDoor Go.Proofs.YtehpdbbkbdfobabGreatDoor.Sd Go.Proofs.YtehpdbbkbdfobabGreatDoor.Pa
set_option linter.unusedSimpArgs false
set_option linter.unusedVariables false

set_option maxRecDepth 100000 in
set_option maxHeartbeats 6400000 in
theorem planAll_any (vk vp ve : Value) (ks ps : List Tri) (es : List Ent) (w : World) (hB : BookAt w vk vp ve ks ps es) (nB : BNames ks ps es) (sB : BSmall ks ps es) (hN : NeedIn w) (hes : es.length ≤ 1048576) :
    Calls Tryz.prog 23 #[.agg #[vk, vp, ve]] w fun e w' => ∃ v, e = .returned v ∧ FlsNew w' w.heap.size v (allR ks ps es) ∧ Below w.heap.size w w' := by
  obtain ⟨i0, hi0, hz0, hz1, hz2⟩ := info_parts infoFl
  have HB : Hid (∀ wx : World, Below w.heap.size w wx → BookAt wx vk vp ve ks ps es) := fun wx hx => hB.keep hx
  have HN : Hid (∀ wx : World, Below w.heap.size w wx → NeedIn wx) := fun wx hx => hN.keep hx
  obtain ⟨⟨ak, ck, rfl, -, -, -⟩, ⟨ap, cp, rfl, -, -, -⟩, ⟨ae, ce, rfl, he1, he2, -⟩⟩ := hB
  unfold maxLen at he2
  have A1 : Hid (Below w.heap.size w (w.alloc (.cells #[.slice ak ks.length ck, .slice ap ps.length cp, .slice ae es.length ce] 28))) := (Below.refl _ _).alloc (Nat.le_refl _) _
  have Q0 : Hid (∀ wx : World, Below (w.alloc (.cells #[.slice ak ks.length ck, .slice ap ps.length cp, .slice ae es.length ce] 28)).heap.size (w.alloc (.cells #[.slice ak ks.length ck, .slice ap ps.length cp, .slice ae es.length ce] 28)) wx → (wx.cell? ⟨w.heap.size, 0, none⟩ = some (.slice ak ks.length ck) ∧ wx.cell? ⟨w.heap.size, 1, none⟩ = some (.slice ap ps.length cp) ∧ wx.cell? ⟨w.heap.size, 2, none⟩ = some (.slice ae es.length ce))) := fun wx hx => ⟨cell_keep hx (Nat.le_refl _) (by simp [go_sem]), cell_keep hx (Nat.le_refl _) (by simp [go_sem]), cell_keep hx (Nat.le_refl _) (by simp [go_sem])⟩
  obtain ⟨p0, p1, p2⟩ := Q0.out _ (Below.refl _ _)
  go_enter Tryz.func23, Tryz.ntmps23
  go_wp2_with fail
  generalize (w.alloc (.cells #[.slice ak ks.length ck, .slice ap ps.length cp, .slice ae es.length ce] 28)) = w1 at *
  refine (bookOk_any _ _ _ ks ps es _ (HB.out _ A1.out) nB sB).mono ?_
  rintro e w2 ⟨rfl, hb2⟩
  have B2 : Hid (Below w1.heap.size w1 w2) := hb2
  clear hb2 p0 p1 p2
  obtain ⟨p0, p1, p2⟩ := Q0.out _ B2.out
  cases hbb : bookB ks ps es
  · have HE : Hid (allR ks ps es = []) := by show _ = _; unfold allR; rw [hbb]; rfl
    clear hbb
    go_wp2
    go_ret
    exact ⟨.slice none 0 0, rfl, by rw [HE.out]; exact FlsNew.nil _ _, below_step A1.out B2.out⟩
  have HBB : Hid (bookB ks ps es = true) := hbb
  have HE : Hid (allR ks ps es = (allE es).map (flV ks)) := by show _ = _; unfold allR; rw [hbb]; rfl
  have HKN : Hid (∀ t ∈ ks, t.s.size ≤ 1048576) := book_kinds HBB.out
  clear hbb
  go_wp2_with fail
  clear p0 p1 p2
  go_loopw [3, 14] (fun v i wr => ∃ k : Nat, k ≤ es.length ∧ i = .int .i64 k ∧ (∃ a c, v = .slice a (allE (es.take k)).length c) ∧ Hid (FlsNew wr w2.heap.size v ((allE (es.take k)).map (flV ks)) ∧ Below w1.heap.size w1 wr ∧ w2.heap.size ≤ wr.heap.size)) (fun _ i _ => es.length - (intOf i).toNat)
  case atStart => exact ⟨0, Nat.zero_le _, rfl, ⟨none, 0, rfl⟩, FlsNew.nil _ _, B2.out, Nat.le_refl _⟩
  case round =>
    obtain ⟨k, hk, rfl, ⟨a, c, rfl⟩, HI⟩ := hrel
    by_cases hlt : k < es.length
    · have hmem : eat es k ∈ es := List.mem_of_getElem? (eat_get hlt)
      have HTK := Lv.toHid (allE_take hlt)
      have HFT : Hid (∀ f ∈ (eat es k).fs, valB2 ks ps f.what f.v = true ∧ f.v.size ≤ 1048576) := fun f hf => ⟨book_fits HBB.out _ hmem f hf, sB.v _ hmem f hf⟩
      have HFL : Hid ((eat es k).fs.length ≤ 1048576 ∧ (eat es k).name.size ≤ 1048576) := ⟨sB.f _ hmem, sB.n _ hmem⟩
      obtain ⟨a9, c9, e9, -, -, h9⟩ := (HB.out _ (below_step A1.out HI.out.2.1)).e
      obtain ⟨b, off, ha, fv, d0, d1, hfl⟩ := h9 _ _ (eat_get hlt)
      cases e9
      subst ha
      clear h9 hmem
      obtain ⟨⟨en, fs⟩, hen⟩ : ∃ e, eat es k = e := ⟨_, rfl⟩
      rw [hen] at HTK HFT HFL d0 hfl
      have HFF := Lv.toHid hfl
      dsimp only at HTK HFT HFL d0 hfl HFF
      obtain ⟨af, cf, rfl, -, -, -⟩ := hfl
      clear hen
      have zd := lt_of_cell d0
      obtain ⟨p0, p1, p2⟩ := Q0.out _ HI.out.2.1
      have zp := lt_of_cell p0
      have hk0 : (0 : Int) ≤ (k : Int) := by omega
      have hk1 : (k : Int) < (es.length : Int) := by omega
      have BA : Hid (Below wr.heap.size wr (wr.alloc (.cells #[.string en, .slice af fs.length cf] 83))) := (Below.refl _ _).alloc (Nat.le_refl _) _
      have GS : Hid (Calls Tryz.prog 54 #[.agg #[.slice ak ks.length ck, .slice ap ps.length cp], .agg #[.string en, .slice af fs.length cf]] (wr.alloc (.cells #[.string en, .slice af fs.length cf] 83)) fun e w' => ∃ rt, e = .returned (.tuple #[.agg (stC ks en fs rt), .bool (stB fs)]) ∧ (stB fs = true → RtIs w' (wr.alloc (.cells #[.string en, .slice af fs.length cf] 83)).heap.size rt (lastV fs 4)) ∧ Below (wr.alloc (.cells #[.string en, .slice af fs.length cf] 83)).heap.size (wr.alloc (.cells #[.string en, .slice af fs.length cf] 83)) w') := standing_any _ _ _ ks ps en fs _ (HB.out _ (below_step A1.out (below_step HI.out.2.1 BA.out))).k (HFF.out.keep BA.out) HFT.out HKN.out HFL.out.1 HFL.out.2 (HN.out _ (below_step A1.out (below_step HI.out.2.1 BA.out)))
      have ZA : Hid (wr.heap.size ≤ (wr.alloc (.cells #[.string en, .slice af fs.length cf] 83)).heap.size) := BA.out.size
      obtain ⟨qs, hqs, hQ0⟩ := HI.out.1
      have HQ0 := Lv.toHid hQ0
      have HQS := Lv.toHid hqs
      clear hQ0 hqs
      go_wp2_with fail
      generalize (wr.alloc (.cells #[.string en, .slice af fs.length cf] 83)) = w3 at *
      refine GS.out.mono ?_
      rintro e w4 ⟨rt, rfl, hrt, hb4⟩
      have I4 : Hid (FlsNew w4 w2.heap.size (.slice a (allE (es.take k)).length c) ((allE (es.take k)).map (flV ks)) ∧ Below w1.heap.size w1 w4 ∧ w2.heap.size ≤ w4.heap.size) := ⟨(HI.out.1.keep BA.out).keep hb4, below_step (below_step HI.out.2.1 BA.out) hb4, by have := HI.out.2.2; have := ZA.out; have := hb4.size; omega⟩
      have HQ4 := Lv.toHid ((HQ0.out.keep BA.out).keep hb4)
      have HI0 := HI
      have Z34 : Hid (wr.heap.size ≤ w3.heap.size) := ZA.out
      clear hb4 p0 p1 p2 d0 d1 zd zp GS BA ZA HI
      cases hst : stB fs
      · have HTN : Hid (allE (es.take (k + 1)) = allE (es.take k)) := by show _ = _; rw [HTK.out, hst]; simp
        have hsc : stC ks en fs rt = #[.string ⟨#[]⟩, .string ⟨#[]⟩, .int .i64 0, .int .i64 0, .int .i64 0, .int .i64 0, .int .i64 0, .slice none 0 0] := by unfold stC; rw [hst]; rfl
        rw [hsc]
        have I5 : Hid (FlsNew (w4.alloc (.cells #[.string ⟨#[]⟩, .string ⟨#[]⟩, .int .i64 0, .int .i64 0, .int .i64 0, .int .i64 0, .int .i64 0, .slice none 0 0] 52)) w2.heap.size (.slice a (allE (es.take k)).length c) ((allE (es.take k)).map (flV ks)) ∧ Below w1.heap.size w1 (w4.alloc (.cells #[.string ⟨#[]⟩, .string ⟨#[]⟩, .int .i64 0, .int .i64 0, .int .i64 0, .int .i64 0, .int .i64 0, .slice none 0 0] 52)) ∧ w2.heap.size ≤ (w4.alloc (.cells #[.string ⟨#[]⟩, .string ⟨#[]⟩, .int .i64 0, .int .i64 0, .int .i64 0, .int .i64 0, .int .i64 0, .slice none 0 0] 52)).heap.size) := by
          have hb : Below w4.heap.size w4 (w4.alloc (.cells #[.string ⟨#[]⟩, .string ⟨#[]⟩, .int .i64 0, .int .i64 0, .int .i64 0, .int .i64 0, .int .i64 0, .slice none 0 0] 52)) := (Below.refl _ _).alloc (Nat.le_refl _) _
          exact ⟨I4.out.1.keep hb, below_step I4.out.2.1 hb, Nat.le_trans I4.out.2.2 hb.size⟩
        clear hst hsc hrt
        go_wp2
        exact ⟨⟨k + 1, by omega, by go_num, by rw [HTN.out]; exact ⟨a, c, rfl⟩, by rw [HTN.out]; exact I5⟩, by simp [intOf]; omega⟩
      · have HTN : Hid (allE (es.take (k + 1)) = allE (es.take k) ++ [⟨en, fs⟩]) := by show _ = _; rw [HTK.out, hst]; rfl
        have hrt' := rt_new (e := ⟨en, fs⟩) (hrt hst)
        obtain ⟨ra, rc, rfl⟩ := ownF_slice hrt'
        have hsc : stC ks en fs (.slice ra (rtW ⟨en, fs⟩).length rc) = #[.string en, .string (kdOf ks (lastV fs 1)).s, .int .i64 (kdOf ks (lastV fs 1)).x, .int .i64 (kdOf ks (lastV fs 1)).y, .int .i64 (frOf (lastV fs 2)), .int .i64 (byOf (lastV fs 2)), .int .i64 (lvOf (lastV fs 3)), .slice ra (rtW ⟨en, fs⟩).length rc] := by unfold stC; rw [hst]; rfl
        rw [hsc]
        have HFV : Hid (flV ks ⟨en, fs⟩ = ⟨en, kdOf ks (lastV fs 1), frOf (lastV fs 2), byOf (lastV fs 2), lvOf (lastV fs 3), rtW ⟨en, fs⟩⟩) := rfl
        have HRT := Lv.toHid hrt'
        clear hsc hst hrt hrt'
        generalize kdOf ks (lastV fs 1) = kt at *
        generalize frOf (lastV fs 2) = kx at *
        generalize byOf (lastV fs 2) = ky at *
        generalize lvOf (lastV fs 3) = kz at *
        generalize hrw : rtW ⟨en, fs⟩ = RW at *
        generalize hrn : RW.length = rn at *
        have hnn : (allE (es.take k)).length ≤ 1048576 := by
          have h1 := allE_len (es.take k)
          rw [List.length_take] at h1
          omega
        have hqs := HQS.out
        have hQ := HQ4.out
        have hql : qs.length = (allE (es.take k)).length := by have := congrArg List.length hqs; simpa using this
        have hown0 : w4.ownsRow w2.heap.size 52 8 (.slice a (allE (es.take k)).length c) (allE (es.take k)).length (flRows qs) := by
          have h := hQ.row
          rw [hql] at h
          exact h
        have h24 := I4.out.2.2
        have BB : Hid (Below w4.heap.size w4 (w4.alloc (.cells #[.string en, .string kt.s, .int .i64 kt.x, .int .i64 kt.y, .int .i64 kx, .int .i64 ky, .int .i64 kz, .slice ra rn rc] 52))) := (Below.refl _ _).alloc (Nat.le_refl _) _
        have BC : Hid (Below (w4.alloc (.cells #[.string en, .string kt.s, .int .i64 kt.x, .int .i64 kt.y, .int .i64 kx, .int .i64 ky, .int .i64 kz, .slice ra rn rc] 52)).heap.size (w4.alloc (.cells #[.string en, .string kt.s, .int .i64 kt.x, .int .i64 kt.y, .int .i64 kx, .int .i64 ky, .int .i64 kz, .slice ra rn rc] 52)) ((w4.alloc (.cells #[.string en, .string kt.s, .int .i64 kt.x, .int .i64 kt.y, .int .i64 kx, .int .i64 ky, .int .i64 kz, .slice ra rn rc] 52)).alloc (.cells #[.string en, .string kt.s, .int .i64 kt.x, .int .i64 kt.y, .int .i64 kx, .int .i64 ky, .int .i64 kz, .slice ra rn rc] 52))) := (Below.refl _ _).alloc (Nat.le_refl _) _
        have SRC : ((w4.alloc (.cells #[.string en, .string kt.s, .int .i64 kt.x, .int .i64 kt.y, .int .i64 kx, .int .i64 ky, .int .i64 kz, .slice ra rn rc] 52)).alloc (.cells #[.string en, .string kt.s, .int .i64 kt.x, .int .i64 kt.y, .int .i64 kx, .int .i64 ky, .int .i64 kz, .slice ra rn rc] 52)).heap[w4.heap.size + 1]? = some (.cells #[.string en, .string kt.s, .int .i64 kt.x, .int .i64 kt.y, .int .i64 kx, .int .i64 ky, .int .i64 kz, .slice ra rn rc] 52 (0, 0)) := by
          have h := Lv.heap_newF (w4.alloc (.cells #[.string en, .string kt.s, .int .i64 kt.x, .int .i64 kt.y, .int .i64 kx, .int .i64 ky, .int .i64 kz, .slice ra rn rc] 52)) (.cells #[.string en, .string kt.s, .int .i64 kt.x, .int .i64 kt.y, .int .i64 kx, .int .i64 ky, .int .i64 kz, .slice ra rn rc] 52)
          rw [show (w4.alloc (.cells #[.string en, .string kt.s, .int .i64 kt.x, .int .i64 kt.y, .int .i64 kx, .int .i64 ky, .int .i64 kz, .slice ra rn rc] 52)).heap.size = w4.heap.size + 1 by simp] at h
          exact h
        have HSRC := Lv.toHid SRC
        clear SRC
        go_wp2_with (at_builtin; refine wpList_append_any _ rfl _ _ 58 rfl w2.heap.size 52 i0 _ 8 96 Tryz.underlying58 hi0 hz0 hz1 hz2 rfl (by decide) _ (allE (es.take k)).length _ rfl (ownF_keep (ownF_keep hown0 BB.out) BC.out) _ 1 1 [.string en, .string kt.s, .int .i64 kt.x, .int .i64 kt.y, .int .i64 kx, .int .i64 ky, .int .i64 kz, .slice ra rn rc] rfl (.inr ⟨_, rfl, World.news_of_block HSRC.out⟩) rfl (fun u hu => by simp at hu; rcases hu with rfl | rfl | rfl | rfl | rfl | rfl | rfl | rfl <;> rfl) (by unfold maxLen; omega) (by omega) (by simp; omega) ?_; intro vq wx hown hgrow hat)
        have HNW : Hid (FlsNew wx w2.heap.size vq ((allE (es.take (k + 1))).map (flV ks)) ∧ Below w1.heap.size w1 wx ∧ w2.heap.size ≤ wx.heap.size) := by
          refine ⟨⟨qs ++ [(⟨en, kt, kx, ky, kz, RW⟩, .slice ra rn rc)], ?_, ?_⟩, ?_, ?_⟩
          · rw [HTN.out, List.map_append, List.map_append, hqs]
            simp [HFV.out]
          · refine ((hQ.keep BB.out).keep BC.out).push (ownF_keep (ownF_keep (ownF_mono HRT.out (by have := Z34.out; have := HI0.out.2.2; omega)) BB.out) BC.out) (fun p hp => ?_) hgrow (by rw [hql]; exact hown)
            intro q hq e
            have h1 := ownF_lt (HQ0.out.rt p hp) q hq
            have h2 := ownF_ge HRT.out q e
            have h3 := Z34.out
            omega
          · exact (below_step (below_step I4.out.2.1 BB.out) BC.out).grown hgrow (below_step (below_step I4.out.2.1 BB.out) BC.out).size (fun q hq => by have h1 := ownF_ge hown0 q hq; have h2 := B2.out.size; omega)
          · have h1 := hgrow.size; have h2 := BC.out.size; have h3 := BB.out.size; omega
        obtain ⟨qa, qc, rfl⟩ := ownF_slice hown
        have HTL : Hid ((allE (es.take (k + 1))).length = (allE (es.take k)).length + 1) := by show _ = _; rw [HTN.out]; simp
        exact ⟨⟨k + 1, by omega, by go_num, by rw [HTL.out]; exact ⟨_, _, rfl⟩, HNW⟩, by simp [intOf]; omega⟩
    · have HF : Hid (es.take k = es) := List.take_of_length_le (by omega)
      go_wp2
      go_ret
      exact ⟨_, rfl, by rw [HE.out, ← HF.out]; rw [HF.out]; have h := HI.out.1; rw [HF.out] at h ⊢; exact h.mono (Nat.le_trans A1.out.size B2.out.size), below_step A1.out HI.out.2.1⟩
end Go.Proofs.YtehpdbbkbdfobabGreatDoor.Fa
