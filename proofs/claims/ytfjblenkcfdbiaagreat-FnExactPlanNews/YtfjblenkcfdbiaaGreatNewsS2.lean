
/-
  The specification: the news.
-/
import Derived.Test.YtfjblenkcfdbiaaGreatNewsS
import Derived.Deep.DeepCutAuto
import Derived.Deep.AppendLies
namespace Go.Proofs.YtfjblenkcfdbiaaGreat
open Go.RowKit
attribute [local go_sem] Later.cell Later.frozen

/-- While the news are gathered: both books in their boxes, what is there, the news so far. -/
structure NewsAt (w wr : World) (A B : Array Value) (v : Value) (cs : List Chg) : Prop where
  below : Below w.heap.size w wr
  a : wr.heap[w.heap.size]? = some (.cells A 39)
  b : wr.heap[w.heap.size + 1]? = some (.cells B 39)
  own : ChgsNew wr w.heap.size v cs
theorem NewsAt.call {w wr w1 : World} {A B : Array Value} {v : Value} {cs : List Chg} (h : NewsAt w wr A B v cs) (hb : Below wr.heap.size wr w1) : NewsAt w w1 A B v cs :=
  ⟨below_step h.below hb, (hb.block _ (Array.getElem?_eq_some_iff.1 h.a).1).trans h.a, (hb.block _ (Array.getElem?_eq_some_iff.1 h.b).1).trans h.b, ownsRow_keep h.own hb⟩
theorem NewsAt.cellA {w wr : World} {A B : Array Value} {v : Value} {cs : List Chg} (h : NewsAt w wr A B v cs) (j : Nat) : wr.cell? ⟨w.heap.size, j, none⟩ = A[j]? := by simp [World.cell?, h.a]
theorem NewsAt.cellB {w wr : World} {A B : Array Value} {v : Value} {cs : List Chg} (h : NewsAt w wr A B v cs) (j : Nat) : wr.cell? ⟨w.heap.size + 1, j, none⟩ = B[j]? := by simp [World.cell?, h.b]
theorem NewsAt.zA {w wr : World} {A B : Array Value} {v : Value} {cs : List Chg} (h : NewsAt w wr A B v cs) : w.heap.size + 1 < wr.heap.size := (Array.getElem?_eq_some_iff.1 h.b).1
theorem heap_new (w : World) (o : Obj) : (w.alloc o).heap[w.heap.size]? = some o := by show (w.heap.push o)[w.heap.size]? = some o; simp
theorem NewsAt.start (w : World) (A B : Array Value) : NewsAt w (((w.alloc (.cells A 39)).alloc (.cells B 39)).alloc (.cells #[] 43)) A B (.slice (some ⟨w.heap.size + 1 + 1, 0, none⟩) 0 0) [] := by
  have s1 : (w.alloc (.cells A 39)).heap.size = w.heap.size + 1 := by simp
  have s2 : ((w.alloc (.cells A 39)).alloc (.cells B 39)).heap.size = w.heap.size + 1 + 1 := by simp
  have h1 := heap_new w (.cells A 39)
  have h2 := heap_new (w.alloc (.cells A 39)) (.cells B 39)
  have h3 := heap_new ((w.alloc (.cells A 39)).alloc (.cells B 39)) (.cells #[] 43)
  rw [s1] at h2
  rw [s2] at h3
  refine ⟨(((Below.refl _ _).alloc (Nat.le_refl _) _).alloc (by simp) _).alloc (by simp; omega) _, ?_, ?_, rfl, .inr ⟨w.heap.size + 1 + 1, 0, #[], rfl, by omega, h3, Nat.le_refl _, Nat.zero_le _, rfl, rfl⟩⟩
  · exact (Below.heap_alloc _ _ _ (by omega)).trans ((Below.heap_alloc _ _ _ (by omega)).trans h1)
  · exact (Below.heap_alloc _ _ _ (by omega)).trans h2
theorem toHidN {P : Prop} (h : P) : Hid P := h
theorem drew_grown {w w' : World} {r : Option Nat} (h : w.drew.grownBy w' r) : w.grownBy w' r := ⟨h.os, h.tape, h.output, h.size, h.block⟩
theorem fbox_cells {w : World} {b : Nat} {x y z : Value} {T : TypeId} (h : w.heap[b]? = some (.cells #[x, y, z] T)) : w.cell? ⟨b, 0, none⟩ = some x ∧ w.cell? ⟨b, 1, none⟩ = some y ∧ w.cell? ⟨b, 2, none⟩ = some z := by
  simp [World.cell?, h]
/-- One more. -/
theorem NewsAt.more {w wr w3 : World} {A B : Array Value} {v v' : Value} {cs : List Chg} {c : Chg} {o : Obj} (h : NewsAt w wr A B v cs) (hown : w3.ownsRow w.heap.size 43 4 v' (cs.length + 1) (chgRows cs ++ chgRow c)) (hg : (wr.alloc o).grownBy w3 v.ownBlock) : NewsAt w w3 A B v' (cs ++ [c]) := by
  have hz := h.zA
  have hs := h.below.size
  refine ⟨(h.below.alloc hs o).grown hg (by simp; omega) (own_ge h.own), ?_, ?_, ?_⟩
  · exact (hg.block _ (by simp; omega) (own_other h.own h.a (by decide))).trans ((Below.heap_alloc _ _ _ (by omega)).trans h.a)
  · exact (hg.block _ (by simp; omega) (own_other h.own h.b (by decide))).trans ((Below.heap_alloc _ _ _ hz).trans h.b)
  · unfold ChgsNew
    rw [chgRows_snoc, List.length_append]
    exact hown

set_option maxRecDepth 100000 in
set_option maxHeartbeats 6400000 in
theorem specNews_any (vk vp ve uk up ue : Value) (ks ps ks' ps' : List Tri) (es es' : List Ent) (w : World) (hA : BookAt w vk vp ve ks ps es) (hB : BookAt w uk up ue ks' ps' es') (nA : BNames ks ps es) (nB : BNames ks' ps' es') (sA : BSmall ks ps es) (sB : BSmall ks' ps' es') (hsz : sumN (fun e => e.fs.length) es' ≤ 1048576) :
    Calls Tryz.prog 17 #[.agg #[vk, vp, ve], .agg #[uk, up, ue]] w fun e w' => ∃ v, e = .returned v ∧ ChgsNew w' w.heap.size v (bif bookB ks ps es && bookB ks' ps' es' then (chgsOf es').filter fun c => !hasS es c else []) ∧ Below w.heap.size w w' := by
  obtain ⟨i0, hi, hz0, hz1, hz2⟩ := info_parts infoChange
  have HA : Hid (BookAt w vk vp ve ks ps es) := hA
  have HB : Hid (BookAt w uk up ue ks' ps' es') := hB
  have NN : Hid (BNames ks ps es ∧ BNames ks' ps' es') := ⟨nA, nB⟩
  have SS : Hid (BSmall ks ps es ∧ BSmall ks' ps' es') := ⟨sA, sB⟩
  obtain ⟨⟨ak, ck, rfl, -, -, -⟩, ⟨ap, cp, rfl, -, -, -⟩, ⟨ae, ce, rfl, -, -, -⟩⟩ := hA
  obtain ⟨⟨ak', ck', rfl, -, -, -⟩, ⟨ap', cp', rfl, -, -, -⟩, ⟨ae', ce', rfl, hlc, hcm, hc⟩⟩ := hB
  unfold maxLen at hcm
  have HC : Hid (∀ i f, es'[i]? = some f → ∃ b off, ae' = some ⟨b, off, none⟩ ∧ EntAt w b (off + i * 2) f) := hc
  have HSZ : Hid (∀ k, (chgsOf (es'.take k)).length ≤ 1048576) := fun k => by
    rw [chgsOf_len]; exact Nat.le_trans (sumN_take_le _ es' k) hsz
  clear hc nA nB sA sB
  have HN0 : Hid (NewsAt w (((w.alloc (.cells #[.slice ak ks.length ck, .slice ap ps.length cp, .slice ae es.length ce] 39)).alloc (.cells #[.slice ak' ks'.length ck', .slice ap' ps'.length cp', .slice ae' es'.length ce'] 39)).alloc (.cells #[] 43)) #[.slice ak ks.length ck, .slice ap ps.length cp, .slice ae es.length ce] #[.slice ak' ks'.length ck', .slice ap' ps'.length cp', .slice ae' es'.length ce'] (.slice (some ⟨w.heap.size + 1 + 1, 0, none⟩) 0 0) []) := NewsAt.start w _ _
  have HR0 : Hid (bookB ks ps es = false → (bif bookB ks ps es && bookB ks' ps' es' then (chgsOf es').filter fun c => !hasS es c else []) = []) := fun h => by rw [h]; rfl
  have HR1 : Hid (bookB ks' ps' es' = false → (bif bookB ks ps es && bookB ks' ps' es' then (chgsOf es').filter fun c => !hasS es c else []) = []) := fun h => by rw [h, Bool.and_false]; rfl
  have HR2 : Hid (bookB ks ps es = true → bookB ks' ps' es' = true → (bif bookB ks ps es && bookB ks' ps' es' then (chgsOf es').filter fun c => !hasS es c else []) = (chgsOf es').filter fun c => !hasS es c) := fun h h' => by rw [h, h']; rfl
  generalize (bif bookB ks ps es && bookB ks' ps' es' then (chgsOf es').filter fun c => !hasS es c else []) = R at *
  go_enter Tryz.func17, Tryz.ntmps17
  go_wp2_with fail
  refine (specBookOk_any _ _ _ ks ps es _ (HA.out.keep HN0.out.below) NN.out.1 SS.out.1).mono ?_
  rintro e w1 ⟨rfl, hb1⟩
  have HN1 : Hid (NewsAt w w1 #[.slice ak ks.length ck, .slice ap ps.length cp, .slice ae es.length ce] #[.slice ak' ks'.length ck', .slice ap' ps'.length cp', .slice ae' es'.length ce'] (.slice (some ⟨w.heap.size + 1 + 1, 0, none⟩) 0 0) []) := HN0.out.call hb1
  clear HN0 hb1
  have z0 : w1.cell? ⟨w.heap.size + 1, 0, none⟩ = some (.slice ak' ks'.length ck') := HN1.out.cellB 0
  have z1 : w1.cell? ⟨w.heap.size + 1, 1, none⟩ = some (.slice ap' ps'.length cp') := HN1.out.cellB 1
  have z2 : w1.cell? ⟨w.heap.size + 1, 2, none⟩ = some (.slice ae' es'.length ce') := HN1.out.cellB 2
  cases hb1 : bookB ks ps es
  · have HRR : Hid (R = []) := HR0.out hb1
    clear hb1
    go_wp2
    go_ret
    exact ⟨_, rfl, by rw [HRR.out]; exact HN1.out.own, HN1.out.below⟩
  go_wp2_with fail
  refine (specBookOk_any _ _ _ ks' ps' es' _ (HB.out.keep HN1.out.below) NN.out.2 SS.out.2).mono ?_
  rintro e w2 ⟨rfl, hb2⟩
  have HN2 : Hid (NewsAt w w2 #[.slice ak ks.length ck, .slice ap ps.length cp, .slice ae es.length ce] #[.slice ak' ks'.length ck', .slice ap' ps'.length cp', .slice ae' es'.length ce'] (.slice (some ⟨w.heap.size + 1 + 1, 0, none⟩) 0 0) []) := HN1.out.call hb2
  clear HN1 hb2 z0 z1 z2
  cases hb2 : bookB ks' ps' es'
  · have HRR : Hid (R = []) := HR1.out hb2
    clear hb1 hb2
    go_wp2
    go_ret
    exact ⟨_, rfl, by rw [HRR.out]; exact HN2.out.own, HN2.out.below⟩
  have HRR : Hid (R = (chgsOf es').filter fun c => !hasS es c) := HR2.out hb1 hb2
  clear hb1 hb2 HR0 HR1 HR2
  have HEA : Hid (EntsAt w (.slice ae es.length ce) es) := HA.out.e
  clear HA HB NN SS
  go_wp2
  go_loopw [5, 6, 7, 8] (fun o i _ _ wr => ∃ k : Nat, k ≤ es'.length ∧ i = .int .i64 k ∧ NewsAt w wr #[.slice ak ks.length ck, .slice ap ps.length cp, .slice ae es.length ce] #[.slice ak' ks'.length ck', .slice ap' ps'.length cp', .slice ae' es'.length ce'] o ((chgsOf (es'.take k)).filter fun c => !hasS es c)) (fun _ i _ _ _ => es'.length - (intOf i).toNat)
  case atStart => exact ⟨0, Nat.zero_le _, rfl, HN2.out⟩
  case round =>
    clear HN2
    obtain ⟨k, hk, rfl, hN⟩ := hrel
    have HN : Hid (NewsAt w wr #[.slice ak ks.length ck, .slice ap ps.length cp, .slice ae es.length ce] #[.slice ak' ks'.length ck', .slice ap' ps'.length cp', .slice ae' es'.length ce'] u5 ((chgsOf (es'.take k)).filter fun c => !hasS es c)) := hN
    have z0 : wr.cell? ⟨w.heap.size + 1, 0, none⟩ = some (.slice ak' ks'.length ck') := hN.cellB 0
    have z1 : wr.cell? ⟨w.heap.size + 1, 1, none⟩ = some (.slice ap' ps'.length cp') := hN.cellB 1
    have z2 : wr.cell? ⟨w.heap.size + 1, 2, none⟩ = some (.slice ae' es'.length ce') := hN.cellB 2
    by_cases hlt : k < es'.length
    · obtain ⟨b, off, rfl, hc⟩ := HC.out k _ (eat_get hlt)
      obtain ⟨fv, d0, d1, hfl⟩ := hc
      have HD : Hid (w.cell? ⟨b, off + k * 2, none⟩ = some (.string (eat es' k).name) ∧ w.cell? ⟨b, off + k * 2 + 1, none⟩ = some fv) := ⟨d0, d1⟩
      have HK : Hid (chgsOf (es'.take (k + 1)) = chgsOf (es'.take k) ++ (eat es' k).fs.map (chgOf (eat es' k).name) ∧ (chgsOf (es'.take (k + 1))).length ≤ 1048576) := ⟨chgsOf_take es' k _ (eat_get hlt), HSZ.out (k + 1)⟩
      obtain ⟨fa, fc, rfl, hfc, hfm, hfe⟩ := hfl
      unfold maxLen at hfm
      have HFE : Hid (∀ i f, (eat es' k).fs[i]? = some f → ∃ b off, fa = some ⟨b, off, none⟩ ∧ FldAt w b (off + i * 3) f) := hfe
      have HNX : Hid (EntsAt w (.slice ae es.length ce) es) := HEA.out
      clear hfe d0 d1 hN
      generalize eat es' k = t at *
      obtain ⟨nm, fs⟩ := t
      dsimp only at *
      have hk0 : (0 : Int) ≤ (k : Int) := by omega
      have hk1 : (k : Int) < (es'.length : Int) := by omega
      generalize hcs : chgsOf (es'.take k) = cs at *
      clear hcs z0 z1 z2
      have z0 : wr.cell? ⟨w.heap.size + 1, 0, none⟩ = some (.slice ak' ks'.length ck') := HN.out.cellB 0
      have z1 : wr.cell? ⟨w.heap.size + 1, 1, none⟩ = some (.slice ap' ps'.length cp') := HN.out.cellB 1
      have z2 : wr.cell? ⟨w.heap.size + 1, 2, none⟩ = some (.slice (some ⟨b, off, none⟩) es'.length ce') := HN.out.cellB 2
      go_wp2
      clear z0 z1 z2
      go_loopw [5, 7, 8] (fun o i _ wx => ∃ j : Nat, j ≤ fs.length ∧ i = .int .i64 j ∧ NewsAt w wx #[.slice ak ks.length ck, .slice ap ps.length cp, .slice ae es.length ce] #[.slice ak' ks'.length ck', .slice ap' ps'.length cp', .slice (some ⟨b, off, none⟩) es'.length ce'] o ((cs ++ (fs.take j).map (chgOf nm)).filter fun c => !hasS es c)) (fun _ i _ _ => fs.length - (intOf i).toNat)
      case atStart => exact ⟨0, Nat.zero_le _, rfl, by simpa using HN.out⟩
      case round =>
        clear HN
        obtain ⟨j, hj, rfl, hN⟩ := hrel
        have HN : Hid (NewsAt w wr #[.slice ak ks.length ck, .slice ap ps.length cp, .slice ae es.length ce] #[.slice ak' ks'.length ck', .slice ap' ps'.length cp', .slice (some ⟨b, off, none⟩) es'.length ce'] u5 ((cs ++ (fs.take j).map (chgOf nm)).filter fun c => !hasS es c)) := hN
        clear hN
        have z0 : wr.cell? ⟨w.heap.size + 1, 0, none⟩ = some (.slice ak' ks'.length ck') := HN.out.cellB 0
        have z1 : wr.cell? ⟨w.heap.size + 1, 1, none⟩ = some (.slice ap' ps'.length cp') := HN.out.cellB 1
        have z2 : wr.cell? ⟨w.heap.size + 1, 2, none⟩ = some (.slice (some ⟨b, off, none⟩) es'.length ce') := HN.out.cellB 2
        have e0 := cell_keep HN.out.below (Nat.le_refl _) HD.out.1
        have e1 := cell_keep HN.out.below (Nat.le_refl _) HD.out.2
        by_cases hjl : j < fs.length
        · obtain ⟨fb, fo, rfl, hf⟩ := HFE.out j _ (fat_get hjl)
          obtain ⟨g0, g1, g2⟩ := hf.keep HN.out.below (Nat.le_refl _)
          have HJ : Hid (cs ++ (fs.take (j + 1)).map (chgOf nm) = cs ++ (fs.take j).map (chgOf nm) ++ [chgOf nm (fat fs j)] ∧ (cs ++ (fs.take j).map (chgOf nm)).length + 1 ≤ 1048576) := by
            refine ⟨?_, ?_⟩
            · have : fs[j] = fat fs j := by simp [fat, hjl]
              rw [List.take_succ_eq_append_getElem hjl, List.map_append, this]; simp
            · have h1 := HK.out.2
              rw [HK.out.1] at h1
              simp at h1 ⊢; omega
          generalize hcc : cs ++ (fs.take j).map (chgOf nm) = cc at *
          clear hcc hf
          have HFA : Hid ((wr.alloc (.cells #[.int .i64 (fat fs j).what, .int .i64 (fat fs j).num, .string (fat fs j).v] 62)).heap[wr.heap.size]? = some (.cells #[.int .i64 (fat fs j).what, .int .i64 (fat fs j).num, .string (fat fs j).v] 62)) := heap_new wr _
          have HN1 : Hid (NewsAt w (wr.alloc (.cells #[.int .i64 (fat fs j).what, .int .i64 (fat fs j).num, .string (fat fs j).v] 62)) #[.slice ak ks.length ck, .slice ap ps.length cp, .slice ae es.length ce] #[.slice ak' ks'.length ck', .slice ap' ps'.length cp', .slice (some ⟨b, off, none⟩) es'.length ce'] u5 (cc.filter fun c => !hasS es c)) := HN.out.call ((Below.refl _ _).alloc (Nat.le_refl _) _)
          have hj0 : (0 : Int) ≤ (j : Int) := by omega
          have hj1 : (j : Int) < (fs.length : Int) := by omega
          go_upto_region 11 with fail
          generalize wr.alloc (.cells #[.int .i64 (fat fs j).what, .int .i64 (fat fs j).num, .string (fat fs j).v] 62) = w4 at *
          clear z0 z1 z2 e0 e1 g0 g1 g2 HN
          generalize fat fs j = t at *
          go_cut [55] (fun s55 wc => s55 = .bool (!hasS es (chgOf nm t)) ∧ Below w4.heap.size w4 wc)
          case first =>
            have x0 : w4.cell? ⟨w.heap.size, 0, none⟩ = some (.slice ak ks.length ck) := HN1.out.cellA 0
            have x1 : w4.cell? ⟨w.heap.size, 1, none⟩ = some (.slice ap ps.length cp) := HN1.out.cellA 1
            have x2 : w4.cell? ⟨w.heap.size, 2, none⟩ = some (.slice ae es.length ce) := HN1.out.cellA 2
            have z0 : w4.cell? ⟨w.heap.size + 1, 0, none⟩ = some (.slice ak' ks'.length ck') := HN1.out.cellB 0
            have z1 : w4.cell? ⟨w.heap.size + 1, 1, none⟩ = some (.slice ap' ps'.length cp') := HN1.out.cellB 1
            have z2 : w4.cell? ⟨w.heap.size + 1, 2, none⟩ = some (.slice (some ⟨b, off, none⟩) es'.length ce') := HN1.out.cellB 2
            have zz := HN1.out.zA
            have zy : w.heap.size < w4.heap.size := by omega
            have e0 := cell_keep HN1.out.below (Nat.le_refl _) HD.out.1
            have e1 := cell_keep HN1.out.below (Nat.le_refl _) HD.out.2
            have ez : b < w4.heap.size := lt_of_cell e0
            obtain ⟨n0, n1, n2⟩ := fbox_cells HFA.out
            have nz : wr.heap.size < w4.heap.size := lt_of_cell n0
            have hne := Later.some w4
            have GH : Hid (∀ y : Later w4, Calls Tryz.prog 43 #[.agg #[.slice ak ks.length ck, .slice ap ps.length cp, .slice ae es.length ce], .string nm, .agg #[.int .i64 t.what, .int .i64 t.num, .string t.v]] y.val fun e w'' => e = .returned (.bool (hasS es (chgOf nm t))) ∧ ∃ z : Later w4, w'' = z.val) :=
              fun y => Calls.later (l4Has_any _ _ _ es nm t y.val ((HNX.out.keep HN1.out.below).keep y.below))
            refine wp_region_later (by kernel_rfl) (by kernel_rfl) ?_
            repeat (go_big_quiet_step (first | (go_at_call 43; exact GH.out _)))
            refine wpQuiet_nil ?_
            rintro _ ⟨x, rfl⟩
            go_wp2_with fail
            go_meet
            exact ⟨rfl, x.below⟩
          case rest =>
            obtain ⟨rfl, hbc⟩ := hcut
            have HN2 : Hid (NewsAt w wc #[.slice ak ks.length ck, .slice ap ps.length cp, .slice ae es.length ce] #[.slice ak' ks'.length ck', .slice ap' ps'.length cp', .slice (some ⟨b, off, none⟩) es'.length ce'] u5 (cc.filter fun c => !hasS es c)) := HN1.out.call hbc
            have HF2 : Hid (wc.heap[wr.heap.size]? = some (.cells #[.int .i64 t.what, .int .i64 t.num, .string t.v] 62)) := (hbc.block _ (Array.getElem?_eq_some_iff.1 HFA.out).1).trans HFA.out
            clear HN1 HFA hbc
            cases hh : hasS es (chgOf nm t)
            · have HH : Hid (hasS es (chgOf nm t) = false) := hh
              clear hh
              have hlen : (cc.filter fun c => !hasS es c).length + 1 ≤ 1048576 := by
                have := List.length_filter_le (fun c => !hasS es c) cc
                have := HJ.out.2
                omega
              have HFL : Hid ((cs ++ (fs.take (j + 1)).map (chgOf nm)).filter (fun c => !hasS es c) = (cc.filter fun c => !hasS es c) ++ [chgOf nm t]) := by
                show _ = _
                rw [HJ.out.1, List.filter_append, List.filter_cons, HH.out]; rfl
              generalize hfl : (cc.filter fun c => !hasS es c) = fl at *
              clear hfl
              have hB1 := HN2.out.below
              have hs1 := hB1.size
              have hbd : Below wc.heap.size wc (wc.alloc (.cells #[.string nm, .int .i64 t.what, .int .i64 t.num, .string t.v] 43)).drew := ((Below.refl _ _).alloc (Nat.le_refl _) _).drew
              have hown1 := ownsRow_keep HN2.out.own hbd
              have HOW : Hid ((wc.alloc (.cells #[.string nm, .int .i64 t.what, .int .i64 t.num, .string t.v] 43)).drew.ownsRow w.heap.size 43 4 u5 fl.length (chgRows fl)) := hown1
              clear hown1
              have SS : Hid (∀ (wx : World) (v : Value) (l : List Chg), NewsAt w wx #[.slice ak ks.length ck, .slice ap ps.length cp, .slice ae es.length ce] #[.slice ak' ks'.length ck', .slice ap' ps'.length cp', .slice (some ⟨b, off, none⟩) es'.length ce'] v l → wx.heap[wr.heap.size]? = some (.cells #[.int .i64 t.what, .int .i64 t.num, .string t.v] 62) →
                  (wx.cell? ⟨w.heap.size + 1, 0, none⟩ = some (.slice ak' ks'.length ck') ∧ wx.cell? ⟨w.heap.size + 1, 1, none⟩ = some (.slice ap' ps'.length cp') ∧ wx.cell? ⟨w.heap.size + 1, 2, none⟩ = some (.slice (some ⟨b, off, none⟩) es'.length ce')) ∧
                  (wx.cell? ⟨b, off + k * 2, none⟩ = some (.string nm) ∧ wx.cell? ⟨b, off + k * 2 + 1, none⟩ = some (.slice (some ⟨fb, fo, none⟩) fs.length fc)) ∧
                  (wx.cell? ⟨wr.heap.size, 0, none⟩ = some (.int .i64 t.what) ∧ wx.cell? ⟨wr.heap.size, 1, none⟩ = some (.int .i64 t.num) ∧ wx.cell? ⟨wr.heap.size, 2, none⟩ = some (.string t.v))) :=
                fun wx v l hN hF => ⟨⟨hN.cellB 0, hN.cellB 1, hN.cellB 2⟩, ⟨cell_keep hN.below (Nat.le_refl _) HD.out.1, cell_keep hN.below (Nat.le_refl _) HD.out.2⟩, fbox_cells hF⟩
              have HS0 := toHidN (SS.out _ _ _ (HN2.out.call (Below.refl _ _).drew) (((Below.refl wc.heap.size wc).drew.block _ (Array.getElem?_eq_some_iff.1 HF2.out).1).trans HF2.out))
              have HS1 := toHidN (SS.out _ _ _ (HN2.out.call hbd) ((hbd.block _ (Array.getElem?_eq_some_iff.1 HF2.out).1).trans HF2.out))
              have HS2 : Hid (∀ (v' : Value) (w3 : World), w3.ownsRow w.heap.size 43 4 v' (fl.length + 1) (chgRows fl ++ chgRow (chgOf nm t)) → (wc.alloc (.cells #[.string nm, .int .i64 t.what, .int .i64 t.num, .string t.v] 43)).drew.grownBy w3 u5.ownBlock →
                  NewsAt w w3 #[.slice ak ks.length ck, .slice ap ps.length cp, .slice ae es.length ce] #[.slice ak' ks'.length ck', .slice ap' ps'.length cp', .slice (some ⟨b, off, none⟩) es'.length ce'] v' (fl ++ [chgOf nm t]) ∧ w3.heap[wr.heap.size]? = some (.cells #[.int .i64 t.what, .int .i64 t.num, .string t.v] 62)) := fun v' w3 hown' hgrow =>
                ⟨HN2.out.more (o := .cells #[.string nm, .int .i64 t.what, .int .i64 t.num, .string t.v] 43) hown' (drew_grown hgrow),
                 ((drew_grown hgrow).block _ (by have := (Array.getElem?_eq_some_iff.1 HF2.out).1; simp; omega) (own_other HN2.out.own HF2.out (by decide))).trans ((Below.heap_alloc _ _ _ (Array.getElem?_eq_some_iff.1 HF2.out).1).trans HF2.out)⟩
              clear hbd
              go_wp2
              go_region_held3 (fun wx => (wx.cell? ⟨w.heap.size + 1, 0, none⟩ = some (.slice ak' ks'.length ck') ∧ wx.cell? ⟨w.heap.size + 1, 1, none⟩ = some (.slice ap' ps'.length cp') ∧ wx.cell? ⟨w.heap.size + 1, 2, none⟩ = some (.slice (some ⟨b, off, none⟩) es'.length ce')) ∧
                  (wx.cell? ⟨b, off + k * 2, none⟩ = some (.string nm) ∧ wx.cell? ⟨b, off + k * 2 + 1, none⟩ = some (.slice (some ⟨fb, fo, none⟩) fs.length fc)) ∧
                  (wx.cell? ⟨wr.heap.size, 0, none⟩ = some (.int .i64 t.what) ∧ wx.cell? ⟨wr.heap.size, 1, none⟩ = some (.int .i64 t.num) ∧ wx.cell? ⟨wr.heap.size, 2, none⟩ = some (.string t.v)))
                (first | exact HS0.out | exact HS1.out | exact SS.out _ _ _ (HS2.out _ _ hown3 hgrow3).1 (HS2.out _ _ hown3 hgrow3).2)
                ((refine step_append_lies _ (by rfl) _ _ 50 (by rfl) w.heap.size 43 i0 (.agg #[.string ByteArray.empty, .int .i64 0, .int .i64 0, .string ByteArray.empty]) 4 48 Tryz.underlying50 hi hz0 hz1 hz2 rfl (by decide) u5 fl.length (chgRows fl) (by rfl) HOW.out ⟨wc.heap.size, 0, none⟩ 1 1 (chgRow (chgOf nm t)) (by rfl) rfl (cell_four_new _ _ _ _ _ _) (fun x hx => by simp [chgRow, chgOf] at hx; rcases hx with rfl | rfl | rfl | rfl <;> rfl) (by decide) (by unfold maxLen; omega) (by omega) (by have := hB1.size; simp; omega) _ rfl ?_; intro g3 cap3 w3 hown3 hgrow3 hat3 hlt3))
              have HN3 : Hid (NewsAt w w3 #[.slice ak ks.length ck, .slice ap ps.length cp, .slice ae es.length ce] #[.slice ak' ks'.length ck', .slice ap' ps'.length cp', .slice (some ⟨b, off, none⟩) es'.length ce'] (.slice (some ⟨g3, 0, none⟩) (fl.length + 1) cap3) (fl ++ [chgOf nm t])) := (HS2.out _ _ hown3 hgrow3).1
              clear hown3 hgrow3 hat3 hlt3
              go_wp2
              go_roundw
              case rel => exact ⟨j + 1, by omega, by go_num, by rw [HFL.out]; exact HN3.out⟩
              case measure => simp [intOf]; omega
            · have HFL : Hid ((cs ++ (fs.take (j + 1)).map (chgOf nm)).filter (fun c => !hasS es c) = cc.filter fun c => !hasS es c) := by
                show _ = _
                rw [HJ.out.1, List.filter_append, List.filter_cons, hh]; simp
              clear hh
              go_wp2
              go_roundw
              case rel => exact ⟨j + 1, by omega, by go_num, by rw [HFL.out]; exact HN2.out⟩
              case measure => simp [intOf]; omega
        · have HFI : Hid (NewsAt w wr #[.slice ak ks.length ck, .slice ap ps.length cp, .slice ae es.length ce] #[.slice ak' ks'.length ck', .slice ap' ps'.length cp', .slice (some ⟨b, off, none⟩) es'.length ce'] u5 ((chgsOf (es'.take (k + 1))).filter fun c => !hasS es c)) := by
            show NewsAt w wr _ _ u5 _
            rw [HK.out.1]
            have h := HN.out
            rw [List.take_of_length_le (by omega)] at h; exact h
          go_wp2
          exact ⟨⟨k + 1, by omega, by go_num, HFI.out⟩, by simp [intOf]; omega⟩
    · have HFI : Hid (NewsAt w wr #[.slice ak ks.length ck, .slice ap ps.length cp, .slice ae es.length ce] #[.slice ak' ks'.length ck', .slice ap' ps'.length cp', .slice ae' es'.length ce'] u5 R) := by
        show NewsAt w wr _ _ u5 R
        rw [List.take_of_length_le (by omega)] at hN
        rw [HRR.out]; exact hN
      clear hN
      go_wp2
      go_ret
      exact ⟨u5, rfl, HFI.out.own, HFI.out.below⟩
end Go.Proofs.YtfjblenkcfdbiaaGreat
