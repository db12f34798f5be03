/-
  Joined: St2, St3.
-/
import Derived.Test.YtfjblenkcfdbiaaGreatDoorSt1
import Derived.Test.YtfjblenkcfdbiaaGreatDoorBookB
set_option linter.unusedSimpArgs false
set_option linter.unusedVariables false

namespace Go.Proofs.YtfjblenkcfdbiaaGreatDoor.Sd
open Go.RowKit Go.Proofs.YtfjblenkcfdbiaaGreatDoor

/-- A part as a value; u is the route's list. -/
def pv (ks : List Tri) (f : Fld) (u : Value) : Value :=
  if f.what = 1 then .iface 166 (.agg #[.string (at' ks (plc ks f.v)).s, .int .i64 (at' ks (plc ks f.v)).x, .int .i64 (at' ks (plc ks f.v)).y])
  else if f.what = 2 then .iface 169 (.agg #[.int .i64 (tmF (cutW f.v)), .int .i64 (tmY (cutW f.v))])
  else if f.what = 3 then .iface 172 (.agg #[.int .i64 (rdN f.v)])
  else if f.what = 4 then .iface 175 (.agg #[u])
  else .iface 162 (.agg #[.bool (decide (f.v = closedS))])
theorem pv1 (ks : List Tri) (n : Int) (v : ByteArray) (u : Value) : pv ks ⟨1, n, v⟩ u = .iface 166 (.agg #[.string (at' ks (plc ks v)).s, .int .i64 (at' ks (plc ks v)).x, .int .i64 (at' ks (plc ks v)).y]) := rfl
theorem pv2 (ks : List Tri) (n : Int) (v : ByteArray) (u : Value) : pv ks ⟨2, n, v⟩ u = .iface 169 (.agg #[.int .i64 (tmF (cutW v)), .int .i64 (tmY (cutW v))]) := rfl
theorem pv3 (ks : List Tri) (n : Int) (v : ByteArray) (u : Value) : pv ks ⟨3, n, v⟩ u = .iface 172 (.agg #[.int .i64 (rdN v)]) := rfl
theorem pv4 (ks : List Tri) (n : Int) (v : ByteArray) (u : Value) : pv ks ⟨4, n, v⟩ u = .iface 175 (.agg #[u]) := rfl
theorem pv5 (ks : List Tri) (n : Int) (v : ByteArray) (u : Value) : pv ks ⟨5, n, v⟩ u = .iface 162 (.agg #[.bool (decide (v = closedS))]) := rfl
theorem what_in {ks ps : List Tri} {f : Fld} (h : valB2 ks ps f.what f.v = true) : f.what = 1 ∨ f.what = 2 ∨ f.what = 3 ∨ f.what = 4 ∨ f.what = 5 := by
  unfold valB2 at h
  by_cases h1 : f.what = 1
  · exact .inl h1
  by_cases h2 : f.what = 2
  · exact .inr (.inl h2)
  by_cases h3 : f.what = 3
  · exact .inr (.inr (.inl h3))
  by_cases h4 : f.what = 4
  · exact .inr (.inr (.inr (.inl h4)))
  by_cases h5 : f.what = 5
  · exact .inr (.inr (.inr (.inr h5)))
  simp [h1, h2, h3, h4, h5] at h
theorem pv_one (ks : List Tri) (f : Fld) (u : Value) : (pv ks f u).oneCell' = true := by
  unfold pv; split; rfl; split; rfl; split; rfl; split; rfl; rfl

set_option maxRecDepth 100000 in
set_option maxHeartbeats 6400000 in
theorem partOf_any (vk vp : Value) (ks ps : List Tri) (f : Fld) (w : World) (hk : TrisAt w vk ks) (hf : valB2 ks ps f.what f.v = true) (hn : ∀ t ∈ ks, t.s.size ≤ 1048576) (hs : f.v.size ≤ 1048576) :
    Calls Tryz.prog 98 #[.agg #[vk, vp], fldV f] w fun e w' => ∃ u, e = .returned (pv ks f u) ∧ (f.what = 4 → SNew w' w.heap.size u (cutW f.v)) ∧ Below w.heap.size w w' := by
  obtain ⟨wh, nm, vl⟩ := f
  dsimp only [fldV] at hf hs ⊢
  have HB : Hid (Below w.heap.size w ((w.alloc (.cells #[vk, vp] 34)).alloc (.cells #[.int .i64 wh, .int .i64 nm, .string vl] 62))) := ((Below.refl _ _).alloc (Nat.le_refl _) _).alloc (by simp) _
  have HK : Hid (∀ wx : World, Below w.heap.size w wx → TrisAt wx vk ks) := fun wx hx => hk.keep hx
  have p0 : ((w.alloc (.cells #[vk, vp] 34)).alloc (.cells #[.int .i64 wh, .int .i64 nm, .string vl] 62)).cell? ⟨w.heap.size, 0, none⟩ = some vk := by simp [go_sem]
  have p1 : ((w.alloc (.cells #[vk, vp] 34)).alloc (.cells #[.int .i64 wh, .int .i64 nm, .string vl] 62)).cell? ⟨w.heap.size, 1, none⟩ = some vp := by simp [go_sem]
  have p2 : ((w.alloc (.cells #[vk, vp] 34)).alloc (.cells #[.int .i64 wh, .int .i64 nm, .string vl] 62)).cell? ⟨w.heap.size + 1, 0, none⟩ = some (.int .i64 wh) := by simp [go_sem]
  have p3 : ((w.alloc (.cells #[vk, vp] 34)).alloc (.cells #[.int .i64 wh, .int .i64 nm, .string vl] 62)).cell? ⟨w.heap.size + 1, 2, none⟩ = some (.string vl) := by simp [go_sem]
  clear hk
  rcases what_in (f := ⟨wh, nm, vl⟩) hf with h | h | h | h | h
  · dsimp only at h
    subst h
    simp only [pv1]
    have hb : hasB ks vl = true := by simpa [valB2] using hf
    go_enter Tryz.func98, Tryz.ntmps98
    go_wp2_with fail
    generalize ((w.alloc (.cells #[vk, vp] 34)).alloc (.cells #[.int .i64 1, .int .i64 nm, .string vl] 62)) = w1 at *
    refine (kindOf_any vk vp ks vl _ (HK.out _ HB.out) hb hn).mono ?_
    rintro e w2 ⟨rfl, hb2⟩
    go_wp2
    go_ret
    exact ⟨.slice none 0 0, rfl, fun h => absurd h (by decide), below_step HB.out hb2⟩
  · dsimp only at h
    subst h
    simp only [pv2]
    go_enter Tryz.func98, Tryz.ntmps98
    go_wp2_with fail
    generalize ((w.alloc (.cells #[vk, vp] 34)).alloc (.cells #[.int .i64 2, .int .i64 nm, .string vl] 62)) = w1 at *
    refine (readTimes_any vl _ hs).mono ?_
    rintro e w2 ⟨rfl, hb2⟩
    go_wp2
    go_ret
    exact ⟨.slice none 0 0, rfl, fun h => absurd h (by decide), below_step HB.out hb2⟩
  · dsimp only at h
    subst h
    simp only [pv3]
    have HRD : Hid (∀ wx : World, Calls Tryz.prog 118 #[.string vl] wx fun e w' => e = .returned (.tuple #[.int .i64 (rdN vl), .bool (decB vl)]) ∧ Below wx.heap.size wx w') := fun wx => readDecimal_any vl wx (by unfold maxLen; omega)
    go_enter Tryz.func98, Tryz.ntmps98
    go_wp2_with fail
    generalize ((w.alloc (.cells #[vk, vp] 34)).alloc (.cells #[.int .i64 3, .int .i64 nm, .string vl] 62)) = w1 at *
    refine (HRD.out _).mono ?_
    rintro e w2 ⟨rfl, hb2⟩
    go_wp2
    go_ret
    exact ⟨.slice none 0 0, rfl, fun h => absurd h (by decide), below_step HB.out hb2⟩
  · dsimp only at h
    subst h
    simp only [pv4]
    go_enter Tryz.func98, Tryz.ntmps98
    go_wp2_with fail
    generalize ((w.alloc (.cells #[vk, vp] 34)).alloc (.cells #[.int .i64 4, .int .i64 nm, .string vl] 62)) = w1 at *
    refine (copyWords_any vl _ hs).mono ?_
    rintro e w2 ⟨u, rfl, hu, hb2⟩
    obtain ⟨a, c, rfl⟩ := Lv.own_slice hu
    have hz := HB.out.size
    have HU : Hid (SNew w2 w.heap.size (.slice a (cutW vl).length c) (cutW vl)) := by
      refine ⟨hu.1, ?_⟩
      rcases hu.2 with h2 | ⟨g, cap, cur, hv, hg, rest⟩
      · exact .inl h2
      · exact .inr ⟨g, cap, cur, hv, by omega, rest⟩
    clear hu
    go_wp2
    go_ret
    exact ⟨_, rfl, fun _ => HU.out, below_step HB.out hb2⟩
  · dsimp only at h
    subst h
    simp only [pv5]
    have hcl : (vl.toList == [99, 108, 111, 115, 101, 100]) = decide (vl = closedS) := by
      have hcs : closedS.toList = [99, 108, 111, 115, 101, 100] := by rw [ByteArray.toList_eq]; rfl
      rw [← hcs]
      by_cases h : vl = closedS
      · rw [decide_eq_true h]; exact str_eq h
      · rw [decide_eq_false h]; exact str_ne h
    go_enter Tryz.func98, Tryz.ntmps98
    go_wp2
    all_goals (go_ret; exact ⟨.slice none 0 0, rfl, fun h => absurd h (by decide), HB.out⟩)
end Go.Proofs.YtfjblenkcfdbiaaGreatDoor.Sd

namespace Go.Proofs.YtfjblenkcfdbiaaGreatDoor.Sd
open Go.RowKit Go.Proofs.YtfjblenkcfdbiaaGreatDoor

theorem pv_iface (ks : List Tri) (f : Fld) (u : Value) : ∃ T q, pv ks f u = .iface T q := by
  unfold pv; split; exact ⟨_, _, rfl⟩; split; exact ⟨_, _, rfl⟩; split; exact ⟨_, _, rfl⟩; split; exact ⟨_, _, rfl⟩; exact ⟨_, _, rfl⟩
/-- Blocks outside S have not turned. -/
structure KeptS (w w' : World) (S : Nat → Prop) : Prop where
  os : w'.os = w.os
  tape : w'.tape = w.tape
  output : w'.output = w.output
  size : w.heap.size ≤ w'.heap.size
  block : ∀ j, j < w.heap.size → ¬ S j → w'.heap[j]? = w.heap[j]?
theorem KeptS.below {B : Nat} {w w0 w' : World} {S : Nat → Prop} (h0 : Below B w0 w) (h : KeptS w w' S) (hB : B ≤ w.heap.size) (hS : ∀ j, S j → B ≤ j) : Below B w0 w' :=
  ⟨h.os.trans h0.os, h.tape.trans h0.tape, h.output.trans h0.output, Nat.le_trans h0.size h.size, fun k hk => (h.block k (by omega) (fun hs => by have := hS k hs; omega)).trans (h0.block k hk)⟩
theorem own_keptS {w w' : World} {S : Nat → Prop} {base : Nat} {e : TypeId} {size : Nat} {v : Value} {n : Nat} {xs : List Value} (h : w.ownsRow base e size v n xs) (hk : KeptS w w' S) (hs : ∀ k, v.ownBlock = some k → ¬ S k) : w'.ownsRow base e size v n xs := by
  refine ⟨h.1, ?_⟩
  rcases h.2 with h2 | ⟨g, cap, cur, hv, hb, hc, rest⟩
  · exact .inl h2
  · exact .inr ⟨g, cap, cur, hv, hb, (hk.block g (Array.getElem?_eq_some_iff.1 hc).1 (hs g (by rw [hv]; rfl))).trans hc, rest⟩
theorem own_type {w : World} {base : Nat} {e : TypeId} {size : Nat} {v : Value} {n : Nat} {xs : List Value} {B : Nat} {C : Array Value} {t : TypeId} (h : w.ownsRow base e size v n xs) (hB : w.heap[B]? = some (.cells C t (0, 0))) (hne : e ≠ t) : some B ≠ v.ownBlock := by
  rcases h.2 with ⟨rfl, _⟩ | ⟨g, cap, cur, rfl, hg, hc, _⟩
  · intro e; cases e
  · intro e
    simp only [Value.ownBlock, Option.some.injEq] at e
    subst e
    rw [hc] at hB
    simp at hB
    exact hne hB.2
theorem two_setCell {w : World} {b : Nat} {v u x : Value} {t : TypeId} (h : w.heap[b]? = some (.cells #[v, u] t (0, 0))) : (w.setCell ⟨b, 0, none⟩ x).heap[b]? = some (.cells #[x, u] t (0, 0)) := by
  have hlt := lt_of_block h
  have h' : w.heap[b] = .cells #[v, u] t (0, 0) := by simpa [Array.getElem?_eq_getElem hlt] using h
  show (w.heap.modify b _)[b]? = _
  rw [Array.getElem?_eq_getElem (by simpa using hlt), Array.getElem_modify_self, h']
  rfl
theorem _root_.Go.Proofs.YtfjblenkcfdbiaaGreatDoor.Lv.grown_setD (w : World) (b : Nat) (v : Value) : w.grownBy (w.setCell ⟨b, 0, none⟩ v) (some b) :=
  ⟨rfl, rfl, rfl, by simp, fun j _ hr => Below.heap_setCell w ⟨b, 0, none⟩ v j (fun e => hr (by rw [e]))⟩
theorem infoPart : (Tryz.prog.info? 156).map (fun i => (i.zero, i.size, i.bytes)) = some (some .nilIface, 1, 16) := by kernel_rfl
set_option maxRecDepth 100000 in
set_option maxHeartbeats 3200000 in
theorem add_any (D B n : Nat) (v nm q : Value) (T : TypeId) (xs : List Value) (w : World) (hD : w.heap[D]? = some (.cells #[v, nm] 124 (0, 0))) (hown : w.ownsRow B 156 1 v n xs) (hn : n ≤ 1048576) (hB : B ≤ w.heap.size) :
    Calls Tryz.prog 97 #[.pointer (some ⟨D, 0, none⟩), .iface T q] w fun e w' => e = .returned (.tuple #[]) ∧ ∃ v', w'.heap[D]? = some (.cells #[v', nm] 124 (0, 0)) ∧ w'.ownsRow B 156 1 v' (n + 1) (xs ++ [.iface T q]) ∧ KeptS w w' (fun j => j = D ∨ some j = v.ownBlock) ∧ (v'.ownBlock = v.ownBlock ∨ ∃ z, v'.ownBlock = some z ∧ w.heap.size ≤ z) := by
  obtain ⟨i0, hi0, hz0, hz1, hz2⟩ := info_parts infoPart
  obtain ⟨a, c, rfl⟩ := Lv.own_slice hown
  obtain ⟨d0, d1⟩ := cell_two hD
  have hDl := lt_of_block hD
  have HAL : Hid (Below w.heap.size w (w.alloc (.cells #[.iface T q] 156))) := (Below.refl _ _).alloc (Nat.le_refl _) _
  have HDK : Hid (∀ wx : World, (w.alloc (.cells #[.iface T q] 156)).grownBy wx (Value.slice a n c).ownBlock → wx.heap[D]? = some (.cells #[.slice a n c, nm] 124 (0, 0))) := fun wx hx => by
    have h := below_block HAL.out hD
    exact (hx.block D (lt_of_block h) (own_type (Lv.own_keep hown HAL.out) h (by decide))).trans h
  have HOW : Hid (w.ownsRow B 156 1 (.slice a n c) n xs) := hown
  go_enter Tryz.func97, Tryz.ntmps97
  go_wp2_with (at_builtin; refine wpList_append_any _ rfl _ _ 120 rfl B 156 i0 _ 1 16 Tryz.underlying120 hi0 hz0 hz1 hz2 rfl (by decide) _ n _ rfl (Lv.own_keep hown ((Below.refl _ _).alloc (Nat.le_refl _) _)) _ 1 1 [.iface T q] rfl (.inr ⟨_, rfl, World.news_of_block (Lv.heap_newF w (.cells #[.iface T q] 156))⟩) rfl (fun u hu => by simp at hu; subst hu; rfl) (by unfold maxLen; omega) (by omega) (by simp; omega) ?_; intro vq wx hq hgrow hat; have hdx := HDK.out wx hgrow; have e0 : wx.cell? ⟨D, 0, none⟩ = some (.slice a n c) := (by simp [World.cell?, hdx]); have f0 : wx.frozen? ⟨D, 0, none⟩ = false := (by simp [World.frozen?, hdx]); obtain ⟨qa, qc, rfl⟩ := Lv.own_slice hq)
  have hdx := HDK.out wx hgrow
  have hg1 := hgrow.size
  have hal := HAL.out.size
  go_end0
  refine ⟨rfl, _, ?_, Lv.own_far hq (Lv.grown_setD wx D _) (fun k hk e => ?_), ⟨?_, ?_, ?_, ?_, fun j hj hs => ?_⟩, ?_⟩
  · exact two_setCell hdx
  · exact own_type hq hdx (by decide) (by rw [hk, e])
  · exact hgrow.1.trans HAL.out.1
  · exact hgrow.2.trans HAL.out.2
  · exact hgrow.3.trans HAL.out.3
  · simp; omega
  · refine (Below.heap_setCell _ ⟨D, 0, none⟩ _ j (fun e => hs (.inl e))).trans ?_
    exact (hgrow.block j (by simp; omega) (fun e => hs (.inr e))).trans (HAL.out.block j hj)
  · rcases hat with e | e
    · exact .inl e
    · exact .inr ⟨_, e, by simp⟩
end Go.Proofs.YtfjblenkcfdbiaaGreatDoor.Sd
