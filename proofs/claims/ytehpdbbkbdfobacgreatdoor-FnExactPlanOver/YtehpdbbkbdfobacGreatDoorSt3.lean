/-
  Joined: St1, St2, St3.
-/
import Derived.Test.YtehpdbbkbdfobacGreatDoorFits2
import Derived.Test.YtehpdbbkbdfobacGreatDoorLev00
import Derived.Test.YtehpdbbkbdfobacGreatDoorShelf4
import Derived.Laws.CopyOwn
import Derived.Test.YtehpdbbkbdfobacGreatDoorBookB

/-
  Parts of a flight: the kind and the words, copied.
-/
namespace Go.Proofs.YtehpdbbkbdfobacGreatDoor.Sd
open Go.RowKit Go.Proofs.YtehpdbbkbdfobacGreatDoor
set_option linter.unusedSimpArgs false
set_option linter.unusedVariables false

theorem clone_any (s : ByteArray) (w : World) (hs : s.size ≤ 1048576) :
    Calls Tryz.prog 153 #[.string s] w fun e w' => e = .returned (.string s) ∧ Below w.heap.size w w' := by
  go_enter Tryz.func153, Tryz.ntmps153
  go_wp2_with fail
  refine (Tryz.stringslite_Clone s _ (by omega)).mono ?_
  rintro e w' ⟨rfl, hb⟩
  go_wp2
  go_ret
  exact ⟨rfl, hb⟩
theorem cell_two {w : World} {b : Nat} {v u : Value} {t : TypeId} (h : w.heap[b]? = some (.cells #[v, u] t (0, 0))) : w.cell? ⟨b, 0, none⟩ = some v ∧ w.cell? ⟨b, 1, none⟩ = some u := by simp [World.cell?, h]
theorem below_block {w w' : World} {b : Nat} {o : Obj} (hb : Below w.heap.size w w') (h : w.heap[b]? = some o) : w'.heap[b]? = some o := (hb.block b (lt_of_block h)).trans h
/-- Texts in a row of one's own. -/
def SNew (w : World) (B : Nat) (v : Value) (l : List ByteArray) : Prop := w.ownsRow B 9 1 v l.length (l.map Value.string)
theorem SNew.snoc {w : World} {B n : Nat} {v : Value} {l : List ByteArray} {x : ByteArray} (hn : l.length = n) (h : w.ownsRow B 9 1 v (n + 1) (l.map Value.string ++ [.string x])) : SNew w B v (l ++ [x]) := by
  unfold SNew
  rw [List.length_append, List.map_append]
  subst hn
  exact h
theorem cutW_len (s : ByteArray) : (cutW s).length ≤ s.size + 1 := by
  unfold cutW
  rw [List.length_map]
  have : ∀ (r cur : List UInt8), (cutA cur r).length ≤ r.length + 1 := by
    intro r
    induction r with
    | nil => intro cur; simp [cutA]
    | cons c r ih =>
      intro cur
      rw [cutA]
      split
      · have := ih []; simp; omega
      · have := ih (cur ++ [c]); simp; omega
  have h := this (bytes s) []
  rw [bytes_length] at h
  exact h
set_option maxRecDepth 100000 in
set_option maxHeartbeats 3200000 in
theorem copyWords_any (s : ByteArray) (w : World) (hs : s.size ≤ 1048576) :
    Calls Tryz.prog 180 #[.string s] w fun e w' => ∃ u, e = .returned u ∧ SNew w' w.heap.size u (cutW s) ∧ Below w.heap.size w w' := by
  obtain ⟨i0, hi0, hz0, hz1, hz2⟩ := info_parts infoStr
  have hcl := cutW_len s
  have HSZ : Hid (∀ i, i < (cutW s).length → (wat (cutW s) i).size ≤ s.size) := fun i hi => wat_size hi
  have HWD : Hid (∀ wx : World, Calls Tryz.prog 133 #[.string s] wx fun e w' => ∃ v, e = .returned v ∧ StrsAt w' v (cutW s) ∧ Below wx.heap.size wx w') := fun wx => wordsOf_any s wx hs
  generalize cutW s = ws at *
  go_enter Tryz.func180, Tryz.ntmps180
  go_wp2_with fail
  refine (HWD.out _).mono ?_
  rintro e w1 ⟨v, rfl, hst, hb1⟩
  have HST : Hid (StrsAt w1 v ws) := hst
  obtain ⟨g, off, cap, rfl, hlc, hcm, -⟩ := hst
  unfold maxLen at hcm
  have B1 : Hid (Below w.heap.size w w1) := hb1
  clear hb1
  go_wp2_with fail
  go_loopw [3, 9] (fun v i wr => ∃ k : Nat, k ≤ ws.length ∧ i = .int .i64 k ∧ (∃ a c, v = .slice a k c) ∧ Hid (SNew wr w1.heap.size v (ws.take k) ∧ Below w1.heap.size w1 wr)) (fun _ i _ => ws.length - (intOf i).toNat)
  case atStart => exact ⟨0, Nat.zero_le _, rfl, ⟨_, _, rfl⟩, ⟨rfl, .inl ⟨rfl, rfl⟩⟩, Below.refl _ _⟩
  case round =>
    obtain ⟨k, hk, rfl, ⟨a, c, rfl⟩, HI⟩ := hrel
    by_cases hlt : k < ws.length
    · have c0 : wr.cell? ⟨g, off + k, none⟩ = some (.string (wat ws k)) := (HST.out.keep HI.out.2).cell k hlt
      have hk0 : (0 : Int) ≤ (k : Int) := by omega
      have hk1 : (k : Int) < (ws.length : Int) := by omega
      have hsz2 := HSZ.out k hlt
      go_wp2_with fail
      refine (clone_any (wat ws k) _ (by omega)).mono ?_
      rintro e w2 ⟨rfl, hb2⟩
      have HI2 : Hid (SNew w2 w1.heap.size (.slice a k c) (ws.take k) ∧ Below w1.heap.size w1 w2) := ⟨Lv.own_keep HI.out.1 hb2, below_step HI.out.2 hb2⟩
      clear HI c0 hb2
      have HTL : Hid ((ws.take k).length = k) := by show _ = _; rw [List.length_take]; omega
      have HTS : Hid (ws.take (k + 1) = ws.take k ++ [wat ws k]) := by
        show _ = _
        rw [List.take_succ_eq_append_getElem hlt]
        simp [wat, hlt]
      have hid := HI2.out.1
      unfold SNew at hid
      rw [HTL.out] at hid
      have hsz := HI2.out.2.size
      generalize wat ws k = x at *
      go_wp2_with (at_builtin; refine wpList_append_any _ rfl _ _ 58 rfl w1.heap.size 9 i0 _ 1 16 Tryz.underlying58 hi0 hz0 hz1 hz2 rfl (by decide) _ k _ rfl (Lv.own_keep hid ((Below.refl _ _).alloc (Nat.le_refl _) _)) _ 1 1 [.string x] rfl (.inr ⟨_, rfl, World.news_of_block (Lv.heap_newF w2 (.cells #[.string x] 9))⟩) rfl (fun u hu => by simp at hu; subst hu; rfl) (by unfold maxLen; omega) (by omega) (by simp; omega) ?_; intro vq wx hown hgrow hat)
      have hbw := below_step HI2.out.2 ((Below.refl _ _).alloc (Nat.le_refl _) (.cells #[.string x] 9))
      have HN : Hid (SNew wx w1.heap.size vq (ws.take (k + 1)) ∧ Below w1.heap.size w1 wx) := by
        refine ⟨?_, hbw.grown hgrow hbw.size (fun q hq => Lv.own_ge hid q hq)⟩
        rw [HTS.out]
        exact SNew.snoc HTL.out hown
      obtain ⟨qa, qc, rfl⟩ := Lv.own_slice hown
      exact ⟨⟨k + 1, by omega, by go_num, ⟨_, _, rfl⟩, HN⟩, by simp [intOf]; omega⟩
    · have HF : Hid (ws.take k = ws) := List.take_of_length_le (by omega)
      have hs1 := B1.out.size
      go_wp2
      go_ret
      refine ⟨.slice a k c, rfl, ?_, below_step B1.out HI.out.2⟩
      have h := HI.out.1
      rw [HF.out] at h
      refine ⟨h.1, ?_⟩
      rcases h.2 with h2 | ⟨g, cap, cur, hv, hg, rest⟩
      · exact .inl h2
      · exact .inr ⟨g, cap, cur, hv, by omega, rest⟩
set_option maxRecDepth 100000 in
set_option maxHeartbeats 3200000 in
theorem kindOf_any (vk vp : Value) (ks : List Tri) (s : ByteArray) (w : World) (hk : TrisAt w vk ks) (hb : hasB ks s = true) (hn : ∀ t ∈ ks, t.s.size ≤ 1048576) :
    Calls Tryz.prog 177 #[.agg #[vk, vp], .string s] w fun e w' => e = .returned (.agg #[.string (at' ks (plc ks s)).s, .int .i64 (at' ks (plc ks s)).x, .int .i64 (at' ks (plc ks s)).y]) ∧ Below w.heap.size w w' := by
  have hpl : plc ks s < ks.length := by
    unfold hasB at hb
    rw [Bool.and_eq_true] at hb
    exact of_decide_eq_true hb.1
  have HPK : Hid (∀ wx : World, Below w.heap.size w wx → Calls Tryz.prog 204 #[vk, .string s, .func (.func 142) #[] #[]] wx fun e w' => e = .returned (.tuple #[.int .i64 (plc ks s : Nat), .bool true]) ∧ Below wx.heap.size wx w') := fun wx hx => by
    have h := placeKind_any vk ks s wx (hk.keep hx)
    rw [hb] at h
    exact h
  have hsz : (at' ks (plc ks s)).s.size ≤ 1048576 := hn _ (List.mem_of_getElem? (at_get hpl))
  have HTK : Hid (∀ wx : World, Below w.heap.size w wx → TrisAt wx vk ks) := fun wx hx => hk.keep hx
  obtain ⟨ak, ck, rfl, hk1, hk2, -⟩ := hk
  unfold maxLen at hk2
  have HB : Hid (Below w.heap.size w ((w.alloc (.cells #[.slice ak ks.length ck, vp] 38)).alloc (.cells #[.string ⟨#[]⟩, .int .i64 0, .int .i64 0] 57))) := ((Below.refl _ _).alloc (Nat.le_refl _) _).alloc (by simp) _
  have HR : Hid (((w.alloc (.cells #[.slice ak ks.length ck, vp] 38)).alloc (.cells #[.string ⟨#[]⟩, .int .i64 0, .int .i64 0] 57)).heap[w.heap.size + 1]? = some (.cells #[.string ⟨#[]⟩, .int .i64 0, .int .i64 0] 57 (0, 0))) := by
    have h := Lv.heap_newF (w.alloc (.cells #[.slice ak ks.length ck, vp] 38)) (.cells #[.string ⟨#[]⟩, .int .i64 0, .int .i64 0] 57)
    rw [show (w.alloc (.cells #[.slice ak ks.length ck, vp] 38)).heap.size = w.heap.size + 1 by simp] at h
    exact h
  have Q0 : Hid (∀ wx : World, Below ((w.alloc (.cells #[.slice ak ks.length ck, vp] 38)).alloc (.cells #[.string ⟨#[]⟩, .int .i64 0, .int .i64 0] 57)).heap.size ((w.alloc (.cells #[.slice ak ks.length ck, vp] 38)).alloc (.cells #[.string ⟨#[]⟩, .int .i64 0, .int .i64 0] 57)) wx → wx.cell? ⟨w.heap.size, 0, none⟩ = some (.slice ak ks.length ck) ∧ wx.cell? ⟨w.heap.size, 1, none⟩ = some vp) := fun wx hx => ⟨cell_keep hx (Nat.le_refl _) (by simp [go_sem]), cell_keep hx (Nat.le_refl _) (by simp [go_sem])⟩
  obtain ⟨p0, p1⟩ := Q0.out _ (Below.refl _ _)
  go_enter Tryz.func177, Tryz.ntmps177
  go_wp2_with fail
  generalize ((w.alloc (.cells #[.slice ak ks.length ck, vp] 38)).alloc (.cells #[.string ⟨#[]⟩, .int .i64 0, .int .i64 0] 57)) = w1 at *
  refine (HPK.out _ HB.out).mono ?_
  rintro e w2 ⟨rfl, hb2⟩
  have B2 : Hid (Below w1.heap.size w1 w2) := hb2
  have R2 : Hid (w2.heap[w.heap.size + 1]? = some (.cells #[.string ⟨#[]⟩, .int .i64 0, .int .i64 0] 57 (0, 0))) := below_block hb2 HR.out
  clear p0 p1 hb2 HR
  obtain ⟨p0, p1⟩ := Q0.out _ B2.out
  obtain ⟨a9, c9, he, -, -, hpc⟩ := HTK.out _ (below_step HB.out B2.out)
  obtain ⟨bP, oP, hap, d0, d1, d2⟩ := hpc _ _ (at_get hpl)
  cases he
  subst hap
  clear hpc
  have hj0 : (0 : Int) ≤ ((plc ks s : Nat) : Int) := by omega
  have hj1 : ((plc ks s : Nat) : Int) < (ks.length : Int) := by omega
  obtain ⟨tr, htr⟩ : ∃ tr, at' ks (plc ks s) = tr := ⟨_, rfl⟩
  rw [htr] at d0 d1 d2 hsz
  have HC : Hid (at' ks (plc ks s) = tr) := htr
  clear htr
  have X3 : Hid ((w2.alloc (.cells #[.string tr.s, .int .i64 tr.x, .int .i64 tr.y] 57)).heap[w2.heap.size]? = some (.cells #[.string tr.s, .int .i64 tr.x, .int .i64 tr.y] 57 (0, 0))) := Lv.heap_newF w2 _
  have B3 : Hid (Below w2.heap.size w2 (w2.alloc (.cells #[.string tr.s, .int .i64 tr.x, .int .i64 tr.y] 57))) := (Below.refl _ _).alloc (Nat.le_refl _) _
  go_wp2_with fail
  refine (clone_any tr.s _ hsz).mono ?_
  rintro e w4 ⟨rfl, hb4⟩
  have hX := below_block hb4 X3.out
  have hR := below_block hb4 (below_block B3.out R2.out)
  have B4 : Hid (Below w.heap.size w w4 ∧ w.heap.size + 1 < w2.heap.size) := ⟨below_step (below_step (below_step HB.out B2.out) B3.out) hb4, lt_of_block R2.out⟩
  clear hb4 X3 R2 B3 B2 p0 p1 d0 d1 d2
  generalize w2.heap.size = X at *
  have y0 : w4.cell? ⟨X, 0, none⟩ = some (.string tr.s) := by simp [World.cell?, hX]
  have y1 : w4.cell? ⟨X, 1, none⟩ = some (.int .i64 tr.x) := by simp [World.cell?, hX]
  have y2 : w4.cell? ⟨X, 2, none⟩ = some (.int .i64 tr.y) := by simp [World.cell?, hX]
  have yf : w4.frozen? ⟨X, 0, none⟩ = false := by simp [World.frozen?, hX]
  have hR5 : (w4.setCell ⟨X, 0, none⟩ (.string tr.s)).heap[w.heap.size + 1]? = some (.cells #[.string ⟨#[]⟩, .int .i64 0, .int .i64 0] 57 (0, 0)) := (Below.heap_setCell _ ⟨X, 0, none⟩ _ _ (by have := B4.out.2; simp; omega)).trans hR
  have B5 : Hid (Below w.heap.size w (w4.setCell ⟨X, 0, none⟩ (.string tr.s))) := B4.out.1.setCell (p := ⟨X, 0, none⟩) (by have := B4.out.2; simp; omega) _
  clear hX hR
  go_wp2_with (refine wpList_store_row rfl 57 _ _ rfl (w.heap.size + 1) #[.string tr.s, .int .i64 tr.x, .int .i64 tr.y] rfl rfl 57 _ hR5 (by kernel_rfl) rfl (by simp [Value.oneCell']) ?_)
  exact bodyPost_ret (v := .agg #[.string tr.s, .int .i64 tr.x, .int .i64 tr.y]) (by simp [results, Tryz.results177, go_sem, cell_setRow_same _ _ _ _ _ _ _ hR5]) rfl ⟨by rw [HC.out], below_setRow B5.out (by omega) _⟩
end Go.Proofs.YtehpdbbkbdfobacGreatDoor.Sd

/-
  Parts of a flight, out of fields that fit.
-/
namespace Go.Proofs.YtehpdbbkbdfobacGreatDoor.Sd
open Go.RowKit Go.Proofs.YtehpdbbkbdfobacGreatDoor
set_option linter.unusedSimpArgs false
set_option linter.unusedVariables false

/-- A part as a value; u is the route's list. -/
def pv (ks : List Tri) (f : Fld) (u : Value) : Value :=
  if f.what = 1 then .iface 233 (.agg #[.string (at' ks (plc ks f.v)).s, .int .i64 (at' ks (plc ks f.v)).x, .int .i64 (at' ks (plc ks f.v)).y])
  else if f.what = 2 then .iface 235 (.agg #[.int .i64 (tmF (cutW f.v)), .int .i64 (tmY (cutW f.v))])
  else if f.what = 3 then .iface 238 (.agg #[.int .i64 (rdN f.v)])
  else if f.what = 4 then .iface 241 (.agg #[u])
  else .iface 230 (.agg #[.bool (decide (f.v = closedS))])
theorem pv1 (ks : List Tri) (n : Int) (v : ByteArray) (u : Value) : pv ks ⟨1, n, v⟩ u = .iface 233 (.agg #[.string (at' ks (plc ks v)).s, .int .i64 (at' ks (plc ks v)).x, .int .i64 (at' ks (plc ks v)).y]) := rfl
theorem pv2 (ks : List Tri) (n : Int) (v : ByteArray) (u : Value) : pv ks ⟨2, n, v⟩ u = .iface 235 (.agg #[.int .i64 (tmF (cutW v)), .int .i64 (tmY (cutW v))]) := rfl
theorem pv3 (ks : List Tri) (n : Int) (v : ByteArray) (u : Value) : pv ks ⟨3, n, v⟩ u = .iface 238 (.agg #[.int .i64 (rdN v)]) := rfl
theorem pv4 (ks : List Tri) (n : Int) (v : ByteArray) (u : Value) : pv ks ⟨4, n, v⟩ u = .iface 241 (.agg #[u]) := rfl
theorem pv5 (ks : List Tri) (n : Int) (v : ByteArray) (u : Value) : pv ks ⟨5, n, v⟩ u = .iface 230 (.agg #[.bool (decide (v = closedS))]) := rfl
theorem what_in {ks ps : List Tri} {f : Fld} (h : valB2 ks ps f.what f.v = true) : f.what = 1 ∨ f.what = 2 ∨ f.what = 3 ∨ f.what = 4 ∨ f.what = 5 := by
  unfold valB2 at h
  by_cases h1 : f.what = 1
  · exact .inl h1
  by_cases h2 : f.what = 2
  · exact .inr (.inl h2)
  by_cases h3 : f.what = 3
  · exact .inr (.inr (.inl h3))
  by_cases h4 : f.what = 4
  · exact .inr (.inr (.inr (.inl h4)))
  by_cases h5 : f.what = 5
  · exact .inr (.inr (.inr (.inr h5)))
  simp [h1, h2, h3, h4, h5] at h
theorem pv_one (ks : List Tri) (f : Fld) (u : Value) : (pv ks f u).oneCell' = true := by
  unfold pv; split; rfl; split; rfl; split; rfl; split; rfl; rfl

set_option maxRecDepth 100000 in
set_option maxHeartbeats 6400000 in
theorem partOf_any (vk vp : Value) (ks ps : List Tri) (f : Fld) (w : World) (hk : TrisAt w vk ks) (hf : valB2 ks ps f.what f.v = true) (hn : ∀ t ∈ ks, t.s.size ≤ 1048576) (hs : f.v.size ≤ 1048576) :
    Calls Tryz.prog 151 #[.agg #[vk, vp], fldV f] w fun e w' => ∃ u, e = .returned (pv ks f u) ∧ (f.what = 4 → SNew w' w.heap.size u (cutW f.v)) ∧ Below w.heap.size w w' := by
  obtain ⟨wh, nm, vl⟩ := f
  dsimp only [fldV] at hf hs ⊢
  have HB : Hid (Below w.heap.size w ((w.alloc (.cells #[vk, vp] 38)).alloc (.cells #[.int .i64 wh, .int .i64 nm, .string vl] 170))) := ((Below.refl _ _).alloc (Nat.le_refl _) _).alloc (by simp) _
  have HK : Hid (∀ wx : World, Below w.heap.size w wx → TrisAt wx vk ks) := fun wx hx => hk.keep hx
  have p0 : ((w.alloc (.cells #[vk, vp] 38)).alloc (.cells #[.int .i64 wh, .int .i64 nm, .string vl] 170)).cell? ⟨w.heap.size, 0, none⟩ = some vk := by simp [go_sem]
  have p1 : ((w.alloc (.cells #[vk, vp] 38)).alloc (.cells #[.int .i64 wh, .int .i64 nm, .string vl] 170)).cell? ⟨w.heap.size, 1, none⟩ = some vp := by simp [go_sem]
  have p2 : ((w.alloc (.cells #[vk, vp] 38)).alloc (.cells #[.int .i64 wh, .int .i64 nm, .string vl] 170)).cell? ⟨w.heap.size + 1, 0, none⟩ = some (.int .i64 wh) := by simp [go_sem]
  have p3 : ((w.alloc (.cells #[vk, vp] 38)).alloc (.cells #[.int .i64 wh, .int .i64 nm, .string vl] 170)).cell? ⟨w.heap.size + 1, 2, none⟩ = some (.string vl) := by simp [go_sem]
  clear hk
  rcases what_in (f := ⟨wh, nm, vl⟩) hf with h | h | h | h | h
  · dsimp only at h
    subst h
    simp only [pv1]
    have hb : hasB ks vl = true := by simpa [valB2] using hf
    go_enter Tryz.func151, Tryz.ntmps151
    go_wp2_with fail
    generalize ((w.alloc (.cells #[vk, vp] 38)).alloc (.cells #[.int .i64 1, .int .i64 nm, .string vl] 170)) = w1 at *
    refine (kindOf_any vk vp ks vl _ (HK.out _ HB.out) hb hn).mono ?_
    rintro e w2 ⟨rfl, hb2⟩
    go_wp2
    go_ret
    exact ⟨.slice none 0 0, rfl, fun h => absurd h (by decide), below_step HB.out hb2⟩
  · dsimp only at h
    subst h
    simp only [pv2]
    go_enter Tryz.func151, Tryz.ntmps151
    go_wp2_with fail
    generalize ((w.alloc (.cells #[vk, vp] 38)).alloc (.cells #[.int .i64 2, .int .i64 nm, .string vl] 170)) = w1 at *
    refine (readTimes_any vl _ hs).mono ?_
    rintro e w2 ⟨rfl, hb2⟩
    go_wp2
    go_ret
    exact ⟨.slice none 0 0, rfl, fun h => absurd h (by decide), below_step HB.out hb2⟩
  · dsimp only at h
    subst h
    simp only [pv3]
    have HRD : Hid (∀ wx : World, Calls Tryz.prog 179 #[.string vl] wx fun e w' => e = .returned (.tuple #[.int .i64 (rdN vl), .bool (decB vl)]) ∧ Below wx.heap.size wx w') := fun wx => readDecimal_any vl wx (by unfold maxLen; omega)
    go_enter Tryz.func151, Tryz.ntmps151
    go_wp2_with fail
    generalize ((w.alloc (.cells #[vk, vp] 38)).alloc (.cells #[.int .i64 3, .int .i64 nm, .string vl] 170)) = w1 at *
    refine (HRD.out _).mono ?_
    rintro e w2 ⟨rfl, hb2⟩
    go_wp2
    go_ret
    exact ⟨.slice none 0 0, rfl, fun h => absurd h (by decide), below_step HB.out hb2⟩
  · dsimp only at h
    subst h
    simp only [pv4]
    go_enter Tryz.func151, Tryz.ntmps151
    go_wp2_with fail
    generalize ((w.alloc (.cells #[vk, vp] 38)).alloc (.cells #[.int .i64 4, .int .i64 nm, .string vl] 170)) = w1 at *
    refine (copyWords_any vl _ hs).mono ?_
    rintro e w2 ⟨u, rfl, hu, hb2⟩
    obtain ⟨a, c, rfl⟩ := Lv.own_slice hu
    have hz := HB.out.size
    have HU : Hid (SNew w2 w.heap.size (.slice a (cutW vl).length c) (cutW vl)) := by
      refine ⟨hu.1, ?_⟩
      rcases hu.2 with h2 | ⟨g, cap, cur, hv, hg, rest⟩
      · exact .inl h2
      · exact .inr ⟨g, cap, cur, hv, by omega, rest⟩
    clear hu
    go_wp2
    go_ret
    exact ⟨_, rfl, fun _ => HU.out, below_step HB.out hb2⟩
  · dsimp only at h
    subst h
    simp only [pv5]
    have hcl : (vl.toList == [99, 108, 111, 115, 101, 100]) = decide (vl = closedS) := by
      have hcs : closedS.toList = [99, 108, 111, 115, 101, 100] := by rw [ByteArray.toList_eq]; rfl
      rw [← hcs]
      by_cases h : vl = closedS
      · rw [decide_eq_true h]; exact str_eq h
      · rw [decide_eq_false h]; exact str_ne h
    go_enter Tryz.func151, Tryz.ntmps151
    go_wp2
    all_goals (go_ret; exact ⟨.slice none 0 0, rfl, fun h => absurd h (by decide), HB.out⟩)
end Go.Proofs.YtehpdbbkbdfobacGreatDoor.Sd

/-
  A draft: parts gathered.
-/
namespace Go.Proofs.YtehpdbbkbdfobacGreatDoor.Sd
open Go.RowKit Go.Proofs.YtehpdbbkbdfobacGreatDoor
set_option linter.unusedSimpArgs false
set_option linter.unusedVariables false

theorem pv_iface (ks : List Tri) (f : Fld) (u : Value) : ∃ T q, pv ks f u = .iface T q := by
  unfold pv; split; exact ⟨_, _, rfl⟩; split; exact ⟨_, _, rfl⟩; split; exact ⟨_, _, rfl⟩; split; exact ⟨_, _, rfl⟩; exact ⟨_, _, rfl⟩
/-- Blocks outside S have not turned. -/
structure KeptS (w w' : World) (S : Nat → Prop) : Prop where
  os : w'.os = w.os
  tape : w'.tape = w.tape
  output : w'.output = w.output
  size : w.heap.size ≤ w'.heap.size
  block : ∀ j, j < w.heap.size → ¬ S j → w'.heap[j]? = w.heap[j]?
theorem KeptS.below {B : Nat} {w w0 w' : World} {S : Nat → Prop} (h0 : Below B w0 w) (h : KeptS w w' S) (hB : B ≤ w.heap.size) (hS : ∀ j, S j → B ≤ j) : Below B w0 w' :=
  ⟨h.os.trans h0.os, h.tape.trans h0.tape, h.output.trans h0.output, Nat.le_trans h0.size h.size, fun k hk => (h.block k (by omega) (fun hs => by have := hS k hs; omega)).trans (h0.block k hk)⟩
theorem own_keptS {w w' : World} {S : Nat → Prop} {base : Nat} {e : TypeId} {size : Nat} {v : Value} {n : Nat} {xs : List Value} (h : w.ownsRow base e size v n xs) (hk : KeptS w w' S) (hs : ∀ k, v.ownBlock = some k → ¬ S k) : w'.ownsRow base e size v n xs := by
  refine ⟨h.1, ?_⟩
  rcases h.2 with h2 | ⟨g, cap, cur, hv, hb, hc, rest⟩
  · exact .inl h2
  · exact .inr ⟨g, cap, cur, hv, hb, (hk.block g (Array.getElem?_eq_some_iff.1 hc).1 (hs g (by rw [hv]; rfl))).trans hc, rest⟩
theorem own_type {w : World} {base : Nat} {e : TypeId} {size : Nat} {v : Value} {n : Nat} {xs : List Value} {B : Nat} {C : Array Value} {t : TypeId} (h : w.ownsRow base e size v n xs) (hB : w.heap[B]? = some (.cells C t (0, 0))) (hne : e ≠ t) : some B ≠ v.ownBlock := by
  rcases h.2 with ⟨rfl, _⟩ | ⟨g, cap, cur, rfl, hg, hc, _⟩
  · intro e; cases e
  · intro e
    simp only [Value.ownBlock, Option.some.injEq] at e
    subst e
    rw [hc] at hB
    simp at hB
    exact hne hB.2
theorem two_setCell {w : World} {b : Nat} {v u x : Value} {t : TypeId} (h : w.heap[b]? = some (.cells #[v, u] t (0, 0))) : (w.setCell ⟨b, 0, none⟩ x).heap[b]? = some (.cells #[x, u] t (0, 0)) := by
  have hlt := lt_of_block h
  have h' : w.heap[b] = .cells #[v, u] t (0, 0) := by simpa [Array.getElem?_eq_getElem hlt] using h
  show (w.heap.modify b _)[b]? = _
  rw [Array.getElem?_eq_getElem (by simpa using hlt), Array.getElem_modify_self, h']
  rfl
theorem _root_.Go.Proofs.YtehpdbbkbdfobacGreatDoor.Lv.grown_setD (w : World) (b : Nat) (v : Value) : w.grownBy (w.setCell ⟨b, 0, none⟩ v) (some b) :=
  ⟨rfl, rfl, rfl, by simp, fun j _ hr => Below.heap_setCell w ⟨b, 0, none⟩ v j (fun e => hr (by rw [e]))⟩
theorem infoPart : (Tryz.prog.info? 224).map (fun i => (i.zero, i.size, i.bytes)) = some (some .nilIface, 1, 16) := by kernel_rfl
set_option maxRecDepth 100000 in
set_option maxHeartbeats 3200000 in
theorem add_any (D B n : Nat) (v nm q : Value) (T : TypeId) (xs : List Value) (w : World) (hD : w.heap[D]? = some (.cells #[v, nm] 187 (0, 0))) (hown : w.ownsRow B 224 1 v n xs) (hn : n ≤ 1048576) (hB : B ≤ w.heap.size) :
    Calls Tryz.prog 150 #[.pointer (some ⟨D, 0, none⟩), .iface T q] w fun e w' => e = .returned (.tuple #[]) ∧ ∃ v', w'.heap[D]? = some (.cells #[v', nm] 187 (0, 0)) ∧ w'.ownsRow B 224 1 v' (n + 1) (xs ++ [.iface T q]) ∧ KeptS w w' (fun j => j = D ∨ some j = v.ownBlock) ∧ (v'.ownBlock = v.ownBlock ∨ ∃ z, v'.ownBlock = some z ∧ w.heap.size ≤ z) := by
  obtain ⟨i0, hi0, hz0, hz1, hz2⟩ := info_parts infoPart
  obtain ⟨a, c, rfl⟩ := Lv.own_slice hown
  obtain ⟨d0, d1⟩ := cell_two hD
  have hDl := lt_of_block hD
  have HAL : Hid (Below w.heap.size w (w.alloc (.cells #[.iface T q] 224))) := (Below.refl _ _).alloc (Nat.le_refl _) _
  have HDK : Hid (∀ wx : World, (w.alloc (.cells #[.iface T q] 224)).grownBy wx (Value.slice a n c).ownBlock → wx.heap[D]? = some (.cells #[.slice a n c, nm] 187 (0, 0))) := fun wx hx => by
    have h := below_block HAL.out hD
    exact (hx.block D (lt_of_block h) (own_type (Lv.own_keep hown HAL.out) h (by decide))).trans h
  have HOW : Hid (w.ownsRow B 224 1 (.slice a n c) n xs) := hown
  go_enter Tryz.func150, Tryz.ntmps150
  go_wp2_with (at_builtin; refine wpList_append_any _ rfl _ _ 183 rfl B 224 i0 _ 1 16 Tryz.underlying183 hi0 hz0 hz1 hz2 rfl (by decide) _ n _ rfl (Lv.own_keep hown ((Below.refl _ _).alloc (Nat.le_refl _) _)) _ 1 1 [.iface T q] rfl (.inr ⟨_, rfl, World.news_of_block (Lv.heap_newF w (.cells #[.iface T q] 224))⟩) rfl (fun u hu => by simp at hu; subst hu; rfl) (by unfold maxLen; omega) (by omega) (by simp; omega) ?_; intro vq wx hq hgrow hat; have hdx := HDK.out wx hgrow; have e0 : wx.cell? ⟨D, 0, none⟩ = some (.slice a n c) := (by simp [World.cell?, hdx]); have f0 : wx.frozen? ⟨D, 0, none⟩ = false := (by simp [World.frozen?, hdx]); obtain ⟨qa, qc, rfl⟩ := Lv.own_slice hq)
  have hdx := HDK.out wx hgrow
  have hg1 := hgrow.size
  have hal := HAL.out.size
  go_end0
  refine ⟨rfl, _, ?_, Lv.own_far hq (Lv.grown_setD wx D _) (fun k hk e => ?_), ⟨?_, ?_, ?_, ?_, fun j hj hs => ?_⟩, ?_⟩
  · exact two_setCell hdx
  · exact own_type hq hdx (by decide) (by rw [hk, e])
  · exact hgrow.1.trans HAL.out.1
  · exact hgrow.2.trans HAL.out.2
  · exact hgrow.3.trans HAL.out.3
  · simp; omega
  · refine (Below.heap_setCell _ ⟨D, 0, none⟩ _ j (fun e => hs (.inl e))).trans ?_
    exact (hgrow.block j (by simp; omega) (fun e => hs (.inr e))).trans (HAL.out.block j hj)
  · rcases hat with e | e
    · exact .inl e
    · exact .inr ⟨_, e, by simp⟩
end Go.Proofs.YtehpdbbkbdfobacGreatDoor.Sd
