
/-
  Parts of a flight: the kind and the words, copied.
-/
import Derived.Test.YtfjblenkcfdbiaaGreatDoorFits2
import Derived.Test.YtfjblenkcfdbiaaGreatDoorLev00
import Derived.Test.YtfjblenkcfdbiaaGreatDoorShelf4
import Derived.Laws.CopyOwn
namespace Go.Proofs.YtfjblenkcfdbiaaGreatDoor.Sd
open Go.RowKit Go.Proofs.YtfjblenkcfdbiaaGreatDoor
set_option linter.unusedSimpArgs false
set_option linter.unusedVariables false

theorem clone_any (s : ByteArray) (w : World) (hs : s.size ≤ 1048576) :
    Calls Tryz.prog 100 #[.string s] w fun e w' => e = .returned (.string s) ∧ Below w.heap.size w w' := by
  go_enter Tryz.func100, Tryz.ntmps100
  go_wp2_with fail
  refine (Tryz.stringslite_Clone s _ (by omega)).mono ?_
  rintro e w' ⟨rfl, hb⟩
  go_wp2
  go_ret
  exact ⟨rfl, hb⟩
theorem cell_two {w : World} {b : Nat} {v u : Value} {t : TypeId} (h : w.heap[b]? = some (.cells #[v, u] t (0, 0))) : w.cell? ⟨b, 0, none⟩ = some v ∧ w.cell? ⟨b, 1, none⟩ = some u := by simp [World.cell?, h]
theorem below_block {w w' : World} {b : Nat} {o : Obj} (hb : Below w.heap.size w w') (h : w.heap[b]? = some o) : w'.heap[b]? = some o := (hb.block b (lt_of_block h)).trans h
/-- Texts in a row of one's own. -/
def SNew (w : World) (B : Nat) (v : Value) (l : List ByteArray) : Prop := w.ownsRow B 9 1 v l.length (l.map Value.string)
theorem SNew.snoc {w : World} {B n : Nat} {v : Value} {l : List ByteArray} {x : ByteArray} (hn : l.length = n) (h : w.ownsRow B 9 1 v (n + 1) (l.map Value.string ++ [.string x])) : SNew w B v (l ++ [x]) := by
  unfold SNew
  rw [List.length_append, List.map_append]
  subst hn
  exact h
theorem cutW_len (s : ByteArray) : (cutW s).length ≤ s.size + 1 := by
  unfold cutW
  rw [List.length_map]
  have : ∀ (r cur : List UInt8), (cutA cur r).length ≤ r.length + 1 := by
    intro r
    induction r with
    | nil => intro cur; simp [cutA]
    | cons c r ih =>
      intro cur
      rw [cutA]
      split
      · have := ih []; simp; omega
      · have := ih (cur ++ [c]); simp; omega
  have h := this (bytes s) []
  rw [bytes_length] at h
  exact h
set_option maxRecDepth 100000 in
set_option maxHeartbeats 3200000 in
theorem copyWords_any (s : ByteArray) (w : World) (hs : s.size ≤ 1048576) :
    Calls Tryz.prog 119 #[.string s] w fun e w' => ∃ u, e = .returned u ∧ SNew w' w.heap.size u (cutW s) ∧ Below w.heap.size w w' := by
  obtain ⟨i0, hi0, hz0, hz1, hz2⟩ := info_parts infoStr
  have hcl := cutW_len s
  have HSZ : Hid (∀ i, i < (cutW s).length → (wat (cutW s) i).size ≤ s.size) := fun i hi => wat_size hi
  have HWD : Hid (∀ wx : World, Calls Tryz.prog 131 #[.string s] wx fun e w' => ∃ v, e = .returned v ∧ StrsAt w' v (cutW s) ∧ Below wx.heap.size wx w') := fun wx => wordsOf_any s wx hs
  generalize cutW s = ws at *
  go_enter Tryz.func119, Tryz.ntmps119
  go_wp2_with fail
  refine (HWD.out _).mono ?_
  rintro e w1 ⟨v, rfl, hst, hb1⟩
  have HST : Hid (StrsAt w1 v ws) := hst
  obtain ⟨g, off, cap, rfl, hlc, hcm, -⟩ := hst
  unfold maxLen at hcm
  have B1 : Hid (Below w.heap.size w w1) := hb1
  clear hb1
  go_wp2_with fail
  go_loopw [3, 9] (fun v i wr => ∃ k : Nat, k ≤ ws.length ∧ i = .int .i64 k ∧ (∃ a c, v = .slice a k c) ∧ Hid (SNew wr w1.heap.size v (ws.take k) ∧ Below w1.heap.size w1 wr)) (fun _ i _ => ws.length - (intOf i).toNat)
  case atStart => exact ⟨0, Nat.zero_le _, rfl, ⟨_, _, rfl⟩, ⟨rfl, .inl ⟨rfl, rfl⟩⟩, Below.refl _ _⟩
  case round =>
    obtain ⟨k, hk, rfl, ⟨a, c, rfl⟩, HI⟩ := hrel
    by_cases hlt : k < ws.length
    · have c0 : wr.cell? ⟨g, off + k, none⟩ = some (.string (wat ws k)) := (HST.out.keep HI.out.2).cell k hlt
      have hk0 : (0 : Int) ≤ (k : Int) := by omega
      have hk1 : (k : Int) < (ws.length : Int) := by omega
      have hsz2 := HSZ.out k hlt
      go_wp2_with fail
      refine (clone_any (wat ws k) _ (by omega)).mono ?_
      rintro e w2 ⟨rfl, hb2⟩
      have HI2 : Hid (SNew w2 w1.heap.size (.slice a k c) (ws.take k) ∧ Below w1.heap.size w1 w2) := ⟨Lv.own_keep HI.out.1 hb2, below_step HI.out.2 hb2⟩
      clear HI c0 hb2
      have HTL : Hid ((ws.take k).length = k) := by show _ = _; rw [List.length_take]; omega
      have HTS : Hid (ws.take (k + 1) = ws.take k ++ [wat ws k]) := by
        show _ = _
        rw [List.take_succ_eq_append_getElem hlt]
        simp [wat, hlt]
      have hid := HI2.out.1
      unfold SNew at hid
      rw [HTL.out] at hid
      have hsz := HI2.out.2.size
      generalize wat ws k = x at *
      go_wp2_with (at_builtin; refine wpList_append_any _ rfl _ _ 43 rfl w1.heap.size 9 i0 _ 1 16 Tryz.underlying43 hi0 hz0 hz1 hz2 rfl (by decide) _ k _ rfl (Lv.own_keep hid ((Below.refl _ _).alloc (Nat.le_refl _) _)) _ 1 1 [.string x] rfl (.inr ⟨_, rfl, World.news_of_block (Lv.heap_newF w2 (.cells #[.string x] 9))⟩) rfl (fun u hu => by simp at hu; subst hu; rfl) (by unfold maxLen; omega) (by omega) (by simp; omega) ?_; intro vq wx hown hgrow hat)
      have hbw := below_step HI2.out.2 ((Below.refl _ _).alloc (Nat.le_refl _) (.cells #[.string x] 9))
      have HN : Hid (SNew wx w1.heap.size vq (ws.take (k + 1)) ∧ Below w1.heap.size w1 wx) := by
        refine ⟨?_, hbw.grown hgrow hbw.size (fun q hq => Lv.own_ge hid q hq)⟩
        rw [HTS.out]
        exact SNew.snoc HTL.out hown
      obtain ⟨qa, qc, rfl⟩ := Lv.own_slice hown
      exact ⟨⟨k + 1, by omega, by go_num, ⟨_, _, rfl⟩, HN⟩, by simp [intOf]; omega⟩
    · have HF : Hid (ws.take k = ws) := List.take_of_length_le (by omega)
      have hs1 := B1.out.size
      go_wp2
      go_ret
      refine ⟨.slice a k c, rfl, ?_, below_step B1.out HI.out.2⟩
      have h := HI.out.1
      rw [HF.out] at h
      refine ⟨h.1, ?_⟩
      rcases h.2 with h2 | ⟨g, cap, cur, hv, hg, rest⟩
      · exact .inl h2
      · exact .inr ⟨g, cap, cur, hv, by omega, rest⟩
set_option maxRecDepth 100000 in
set_option maxHeartbeats 3200000 in
theorem kindOf_any (vk vp : Value) (ks : List Tri) (s : ByteArray) (w : World) (hk : TrisAt w vk ks) (hb : hasB ks s = true) (hn : ∀ t ∈ ks, t.s.size ≤ 1048576) :
    Calls Tryz.prog 116 #[.agg #[vk, vp], .string s] w fun e w' => e = .returned (.agg #[.string (at' ks (plc ks s)).s, .int .i64 (at' ks (plc ks s)).x, .int .i64 (at' ks (plc ks s)).y]) ∧ Below w.heap.size w w' := by
  have hpl : plc ks s < ks.length := by
    unfold hasB at hb
    rw [Bool.and_eq_true] at hb
    exact of_decide_eq_true hb.1
  have HPK : Hid (∀ wx : World, Below w.heap.size w wx → Calls Tryz.prog 130 #[vk, .string s, .func (.func 105) #[] #[]] wx fun e w' => e = .returned (.tuple #[.int .i64 (plc ks s : Nat), .bool true]) ∧ Below wx.heap.size wx w') := fun wx hx => by
    have h := placeKind_any vk ks s wx (hk.keep hx)
    rw [hb] at h
    exact h
  have hsz : (at' ks (plc ks s)).s.size ≤ 1048576 := hn _ (List.mem_of_getElem? (at_get hpl))
  have HTK : Hid (∀ wx : World, Below w.heap.size w wx → TrisAt wx vk ks) := fun wx hx => hk.keep hx
  obtain ⟨ak, ck, rfl, hk1, hk2, -⟩ := hk
  unfold maxLen at hk2
  have HB : Hid (Below w.heap.size w ((w.alloc (.cells #[.slice ak ks.length ck, vp] 34)).alloc (.cells #[.string ⟨#[]⟩, .int .i64 0, .int .i64 0] 42))) := ((Below.refl _ _).alloc (Nat.le_refl _) _).alloc (by simp) _
  have HR : Hid (((w.alloc (.cells #[.slice ak ks.length ck, vp] 34)).alloc (.cells #[.string ⟨#[]⟩, .int .i64 0, .int .i64 0] 42)).heap[w.heap.size + 1]? = some (.cells #[.string ⟨#[]⟩, .int .i64 0, .int .i64 0] 42 (0, 0))) := by
    have h := Lv.heap_newF (w.alloc (.cells #[.slice ak ks.length ck, vp] 34)) (.cells #[.string ⟨#[]⟩, .int .i64 0, .int .i64 0] 42)
    rw [show (w.alloc (.cells #[.slice ak ks.length ck, vp] 34)).heap.size = w.heap.size + 1 by simp] at h
    exact h
  have Q0 : Hid (∀ wx : World, Below ((w.alloc (.cells #[.slice ak ks.length ck, vp] 34)).alloc (.cells #[.string ⟨#[]⟩, .int .i64 0, .int .i64 0] 42)).heap.size ((w.alloc (.cells #[.slice ak ks.length ck, vp] 34)).alloc (.cells #[.string ⟨#[]⟩, .int .i64 0, .int .i64 0] 42)) wx → wx.cell? ⟨w.heap.size, 0, none⟩ = some (.slice ak ks.length ck) ∧ wx.cell? ⟨w.heap.size, 1, none⟩ = some vp) := fun wx hx => ⟨cell_keep hx (Nat.le_refl _) (by simp [go_sem]), cell_keep hx (Nat.le_refl _) (by simp [go_sem])⟩
  obtain ⟨p0, p1⟩ := Q0.out _ (Below.refl _ _)
  go_enter Tryz.func116, Tryz.ntmps116
  go_wp2_with fail
  generalize ((w.alloc (.cells #[.slice ak ks.length ck, vp] 34)).alloc (.cells #[.string ⟨#[]⟩, .int .i64 0, .int .i64 0] 42)) = w1 at *
  refine (HPK.out _ HB.out).mono ?_
  rintro e w2 ⟨rfl, hb2⟩
  have B2 : Hid (Below w1.heap.size w1 w2) := hb2
  have R2 : Hid (w2.heap[w.heap.size + 1]? = some (.cells #[.string ⟨#[]⟩, .int .i64 0, .int .i64 0] 42 (0, 0))) := below_block hb2 HR.out
  clear p0 p1 hb2 HR
  obtain ⟨p0, p1⟩ := Q0.out _ B2.out
  obtain ⟨a9, c9, he, -, -, hpc⟩ := HTK.out _ (below_step HB.out B2.out)
  obtain ⟨bP, oP, hap, d0, d1, d2⟩ := hpc _ _ (at_get hpl)
  cases he
  subst hap
  clear hpc
  have hj0 : (0 : Int) ≤ ((plc ks s : Nat) : Int) := by omega
  have hj1 : ((plc ks s : Nat) : Int) < (ks.length : Int) := by omega
  obtain ⟨tr, htr⟩ : ∃ tr, at' ks (plc ks s) = tr := ⟨_, rfl⟩
  rw [htr] at d0 d1 d2 hsz
  have HC : Hid (at' ks (plc ks s) = tr) := htr
  clear htr
  have X3 : Hid ((w2.alloc (.cells #[.string tr.s, .int .i64 tr.x, .int .i64 tr.y] 42)).heap[w2.heap.size]? = some (.cells #[.string tr.s, .int .i64 tr.x, .int .i64 tr.y] 42 (0, 0))) := Lv.heap_newF w2 _
  have B3 : Hid (Below w2.heap.size w2 (w2.alloc (.cells #[.string tr.s, .int .i64 tr.x, .int .i64 tr.y] 42))) := (Below.refl _ _).alloc (Nat.le_refl _) _
  go_wp2_with fail
  refine (clone_any tr.s _ hsz).mono ?_
  rintro e w4 ⟨rfl, hb4⟩
  have hX := below_block hb4 X3.out
  have hR := below_block hb4 (below_block B3.out R2.out)
  have B4 : Hid (Below w.heap.size w w4 ∧ w.heap.size + 1 < w2.heap.size) := ⟨below_step (below_step (below_step HB.out B2.out) B3.out) hb4, lt_of_block R2.out⟩
  clear hb4 X3 R2 B3 B2 p0 p1 d0 d1 d2
  generalize w2.heap.size = X at *
  have y0 : w4.cell? ⟨X, 0, none⟩ = some (.string tr.s) := by simp [World.cell?, hX]
  have y1 : w4.cell? ⟨X, 1, none⟩ = some (.int .i64 tr.x) := by simp [World.cell?, hX]
  have y2 : w4.cell? ⟨X, 2, none⟩ = some (.int .i64 tr.y) := by simp [World.cell?, hX]
  have yf : w4.frozen? ⟨X, 0, none⟩ = false := by simp [World.frozen?, hX]
  have hR5 : (w4.setCell ⟨X, 0, none⟩ (.string tr.s)).heap[w.heap.size + 1]? = some (.cells #[.string ⟨#[]⟩, .int .i64 0, .int .i64 0] 42 (0, 0)) := (Below.heap_setCell _ ⟨X, 0, none⟩ _ _ (by have := B4.out.2; simp; omega)).trans hR
  have B5 : Hid (Below w.heap.size w (w4.setCell ⟨X, 0, none⟩ (.string tr.s))) := B4.out.1.setCell (p := ⟨X, 0, none⟩) (by have := B4.out.2; simp; omega) _
  clear hX hR
  go_wp2_with (refine wpList_store_row rfl 42 _ _ rfl (w.heap.size + 1) #[.string tr.s, .int .i64 tr.x, .int .i64 tr.y] rfl rfl 42 _ hR5 (by kernel_rfl) rfl (by simp [Value.oneCell']) ?_)
  exact bodyPost_ret (v := .agg #[.string tr.s, .int .i64 tr.x, .int .i64 tr.y]) (by simp [results, Tryz.results116, go_sem, cell_setRow_same _ _ _ _ _ _ _ hR5]) rfl ⟨by rw [HC.out], below_setRow B5.out (by omega) _⟩
end Go.Proofs.YtfjblenkcfdbiaaGreatDoor.Sd
