
/-
  The cells of points, and along them: the program's.
-/
import Derived.Test.YtfjblenkcfdbiaaWay3
import Derived.Test.YtfjblenkcfdbiaaFits2
namespace Go.Proofs.Ytfjblenkcfdbiaa
open Go.RowKit
set_option linter.unusedSimpArgs false
set_option linter.unusedVariables false

def celRow (c : Cel) : List Value := [.int .i64 c.x, .int .i64 c.y]
def celRows (l : List Cel) : List Value := l.flatMap celRow
theorem celRows_len (l : List Cel) : (celRows l).length = l.length * 2 := by
  induction l with
  | nil => rfl
  | cons a l ih => simp [celRows, celRow] at ih ⊢; omega
theorem celRows_get : ∀ (l : List Cel) (i : Nat) (c : Cel), l[i]? = some c → (celRows l)[i * 2]? = some (.int .i64 c.x) ∧ (celRows l)[i * 2 + 1]? = some (.int .i64 c.y)
  | [], i, c, h => by simp at h
  | a :: l, 0, c, h => by simp at h; subst h; simp [celRows, celRow]
  | a :: l, i + 1, c, h => by
    have := celRows_get l i c (by simpa using h)
    rw [show (i + 1) * 2 = i * 2 + 2 by omega]
    simpa [celRows, celRow] using this
/-- Cells in a row of one's own. -/
def CNew (w : World) (B : Nat) (v : Value) (l : List Cel) : Prop := w.ownsRow B 97 2 v l.length (celRows l)
/-- Cells that lie in memory. -/
def CAt (w : World) (v : Value) (l : List Cel) : Prop := ∃ a cap, v = .slice a l.length cap ∧ l.length ≤ cap ∧ cap ≤ maxLen ∧ ∀ i c, l[i]? = some c → ∃ g, a = some ⟨g, 0, none⟩ ∧ w.cell? ⟨g, i * 2, none⟩ = some (.int .i64 c.x) ∧ w.cell? ⟨g, i * 2 + 1, none⟩ = some (.int .i64 c.y)
theorem CNew.at {w : World} {B : Nat} {v : Value} {l : List Cel} (h : CNew w B v l) : CAt w v l := by
  obtain ⟨h1, h2⟩ := h
  rcases h2 with ⟨rfl, h0⟩ | ⟨g, cap, cur, rfl, hB, hb, hn, hc, hs, ht⟩
  · refine ⟨none, 0, by rw [h0], by omega, Nat.zero_le _, fun i t hi => ?_⟩
    have := (List.getElem?_eq_some_iff.1 hi).1
    omega
  · refine ⟨_, cap, rfl, hn, hc, fun i t hi => ⟨g, rfl, ?_⟩⟩
    have hil := (List.getElem?_eq_some_iff.1 hi).1
    obtain ⟨e1, e2⟩ := celRows_get l i t hi
    rw [← ht] at e1 e2
    rw [List.getElem?_take, if_pos (by omega)] at e1 e2
    simp only [World.cell?, hb, Option.isSome_none, Bool.false_eq_true, if_false]
    exact ⟨by simpa using e1, by simpa using e2⟩
theorem CAt.keep {w w' : World} {v : Value} {l : List Cel} (h : CAt w v l) (hb : Below w.heap.size w w') : CAt w' v l := by
  obtain ⟨a, cap, h1, h2, h3, h4⟩ := h
  refine ⟨a, cap, h1, h2, h3, fun i t ht => ?_⟩
  obtain ⟨g, ha, c0, c1⟩ := h4 i t ht
  exact ⟨g, ha, cell_keep hb (Nat.le_refl _) c0, cell_keep hb (Nat.le_refl _) c1⟩
theorem ownC_keep {w w' : World} {base : Nat} {e : TypeId} {size : Nat} {v : Value} {n : Nat} {xs : List Value} (h : w.ownsRow base e size v n xs) (hb : Below w.heap.size w w') : w'.ownsRow base e size v n xs := by
  obtain ⟨h1, h2⟩ := h
  refine ⟨h1, ?_⟩
  rcases h2 with h2 | ⟨g, cap, cur, hv, hg, hh, rest⟩
  · exact .inl h2
  · exact .inr ⟨g, cap, cur, hv, hg, (hb.block g (Array.getElem?_eq_some_iff.1 hh).1).trans hh, rest⟩
theorem ownC_ge {w : World} {base : Nat} {e : TypeId} {size : Nat} {v : Value} {n : Nat} {xs : List Value} (h : w.ownsRow base e size v n xs) : ∀ k, v.ownBlock = some k → base ≤ k := by
  intro k hk
  rcases h.2 with ⟨rfl, _⟩ | ⟨g, cap, cur, rfl, hg, _⟩
  · cases hk
  · cases hk; exact hg
theorem ownC_lt {w : World} {base : Nat} {e : TypeId} {size : Nat} {v : Value} {n : Nat} {xs : List Value} (h : w.ownsRow base e size v n xs) : ∀ k, v.ownBlock = some k → k < w.heap.size := by
  intro k hk
  rcases h.2 with ⟨rfl, _⟩ | ⟨g, cap, cur, rfl, hg, hc, _⟩
  · cases hk
  · cases hk; exact (Array.getElem?_eq_some_iff.1 hc).1
theorem ownC_slice {w : World} {base : Nat} {e : TypeId} {size : Nat} {v : Value} {n : Nat} {xs : List Value} (h : w.ownsRow base e size v n xs) : ∃ a c, v = .slice a n c := by
  rcases h.2 with ⟨rfl, h0⟩ | ⟨g, cap, cur, rfl, _⟩
  · exact ⟨none, 0, by rw [h0]⟩
  · exact ⟨_, cap, rfl⟩
theorem ownC_far {W W' : World} {row : Option Nat} {base : Nat} {e : TypeId} {size : Nat} {v : Value} {n : Nat} {xs : List Value} (h : W.ownsRow base e size v n xs) (hg : W.grownBy W' row) (hr : ∀ k, v.ownBlock = some k → some k ≠ row) : W'.ownsRow base e size v n xs := by
  refine ⟨h.1, ?_⟩
  rcases h.2 with h2 | ⟨g, cap, cur, hv, hb, hc, rest⟩
  · exact .inl h2
  · refine .inr ⟨g, cap, cur, hv, hb, ?_, rest⟩
    exact (hg.block g (Array.getElem?_eq_some_iff.1 hc).1 (hr g (by rw [hv]; rfl))).trans hc
theorem ownC_mono {w : World} {base base' : Nat} {e : TypeId} {size : Nat} {v : Value} {n : Nat} {xs : List Value} (h : w.ownsRow base e size v n xs) (hb : base' ≤ base) : w.ownsRow base' e size v n xs := by
  refine ⟨h.1, ?_⟩
  rcases h.2 with h2 | ⟨g, cap, cur, hv, hg, rest⟩
  · exact .inl h2
  · exact .inr ⟨g, cap, cur, hv, by omega, rest⟩
theorem CNew.snoc {w : World} {B n : Nat} {v : Value} {l : List Cel} {c : Cel} (hn : l.length = n) (h : w.ownsRow B 97 2 v (n + 1) (celRows l ++ [.int .i64 c.x, .int .i64 c.y])) : CNew w B v (l ++ [c]) := by
  unfold CNew
  rw [List.length_append]
  have e : celRows (l ++ [c]) = celRows l ++ [.int .i64 c.x, .int .i64 c.y] := by simp [celRows, celRow]
  rw [e]
  subst hn
  exact h
theorem infoCell : (Try.prog.info? 97).map (fun i => (i.zero, i.size, i.bytes)) = some (some (.agg #[.int .i64 0, .int .i64 0]), 2, 16) := by kernel_rfl

/-- The cell of the point of this name. -/
def celOf (ps : List Tri) (x : ByteArray) : Cel := ⟨(at' ps (plc ps x)).x, (at' ps (plc ps x)).y⟩
def turns (ps : List Tri) (ws : List ByteArray) : List Cel := ws.map (celOf ps)

theorem turns_take (ps : List Tri) (ws : List ByteArray) (k : Nat) (h : k < ws.length) : (turns ps ws).take (k + 1) = (turns ps ws).take k ++ [celOf ps (wat ws k)] := by
  unfold turns
  rw [List.take_succ_eq_append_getElem (by simpa using h)]
  simp [wat, h]
set_option maxHeartbeats 800000 in
theorem cellOf_any (s : ByteArray) (x y : Int) (w : World) :
    Calls Try.prog 99 #[.agg #[.string s, .int .i64 x, .int .i64 y]] w fun e w' => e = .returned (.agg #[.int .i64 x, .int .i64 y]) ∧ Below w.heap.size w w' := by
  have HB : Hid (Below w.heap.size w ((w.alloc (.cells #[.string s, .int .i64 x, .int .i64 y] 76)).alloc (.cells #[.int .i64 0, .int .i64 0] 97))) := ((Below.refl _ _).alloc (Nat.le_refl _) _).alloc (by simp) _
  have hr : ((w.alloc (.cells #[.string s, .int .i64 x, .int .i64 y] 76)).alloc (.cells #[.int .i64 0, .int .i64 0] 97)).heap[w.heap.size + 1]? = some (.cells #[.int .i64 0, .int .i64 0] 97 (0, 0)) := by
    have h := heap_newW (w.alloc (.cells #[.string s, .int .i64 x, .int .i64 y] 76)) (.cells #[.int .i64 0, .int .i64 0] 97)
    rw [show (w.alloc (.cells #[.string s, .int .i64 x, .int .i64 y] 76)).heap.size = w.heap.size + 1 by simp] at h
    exact h
  go_enter Try.func99, Try.ntmps99
  go_wp2_with (refine wpList_store_row rfl 97 _ _ rfl (w.heap.size + 1) #[.int .i64 x, .int .i64 y] rfl rfl 97 _ hr (by kernel_rfl) rfl (by simp [Value.oneCell']) ?_)
  exact bodyPost_ret (v := .agg #[.int .i64 x, .int .i64 y]) (by simp [results, Try.results99, go_sem, cell_setRow_same _ _ _ _ _ _ _ hr]) rfl ⟨rfl, below_setRow HB.out (by omega) _⟩

set_option maxRecDepth 100000 in
set_option maxHeartbeats 3200000 in
theorem cellsOfPoints_any (vk vp v : Value) (ps : List Tri) (ws : List ByteArray) (w : World) (hp : TrisAt w vp ps) (hst0 : StrsAt w v ws) (hw8 : ws.length ≤ 8) (hall : ∀ i, i < ws.length → hasB ps (wat ws i) = true) :
    Calls Try.prog 63 #[.agg #[vk, vp], v] w fun e w' => ∃ u, e = .returned u ∧ CNew w' w.heap.size u (turns ps ws) ∧ Below w.heap.size w w' := by
  obtain ⟨i0, hi0, hz0, hz1, hz2⟩ := info_parts infoCell
  have HHP : Hid (∀ (x : ByteArray) (wx : World), Below w.heap.size w wx → Calls Try.prog 97 #[vp, .string x, .func (.func 77) #[] #[]] wx fun e w' => e = .returned (.tuple #[.int .i64 (plc ps x : Nat), .bool (hasB ps x)]) ∧ Below wx.heap.size wx w') := fun x wx hx => placePoint_any vp ps x wx (hp.keep hx)
  have HTP : Hid (TrisAt w vp ps) := hp
  obtain ⟨ap, cp, rfl, hp1, hp2, -⟩ := hp
  have HAL : Hid (∀ i, i < ws.length → hasB ps (wat ws i) = true) := hall
  have HB1 : Hid (Below w.heap.size w (w.alloc (.cells #[vk, .slice ap ps.length cp] 31))) := (Below.refl _ _).alloc (Nat.le_refl _) _
  have hst := hst0.keep HB1.out
  have HST : Hid (StrsAt (w.alloc (.cells #[vk, .slice ap ps.length cp] 31)) v ws) := hst
  clear hst0 hall
  obtain ⟨g, off, cap, rfl, hlc, hcm, -⟩ := hst
  have Q0 : Hid ((w.alloc (.cells #[vk, .slice ap ps.length cp] 31)).cell? ⟨w.heap.size, 0, none⟩ = some vk ∧ (w.alloc (.cells #[vk, .slice ap ps.length cp] 31)).cell? ⟨w.heap.size, 1, none⟩ = some (.slice ap ps.length cp)) := ⟨by simp [go_sem], by simp [go_sem]⟩
  unfold maxLen at hcm hp2
  go_enter Try.func63, Try.ntmps63
  go_wp2_with fail
  generalize (w.alloc (.cells #[vk, .slice ap ps.length cp] 31)) = w1 at *
  go_loopw [5, 12] (fun v i wr => ∃ k : Nat, k ≤ ws.length ∧ i = .int .i64 k ∧ (∃ a c, v = .slice a k c) ∧ Hid (CNew wr w1.heap.size v ((turns ps ws).take k) ∧ Below w1.heap.size w1 wr)) (fun _ i _ => ws.length - (intOf i).toNat)
  case atStart => exact ⟨0, Nat.zero_le _, rfl, ⟨_, _, rfl⟩, ⟨rfl, .inl ⟨rfl, rfl⟩⟩, Below.refl _ _⟩
  case round =>
    obtain ⟨k, hk, rfl, ⟨a, c, rfl⟩, HI⟩ := hrel
    by_cases hlt : k < ws.length
    · have hh := HAL.out k hlt
      have hpl : plc ps (wat ws k) < ps.length := by
        unfold hasB at hh
        rw [Bool.and_eq_true] at hh
        exact of_decide_eq_true hh.1
      have HH : Hid (hasB ps (wat ws k) = true) := hh
      clear hh
      have c0 : wr.cell? ⟨g, off + k, none⟩ = some (.string (wat ws k)) := (HST.out.keep HI.out.2).cell k hlt
      have p0 := cell_keep HI.out.2 (Nat.le_refl _) Q0.out.1
      have p1 := cell_keep HI.out.2 (Nat.le_refl _) Q0.out.2
      have hk0 : (0 : Int) ≤ (k : Int) := by omega
      have hk1 : (k : Int) < (ws.length : Int) := by omega
      go_wp2_with fail
      refine (HHP.out (wat ws k) _ (below_step HB1.out HI.out.2)).mono ?_
      rw [HH.out]
      rintro e w2 ⟨rfl, hb2⟩
      have HI2 : Hid (CNew w2 w1.heap.size (.slice a k c) ((turns ps ws).take k) ∧ Below w1.heap.size w1 w2) := ⟨ownC_keep HI.out.1 hb2, below_step HI.out.2 hb2⟩
      clear HI c0 p0 p1 hb2
      have p0 := cell_keep HI2.out.2 (Nat.le_refl _) Q0.out.1
      have p1 := cell_keep HI2.out.2 (Nat.le_refl _) Q0.out.2
      obtain ⟨ap', cp', he, -, -, hpc⟩ := (HTP.out.keep (below_step HB1.out HI2.out.2))
      obtain ⟨bP, oP, hap, d0, d1, d2⟩ := hpc (plc ps (wat ws k)) _ (at_get hpl)
      cases he
      subst hap
      clear hpc
      have HC : Hid (celOf ps (wat ws k) = ⟨(at' ps (plc ps (wat ws k))).x, (at' ps (plc ps (wat ws k))).y⟩) := rfl
      have hj0 : (0 : Int) ≤ ((plc ps (wat ws k) : Nat) : Int) := by omega
      have hj1 : ((plc ps (wat ws k) : Nat) : Int) < (ps.length : Int) := by omega
      generalize at' ps (plc ps (wat ws k)) = tr at *
      generalize plc ps (wat ws k) = j at *
      go_wp2_with fail
      refine (cellOf_any _ _ _ _).mono ?_
      rintro e w3 ⟨rfl, hb3⟩
      have HI3 : Hid (CNew w3 w1.heap.size (.slice a k c) ((turns ps ws).take k) ∧ Below w1.heap.size w1 w3) := ⟨ownC_keep HI2.out.1 hb3, below_step HI2.out.2 hb3⟩
      clear HI2 p0 p1 hb3 d0 d1 d2
      have hid := HI3.out.1
      have HTL : Hid (((turns ps ws).take k).length = k) := by show _ = _; rw [List.length_take]; unfold turns; rw [List.length_map]; omega
      unfold CNew at hid
      rw [HTL.out] at hid
      have hsz := HI3.out.2.size
      go_wp2_with (at_builtin; refine wpList_append_any _ rfl _ _ 55 rfl w1.heap.size 97 i0 _ 2 16 Try.underlying55 hi0 hz0 hz1 hz2 rfl (by decide) _ k _ rfl (ownC_keep hid ((Below.refl _ _).alloc (Nat.le_refl _) _)) _ 1 1 [.int .i64 tr.x, .int .i64 tr.y] rfl (.inr ⟨_, rfl, World.news_of_block (heap_newW w3 (.cells #[.int .i64 tr.x, .int .i64 tr.y] 97))⟩) rfl (fun u hu => by simp at hu; rcases hu with rfl | rfl <;> rfl) (by unfold maxLen; omega) (by omega) (by simp; omega) ?_; intro vq wx hown hgrow hat)
      have HN : Hid (CNew wx w1.heap.size vq ((turns ps ws).take (k + 1)) ∧ Below w1.heap.size w1 wx) := by
        refine ⟨?_, (below_step HI3.out.2 ((Below.refl _ _).alloc (Nat.le_refl _) _)).grown hgrow ((below_step HI3.out.2 ((Below.refl _ _).alloc (Nat.le_refl _) _)).size) (fun q hq => ownC_ge hid q hq)⟩
        have e : (turns ps ws).take (k + 1) = (turns ps ws).take k ++ [(⟨tr.x, tr.y⟩ : Cel)] := by
          rw [← HC.out]
          exact turns_take ps ws k hlt
        rw [e]
        exact CNew.snoc HTL.out hown
      obtain ⟨qa, qc, rfl⟩ := ownC_slice hown
      exact ⟨⟨k + 1, by omega, by go_num, ⟨_, _, rfl⟩, HN⟩, by simp [intOf]; omega⟩
    · have HF : Hid ((turns ps ws).take k = turns ps ws) := List.take_of_length_le (by unfold turns; rw [List.length_map]; omega)
      go_wp2
      go_ret
      exact ⟨.slice a k c, rfl, by have h := HI.out.1; rw [HF.out] at h; exact ownC_mono h HB1.out.size, below_step HB1.out HI.out.2⟩
end Go.Proofs.Ytfjblenkcfdbiaa
