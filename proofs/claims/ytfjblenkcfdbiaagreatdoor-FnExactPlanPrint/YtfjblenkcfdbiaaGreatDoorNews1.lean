
/-
  Lists of changes; what a book says, change by change: impl's changesOf.
-/
import Derived.Test.YtfjblenkcfdbiaaGreatDoorBook6
namespace Go.Proofs.YtfjblenkcfdbiaaGreatDoor
open Go.RowKit

def chgRow (c : Chg) : List Value := [.string c.f, .int .i64 c.what, .int .i64 c.num, .string c.v]
def chgRows (l : List Chg) : List Value := l.flatMap chgRow
theorem chgRows_len (l : List Chg) : (chgRows l).length = l.length * 4 := by
  induction l with
  | nil => rfl
  | cons c l ih => simp only [chgRows, List.flatMap_cons, List.length_append, List.length_cons] at *; simp only [chgRow, List.length_cons, List.length_nil]; omega
theorem chgRows_snoc (l : List Chg) (c : Chg) : chgRows (l ++ [c]) = chgRows l ++ chgRow c := by simp [chgRows]
/-- What a book says. -/
def chgsOf (es : List Ent) : List Chg := es.flatMap fun e => e.fs.map (chgOf e.name)
theorem chgsOf_take (es : List Ent) (k : Nat) (e : Ent) (h : es[k]? = some e) : chgsOf (es.take (k + 1)) = chgsOf (es.take k) ++ e.fs.map (chgOf e.name) := by
  obtain ⟨hk, rfl⟩ := List.getElem?_eq_some_iff.1 h
  rw [List.take_succ_eq_append_getElem hk]
  simp only [chgsOf, List.flatMap_append, List.flatMap_cons, List.flatMap_nil, List.append_nil]
theorem chgsOf_len (es : List Ent) : (chgsOf es).length = sumN (fun e => e.fs.length) es := by
  induction es with
  | nil => rfl
  | cons e es ih => simp only [chgsOf, List.flatMap_cons, List.length_append, sumN, List.length_map] at *; omega
theorem sum_fs_le (es : List Ent) : sumN (fun e => e.fs.length) es ≤ sumN szEnt es := by
  induction es with
  | nil => exact Nat.le_refl _
  | cons e es ih => simp only [sumN, szEnt, szFlds] at *; omega
/-- A slice of changes of the call's own. -/
def ChgsNew (w : World) (base : Nat) (v : Value) (l : List Chg) : Prop := w.ownsRow base 65 4 v l.length (chgRows l)
theorem infoChange : (Tryz.prog.info? 65).map (fun i => (i.zero, i.size, i.bytes)) = some (some (.agg #[.string ByteArray.empty, .int .i64 0, .int .i64 0, .string ByteArray.empty]), 4, 48) := by kernel_rfl

/-- A change's cells. -/
def ChgAt (w : World) (b o : Nat) (c : Chg) : Prop := w.cell? ⟨b, o, none⟩ = some (.string c.f) ∧ w.cell? ⟨b, o + 1, none⟩ = some (.int .i64 c.what) ∧ w.cell? ⟨b, o + 2, none⟩ = some (.int .i64 c.num) ∧ w.cell? ⟨b, o + 3, none⟩ = some (.string c.v)
def ChgsAt (w : World) (v : Value) (l : List Chg) : Prop :=
  ∃ a cap, v = .slice a l.length cap ∧ l.length ≤ cap ∧ cap ≤ maxLen ∧ ∀ i c, l[i]? = some c → ∃ b off, a = some ⟨b, off, none⟩ ∧ ChgAt w b (off + i * 4) c
theorem ChgAt.keep {w w' : World} {b o B : Nat} {c : Chg} (h : ChgAt w b o c) (hb : Below B w w') (hB : w.heap.size ≤ B) : ChgAt w' b o c :=
  ⟨cell_keep hb hB h.1, cell_keep hb hB h.2.1, cell_keep hb hB h.2.2.1, cell_keep hb hB h.2.2.2⟩
theorem ChgsAt.keep {w w' : World} {v : Value} {l : List Chg} (h : ChgsAt w v l) (hb : Below w.heap.size w w') : ChgsAt w' v l := by
  obtain ⟨a, cap, rfl, h1, h2, h3⟩ := h
  refine ⟨a, cap, rfl, h1, h2, fun i t ht => ?_⟩
  obtain ⟨b, off, ha, hc⟩ := h3 i t ht
  exact ⟨b, off, ha, hc.keep hb (Nat.le_refl _)⟩
theorem chgRows_at (l : List Chg) (i : Nat) (c : Chg) (h : l[i]? = some c) (j : Nat) (hj : j < 4) : (chgRows l)[i * 4 + j]? = (chgRow c)[j]? := by
  induction l generalizing i with
  | nil => simp at h
  | cons a l ih =>
    have e : chgRows (a :: l) = chgRow a ++ chgRows l := by simp [chgRows]
    rw [e]
    cases i with
    | zero =>
      simp at h; subst h
      rw [List.getElem?_append_left (by simp [chgRow]; omega)]; simp
    | succ i =>
      rw [List.getElem?_append_right (by simp [chgRow]; omega)]
      have : (i + 1) * 4 + j - (chgRow a).length = i * 4 + j := by simp [chgRow]; omega
      rw [this]
      exact ih i (by simpa using h)
theorem ChgsNew.at {w : World} {base : Nat} {v : Value} {l : List Chg} (h : ChgsNew w base v l) : ChgsAt w v l := by
  obtain ⟨h1, h2⟩ := h
  rcases h2 with ⟨rfl, h0⟩ | ⟨g, cap, cur, rfl, _, hb, hn, hc, hs, ht⟩
  · have : l = [] := List.length_eq_zero_iff.1 h0
    subst this
    exact ⟨none, 0, rfl, Nat.le_refl _, Nat.zero_le _, fun i c hc => by simp at hc⟩
  · refine ⟨some ⟨g, 0, none⟩, cap, rfl, hn, hc, fun i c hi => ⟨g, 0, rfl, ?_⟩⟩
    have hil : i < l.length := (List.getElem?_eq_some_iff.1 hi).1
    have one : ∀ j, j < 4 → w.cell? ⟨g, 0 + i * 4 + j, none⟩ = (chgRow c)[j]? := fun j hj => by
      rw [← chgRows_at l i c hi j hj, ← ht, List.getElem?_take]
      rw [if_pos (by omega)]
      simp [World.cell?, hb]
    refine ⟨?_, ?_, ?_, ?_⟩
    · simpa [chgRow] using one 0 (by omega)
    · simpa [chgRow] using one 1 (by omega)
    · simpa [chgRow] using one 2 (by omega)
    · simpa [chgRow] using one 3 (by omega)
def cat' (l : List Chg) (i : Nat) : Chg := l.getD i ⟨⟨#[]⟩, 0, 0, ⟨#[]⟩⟩
theorem cat_get {l : List Chg} {i : Nat} (h : i < l.length) : l[i]? = some (cat' l i) := by simp [cat', h]
theorem cell_four_new (w : World) (a b c d : Value) (t : TypeId) : ∀ j u, [a, b, c, d][j]? = some u → (w.alloc (.cells #[a, b, c, d] t)).cell? ((⟨w.heap.size, 0, none⟩ : Addr).add j) = some u := by
  intro j u hj
  match j, hj with
  | 0, hj => simp at hj; subst hj; simp [Addr.add]
  | 1, hj => simp at hj; subst hj; simp [Addr.add]
  | 2, hj => simp at hj; subst hj; simp [Addr.add]
  | 3, hj => simp at hj; subst hj; simp [Addr.add]
  | j + 4, hj => simp at hj
theorem ownsRow_keep {w w' : World} {base : Nat} {e : TypeId} {size : Nat} {v : Value} {n : Nat} {xs : List Value} (h : w.ownsRow base e size v n xs) (hb : Below w.heap.size w w') : w'.ownsRow base e size v n xs := by
  obtain ⟨h1, h2⟩ := h
  refine ⟨h1, ?_⟩
  rcases h2 with h2 | ⟨g, cap, cur, hv, hg, hh, rest⟩
  · exact .inl h2
  · exact .inr ⟨g, cap, cur, hv, hg, (hb.block g (Array.getElem?_eq_some_iff.1 hh).1).trans hh, rest⟩

/-- A block of another kind is not the row's. -/
theorem own_other {w : World} {base : Nat} {e : TypeId} {size : Nat} {v : Value} {n : Nat} {xs : List Value} {B : Nat} {C : Array Value} {t : TypeId} (h : w.ownsRow base e size v n xs) (hB : w.heap[B]? = some (.cells C t)) (hne : e ≠ t) : some B ≠ v.ownBlock := by
  intro hk
  rcases h.2 with ⟨rfl, _⟩ | ⟨g, cap, cur, rfl, _, hb, _⟩
  · cases hk
  · cases hk
    rw [hb] at hB
    injection hB with hB
    injection hB with h1 h2 h3
    exact hne h2

set_option maxHeartbeats 3200000 in
theorem changesOf_any (vk vp ve : Value) (es : List Ent) (w : World) (he : EntsAt w ve es) (hsz : sumN (fun e => e.fs.length) es ≤ 1048576) (hel : es.length ≤ 1048576) :
    Calls Tryz.prog 25 #[.agg #[vk, vp, ve]] w fun e w' => ∃ v, e = .returned v ∧ ChgsNew w' w.heap.size v (chgsOf es) ∧ Below w.heap.size w w' := by
  obtain ⟨i0, hi, hz0, hz1, hz2⟩ := info_parts infoChange
  obtain ⟨ae, ce, rfl, hlc, hcm, hc⟩ := he
  unfold maxLen at hcm
  have HC : Hid (∀ i f, es[i]? = some f → ∃ b off, ae = some ⟨b, off, none⟩ ∧ EntAt w b (off + i * 2) f) := hc
  have HSZ : Hid (∀ k, (chgsOf (es.take k)).length ≤ 1048576) := fun k => by
    rw [chgsOf_len]; exact Nat.le_trans (sumN_take_le _ es k) hsz
  clear hc
  have HX0 : Hid (Below w.heap.size w (w.alloc (.cells #[vk, vp, .slice ae es.length ce] 37))) := (Below.refl _ _).alloc (Nat.le_refl _) _
  go_enter Tryz.func25, Tryz.ntmps25
  go_wp2
  go_loopw [3, 5, 7, 11] (fun o _ _ i wr => ∃ k : Nat, k ≤ es.length ∧ i = .int .i64 k ∧ ChgsNew wr w.heap.size o (chgsOf (es.take k)) ∧ Below w.heap.size w wr) (fun _ _ _ i _ => es.length - (intOf i).toNat)
  case atStart => exact ⟨0, Nat.zero_le _, rfl, ⟨rfl, .inl ⟨rfl, rfl⟩⟩, HX0.out⟩
  case round =>
    obtain ⟨k, hk, rfl, hown, hb⟩ := hrel
    by_cases hlt : k < es.length
    · obtain ⟨b, off, rfl, hc⟩ := HC.out k _ (eat_get hlt)
      obtain ⟨fv, d0', d1', hfl⟩ := hc
      have d0 := cell_keep hb (Nat.le_refl _) d0'
      have d1 := cell_keep hb (Nat.le_refl _) d1'
      have HK : Hid (chgsOf (es.take (k + 1)) = chgsOf (es.take k) ++ (eat es k).fs.map (chgOf (eat es k).name) ∧ (chgsOf (es.take (k + 1))).length ≤ 1048576) := ⟨chgsOf_take es k _ (eat_get hlt), HSZ.out (k + 1)⟩
      obtain ⟨fa, fc, rfl, hfc, hfm, hfe⟩ := hfl
      unfold maxLen at hfm
      have HFE : Hid (∀ i f, (eat es k).fs[i]? = some f → ∃ b off, fa = some ⟨b, off, none⟩ ∧ FldAt w b (off + i * 3) f) := hfe
      clear hfe d0' d1'
      generalize eat es k = t at *
      obtain ⟨nm, fs⟩ := t
      dsimp only at *
      have hk0 : (0 : Int) ≤ (k : Int) := by omega
      have hk1 : (k : Int) < (es.length : Int) := by omega
      have HOW : Hid (ChgsNew wr w.heap.size u3 (chgsOf (es.take k))) := hown
      have HB1 : Hid ((wr.alloc (.cells #[.string nm, .slice fa fs.length fc] 60)).heap[wr.heap.size]? = some (.cells #[.string nm, .slice fa fs.length fc] 60)) := by show (wr.heap.push _)[wr.heap.size]? = _; simp
      generalize hcs : chgsOf (es.take k) = cs at *
      clear hcs hown
      go_wp2
      obtain ⟨B5, hB5⟩ : ∃ B5, wr.heap.size = B5 := ⟨_, rfl⟩
      have HST : Hid (ChgsNew (wr.alloc (.cells #[.string nm, .slice fa fs.length fc] 60)) w.heap.size u3 cs) := ownsRow_keep HOW.out ((Below.refl _ _).alloc (Nat.le_refl _) _)
      have HBS : Hid (Below w.heap.size w (wr.alloc (.cells #[.string nm, .slice fa fs.length fc] 60))) := hb.alloc hb.size _
      rw [hB5] at HB1
      simp only [hB5]
      generalize wr.alloc (.cells #[.string nm, .slice fa fs.length fc] 60) = ws at *
      clear HOW d0 d1 hb hB5
      go_loopw [3, 7, 18] (fun o _ i wx => ∃ j : Nat, j ≤ fs.length ∧ i = .int .i64 j ∧ ChgsNew wx w.heap.size o (cs ++ (fs.take j).map (chgOf nm)) ∧ Below w.heap.size w wx ∧ wx.heap[B5]? = some (.cells #[.string nm, .slice fa fs.length fc] 60)) (fun _ _ i _ => fs.length - (intOf i).toNat)
      case atStart => exact ⟨0, Nat.zero_le _, rfl, by simpa using HST.out, HBS.out, HB1.out⟩
      case round =>
        clear HST HBS HB1
        obtain ⟨j, hj, rfl, hown, hbx, hbox⟩ := hrel
        have n0 : wr.cell? ⟨B5, 0, none⟩ = some (.string nm) := by simp [World.cell?, hbox]
        have n1 : wr.cell? ⟨B5, 1, none⟩ = some (.slice fa fs.length fc) := by simp [World.cell?, hbox]
        have hz5 : B5 < wr.heap.size := (Array.getElem?_eq_some_iff.1 hbox).1
        by_cases hjl : j < fs.length
        · obtain ⟨fb, fo, rfl, hf⟩ := HFE.out j _ (fat_get hjl)
          obtain ⟨g0, g1, g2⟩ := hf.keep hbx (Nat.le_refl _)
          have HJ : Hid (cs ++ (fs.take (j + 1)).map (chgOf nm) = cs ++ (fs.take j).map (chgOf nm) ++ [chgOf nm (fat fs j)] ∧ (cs ++ (fs.take j).map (chgOf nm)).length + 1 ≤ 1048576) := by
            refine ⟨?_, ?_⟩
            · have : fs[j] = fat fs j := by simp [fat, hjl]
              rw [List.take_succ_eq_append_getElem hjl, List.map_append, this]; simp
            · have h1 := HK.out.2
              rw [HK.out.1] at h1
              simp at h1 ⊢; omega
          have HBX : Hid (Below w.heap.size w wr) := hbx
          have HBO : Hid (wr.heap[B5]? = some (.cells #[.string nm, .slice (some ⟨fb, fo, none⟩) fs.length fc] 60)) := hbox
          have HON : Hid (ChgsNew wr w.heap.size u3 (cs ++ (fs.take j).map (chgOf nm))) := hown
          clear hf hbx hbox hown
          generalize fat fs j = t at *
          generalize hcc : cs ++ (fs.take j).map (chgOf nm) = cc at *
          clear hcc
          have hj0 : (0 : Int) ≤ (j : Int) := by omega
          have hj1 : (j : Int) < (fs.length : Int) := by omega
          have HAL : Hid (Below wr.heap.size wr (wr.alloc (.cells #[.int .i64 t.what, .int .i64 t.num, .string t.v] 62))) := (Below.refl _ _).alloc (Nat.le_refl _) _
          go_wp2_with fail
          refine (changeOf_any t nm _).mono ?_
          rintro e w1 ⟨rfl, hb1⟩
          have hbw1 : Below wr.heap.size wr w1 := below_step HAL.out hb1
          have hown1 : ChgsNew w1 w.heap.size u3 cc := ownsRow_keep HON.out hbw1
          have hbox1 := (hbw1.block B5 hz5).trans HBO.out
          have hsz1 := hbw1.size
          have hB1 : Below w.heap.size w w1 := below_step HBX.out hbw1
          have hlen : cc.length + 1 ≤ 1048576 := HJ.out.2
          go_wp2_with (at_builtin; refine wpList_append_own _ rfl _ _ 69 rfl w.heap.size 65 i0 (.agg #[.string ByteArray.empty, .int .i64 0, .int .i64 0, .string ByteArray.empty]) 4 48 Tryz.underlying69 hi hz0 hz1 hz2 rfl (by decide) _ _ _ rfl (hown1.alloc _) ⟨w1.heap.size, 0, none⟩ 1 1 (chgRow (chgOf nm t)) rfl rfl (cell_four_new _ _ _ _ _ _) (fun x hx => by simp [chgRow, chgOf] at hx; rcases hx with rfl | rfl | rfl | rfl <;> rfl) (by unfold maxLen; omega) (by omega) (by have := hB1.size; simp; omega) ?_; intro v' w3 hown' hgrow3 hnil3)
          have hbox3 : w3.heap[B5]? = _ := (hgrow3.block B5 (by simp; omega) (own_other hown1 hbox1 (by decide))).trans ((Below.heap_alloc _ _ _ (by omega)).trans hbox1)
          refine ⟨⟨j + 1, by omega, by go_num, ?_, (hB1.alloc hB1.size _).grown hgrow3 (by have := hB1.size; simp; omega) (own_ge hown1), hbox3⟩, by simp [intOf]; omega⟩
          rw [HJ.out.1]
          unfold ChgsNew
          rw [chgRows_snoc, List.length_append]
          exact hown'
        · have HFI : Hid (ChgsNew wr w.heap.size u3 (chgsOf (es.take (k + 1)))) := by
            show ChgsNew wr w.heap.size u3 _
            rw [HK.out.1]
            rw [List.take_of_length_le (by omega)] at hown; exact hown
          go_wp2
          exact ⟨⟨k + 1, by omega, by go_num, HFI.out, hbx⟩, by simp [intOf]; omega⟩
    · have HFI : Hid (ChgsNew wr w.heap.size u3 (chgsOf es)) := by
        rw [List.take_of_length_le (by omega)] at hown; exact hown
      go_wp2
      go_ret
      exact ⟨u3, rfl, HFI.out, hb⟩
end Go.Proofs.YtfjblenkcfdbiaaGreatDoor
