
/-
  Drawing: a text out of a list; a text many times; values that do not fit.
-/
import Derived.Test.YtibpkhmiahamcaaGreatDoorDr1
import Derived.Test.YtibpkhmiahamcaaGreatDoorBl
import Derived.Test.YtibpkhmiahamcaaGreatDoorBook4
namespace Go.Proofs.YtibpkhmiahamcaaGreatDoor.Dr
open Go.RowKit Go.Proofs.YtibpkhmiahamcaaGreatDoor
set_option linter.unusedSimpArgs false
set_option linter.unusedVariables false

/-- A text's cell does not lie in the reader. -/
theorem str_not {w : World} {R p b o : Nat} {s : ByteArray} (h : Rd w R p) (hc : w.cell? ⟨b, o, none⟩ = some (.string s)) : b ≠ R := by
  obtain ⟨v, n, hn, hx, a, cap, rfl, -⟩ := h.box
  intro e
  subst e
  simp only [World.cell?, hx] at hc
  rcases o with - | - | o <;> simp at hc
theorem cell_box {w w' : World} {R b o : Nat} {u : Value} (hg : w.grownBy w' (some R)) (hb : b ≠ R) (hc : w.cell? ⟨b, o, none⟩ = some u) : w'.cell? ⟨b, o, none⟩ = some u := by
  rw [World.cell?_of_block (w := w) (hg.block b (lt_of_cell hc) (fun e => hb (Option.some.inj e)))]
  exact hc
theorem StrsAt_box {w w' : World} {R p : Nat} {v : Value} {ws : List ByteArray} (h : StrsAt w v ws) (hr : Rd w R p) (hg : w.grownBy w' (some R)) : StrsAt w' v ws := by
  obtain ⟨g, off, cap, rfl, h1, h2, h3⟩ := h
  exact ⟨g, off, cap, rfl, h1, h2, fun i x hx => cell_box hg (str_not hr (h3 i x hx)) (h3 i x hx)⟩
theorem TrisAt_box {w w' : World} {R p : Nat} {v : Value} {l : List Tri} (h : TrisAt w v l) (hr : Rd w R p) (hg : w.grownBy w' (some R)) : TrisAt w' v l := by
  obtain ⟨a, cap, rfl, h1, h2, h3⟩ := h
  refine ⟨a, cap, rfl, h1, h2, fun i t ht => ?_⟩
  obtain ⟨b, off, e, d0, d1, d2⟩ := h3 i t ht
  have hb := str_not hr d0
  exact ⟨b, off, e, cell_box hg hb d0, cell_box hg hb d1, cell_box hg hb d2⟩
theorem FldsAt_box {w w' : World} {R p : Nat} {v : Value} {l : List Fld} (h : FldsAt w v l) (hr : Rd w R p) (hg : w.grownBy w' (some R)) : FldsAt w' v l := by
  obtain ⟨a, cap, rfl, h1, h2, h3⟩ := h
  refine ⟨a, cap, rfl, h1, h2, fun i t ht => ?_⟩
  obtain ⟨b, off, e, d0, d1, d2⟩ := h3 i t ht
  have hb := str_not hr d2
  exact ⟨b, off, e, cell_box hg hb d0, cell_box hg hb d1, cell_box hg hb d2⟩
theorem EntsAt_box {w w' : World} {R p : Nat} {v : Value} {l : List Ent} (h : EntsAt w v l) (hr : Rd w R p) (hg : w.grownBy w' (some R)) : EntsAt w' v l := by
  obtain ⟨a, cap, rfl, h1, h2, h3⟩ := h
  refine ⟨a, cap, rfl, h1, h2, fun i t ht => ?_⟩
  obtain ⟨b, off, e, fv, d0, d1, hf⟩ := h3 i t ht
  have hb := str_not hr d0
  exact ⟨b, off, e, fv, cell_box hg hb d0, cell_box hg hb d1, FldsAt_box hf hr hg⟩
theorem BookAt_box {w w' : World} {R p : Nat} {vk vp ve : Value} {ks ps : List Tri} {es : List Ent} (h : BookAt w vk vp ve ks ps es) (hr : Rd w R p) (hg : w.grownBy w' (some R)) : BookAt w' vk vp ve ks ps es :=
  ⟨TrisAt_box h.k hr hg, TrisAt_box h.p hr hg, EntsAt_box h.e hr hg⟩
def wst (ws : List ByteArray) (i : Nat) : ByteArray := ws.getD i ⟨#[]⟩
theorem wst_get {ws : List ByteArray} {i : Nat} (h : i < ws.length) : ws[i]? = some (wst ws i) := by simp [wst, h]
set_option maxHeartbeats 1600000 in
theorem of_any (R p : Nat) (v : Value) (ws : List ByteArray) (w : World) (h : Rd w R p) (hp : p ≤ 1000000) (hv : StrsAt w v ws) (hw : 1 ≤ ws.length ∧ ws.length ≤ 1000) :
    Calls Tryz.prog 41 #[.pointer (some ⟨R, 0, none⟩), v] w fun e w' => ∃ s, e = .returned (.string s) ∧ s ∈ ws ∧ Rd w' R (p + 1) ∧ w.grownBy w' (some R) := by
  have HV : Hid (∀ w', w.grownBy w' (some R) → StrsAt w' v ws) := fun w' hg => StrsAt_box hv h hg
  have HP : Hid (Calls Tryz.prog 16 #[.pointer (some ⟨R, 0, none⟩), .int .i64 (ws.length : Int)] w fun e w' => ∃ x : Int, e = .returned (.int .i64 x) ∧ 0 ≤ x ∧ (1 ≤ (ws.length : Int) → x < (ws.length : Int)) ∧ ((ws.length : Int) < 1 → x = 0) ∧ Rd w' R (p + 1) ∧ w.grownBy w' (some R)) := pick_any R p _ w h hp (by omega)
  obtain ⟨g, off, cap, rfl, h1, h2, -⟩ := hv
  unfold maxLen at h2
  obtain ⟨hw1, hw2⟩ := hw
  go_enter Tryz.func41, Tryz.ntmps41
  go_wp2_with fail
  refine HP.out.mono ?_
  rintro e w1 ⟨x, rfl, hx0, hx1, -, hr, hg⟩
  have hx1' := hx1 (by omega)
  obtain ⟨i, rfl⟩ : ∃ i : Nat, x = i := ⟨x.toNat, by omega⟩
  obtain ⟨g', off', cap', e9, -, -, h3⟩ := HV.out _ hg
  cases e9
  have c0 := h3 i _ (wst_get (by omega))
  have HM : Hid (wst ws i ∈ ws) := List.mem_of_getElem? (wst_get (by omega))
  have HR := toHid hr
  have HG := toHid hg
  clear h3 hr hg hx1
  generalize wst ws i = s at *
  go_wp2
  go_ret
  exact ⟨s, rfl, HM.out, HR.out, HG.out⟩
set_option maxHeartbeats 1600000 in
theorem l1Many_any (s : ByteArray) (n : Nat) (w : World) (hs : s.size * n ≤ 1000) (hn : n ≤ 1000) (hs1 : s.size ≤ 1000) :
    Calls Tryz.prog 43 #[.string s, .int .i64 n] w fun e w' => ∃ t : ByteArray, e = .returned (.string t) ∧ t.size ≤ s.size * n ∧ w' = w := by
  go_enter Tryz.func43, Tryz.ntmps43
  go_wp2
  go_loopw [0, 1, 5] (fun sv nv ov wr => ∃ (a b : ByteArray) (m : Nat), sv = .string a ∧ nv = .int .i64 m ∧ ov = .string b ∧ Hid (wr = w) ∧ Hid (a.size * m + b.size = s.size * n ∧ m ≤ n ∧ (m = 0 ∨ a.size ≤ 1000))) (fun _ nv _ _ => (intOf nv).toNat)
  case atStart => exact ⟨s, ⟨#[]⟩, n, rfl, rfl, rfl, rfl, (by show s.size * n + 0 = _; omega), Nat.le_refl _, .inr hs1⟩
  case round =>
    obtain ⟨a, b, m, rfl, rfl, rfl, HW, HI⟩ := hrel
    by_cases hm : m = 0
    · subst hm
      have hb := HI.out.1
      have HB : Hid (b.size ≤ s.size * n) := by show _ ≤ _; omega
      clear HI
      go_wp2
      go_ret
      exact ⟨b, rfl, HB.out, HW.out⟩
    · have hm0 : (0 : Int) < (m : Int) := by omega
      have hmn : (0 : Int) ≤ (m : Int) := by omega
      obtain ⟨h1, h2, h3⟩ := HI.out
      have ha : a.size ≤ 1000 := by omega
      have hb : b.size ≤ 1000 := by omega
      obtain ⟨q, r, hq, hr⟩ : ∃ q r : Nat, m = 2 * q + r ∧ r < 2 := ⟨m / 2, m % 2, by omega, by omega⟩
      have hdiv : ((m : Int) / 2) = (q : Int) := by omega
      have hmod : ((m : Int) % 2) = (r : Int) := by omega
      have HQW : Hid (wrap64 (q : Int) = (q : Int)) := by show _ = _; unfold wrap64; omega
      have e1 : a.size * m = (a.size + a.size) * q + a.size * r := by rw [hq, Nat.mul_add, ← Nat.mul_assoc, Nat.mul_comm a.size 2, Nat.two_mul]
      by_cases hr1 : r = 1
      · have hrb : ((r : Int) == 1) = true := by simp [hr1]
        have HN : Hid ((a ++ a).size * q + (b ++ a).size = s.size * n ∧ q ≤ n ∧ (q = 0 ∨ (a ++ a).size ≤ 1000)) := by
          rw [hr1] at e1
          refine ⟨by simp only [ByteArray.size_append]; omega, by omega, ?_⟩
          by_cases hq0 : q = 0
          · exact .inl hq0
          · right
            simp only [ByteArray.size_append]
            have := Nat.le_mul_of_pos_right (a.size + a.size) (show 0 < q by omega)
            omega
        have HQ : Hid (q < m) := by show q < m; omega
        clear h1 h2 h3 e1 hq hr hr1 HI
        go_wp2
        exact ⟨⟨a ++ a, b ++ a, q, rfl, by rw [HQW.out], rfl, HW, HN⟩, by have := HQ.out; rw [HQW.out]; simp only [intOf]; omega⟩
      · have hrb : ((r : Int) == 1) = false := by simp; omega
        have HN : Hid ((a ++ a).size * q + b.size = s.size * n ∧ q ≤ n ∧ (q = 0 ∨ (a ++ a).size ≤ 1000)) := by
          have hr0 : r = 0 := by omega
          rw [hr0] at e1
          refine ⟨by simp only [ByteArray.size_append]; omega, by omega, ?_⟩
          by_cases hq0 : q = 0
          · exact .inl hq0
          · right
            simp only [ByteArray.size_append]
            have := Nat.le_mul_of_pos_right (a.size + a.size) (show 0 < q by omega)
            omega
        have HQ : Hid (q < m) := by show q < m; omega
        clear h1 h2 h3 e1 hq hr hr1 HI
        go_wp2
        exact ⟨⟨a ++ a, b, q, rfl, by rw [HQW.out], rfl, HW, HN⟩, by have := HQ.out; rw [HQW.out]; simp only [intOf]; omega⟩
end Go.Proofs.YtibpkhmiahamcaaGreatDoor.Dr
