/-
  Joined: St8, St9.
-/
import Derived.Test.YtfjblenkcfdbiaaGreatDoorSt7
import Derived.Deep.RegionHeld3
set_option linter.unusedSimpArgs false
set_option linter.unusedVariables false

namespace Go.Proofs.YtfjblenkcfdbiaaGreatDoor.Sd
open Go.RowKit Go.Proofs.YtfjblenkcfdbiaaGreatDoor

/-- The last of these fields that says this. -/
def lastV : List Fld → Int → Option Fld
  | [], _ => none
  | f :: r, x => match lastV r x with
    | some g => some g
    | none => if f.what = x then some f else none
theorem lastV_snoc (x : Int) : ∀ (l : List Fld) (f : Fld), lastV (l ++ [f]) x = if f.what = x then some f else lastV l x
  | [], f => by simp [lastV]
  | g :: l, f => by
    rw [List.cons_append, lastV, lastV_snoc x l f, lastV]
    by_cases h : f.what = x
    · simp [h]
    · simp [h]
def kdOf (ks : List Tri) : Option Fld → Tri
  | some f => at' ks (plc ks f.v)
  | none => ⟨⟨#[]⟩, 0, 0⟩
def frOf : Option Fld → Int
  | some f => tmF (cutW f.v)
  | none => 0
def byOf : Option Fld → Int
  | some f => tmY (cutW f.v)
  | none => 0
def lvOf : Option Fld → Int
  | some f => rdN f.v
  | none => 0
theorem grown_setI (w : World) (b i : Nat) (v : Value) : w.grownBy (w.setCell ⟨b, i, none⟩ v) (some b) :=
  ⟨rfl, rfl, rfl, by simp, fun j _ hr => Below.heap_setCell w ⟨b, i, none⟩ v j (fun e => hr (by rw [e]))⟩
/-- The route's list: of one's own, or nil. -/
def RtIs (w : World) (B : Nat) (rt : Value) : Option Fld → Prop
  | some f => SNew w B rt (cutW f.v)
  | none => rt = .slice none 0 0
theorem RtIs.keep {w w' : World} {B : Nat} {rt : Value} {o : Option Fld} (h : RtIs w B rt o) (hb : Below w.heap.size w w') : RtIs w' B rt o := by
  cases o with
  | none => exact h
  | some f => exact Lv.own_keep (show SNew w B rt (cutW f.v) from h) hb
theorem RtIs.slice {w : World} {B : Nat} {rt : Value} {o : Option Fld} (h : RtIs w B rt o) : ∃ a n c, rt = .slice a n c := by
  cases o with
  | none => exact ⟨none, 0, 0, h⟩
  | some f =>
    obtain ⟨a, c, e⟩ := Lv.own_slice (show SNew w B rt (cutW f.v) from h)
    exact ⟨a, _, c, e⟩
theorem RtIs.set {w : World} {B Fb i : Nat} {rt x : Value} {o : Option Fld} {cs : Array Value} (h : RtIs w B rt o) (hF : w.heap[Fb]? = some (.cells cs 45 (0, 0))) : RtIs (w.setCell ⟨Fb, i, none⟩ x) B rt o := by
  cases o with
  | none => exact h
  | some f =>
    have h' : SNew w B rt (cutW f.v) := h
    exact Lv.own_far h' (row := some Fb) (grown_setI w Fb i x) (fun k hk e => own_type h' hF (by decide) (by rw [hk, e]))
theorem RtIs.row {w : World} {B Fb : Nat} {rt : Value} {o : Option Fld} {cs cs' : Array Value} (h : RtIs w B rt o) (hF : w.heap[Fb]? = some (.cells cs 45 (0, 0))) : RtIs (w.setRow Fb cs') B rt o := by
  cases o with
  | none => exact h
  | some f =>
    have h' : SNew w B rt (cutW f.v) := h
    exact Lv.own_far h' (grown_rowS w Fb cs') (fun k hk e => own_type h' hF (by decide) (by rw [hk, e]))
/-- A flight's cells. -/
def flC (nm : ByteArray) (k : Tri) (fr b l : Int) (rt : Value) : Array Value := #[.string nm, .string k.s, .int .i64 k.x, .int .i64 k.y, .int .i64 fr, .int .i64 b, .int .i64 l, rt]
theorem row_setCell {w : World} {b o : Nat} {cs : Array Value} {x : Value} {t : TypeId} (h : w.heap[b]? = some (.cells cs t (0, 0))) : (w.setCell ⟨b, o, none⟩ x).heap[b]? = some (.cells (cs.setIfInBounds o x) t (0, 0)) := by
  have hlt := lt_of_block h
  have h' : w.heap[b] = .cells cs t (0, 0) := by simpa [Array.getElem?_eq_getElem hlt] using h
  show (w.heap.modify b _)[b]? = _
  rw [Array.getElem?_eq_getElem (by simpa using hlt), Array.getElem_modify_self, h']
  rfl
theorem fl_free {W : World} {b i : Nat} {cs : Array Value} {t : TypeId} (h : W.heap[b]? = some (.cells cs t (0, 0))) (hs : cs.size = 8) (hi : i < 8) : (∃ v, W.cell? ⟨b, i, none⟩ = some v) ∧ W.frozen? ⟨b, i, none⟩ = false := by
  simp [World.cell?, World.frozen?, h, hs, hi]
def flO (ks : List Tri) (nm : ByteArray) (l : List Fld) (rt : Value) : Array Value := flC nm (kdOf ks (lastV l 1)) (frOf (lastV l 2)) (byOf (lastV l 2)) (lvOf (lastV l 3)) rt
set_option maxRecDepth 100000 in
set_option maxHeartbeats 12800000 in
theorem flight_any (D B : Nat) (v : Value) (nm : ByteArray) (ks ps : List Tri) (fs : List Fld) (w : World) (hD : w.heap[D]? = some (.cells #[v, .string nm] 124 (0, 0))) (hP : PartsNew w B v ks fs) (hfit : ∀ f ∈ fs, valB2 ks ps f.what f.v = true) (hnm : nm.size ≤ 1048576) :
    Calls Tryz.prog 74 #[.pointer (some ⟨D, 0, none⟩)] w fun e w' => ∃ rt, e = .returned (.agg (flO ks nm fs rt)) ∧ RtIs w' B rt (lastV fs 4) ∧ Below w.heap.size w w' := by
  obtain ⟨a, c, rfl, hlc, hcm, hc⟩ := hP.cells
  unfold maxLen at hcm
  obtain ⟨d0, d1⟩ := cell_two hD
  have HC : Hid (∀ i, i < fs.length → ∃ g u, a = some ⟨g, 0, none⟩ ∧ w.cell? ⟨g, i, none⟩ = some (pv ks (fat fs i) u) ∧ ((fat fs i).what = 4 → SNew w B u (cutW (fat fs i).v))) := hc
  have HFT : Hid (∀ i, i < fs.length → (fat fs i).what = 1 ∨ (fat fs i).what = 2 ∨ (fat fs i).what = 3 ∨ (fat fs i).what = 4 ∨ (fat fs i).what = 5) := fun i hi => what_in (hfit _ (List.mem_of_getElem? (fat_get hi)))
  clear hc hP hfit
  have HDD : Hid (w.heap[D]? = some (.cells #[.slice a fs.length c, .string nm] 124 (0, 0))) := hD
  have A1 : Hid (Below w.heap.size w (w.alloc (.cells #[.string ⟨#[]⟩, .string ⟨#[]⟩, .int .i64 0, .int .i64 0, .int .i64 0, .int .i64 0, .int .i64 0, .slice none 0 0] 45))) := (Below.refl _ _).alloc (Nat.le_refl _) _
  have R1 : Hid ((w.alloc (.cells #[.string ⟨#[]⟩, .string ⟨#[]⟩, .int .i64 0, .int .i64 0, .int .i64 0, .int .i64 0, .int .i64 0, .slice none 0 0] 45)).heap[w.heap.size]? = some (.cells #[.string ⟨#[]⟩, .string ⟨#[]⟩, .int .i64 0, .int .i64 0, .int .i64 0, .int .i64 0, .int .i64 0, .slice none 0 0] 45 (0, 0))) := Lv.heap_newF w _
  obtain ⟨d0, d1⟩ := cell_two (below_block A1.out hD)
  clear hD
  go_enter Tryz.func74, Tryz.ntmps74
  go_wp2_with fail
  generalize (w.alloc (.cells #[.string ⟨#[]⟩, .string ⟨#[]⟩, .int .i64 0, .int .i64 0, .int .i64 0, .int .i64 0, .int .i64 0, .slice none 0 0] 45)) = w1 at *
  refine (clone_any nm _ hnm).mono ?_
  rintro e w2 ⟨rfl, hb2⟩
  have B2 : Hid (Below w.heap.size w w2) := below_step A1.out hb2
  have R2 : Hid (w2.heap[w.heap.size]? = some (.cells #[.string ⟨#[]⟩, .string ⟨#[]⟩, .int .i64 0, .int .i64 0, .int .i64 0, .int .i64 0, .int .i64 0, .slice none 0 0] 45 (0, 0))) := below_block hb2 R1.out
  clear hb2 d0 d1 A1 R1
  have A3 : Hid (Below w2.heap.size w2 (w2.alloc (.cells #[.string nm, .string ⟨#[]⟩, .int .i64 0, .int .i64 0, .int .i64 0, .int .i64 0, .int .i64 0, .slice none 0 0] 45))) := (Below.refl _ _).alloc (Nat.le_refl _) _
  have F3 : Hid ((w2.alloc (.cells #[.string nm, .string ⟨#[]⟩, .int .i64 0, .int .i64 0, .int .i64 0, .int .i64 0, .int .i64 0, .slice none 0 0] 45)).heap[w2.heap.size]? = some (.cells #[.string nm, .string ⟨#[]⟩, .int .i64 0, .int .i64 0, .int .i64 0, .int .i64 0, .int .i64 0, .slice none 0 0] 45 (0, 0))) := Lv.heap_newF w2 _
  have B3 : Hid (Below w.heap.size w (w2.alloc (.cells #[.string nm, .string ⟨#[]⟩, .int .i64 0, .int .i64 0, .int .i64 0, .int .i64 0, .int .i64 0, .slice none 0 0] 45))) := below_step B2.out A3.out
  have R3 : Hid ((w2.alloc (.cells #[.string nm, .string ⟨#[]⟩, .int .i64 0, .int .i64 0, .int .i64 0, .int .i64 0, .int .i64 0, .slice none 0 0] 45)).heap[w.heap.size]? = some (.cells #[.string ⟨#[]⟩, .string ⟨#[]⟩, .int .i64 0, .int .i64 0, .int .i64 0, .int .i64 0, .int .i64 0, .slice none 0 0] 45 (0, 0))) := below_block A3.out R2.out
  have N3 : Hid (w.heap.size < w2.heap.size) := lt_of_block R2.out
  obtain ⟨d0, d1⟩ := cell_two (below_block B3.out HDD.out)
  clear A3 B2 R2
  go_wp2_with fail
  generalize (w2.alloc (.cells #[.string nm, .string ⟨#[]⟩, .int .i64 0, .int .i64 0, .int .i64 0, .int .i64 0, .int .i64 0, .slice none 0 0] 45)) = w3 at *
  generalize w2.heap.size = Fb at *
  clear d0 d1
  go_loopw [26] (fun i wr => ∃ (k : Nat) (rt : Value), k ≤ fs.length ∧ i = .int .i64 k ∧ Hid (wr.heap[Fb]? = some (.cells (flO ks nm (fs.take k) rt) 45 (0, 0)) ∧ RtIs wr B rt (lastV (fs.take k) 4) ∧ Below w.heap.size w wr ∧ wr.heap[w.heap.size]? = some (.cells #[.string ⟨#[]⟩, .string ⟨#[]⟩, .int .i64 0, .int .i64 0, .int .i64 0, .int .i64 0, .int .i64 0, .slice none 0 0] 45 (0, 0)))) (fun i _ => fs.length - (intOf i).toNat)
  case atStart => exact ⟨0, .slice none 0 0, Nat.zero_le _, rfl, F3.out, rfl, B3.out, R3.out⟩
  case round =>
    obtain ⟨k, rt, hk, rfl, HI⟩ := hrel
    by_cases hlt : k < fs.length
    · obtain ⟨g, u, rfl, e0, hsu⟩ := HC.out k hlt
      have c0 := cell_keep HI.out.2.2.1 (Nat.le_refl _) e0
      have hk0 : (0 : Int) ≤ (k : Int) := by omega
      have hk1 : (k : Int) < (fs.length : Int) := by omega
      obtain ⟨f, hf⟩ : ∃ f, fat fs k = f := ⟨_, rfl⟩
      have HTS : Hid (fs.take (k + 1) = fs.take k ++ [f]) := by
        show _ = _
        rw [List.take_succ_eq_append_getElem hlt, ← hf]
        simp [fat, hlt]
      have hw := HFT.out k hlt
      rw [hf] at c0 hw hsu
      have HSU : Hid (f.what = 4 → SNew w B u (cutW f.v)) := hsu
      clear hf e0 hsu
      obtain ⟨wh, num, vl⟩ := f
      dsimp only at hw
      rcases hw with rfl | rfl | rfl | rfl | rfl
      · rw [pv1] at c0
        have ha1 := as1_1
        have ha2 := as1_2
        have ha3 := as1_3
        have ha4 := as1_4
        obtain ⟨tr, htr⟩ : ∃ tr, at' ks (plc ks vl) = tr := ⟨_, rfl⟩
        rw [htr] at c0
        have AS : Hid (Below wr.heap.size wr (wr.alloc (.cells #[.string tr.s, .int .i64 tr.x, .int .i64 tr.y] 166))) := ((Below.refl _ _).alloc (by first | (simp; done) | (simp; omega)) _)
        have FS : Hid ((wr.alloc (.cells #[.string tr.s, .int .i64 tr.x, .int .i64 tr.y] 166)).heap[Fb]? = some (.cells (flO ks nm (fs.take k) rt) 45 (0, 0))) := below_block AS.out HI.out.1
        have RS : Hid ((wr.alloc (.cells #[.string tr.s, .int .i64 tr.x, .int .i64 tr.y] 166)).heap[w.heap.size]? = some (.cells #[.string ⟨#[]⟩, .string ⟨#[]⟩, .int .i64 0, .int .i64 0, .int .i64 0, .int .i64 0, .int .i64 0, .slice none 0 0] 45 (0, 0))) := below_block AS.out HI.out.2.2.2
        obtain ⟨⟨v1, g1⟩, z1⟩ := fl_free (W := (wr.alloc (.cells #[.string tr.s, .int .i64 tr.x, .int .i64 tr.y] 166))) (i := 1) FS.out (by simp [flO, flC]) (by omega)
        obtain ⟨⟨v2, g2⟩, z2⟩ := fl_free (W := ((wr.alloc (.cells #[.string tr.s, .int .i64 tr.x, .int .i64 tr.y] 166)).setCell ⟨Fb, 1, none⟩ (.string tr.s))) (i := 2) (row_setCell (o := 1) (x := .string tr.s) FS.out) (by simp [flO, flC]) (by omega)
        obtain ⟨⟨v3, g3⟩, z3⟩ := fl_free (W := (((wr.alloc (.cells #[.string tr.s, .int .i64 tr.x, .int .i64 tr.y] 166)).setCell ⟨Fb, 1, none⟩ (.string tr.s)).setCell ⟨Fb, 2, none⟩ (.int .i64 tr.x))) (i := 3) (row_setCell (o := 2) (x := .int .i64 tr.x) (row_setCell (o := 1) (x := .string tr.s) FS.out)) (by simp [flO, flC]) (by omega)
        have F2 : Hid (((((wr.alloc (.cells #[.string tr.s, .int .i64 tr.x, .int .i64 tr.y] 166)).setCell ⟨Fb, 1, none⟩ (.string tr.s)).setCell ⟨Fb, 2, none⟩ (.int .i64 tr.x)).setCell ⟨Fb, 3, none⟩ (.int .i64 tr.y)).heap[Fb]? = some (.cells (flO ks nm (fs.take (k + 1)) rt) 45 (0, 0)) ∧ ((((wr.alloc (.cells #[.string tr.s, .int .i64 tr.x, .int .i64 tr.y] 166)).setCell ⟨Fb, 1, none⟩ (.string tr.s)).setCell ⟨Fb, 2, none⟩ (.int .i64 tr.x)).setCell ⟨Fb, 3, none⟩ (.int .i64 tr.y)).heap[w.heap.size]? = some (.cells #[.string ⟨#[]⟩, .string ⟨#[]⟩, .int .i64 0, .int .i64 0, .int .i64 0, .int .i64 0, .int .i64 0, .slice none 0 0] 45 (0, 0))) := by
          refine ⟨?_, ((Below.heap_setCell (((wr.alloc (.cells #[.string tr.s, .int .i64 tr.x, .int .i64 tr.y] 166)).setCell ⟨Fb, 1, none⟩ (.string tr.s)).setCell ⟨Fb, 2, none⟩ (.int .i64 tr.x)) ⟨Fb, 3, none⟩ (.int .i64 tr.y) w.heap.size (by have := N3.out; simp; omega)).trans ((Below.heap_setCell ((wr.alloc (.cells #[.string tr.s, .int .i64 tr.x, .int .i64 tr.y] 166)).setCell ⟨Fb, 1, none⟩ (.string tr.s)) ⟨Fb, 2, none⟩ (.int .i64 tr.x) w.heap.size (by have := N3.out; simp; omega)).trans ((Below.heap_setCell (wr.alloc (.cells #[.string tr.s, .int .i64 tr.x, .int .i64 tr.y] 166)) ⟨Fb, 1, none⟩ (.string tr.s) w.heap.size (by have := N3.out; simp; omega)).trans RS.out)))⟩
          have h := (row_setCell (o := 3) (x := .int .i64 tr.y) (row_setCell (o := 2) (x := .int .i64 tr.x) (row_setCell (o := 1) (x := .string tr.s) FS.out)))
          rw [HTS.out]
          rw [h]
          simp [flO, flC, lastV_snoc, kdOf, frOf, byOf, lvOf, htr]
        have BS : Hid (Below w.heap.size w ((((wr.alloc (.cells #[.string tr.s, .int .i64 tr.x, .int .i64 tr.y] 166)).setCell ⟨Fb, 1, none⟩ (.string tr.s)).setCell ⟨Fb, 2, none⟩ (.int .i64 tr.x)).setCell ⟨Fb, 3, none⟩ (.int .i64 tr.y))) := ((((below_step HI.out.2.2.1 AS.out).setCell (p := ⟨Fb, 1, none⟩) (by have := N3.out; simp; omega) _).setCell (p := ⟨Fb, 2, none⟩) (by have := N3.out; simp; omega) _).setCell (p := ⟨Fb, 3, none⟩) (by have := N3.out; simp; omega) _)
        have AE : Hid (Below ((((wr.alloc (.cells #[.string tr.s, .int .i64 tr.x, .int .i64 tr.y] 166)).setCell ⟨Fb, 1, none⟩ (.string tr.s)).setCell ⟨Fb, 2, none⟩ (.int .i64 tr.x)).setCell ⟨Fb, 3, none⟩ (.int .i64 tr.y)).heap.size ((((wr.alloc (.cells #[.string tr.s, .int .i64 tr.x, .int .i64 tr.y] 166)).setCell ⟨Fb, 1, none⟩ (.string tr.s)).setCell ⟨Fb, 2, none⟩ (.int .i64 tr.x)).setCell ⟨Fb, 3, none⟩ (.int .i64 tr.y)) (((((((wr.alloc (.cells #[.string tr.s, .int .i64 tr.x, .int .i64 tr.y] 166)).setCell ⟨Fb, 1, none⟩ (.string tr.s)).setCell ⟨Fb, 2, none⟩ (.int .i64 tr.x)).setCell ⟨Fb, 3, none⟩ (.int .i64 tr.y)).alloc (.cells #[.int .i64 0, .int .i64 0] 169)).alloc (.cells #[.int .i64 0] 172)).alloc (.cells #[.slice none 0 0] 175))) := ((((Below.refl _ _).alloc (by first | (simp; done) | (simp; omega)) _).alloc (by first | (simp; done) | (simp; omega)) _).alloc (by first | (simp; done) | (simp; omega)) _)
        have HN : Hid ((((((((wr.alloc (.cells #[.string tr.s, .int .i64 tr.x, .int .i64 tr.y] 166)).setCell ⟨Fb, 1, none⟩ (.string tr.s)).setCell ⟨Fb, 2, none⟩ (.int .i64 tr.x)).setCell ⟨Fb, 3, none⟩ (.int .i64 tr.y)).alloc (.cells #[.int .i64 0, .int .i64 0] 169)).alloc (.cells #[.int .i64 0] 172)).alloc (.cells #[.slice none 0 0] 175)).heap[Fb]? = some (.cells (flO ks nm (fs.take (k + 1)) rt) 45 (0, 0)) ∧ RtIs (((((((wr.alloc (.cells #[.string tr.s, .int .i64 tr.x, .int .i64 tr.y] 166)).setCell ⟨Fb, 1, none⟩ (.string tr.s)).setCell ⟨Fb, 2, none⟩ (.int .i64 tr.x)).setCell ⟨Fb, 3, none⟩ (.int .i64 tr.y)).alloc (.cells #[.int .i64 0, .int .i64 0] 169)).alloc (.cells #[.int .i64 0] 172)).alloc (.cells #[.slice none 0 0] 175)) B rt (lastV (fs.take (k + 1)) 4) ∧ Below w.heap.size w (((((((wr.alloc (.cells #[.string tr.s, .int .i64 tr.x, .int .i64 tr.y] 166)).setCell ⟨Fb, 1, none⟩ (.string tr.s)).setCell ⟨Fb, 2, none⟩ (.int .i64 tr.x)).setCell ⟨Fb, 3, none⟩ (.int .i64 tr.y)).alloc (.cells #[.int .i64 0, .int .i64 0] 169)).alloc (.cells #[.int .i64 0] 172)).alloc (.cells #[.slice none 0 0] 175)) ∧ (((((((wr.alloc (.cells #[.string tr.s, .int .i64 tr.x, .int .i64 tr.y] 166)).setCell ⟨Fb, 1, none⟩ (.string tr.s)).setCell ⟨Fb, 2, none⟩ (.int .i64 tr.x)).setCell ⟨Fb, 3, none⟩ (.int .i64 tr.y)).alloc (.cells #[.int .i64 0, .int .i64 0] 169)).alloc (.cells #[.int .i64 0] 172)).alloc (.cells #[.slice none 0 0] 175)).heap[w.heap.size]? = some (.cells #[.string ⟨#[]⟩, .string ⟨#[]⟩, .int .i64 0, .int .i64 0, .int .i64 0, .int .i64 0, .int .i64 0, .slice none 0 0] 45 (0, 0))) := by
          refine ⟨below_block AE.out F2.out.1, ?_, below_step BS.out AE.out, below_block AE.out F2.out.2⟩
          rw [HTS.out, lastV_snoc]
          rw [if_neg (by simp)]
          exact (RtIs.set (i := 3) (x := .int .i64 tr.y) (RtIs.set (i := 2) (x := .int .i64 tr.x) (RtIs.set (i := 1) (x := .string tr.s) (HI.out.2.1.keep AS.out) FS.out) (row_setCell (o := 1) (x := .string tr.s) FS.out)) (row_setCell (o := 2) (x := .int .i64 tr.x) (row_setCell (o := 1) (x := .string tr.s) FS.out))).keep AE.out
        go_wp2
        exact ⟨⟨k + 1, rt, by omega, by go_num, HN⟩, by simp [intOf]; omega⟩
      · rw [pv2] at c0
        have ha1 := as2_1
        have ha2 := as2_2
        have ha3 := as2_3
        have ha4 := as2_4
        obtain ⟨qf, hqf⟩ : ∃ q, tmF (cutW vl) = q := ⟨_, rfl⟩
        obtain ⟨qb, hqb⟩ : ∃ q, tmY (cutW vl) = q := ⟨_, rfl⟩
        rw [hqf, hqb] at c0
        have AS0 : Hid (Below wr.heap.size wr ((wr.alloc (.cells #[.string ⟨#[]⟩, .int .i64 0, .int .i64 0] 166)).alloc (.cells #[.int .i64 qf, .int .i64 qb] 169))) := (((Below.refl _ _).alloc (by first | (simp; done) | (simp; omega)) _).alloc (by first | (simp; done) | (simp; omega)) _)
        have hx0 : ((wr.alloc (.cells #[.string ⟨#[]⟩, .int .i64 0, .int .i64 0] 166)).alloc (.cells #[.int .i64 qf, .int .i64 qb] 169)).cell? ⟨wr.heap.size + 1, 0, none⟩ = some (.int .i64 qf) ∧ ((wr.alloc (.cells #[.string ⟨#[]⟩, .int .i64 0, .int .i64 0] 166)).alloc (.cells #[.int .i64 qf, .int .i64 qb] 169)).cell? ⟨wr.heap.size + 1, 1, none⟩ = some (.int .i64 qb) := ⟨by simp [go_sem], by simp [go_sem]⟩
        have HX0 := Lv.toHid hx0
        clear hx0
        have hFbl := lt_of_block HI.out.1
        go_wp2_with fail
        generalize ((wr.alloc (.cells #[.string ⟨#[]⟩, .int .i64 0, .int .i64 0] 166)).alloc (.cells #[.int .i64 qf, .int .i64 qb] 169)) = W1 at *
        refine wp_region_noPanic ?_
        refine wp_region_held_drew (S := fun w' => w'.cell? ⟨wr.heap.size + 1, 0, none⟩ = some (.int .i64 qf) ∧ w'.cell? ⟨wr.heap.size + 1, 1, none⟩ = some (.int .i64 qb)) (by kernel_rfl) ?_ (fun hHeld => ?_)
        · exact ⟨cell_keep (Below.refl _ _).drew (Nat.le_refl _) HX0.out.1, cell_keep (Below.refl _ _).drew (Nat.le_refl _) HX0.out.2⟩
        have AS : Hid (Below wr.heap.size wr W1.drew) := below_step AS0.out (Below.refl _ _).drew
        have FS : Hid (W1.drew.heap[Fb]? = some (.cells (flO ks nm (fs.take k) rt) 45 (0, 0))) := below_block AS.out HI.out.1
        have RS : Hid (W1.drew.heap[w.heap.size]? = some (.cells #[.string ⟨#[]⟩, .string ⟨#[]⟩, .int .i64 0, .int .i64 0, .int .i64 0, .int .i64 0, .int .i64 0, .slice none 0 0] 45 (0, 0))) := below_block AS.out HI.out.2.2.2
        generalize W1.drew = W at *
        obtain ⟨⟨v4, g4⟩, z4⟩ := fl_free (W := W) (i := 4) FS.out (by simp [flO, flC]) (by omega)
        have HS4 : Hid ((W.setCell ⟨Fb, 4, none⟩ (.int .i64 qf)).cell? ⟨wr.heap.size + 1, 0, none⟩ = some (.int .i64 qf) ∧ (W.setCell ⟨Fb, 4, none⟩ (.int .i64 qf)).cell? ⟨wr.heap.size + 1, 1, none⟩ = some (.int .i64 qb)) := ⟨(World.cell?_setCell_other _ ⟨Fb, 4, none⟩ ⟨wr.heap.size + 1, 0, none⟩ _ (by first | (simp; done) | (simp; omega))).trans hHeld.1, (World.cell?_setCell_other _ ⟨Fb, 4, none⟩ ⟨wr.heap.size + 1, 1, none⟩ _ (by first | (simp; done) | (simp; omega))).trans hHeld.2⟩
        obtain ⟨⟨v5, g5⟩, z5⟩ := fl_free (W := (W.setCell ⟨Fb, 4, none⟩ (.int .i64 qf))) (i := 5) (row_setCell (o := 4) (x := .int .i64 qf) FS.out) (by simp [flO, flC]) (by omega)
        have HS5 : Hid (((W.setCell ⟨Fb, 4, none⟩ (.int .i64 qf)).setCell ⟨Fb, 5, none⟩ (.int .i64 qb)).cell? ⟨wr.heap.size + 1, 0, none⟩ = some (.int .i64 qf) ∧ ((W.setCell ⟨Fb, 4, none⟩ (.int .i64 qf)).setCell ⟨Fb, 5, none⟩ (.int .i64 qb)).cell? ⟨wr.heap.size + 1, 1, none⟩ = some (.int .i64 qb)) := ⟨(World.cell?_setCell_other _ ⟨Fb, 5, none⟩ ⟨wr.heap.size + 1, 0, none⟩ _ (by first | (simp; done) | (simp; omega))).trans HS4.out.1, (World.cell?_setCell_other _ ⟨Fb, 5, none⟩ ⟨wr.heap.size + 1, 1, none⟩ _ (by first | (simp; done) | (simp; omega))).trans HS4.out.2⟩
        have F2 : Hid (((W.setCell ⟨Fb, 4, none⟩ (.int .i64 qf)).setCell ⟨Fb, 5, none⟩ (.int .i64 qb)).heap[Fb]? = some (.cells (flO ks nm (fs.take (k + 1)) rt) 45 (0, 0)) ∧ ((W.setCell ⟨Fb, 4, none⟩ (.int .i64 qf)).setCell ⟨Fb, 5, none⟩ (.int .i64 qb)).heap[w.heap.size]? = some (.cells #[.string ⟨#[]⟩, .string ⟨#[]⟩, .int .i64 0, .int .i64 0, .int .i64 0, .int .i64 0, .int .i64 0, .slice none 0 0] 45 (0, 0))) := by
          refine ⟨?_, ((Below.heap_setCell (W.setCell ⟨Fb, 4, none⟩ (.int .i64 qf)) ⟨Fb, 5, none⟩ (.int .i64 qb) w.heap.size (by have := N3.out; simp; omega)).trans ((Below.heap_setCell W ⟨Fb, 4, none⟩ (.int .i64 qf) w.heap.size (by have := N3.out; simp; omega)).trans RS.out))⟩
          have h := (row_setCell (o := 5) (x := .int .i64 qb) (row_setCell (o := 4) (x := .int .i64 qf) FS.out))
          rw [HTS.out]
          rw [h]
          simp [flO, flC, lastV_snoc, kdOf, frOf, byOf, lvOf, hqf, hqb]
        have BS : Hid (Below w.heap.size w ((W.setCell ⟨Fb, 4, none⟩ (.int .i64 qf)).setCell ⟨Fb, 5, none⟩ (.int .i64 qb))) := (((below_step HI.out.2.2.1 AS.out).setCell (p := ⟨Fb, 4, none⟩) (by have := N3.out; simp; omega) _).setCell (p := ⟨Fb, 5, none⟩) (by have := N3.out; simp; omega) _)
        have RT : Hid (RtIs ((W.setCell ⟨Fb, 4, none⟩ (.int .i64 qf)).setCell ⟨Fb, 5, none⟩ (.int .i64 qb)) B rt (lastV (fs.take (k + 1)) 4)) := by
          show RtIs _ B rt _
          rw [HTS.out, lastV_snoc, if_neg (by simp)]
          exact (RtIs.set (i := 5) (x := .int .i64 qb) (RtIs.set (i := 4) (x := .int .i64 qf) (HI.out.2.1.keep AS.out) FS.out) (row_setCell (o := 4) (x := .int .i64 qf) FS.out))
        refine wpAnyH_take (i := 0) (v := ?_) rfl (by kernel_rfl) (by kernel_rfl) (by kernel_rfl) (fun _ _ _ h => h) (Or.inl ⟨by rfl, ?_⟩) (by assumption) ?_
        rotate_left
        · intro w hSw; (try dsimp only at hSw); go_simp; try with_reducible rfl
        simp only [Act.put, List.setIfInBounds_toArray, List.set_cons_zero, List.set_cons_succ, List.getElem_toArray, List.getElem_cons_succ, List.getElem_cons_zero]
        refine wpAnyH_take (i := 1) (v := ?_) rfl (by kernel_rfl) (by kernel_rfl) (by kernel_rfl) (fun _ _ _ h => h) (Or.inl ⟨by rfl, ?_⟩) (by assumption) ?_
        rotate_left
        · intro w hSw; (try dsimp only at hSw); go_simp; try with_reducible rfl
        simp only [Act.put, List.setIfInBounds_toArray, List.set_cons_zero, List.set_cons_succ, List.getElem_toArray, List.getElem_cons_succ, List.getElem_cons_zero]
        refine wpAnyH_take (i := 2) (v := ?_) rfl (by kernel_rfl) (by kernel_rfl) (by kernel_rfl) (fun _ _ _ h => h) (Or.inl ⟨by rfl, ?_⟩) (by assumption) ?_
        rotate_left
        · intro w hSw; (try dsimp only at hSw); go_simp; try with_reducible rfl
        simp only [Act.put, List.setIfInBounds_toArray, List.set_cons_zero, List.set_cons_succ, List.getElem_toArray, List.getElem_cons_succ, List.getElem_cons_zero]
        refine wpAnyH_take (i := 3) (v := ?_) rfl (by kernel_rfl) (by kernel_rfl) (by kernel_rfl) (fun _ _ _ h => h) (Or.inl ⟨by rfl, ?_⟩) (by assumption) ?_
        rotate_left
        · intro w hSw; (try dsimp only at hSw); go_simp; try with_reducible rfl
        simp only [Act.put, List.setIfInBounds_toArray, List.set_cons_zero, List.set_cons_succ, List.getElem_toArray, List.getElem_cons_succ, List.getElem_cons_zero]
        refine wpAnyH_take (i := 4) (v := ?_) rfl (by kernel_rfl) (by kernel_rfl) (by kernel_rfl) (fun _ _ _ h => h) (Or.inl ⟨by rfl, ?_⟩) (by assumption) ?_
        rotate_left
        · intro w hSw; (try dsimp only at hSw); go_simp; try with_reducible rfl
        simp only [Act.put, List.setIfInBounds_toArray, List.set_cons_zero, List.set_cons_succ, List.getElem_toArray, List.getElem_cons_succ, List.getElem_cons_zero]
        clear hHeld
        refine wpAnyH_ready (rs := [5]) (by kernel_rfl) (by simp) ?_
        refine AllReadyH.cons rfl (fun K hK => ?_) AllReadyH.nil
        go_simp
        refine hK.out _ _ HS4.out (fun _ => ?_)
        clear hK K
        have hHeld := HS4.out
        refine wpAnyH_take (i := 6) (v := ?_) rfl (by kernel_rfl) (by kernel_rfl) (by kernel_rfl) (fun _ _ _ h => h) (Or.inl ⟨by rfl, ?_⟩) (by assumption) ?_
        rotate_left
        · intro w hSw; (try dsimp only at hSw); go_simp; try with_reducible rfl
        simp only [Act.put, List.setIfInBounds_toArray, List.set_cons_zero, List.set_cons_succ, List.getElem_toArray, List.getElem_cons_succ, List.getElem_cons_zero]
        clear hHeld
        refine wpAnyH_ready (rs := [7]) (by kernel_rfl) (by simp) ?_
        refine AllReadyH.cons rfl (fun K hK => ?_) AllReadyH.nil
        go_simp
        refine hK.out _ _ HS5.out (fun _ => ?_)
        clear hK K
        clear g4 z4 g5 z5
        generalize ((W.setCell ⟨Fb, 4, none⟩ (.int .i64 qf)).setCell ⟨Fb, 5, none⟩ (.int .i64 qb)) = W3 at *
        refine wpAnyH_done (by kernel_rfl) ?_ _
        refine NoPanic.normal ?_
        have AE : Hid (Below W3.heap.size W3 ((W3.alloc (.cells #[.int .i64 0] 172)).alloc (.cells #[.slice none 0 0] 175))) := (((Below.refl _ _).alloc (by first | (simp; done) | (simp; omega)) _).alloc (by first | (simp; done) | (simp; omega)) _)
        have HN : Hid (((W3.alloc (.cells #[.int .i64 0] 172)).alloc (.cells #[.slice none 0 0] 175)).heap[Fb]? = some (.cells (flO ks nm (fs.take (k + 1)) rt) 45 (0, 0)) ∧ RtIs ((W3.alloc (.cells #[.int .i64 0] 172)).alloc (.cells #[.slice none 0 0] 175)) B rt (lastV (fs.take (k + 1)) 4) ∧ Below w.heap.size w ((W3.alloc (.cells #[.int .i64 0] 172)).alloc (.cells #[.slice none 0 0] 175)) ∧ ((W3.alloc (.cells #[.int .i64 0] 172)).alloc (.cells #[.slice none 0 0] 175)).heap[w.heap.size]? = some (.cells #[.string ⟨#[]⟩, .string ⟨#[]⟩, .int .i64 0, .int .i64 0, .int .i64 0, .int .i64 0, .int .i64 0, .slice none 0 0] 45 (0, 0))) := ⟨below_block AE.out F2.out.1, RT.out.keep AE.out, below_step BS.out AE.out, below_block AE.out F2.out.2⟩
        go_wp2
        exact ⟨⟨k + 1, rt, by omega, by go_num, HN⟩, by simp [intOf]; omega⟩
      · rw [pv3] at c0
        have ha1 := as3_1
        have ha2 := as3_2
        have ha3 := as3_3
        have ha4 := as3_4
        obtain ⟨ql, hql⟩ : ∃ q, rdN vl = q := ⟨_, rfl⟩
        rw [hql] at c0
        have AS : Hid (Below wr.heap.size wr (((wr.alloc (.cells #[.string ⟨#[]⟩, .int .i64 0, .int .i64 0] 166)).alloc (.cells #[.int .i64 0, .int .i64 0] 169)).alloc (.cells #[.int .i64 ql] 172))) := ((((Below.refl _ _).alloc (by first | (simp; done) | (simp; omega)) _).alloc (by first | (simp; done) | (simp; omega)) _).alloc (by first | (simp; done) | (simp; omega)) _)
        have FS : Hid ((((wr.alloc (.cells #[.string ⟨#[]⟩, .int .i64 0, .int .i64 0] 166)).alloc (.cells #[.int .i64 0, .int .i64 0] 169)).alloc (.cells #[.int .i64 ql] 172)).heap[Fb]? = some (.cells (flO ks nm (fs.take k) rt) 45 (0, 0))) := below_block AS.out HI.out.1
        have RS : Hid ((((wr.alloc (.cells #[.string ⟨#[]⟩, .int .i64 0, .int .i64 0] 166)).alloc (.cells #[.int .i64 0, .int .i64 0] 169)).alloc (.cells #[.int .i64 ql] 172)).heap[w.heap.size]? = some (.cells #[.string ⟨#[]⟩, .string ⟨#[]⟩, .int .i64 0, .int .i64 0, .int .i64 0, .int .i64 0, .int .i64 0, .slice none 0 0] 45 (0, 0))) := below_block AS.out HI.out.2.2.2
        obtain ⟨⟨v6, g6⟩, z6⟩ := fl_free (W := (((wr.alloc (.cells #[.string ⟨#[]⟩, .int .i64 0, .int .i64 0] 166)).alloc (.cells #[.int .i64 0, .int .i64 0] 169)).alloc (.cells #[.int .i64 ql] 172))) (i := 6) FS.out (by simp [flO, flC]) (by omega)
        have F2 : Hid (((((wr.alloc (.cells #[.string ⟨#[]⟩, .int .i64 0, .int .i64 0] 166)).alloc (.cells #[.int .i64 0, .int .i64 0] 169)).alloc (.cells #[.int .i64 ql] 172)).setCell ⟨Fb, 6, none⟩ (.int .i64 ql)).heap[Fb]? = some (.cells (flO ks nm (fs.take (k + 1)) rt) 45 (0, 0)) ∧ ((((wr.alloc (.cells #[.string ⟨#[]⟩, .int .i64 0, .int .i64 0] 166)).alloc (.cells #[.int .i64 0, .int .i64 0] 169)).alloc (.cells #[.int .i64 ql] 172)).setCell ⟨Fb, 6, none⟩ (.int .i64 ql)).heap[w.heap.size]? = some (.cells #[.string ⟨#[]⟩, .string ⟨#[]⟩, .int .i64 0, .int .i64 0, .int .i64 0, .int .i64 0, .int .i64 0, .slice none 0 0] 45 (0, 0))) := by
          refine ⟨?_, ((Below.heap_setCell (((wr.alloc (.cells #[.string ⟨#[]⟩, .int .i64 0, .int .i64 0] 166)).alloc (.cells #[.int .i64 0, .int .i64 0] 169)).alloc (.cells #[.int .i64 ql] 172)) ⟨Fb, 6, none⟩ (.int .i64 ql) w.heap.size (by have := N3.out; simp; omega)).trans RS.out)⟩
          have h := (row_setCell (o := 6) (x := .int .i64 ql) FS.out)
          rw [HTS.out]
          rw [h]
          simp [flO, flC, lastV_snoc, kdOf, frOf, byOf, lvOf, hql]
        have BS : Hid (Below w.heap.size w ((((wr.alloc (.cells #[.string ⟨#[]⟩, .int .i64 0, .int .i64 0] 166)).alloc (.cells #[.int .i64 0, .int .i64 0] 169)).alloc (.cells #[.int .i64 ql] 172)).setCell ⟨Fb, 6, none⟩ (.int .i64 ql))) := ((below_step HI.out.2.2.1 AS.out).setCell (p := ⟨Fb, 6, none⟩) (by have := N3.out; simp; omega) _)
        have AE : Hid (Below ((((wr.alloc (.cells #[.string ⟨#[]⟩, .int .i64 0, .int .i64 0] 166)).alloc (.cells #[.int .i64 0, .int .i64 0] 169)).alloc (.cells #[.int .i64 ql] 172)).setCell ⟨Fb, 6, none⟩ (.int .i64 ql)).heap.size ((((wr.alloc (.cells #[.string ⟨#[]⟩, .int .i64 0, .int .i64 0] 166)).alloc (.cells #[.int .i64 0, .int .i64 0] 169)).alloc (.cells #[.int .i64 ql] 172)).setCell ⟨Fb, 6, none⟩ (.int .i64 ql)) (((((wr.alloc (.cells #[.string ⟨#[]⟩, .int .i64 0, .int .i64 0] 166)).alloc (.cells #[.int .i64 0, .int .i64 0] 169)).alloc (.cells #[.int .i64 ql] 172)).setCell ⟨Fb, 6, none⟩ (.int .i64 ql)).alloc (.cells #[.slice none 0 0] 175))) := ((Below.refl _ _).alloc (by first | (simp; done) | (simp; omega)) _)
        have HN : Hid ((((((wr.alloc (.cells #[.string ⟨#[]⟩, .int .i64 0, .int .i64 0] 166)).alloc (.cells #[.int .i64 0, .int .i64 0] 169)).alloc (.cells #[.int .i64 ql] 172)).setCell ⟨Fb, 6, none⟩ (.int .i64 ql)).alloc (.cells #[.slice none 0 0] 175)).heap[Fb]? = some (.cells (flO ks nm (fs.take (k + 1)) rt) 45 (0, 0)) ∧ RtIs (((((wr.alloc (.cells #[.string ⟨#[]⟩, .int .i64 0, .int .i64 0] 166)).alloc (.cells #[.int .i64 0, .int .i64 0] 169)).alloc (.cells #[.int .i64 ql] 172)).setCell ⟨Fb, 6, none⟩ (.int .i64 ql)).alloc (.cells #[.slice none 0 0] 175)) B rt (lastV (fs.take (k + 1)) 4) ∧ Below w.heap.size w (((((wr.alloc (.cells #[.string ⟨#[]⟩, .int .i64 0, .int .i64 0] 166)).alloc (.cells #[.int .i64 0, .int .i64 0] 169)).alloc (.cells #[.int .i64 ql] 172)).setCell ⟨Fb, 6, none⟩ (.int .i64 ql)).alloc (.cells #[.slice none 0 0] 175)) ∧ (((((wr.alloc (.cells #[.string ⟨#[]⟩, .int .i64 0, .int .i64 0] 166)).alloc (.cells #[.int .i64 0, .int .i64 0] 169)).alloc (.cells #[.int .i64 ql] 172)).setCell ⟨Fb, 6, none⟩ (.int .i64 ql)).alloc (.cells #[.slice none 0 0] 175)).heap[w.heap.size]? = some (.cells #[.string ⟨#[]⟩, .string ⟨#[]⟩, .int .i64 0, .int .i64 0, .int .i64 0, .int .i64 0, .int .i64 0, .slice none 0 0] 45 (0, 0))) := by
          refine ⟨below_block AE.out F2.out.1, ?_, below_step BS.out AE.out, below_block AE.out F2.out.2⟩
          rw [HTS.out, lastV_snoc]
          rw [if_neg (by simp)]
          exact (RtIs.set (i := 6) (x := .int .i64 ql) (HI.out.2.1.keep AS.out) FS.out).keep AE.out
        go_wp2
        exact ⟨⟨k + 1, rt, by omega, by go_num, HN⟩, by simp [intOf]; omega⟩
      · rw [pv4] at c0
        have ha1 := as4_1
        have ha2 := as4_2
        have ha3 := as4_3
        have ha4 := as4_4
        have hsu := HSU.out rfl
        obtain ⟨au, cu, hau⟩ := Lv.own_slice hsu
        subst hau
        have AS : Hid (Below wr.heap.size wr ((((wr.alloc (.cells #[.string ⟨#[]⟩, .int .i64 0, .int .i64 0] 166)).alloc (.cells #[.int .i64 0, .int .i64 0] 169)).alloc (.cells #[.int .i64 0] 172)).alloc (.cells #[.slice au (cutW vl).length cu] 175))) := (((((Below.refl _ _).alloc (by first | (simp; done) | (simp; omega)) _).alloc (by first | (simp; done) | (simp; omega)) _).alloc (by first | (simp; done) | (simp; omega)) _).alloc (by first | (simp; done) | (simp; omega)) _)
        have FS : Hid (((((wr.alloc (.cells #[.string ⟨#[]⟩, .int .i64 0, .int .i64 0] 166)).alloc (.cells #[.int .i64 0, .int .i64 0] 169)).alloc (.cells #[.int .i64 0] 172)).alloc (.cells #[.slice au (cutW vl).length cu] 175)).heap[Fb]? = some (.cells (flO ks nm (fs.take k) rt) 45 (0, 0))) := below_block AS.out HI.out.1
        have RS : Hid (((((wr.alloc (.cells #[.string ⟨#[]⟩, .int .i64 0, .int .i64 0] 166)).alloc (.cells #[.int .i64 0, .int .i64 0] 169)).alloc (.cells #[.int .i64 0] 172)).alloc (.cells #[.slice au (cutW vl).length cu] 175)).heap[w.heap.size]? = some (.cells #[.string ⟨#[]⟩, .string ⟨#[]⟩, .int .i64 0, .int .i64 0, .int .i64 0, .int .i64 0, .int .i64 0, .slice none 0 0] 45 (0, 0))) := below_block AS.out HI.out.2.2.2
        obtain ⟨⟨v7, g7⟩, z7⟩ := fl_free (W := ((((wr.alloc (.cells #[.string ⟨#[]⟩, .int .i64 0, .int .i64 0] 166)).alloc (.cells #[.int .i64 0, .int .i64 0] 169)).alloc (.cells #[.int .i64 0] 172)).alloc (.cells #[.slice au (cutW vl).length cu] 175))) (i := 7) FS.out (by simp [flO, flC]) (by omega)
        have F2 : Hid ((((((wr.alloc (.cells #[.string ⟨#[]⟩, .int .i64 0, .int .i64 0] 166)).alloc (.cells #[.int .i64 0, .int .i64 0] 169)).alloc (.cells #[.int .i64 0] 172)).alloc (.cells #[.slice au (cutW vl).length cu] 175)).setCell ⟨Fb, 7, none⟩ (.slice au (cutW vl).length cu)).heap[Fb]? = some (.cells (flO ks nm (fs.take (k + 1)) (.slice au (cutW vl).length cu)) 45 (0, 0)) ∧ (((((wr.alloc (.cells #[.string ⟨#[]⟩, .int .i64 0, .int .i64 0] 166)).alloc (.cells #[.int .i64 0, .int .i64 0] 169)).alloc (.cells #[.int .i64 0] 172)).alloc (.cells #[.slice au (cutW vl).length cu] 175)).setCell ⟨Fb, 7, none⟩ (.slice au (cutW vl).length cu)).heap[w.heap.size]? = some (.cells #[.string ⟨#[]⟩, .string ⟨#[]⟩, .int .i64 0, .int .i64 0, .int .i64 0, .int .i64 0, .int .i64 0, .slice none 0 0] 45 (0, 0))) := by
          refine ⟨?_, ((Below.heap_setCell ((((wr.alloc (.cells #[.string ⟨#[]⟩, .int .i64 0, .int .i64 0] 166)).alloc (.cells #[.int .i64 0, .int .i64 0] 169)).alloc (.cells #[.int .i64 0] 172)).alloc (.cells #[.slice au (cutW vl).length cu] 175)) ⟨Fb, 7, none⟩ (.slice au (cutW vl).length cu) w.heap.size (by have := N3.out; simp; omega)).trans RS.out)⟩
          have h := (row_setCell (o := 7) (x := .slice au (cutW vl).length cu) FS.out)
          rw [HTS.out]
          rw [h]
          simp [flO, flC, lastV_snoc, kdOf, frOf, byOf, lvOf]
        have BS : Hid (Below w.heap.size w (((((wr.alloc (.cells #[.string ⟨#[]⟩, .int .i64 0, .int .i64 0] 166)).alloc (.cells #[.int .i64 0, .int .i64 0] 169)).alloc (.cells #[.int .i64 0] 172)).alloc (.cells #[.slice au (cutW vl).length cu] 175)).setCell ⟨Fb, 7, none⟩ (.slice au (cutW vl).length cu))) := ((below_step HI.out.2.2.1 AS.out).setCell (p := ⟨Fb, 7, none⟩) (by have := N3.out; simp; omega) _)
        have AE : Hid (Below (((((wr.alloc (.cells #[.string ⟨#[]⟩, .int .i64 0, .int .i64 0] 166)).alloc (.cells #[.int .i64 0, .int .i64 0] 169)).alloc (.cells #[.int .i64 0] 172)).alloc (.cells #[.slice au (cutW vl).length cu] 175)).setCell ⟨Fb, 7, none⟩ (.slice au (cutW vl).length cu)).heap.size (((((wr.alloc (.cells #[.string ⟨#[]⟩, .int .i64 0, .int .i64 0] 166)).alloc (.cells #[.int .i64 0, .int .i64 0] 169)).alloc (.cells #[.int .i64 0] 172)).alloc (.cells #[.slice au (cutW vl).length cu] 175)).setCell ⟨Fb, 7, none⟩ (.slice au (cutW vl).length cu)) (((((wr.alloc (.cells #[.string ⟨#[]⟩, .int .i64 0, .int .i64 0] 166)).alloc (.cells #[.int .i64 0, .int .i64 0] 169)).alloc (.cells #[.int .i64 0] 172)).alloc (.cells #[.slice au (cutW vl).length cu] 175)).setCell ⟨Fb, 7, none⟩ (.slice au (cutW vl).length cu))) := (Below.refl _ _)
        have HN : Hid ((((((wr.alloc (.cells #[.string ⟨#[]⟩, .int .i64 0, .int .i64 0] 166)).alloc (.cells #[.int .i64 0, .int .i64 0] 169)).alloc (.cells #[.int .i64 0] 172)).alloc (.cells #[.slice au (cutW vl).length cu] 175)).setCell ⟨Fb, 7, none⟩ (.slice au (cutW vl).length cu)).heap[Fb]? = some (.cells (flO ks nm (fs.take (k + 1)) (.slice au (cutW vl).length cu)) 45 (0, 0)) ∧ RtIs (((((wr.alloc (.cells #[.string ⟨#[]⟩, .int .i64 0, .int .i64 0] 166)).alloc (.cells #[.int .i64 0, .int .i64 0] 169)).alloc (.cells #[.int .i64 0] 172)).alloc (.cells #[.slice au (cutW vl).length cu] 175)).setCell ⟨Fb, 7, none⟩ (.slice au (cutW vl).length cu)) B (.slice au (cutW vl).length cu) (lastV (fs.take (k + 1)) 4) ∧ Below w.heap.size w (((((wr.alloc (.cells #[.string ⟨#[]⟩, .int .i64 0, .int .i64 0] 166)).alloc (.cells #[.int .i64 0, .int .i64 0] 169)).alloc (.cells #[.int .i64 0] 172)).alloc (.cells #[.slice au (cutW vl).length cu] 175)).setCell ⟨Fb, 7, none⟩ (.slice au (cutW vl).length cu)) ∧ (((((wr.alloc (.cells #[.string ⟨#[]⟩, .int .i64 0, .int .i64 0] 166)).alloc (.cells #[.int .i64 0, .int .i64 0] 169)).alloc (.cells #[.int .i64 0] 172)).alloc (.cells #[.slice au (cutW vl).length cu] 175)).setCell ⟨Fb, 7, none⟩ (.slice au (cutW vl).length cu)).heap[w.heap.size]? = some (.cells #[.string ⟨#[]⟩, .string ⟨#[]⟩, .int .i64 0, .int .i64 0, .int .i64 0, .int .i64 0, .int .i64 0, .slice none 0 0] 45 (0, 0))) := by
          refine ⟨below_block AE.out F2.out.1, ?_, below_step BS.out AE.out, below_block AE.out F2.out.2⟩
          rw [HTS.out, lastV_snoc]
          exact Lv.own_keep hsu (below_step BS.out AE.out)
        go_wp2
        exact ⟨⟨k + 1, (.slice au (cutW vl).length cu), by omega, by go_num, HN⟩, by simp [intOf]; omega⟩
      · rw [pv5] at c0
        have ha1 := as5_1
        have ha2 := as5_2
        have ha3 := as5_3
        have ha4 := as5_4
        have AS : Hid (Below wr.heap.size wr ((((wr.alloc (.cells #[.string ⟨#[]⟩, .int .i64 0, .int .i64 0] 166)).alloc (.cells #[.int .i64 0, .int .i64 0] 169)).alloc (.cells #[.int .i64 0] 172)).alloc (.cells #[.slice none 0 0] 175))) := (((((Below.refl _ _).alloc (by first | (simp; done) | (simp; omega)) _).alloc (by first | (simp; done) | (simp; omega)) _).alloc (by first | (simp; done) | (simp; omega)) _).alloc (by first | (simp; done) | (simp; omega)) _)
        have FS : Hid (((((wr.alloc (.cells #[.string ⟨#[]⟩, .int .i64 0, .int .i64 0] 166)).alloc (.cells #[.int .i64 0, .int .i64 0] 169)).alloc (.cells #[.int .i64 0] 172)).alloc (.cells #[.slice none 0 0] 175)).heap[Fb]? = some (.cells (flO ks nm (fs.take k) rt) 45 (0, 0))) := below_block AS.out HI.out.1
        have RS : Hid (((((wr.alloc (.cells #[.string ⟨#[]⟩, .int .i64 0, .int .i64 0] 166)).alloc (.cells #[.int .i64 0, .int .i64 0] 169)).alloc (.cells #[.int .i64 0] 172)).alloc (.cells #[.slice none 0 0] 175)).heap[w.heap.size]? = some (.cells #[.string ⟨#[]⟩, .string ⟨#[]⟩, .int .i64 0, .int .i64 0, .int .i64 0, .int .i64 0, .int .i64 0, .slice none 0 0] 45 (0, 0))) := below_block AS.out HI.out.2.2.2
        have F2 : Hid (((((wr.alloc (.cells #[.string ⟨#[]⟩, .int .i64 0, .int .i64 0] 166)).alloc (.cells #[.int .i64 0, .int .i64 0] 169)).alloc (.cells #[.int .i64 0] 172)).alloc (.cells #[.slice none 0 0] 175)).heap[Fb]? = some (.cells (flO ks nm (fs.take (k + 1)) rt) 45 (0, 0)) ∧ ((((wr.alloc (.cells #[.string ⟨#[]⟩, .int .i64 0, .int .i64 0] 166)).alloc (.cells #[.int .i64 0, .int .i64 0] 169)).alloc (.cells #[.int .i64 0] 172)).alloc (.cells #[.slice none 0 0] 175)).heap[w.heap.size]? = some (.cells #[.string ⟨#[]⟩, .string ⟨#[]⟩, .int .i64 0, .int .i64 0, .int .i64 0, .int .i64 0, .int .i64 0, .slice none 0 0] 45 (0, 0))) := by
          refine ⟨?_, RS.out⟩
          have h := FS.out
          rw [HTS.out]
          rw [h]
          simp [flO, flC, lastV_snoc, kdOf, frOf, byOf, lvOf]
        have BS : Hid (Below w.heap.size w ((((wr.alloc (.cells #[.string ⟨#[]⟩, .int .i64 0, .int .i64 0] 166)).alloc (.cells #[.int .i64 0, .int .i64 0] 169)).alloc (.cells #[.int .i64 0] 172)).alloc (.cells #[.slice none 0 0] 175))) := (below_step HI.out.2.2.1 AS.out)
        have AE : Hid (Below ((((wr.alloc (.cells #[.string ⟨#[]⟩, .int .i64 0, .int .i64 0] 166)).alloc (.cells #[.int .i64 0, .int .i64 0] 169)).alloc (.cells #[.int .i64 0] 172)).alloc (.cells #[.slice none 0 0] 175)).heap.size ((((wr.alloc (.cells #[.string ⟨#[]⟩, .int .i64 0, .int .i64 0] 166)).alloc (.cells #[.int .i64 0, .int .i64 0] 169)).alloc (.cells #[.int .i64 0] 172)).alloc (.cells #[.slice none 0 0] 175)) ((((wr.alloc (.cells #[.string ⟨#[]⟩, .int .i64 0, .int .i64 0] 166)).alloc (.cells #[.int .i64 0, .int .i64 0] 169)).alloc (.cells #[.int .i64 0] 172)).alloc (.cells #[.slice none 0 0] 175))) := (Below.refl _ _)
        have HN : Hid (((((wr.alloc (.cells #[.string ⟨#[]⟩, .int .i64 0, .int .i64 0] 166)).alloc (.cells #[.int .i64 0, .int .i64 0] 169)).alloc (.cells #[.int .i64 0] 172)).alloc (.cells #[.slice none 0 0] 175)).heap[Fb]? = some (.cells (flO ks nm (fs.take (k + 1)) rt) 45 (0, 0)) ∧ RtIs ((((wr.alloc (.cells #[.string ⟨#[]⟩, .int .i64 0, .int .i64 0] 166)).alloc (.cells #[.int .i64 0, .int .i64 0] 169)).alloc (.cells #[.int .i64 0] 172)).alloc (.cells #[.slice none 0 0] 175)) B rt (lastV (fs.take (k + 1)) 4) ∧ Below w.heap.size w ((((wr.alloc (.cells #[.string ⟨#[]⟩, .int .i64 0, .int .i64 0] 166)).alloc (.cells #[.int .i64 0, .int .i64 0] 169)).alloc (.cells #[.int .i64 0] 172)).alloc (.cells #[.slice none 0 0] 175)) ∧ ((((wr.alloc (.cells #[.string ⟨#[]⟩, .int .i64 0, .int .i64 0] 166)).alloc (.cells #[.int .i64 0, .int .i64 0] 169)).alloc (.cells #[.int .i64 0] 172)).alloc (.cells #[.slice none 0 0] 175)).heap[w.heap.size]? = some (.cells #[.string ⟨#[]⟩, .string ⟨#[]⟩, .int .i64 0, .int .i64 0, .int .i64 0, .int .i64 0, .int .i64 0, .slice none 0 0] 45 (0, 0))) := by
          refine ⟨below_block AE.out F2.out.1, ?_, below_step BS.out AE.out, below_block AE.out F2.out.2⟩
          rw [HTS.out, lastV_snoc]
          rw [if_neg (by simp)]
          exact (HI.out.2.1.keep AS.out).keep AE.out
        go_wp2
        exact ⟨⟨k + 1, rt, by omega, by go_num, HN⟩, by simp [intOf]; omega⟩
    · have HF2 : Hid (fs.take k = fs) := List.take_of_length_le (by omega)
      have hF := HI.out.1
      rw [HF2.out] at hF
      have hRr := HI.out.2.1
      rw [HF2.out] at hRr
      have hR := HI.out.2.2.2
      obtain ⟨ra, rn, rc, hrt⟩ := hRr.slice
      subst hrt
      have HRT : Hid (RtIs wr B (.slice ra rn rc) (lastV fs 4) ∧ Below w.heap.size w wr) := ⟨hRr, HI.out.2.2.1⟩
      clear HI hRr
      unfold flO flC at hF
      obtain ⟨k1, e1⟩ : ∃ t, kdOf ks (lastV fs 1) = t := ⟨_, rfl⟩
      obtain ⟨k2, e2⟩ : ∃ t, frOf (lastV fs 2) = t := ⟨_, rfl⟩
      obtain ⟨k3, e3⟩ : ∃ t, byOf (lastV fs 2) = t := ⟨_, rfl⟩
      obtain ⟨k4, e4⟩ : ∃ t, lvOf (lastV fs 3) = t := ⟨_, rfl⟩
      rw [e1, e2, e3, e4] at hF
      have HOO : Hid (flO ks nm fs (.slice ra rn rc) = #[.string nm, .string k1.s, .int .i64 k1.x, .int .i64 k1.y, .int .i64 k2, .int .i64 k3, .int .i64 k4, .slice ra rn rc]) := by show _ = _; unfold flO flC; rw [e1, e2, e3, e4]
      clear e1 e2 e3 e4
      have y0 : wr.cell? ⟨Fb, 0, none⟩ = some (.string nm) := by simp [World.cell?, hF]
      have y1 : wr.cell? ⟨Fb, 1, none⟩ = some (.string k1.s) := by simp [World.cell?, hF]
      have y2 : wr.cell? ⟨Fb, 2, none⟩ = some (.int .i64 k1.x) := by simp [World.cell?, hF]
      have y3 : wr.cell? ⟨Fb, 3, none⟩ = some (.int .i64 k1.y) := by simp [World.cell?, hF]
      have y4 : wr.cell? ⟨Fb, 4, none⟩ = some (.int .i64 k2) := by simp [World.cell?, hF]
      have y5 : wr.cell? ⟨Fb, 5, none⟩ = some (.int .i64 k3) := by simp [World.cell?, hF]
      have y6 : wr.cell? ⟨Fb, 6, none⟩ = some (.int .i64 k4) := by simp [World.cell?, hF]
      have y7 : wr.cell? ⟨Fb, 7, none⟩ = some (.slice ra rn rc) := by simp [World.cell?, hF]
      clear hF
      go_wp2_with (refine wpList_store_row rfl 45 _ _ rfl w.heap.size #[.string nm, .string k1.s, .int .i64 k1.x, .int .i64 k1.y, .int .i64 k2, .int .i64 k3, .int .i64 k4, .slice ra rn rc] rfl rfl 45 _ hR (by kernel_rfl) rfl (by simp [Value.oneCell']) ?_)
      refine bodyPost_ret (v := .agg #[.string nm, .string k1.s, .int .i64 k1.x, .int .i64 k1.y, .int .i64 k2, .int .i64 k3, .int .i64 k4, .slice ra rn rc]) (by simp [results, Tryz.results74, go_sem, cell_setRow_same _ _ _ _ _ _ _ hR]) rfl ⟨.slice ra rn rc, by rw [HOO.out], ?_, below_setRow HRT.out.2 (Nat.le_refl _) _⟩
      exact RtIs.row HRT.out.1 hR
end Go.Proofs.YtfjblenkcfdbiaaGreatDoor.Sd

namespace Go.Proofs.YtfjblenkcfdbiaaGreatDoor.Sd
open Go.RowKit Go.Proofs.YtfjblenkcfdbiaaGreatDoor

/-- All four are said, and it is not closed. -/
def stB (fs : List Fld) : Bool := decide ((needL fs 4).length = 0) && !closedB fs
def zero8 : Array Value := #[.string ⟨#[]⟩, .string ⟨#[]⟩, .int .i64 0, .int .i64 0, .int .i64 0, .int .i64 0, .int .i64 0, .slice none 0 0]
/-- A flight's cells, nothing if it does not stand. -/
def stC (ks : List Tri) (nm : ByteArray) (fs : List Fld) (rt : Value) : Array Value := bif stB fs then flO ks nm fs rt else zero8
theorem RtIs.mono {w : World} {B B' : Nat} {rt : Value} {o : Option Fld} (h : RtIs w B rt o) (hb : B' ≤ B) : RtIs w B' rt o := by
  cases o with
  | none => exact h
  | some f => exact SNew.mono (show SNew w B rt (cutW f.v) from h) hb
set_option maxRecDepth 100000 in
set_option maxHeartbeats 6400000 in
theorem standing_any (vk vp fv : Value) (ks ps : List Tri) (nm : ByteArray) (fs : List Fld) (w : World) (hk : TrisAt w vk ks) (hf : FldsAt w fv fs) (hfit : ∀ f ∈ fs, valB2 ks ps f.what f.v = true ∧ f.v.size ≤ 1048576) (hn : ∀ t ∈ ks, t.s.size ≤ 1048576) (hl : fs.length ≤ 1048576) (hnm : nm.size ≤ 1048576) (hN : NeedIn w) :
    Calls Tryz.prog 34 #[.agg #[vk, vp], .agg #[.string nm, fv]] w fun e w' => ∃ rt, e = .returned (.tuple #[.agg (stC ks nm fs rt), .bool (stB fs)]) ∧ (stB fs = true → RtIs w' w.heap.size rt (lastV fs 4)) ∧ Below w.heap.size w w' := by
  have HFT : Hid (∀ f ∈ fs, valB2 ks ps f.what f.v = true) := fun f h => (hfit f h).1
  have GD : Hid (∀ wx : World, Below w.heap.size w wx → Calls Tryz.prog 71 #[.agg #[vk, vp], .agg #[.string nm, fv]] wx fun e w' => ∃ v, e = .returned (.agg #[v, .string nm]) ∧ PartsNew w' wx.heap.size v ks fs ∧ Below wx.heap.size wx w') := fun wx hx => draftOf_any vk vp fv ks ps nm fs wx (hk.keep hx) (hf.keep hx) hfit hn hl
  have HNI : Hid (∀ wx : World, Below w.heap.size w wx → NeedIn wx) := fun wx hx => hN.keep hx
  have HB : Hid (Below w.heap.size w (((w.alloc (.cells #[vk, vp] 34)).alloc (.cells #[.string nm, fv] 60)).alloc (.cells #[.string ⟨#[]⟩, .string ⟨#[]⟩, .int .i64 0, .int .i64 0, .int .i64 0, .int .i64 0, .int .i64 0, .slice none 0 0] 45))) := (((Below.refl _ _).alloc (Nat.le_refl _) _).alloc (by simp) _).alloc (by simp; omega) _
  have HR : Hid ((((w.alloc (.cells #[vk, vp] 34)).alloc (.cells #[.string nm, fv] 60)).alloc (.cells #[.string ⟨#[]⟩, .string ⟨#[]⟩, .int .i64 0, .int .i64 0, .int .i64 0, .int .i64 0, .int .i64 0, .slice none 0 0] 45)).heap[w.heap.size + 2]? = some (.cells #[.string ⟨#[]⟩, .string ⟨#[]⟩, .int .i64 0, .int .i64 0, .int .i64 0, .int .i64 0, .int .i64 0, .slice none 0 0] 45 (0, 0))) := by
    have h := Lv.heap_newF ((w.alloc (.cells #[vk, vp] 34)).alloc (.cells #[.string nm, fv] 60)) (.cells #[.string ⟨#[]⟩, .string ⟨#[]⟩, .int .i64 0, .int .i64 0, .int .i64 0, .int .i64 0, .int .i64 0, .slice none 0 0] 45)
    rw [show ((w.alloc (.cells #[vk, vp] 34)).alloc (.cells #[.string nm, fv] 60)).heap.size = w.heap.size + 2 by simp] at h
    exact h
  have p0 : (((w.alloc (.cells #[vk, vp] 34)).alloc (.cells #[.string nm, fv] 60)).alloc (.cells #[.string ⟨#[]⟩, .string ⟨#[]⟩, .int .i64 0, .int .i64 0, .int .i64 0, .int .i64 0, .int .i64 0, .slice none 0 0] 45)).cell? ⟨w.heap.size, 0, none⟩ = some vk := by simp [go_sem]
  have p1 : (((w.alloc (.cells #[vk, vp] 34)).alloc (.cells #[.string nm, fv] 60)).alloc (.cells #[.string ⟨#[]⟩, .string ⟨#[]⟩, .int .i64 0, .int .i64 0, .int .i64 0, .int .i64 0, .int .i64 0, .slice none 0 0] 45)).cell? ⟨w.heap.size, 1, none⟩ = some vp := by simp [go_sem]
  have p2 : (((w.alloc (.cells #[vk, vp] 34)).alloc (.cells #[.string nm, fv] 60)).alloc (.cells #[.string ⟨#[]⟩, .string ⟨#[]⟩, .int .i64 0, .int .i64 0, .int .i64 0, .int .i64 0, .int .i64 0, .slice none 0 0] 45)).cell? ⟨w.heap.size + 1, 0, none⟩ = some (.string nm) := by simp [go_sem]
  have p3 : (((w.alloc (.cells #[vk, vp] 34)).alloc (.cells #[.string nm, fv] 60)).alloc (.cells #[.string ⟨#[]⟩, .string ⟨#[]⟩, .int .i64 0, .int .i64 0, .int .i64 0, .int .i64 0, .int .i64 0, .slice none 0 0] 45)).cell? ⟨w.heap.size + 1, 1, none⟩ = some fv := by simp [go_sem]
  clear hk hf hfit hN
  go_enter Tryz.func34, Tryz.ntmps34
  go_wp2_with fail
  generalize (((w.alloc (.cells #[vk, vp] 34)).alloc (.cells #[.string nm, fv] 60)).alloc (.cells #[.string ⟨#[]⟩, .string ⟨#[]⟩, .int .i64 0, .int .i64 0, .int .i64 0, .int .i64 0, .int .i64 0, .slice none 0 0] 45)) = w1 at *
  refine (GD.out _ HB.out).mono ?_
  rintro e w2 ⟨v, rfl, hP, hb2⟩
  obtain ⟨av, cv, rfl⟩ := hP.slice
  have AL : Hid (Below w2.heap.size w2 (w2.alloc (.cells #[.slice av fs.length cv, .string nm] 124))) := (Below.refl _ _).alloc (Nat.le_refl _) _
  have D3 : Hid ((w2.alloc (.cells #[.slice av fs.length cv, .string nm] 124)).heap[w2.heap.size]? = some (.cells #[.slice av fs.length cv, .string nm] 124 (0, 0))) := Lv.heap_newF w2 _
  have I3 : Hid (PartsNew (w2.alloc (.cells #[.slice av fs.length cv, .string nm] 124)) w1.heap.size (.slice av fs.length cv) ks fs ∧ Below w.heap.size w (w2.alloc (.cells #[.slice av fs.length cv, .string nm] 124)) ∧ (w2.alloc (.cells #[.slice av fs.length cv, .string nm] 124)).heap[w.heap.size + 2]? = some (.cells #[.string ⟨#[]⟩, .string ⟨#[]⟩, .int .i64 0, .int .i64 0, .int .i64 0, .int .i64 0, .int .i64 0, .slice none 0 0] 45 (0, 0))) := ⟨hP.keep AL.out, below_step (below_step HB.out hb2) AL.out, below_block AL.out (below_block hb2 HR.out)⟩
  have hw1 : w.heap.size ≤ w1.heap.size := HB.out.size
  have hw2 : w1.heap.size ≤ w2.heap.size := hb2.size
  clear hP hb2 HR p0 p1 p2 p3 AL
  go_wp2_with fail
  generalize (w2.alloc (.cells #[.slice av fs.length cv, .string nm] 124)) = w3 at *
  generalize w2.heap.size = D at *
  refine (missing_any D _ _ _ ks ps fs _ D3.out I3.out.1 HFT.out (HNI.out _ I3.out.2.1)).mono ?_
  rintro e w4 ⟨u, rfl, hu, hb4⟩
  obtain ⟨au, cu, rfl⟩ := Lv.own_slice hu
  have hnl := needL_len fs 4
  have I4 : Hid ((w4.heap[D]? = some (.cells #[.slice av fs.length cv, .string nm] 124 (0, 0)) ∧ PartsNew w4 w1.heap.size (.slice av fs.length cv) ks fs) ∧ Below w.heap.size w w4 ∧ w4.heap[w.heap.size + 2]? = some (.cells #[.string ⟨#[]⟩, .string ⟨#[]⟩, .int .i64 0, .int .i64 0, .int .i64 0, .int .i64 0, .int .i64 0, .slice none 0 0] 45 (0, 0))) := ⟨⟨below_block hb4 D3.out, I3.out.1.keep hb4⟩, below_step I3.out.2.1 hb4, below_block hb4 I3.out.2.2⟩
  clear hu hb4 I3 D3
  by_cases hz : (needL fs 4).length = 0
  case neg =>
    have HE : Hid (stB fs = false ∧ ∀ rt, stC ks nm fs rt = #[.string ⟨#[]⟩, .string ⟨#[]⟩, .int .i64 0, .int .i64 0, .int .i64 0, .int .i64 0, .int .i64 0, .slice none 0 0]) := by
      have h : stB fs = false := by unfold stB; rw [decide_eq_false hz]; rfl
      exact ⟨h, fun rt => by unfold stC; rw [h]; rfl⟩
    have hpos : (0 : Int) < ((needL fs 4).length : Int) := by omega
    have hR := I4.out.2.2
    generalize (needL fs 4).length = nl at *
    go_wp2_with (refine wpList_store_row rfl 45 _ _ rfl (w.heap.size + 2) #[.string ⟨#[]⟩, .string ⟨#[]⟩, .int .i64 0, .int .i64 0, .int .i64 0, .int .i64 0, .int .i64 0, .slice none 0 0] rfl rfl 45 _ hR (by kernel_rfl) rfl (by simp [Value.oneCell']) ?_)
    exact bodyPost_ret (v := .tuple #[.agg #[.string ⟨#[]⟩, .string ⟨#[]⟩, .int .i64 0, .int .i64 0, .int .i64 0, .int .i64 0, .int .i64 0, .slice none 0 0], .bool false]) (by simp [results, Tryz.results34, go_sem, cell_setRow_same _ _ _ _ _ _ _ hR]) rfl ⟨.slice none 0 0, by rw [HE.out.1, HE.out.2], (fun h => by rw [HE.out.1] at h; cases h), below_setRow I4.out.2.1 (by omega) _⟩
  have hneg : ¬ (0 : Int) < ((needL fs 4).length : Int) := by omega
  have HZ : Hid ((needL fs 4).length = 0) := hz
  generalize (needL fs 4).length = nl at hneg ⊢
  go_wp2_with fail
  refine (closed_any D _ _ _ ks ps fs _ I4.out.1.1 I4.out.1.2 HFT.out).mono ?_
  rintro e w5 ⟨rfl, hb5⟩
  have I5 : Hid ((w5.heap[D]? = some (.cells #[.slice av fs.length cv, .string nm] 124 (0, 0)) ∧ PartsNew w5 w1.heap.size (.slice av fs.length cv) ks fs) ∧ Below w.heap.size w w5 ∧ w5.heap[w.heap.size + 2]? = some (.cells #[.string ⟨#[]⟩, .string ⟨#[]⟩, .int .i64 0, .int .i64 0, .int .i64 0, .int .i64 0, .int .i64 0, .slice none 0 0] 45 (0, 0))) := ⟨⟨below_block hb5 I4.out.1.1, I4.out.1.2.keep hb5⟩, below_step I4.out.2.1 hb5, below_block hb5 I4.out.2.2⟩
  clear hb5 I4
  cases hc : closedB fs
  · have HS : Hid (stB fs = true ∧ ∀ rt, stC ks nm fs rt = flO ks nm fs rt) := by
      have h : stB fs = true := by unfold stB; rw [decide_eq_true HZ.out, hc]; rfl
      exact ⟨h, fun rt => by unfold stC; rw [h]; rfl⟩
    clear hc
    go_wp2_with fail
    refine (flight_any D _ _ nm ks ps fs _ I5.out.1.1 I5.out.1.2 HFT.out hnm).mono ?_
    rintro e w6 ⟨rt, rfl, hrt, hb6⟩
    have hR := below_block hb6 I5.out.2.2
    obtain ⟨ra, rn, rc, hra⟩ := hrt.slice
    subst hra
    have I6 : Hid (RtIs w6 w1.heap.size (.slice ra rn rc) (lastV fs 4) ∧ Below w.heap.size w w6) := ⟨hrt, below_step I5.out.2.1 hb6⟩
    have HOO : Hid (stC ks nm fs (.slice ra rn rc) = flO ks nm fs (.slice ra rn rc)) := HS.out.2 _
    clear hrt hb6 I5
    unfold flO flC at HOO ⊢
    obtain ⟨k1, e1⟩ : ∃ t, kdOf ks (lastV fs 1) = t := ⟨_, rfl⟩
    obtain ⟨k2, e2⟩ : ∃ t, frOf (lastV fs 2) = t := ⟨_, rfl⟩
    obtain ⟨k3, e3⟩ : ∃ t, byOf (lastV fs 2) = t := ⟨_, rfl⟩
    obtain ⟨k4, e4⟩ : ∃ t, lvOf (lastV fs 3) = t := ⟨_, rfl⟩
    rw [e1, e2, e3, e4] at HOO ⊢
    clear e1 e2 e3 e4
    go_wp2_with (refine wpList_store_row rfl 45 _ _ rfl (w.heap.size + 2) #[.string nm, .string k1.s, .int .i64 k1.x, .int .i64 k1.y, .int .i64 k2, .int .i64 k3, .int .i64 k4, .slice ra rn rc] rfl rfl 45 _ hR (by kernel_rfl) rfl (by simp [Value.oneCell']) ?_)
    exact bodyPost_ret (v := .tuple #[.agg #[.string nm, .string k1.s, .int .i64 k1.x, .int .i64 k1.y, .int .i64 k2, .int .i64 k3, .int .i64 k4, .slice ra rn rc], .bool true]) (by simp [results, Tryz.results34, go_sem, cell_setRow_same _ _ _ _ _ _ _ hR]) rfl ⟨.slice ra rn rc, by rw [HS.out.1, HOO.out], fun _ => RtIs.row (I6.out.1.mono (by omega)) hR, below_setRow I6.out.2 (by omega) _⟩
  · have HE : Hid (stB fs = false ∧ ∀ rt, stC ks nm fs rt = #[.string ⟨#[]⟩, .string ⟨#[]⟩, .int .i64 0, .int .i64 0, .int .i64 0, .int .i64 0, .int .i64 0, .slice none 0 0]) := by
      have h : stB fs = false := by unfold stB; rw [hc]; simp
      exact ⟨h, fun rt => by unfold stC; rw [h]; rfl⟩
    have hR := I5.out.2.2
    go_wp2_with (refine wpList_store_row rfl 45 _ _ rfl (w.heap.size + 2) #[.string ⟨#[]⟩, .string ⟨#[]⟩, .int .i64 0, .int .i64 0, .int .i64 0, .int .i64 0, .int .i64 0, .slice none 0 0] rfl rfl 45 _ hR (by kernel_rfl) rfl (by simp [Value.oneCell']) ?_)
    exact bodyPost_ret (v := .tuple #[.agg #[.string ⟨#[]⟩, .string ⟨#[]⟩, .int .i64 0, .int .i64 0, .int .i64 0, .int .i64 0, .int .i64 0, .slice none 0 0], .bool false]) (by simp [results, Tryz.results34, go_sem, cell_setRow_same _ _ _ _ _ _ _ hR]) rfl ⟨.slice none 0 0, by rw [HE.out.1, HE.out.2], (fun h => by rw [HE.out.1] at h; cases h), below_setRow I5.out.2.1 (by omega) _⟩
end Go.Proofs.YtfjblenkcfdbiaaGreatDoor.Sd
