
/-
  The law FnExactPlanStands answers true at every book and name, and turns nothing that was there.
-/
import Derived.Test.YtfjblenkcfdbiaaGreatDoorSt17
namespace Go.Proofs.YtfjblenkcfdbiaaGreatDoor.Sd
open Go.RowKit Go.Proofs.YtfjblenkcfdbiaaGreatDoor
set_option linter.unusedSimpArgs false
set_option linter.unusedVariables false

/-- While the law goes on: the book in its box. -/
structure LS (w wx : World) (A : Array Value) : Prop where
  below : Below w.heap.size w wx
  a : wx.heap[w.heap.size]? = some (.cells A 28 (0, 0))
theorem LS.start (w : World) (A : Array Value) : LS w (w.alloc (.cells A 28)) A := ⟨(Below.refl _ _).alloc (Nat.le_refl _) _, Lv.heap_newF w _⟩
theorem LS.z {w wx : World} {A : Array Value} (h : LS w wx A) : w.heap.size < wx.heap.size := lt_of_block h.a
theorem LS.call {w wx wy : World} {A : Array Value} (h : LS w wx A) (hb : Below wx.heap.size wx wy) : LS w wy A := ⟨below_step h.below hb, below_block hb h.a⟩
theorem LS.drew {w wx : World} {A : Array Value} (h : LS w wx A) : LS w wx.drew A := ⟨h.below.drew, h.a⟩
theorem LS.cell {w wx : World} {A : Array Value} (h : LS w wx A) (j : Nat) : wx.cell? ⟨w.heap.size, j, none⟩ = A[j]? := by simp [World.cell?, h.a]
theorem LS.only {w wx wy : World} {A : Array Value} {lo hi : Nat} (h : LS w wx A) (ho : Only lo hi wx wy) (hl : w.heap.size < lo) : LS w wy A :=
  ⟨h.below.trans (ho.below.mono (by omega)), (ho.below.block _ (by omega)).trans h.a⟩
theorem LS.grown {w wx wy : World} {A : Array Value} {row : Option Nat} (h : LS w wx A) (hg : wx.grownBy wy row) (hr : ∀ k, row = some k → w.heap.size < k) : LS w wy A := by
  have hz := h.z
  refine ⟨h.below.grown hg h.below.size (fun k e => by have := hr k e; omega), (hg.block _ (by omega) ?_).trans h.a⟩
  intro e; have := hr _ e.symm; omega
theorem eight_cells {w : World} {b : Nat} {x0 x1 x2 x3 x4 x5 x6 x7 : Value} {T : TypeId} (h : w.heap[b]? = some (.cells #[x0, x1, x2, x3, x4, x5, x6, x7] T (0, 0))) : (w.cell? ⟨b, 0, none⟩ = some x0 ∧ w.cell? ⟨b, 1, none⟩ = some x1 ∧ w.cell? ⟨b, 2, none⟩ = some x2 ∧ w.cell? ⟨b, 3, none⟩ = some x3) ∧ w.cell? ⟨b, 4, none⟩ = some x4 ∧ w.cell? ⟨b, 5, none⟩ = some x5 ∧ w.cell? ⟨b, 6, none⟩ = some x6 ∧ w.cell? ⟨b, 7, none⟩ = some x7 := by simp [World.cell?, h]
theorem sum_smallS {ks ps : List Tri} {es : List Ent} (h : szBook ks ps es ≤ 1048576) : sumN (fun e => e.fs.length) es ≤ 1048576 := by
  have h1 : ∀ l : List Ent, sumN (fun e => e.fs.length) l ≤ sumN szEnt l := fun l => by
    induction l with
    | nil => exact Nat.le_refl _
    | cons a l ih =>
      simp only [sumN]
      have h3 : a.fs.length ≤ szEnt a := by unfold szEnt szFlds; omega
      omega
  have := h1 es
  unfold szBook szEnts at h
  omega
theorem SNew.far {w w' : World} {B : Nat} {v : Value} {l : List ByteArray} (h : SNew w B v l) (hs : ∀ k, v.ownBlock = some k → k < w.heap.size → w'.heap[k]? = w.heap[k]?) : SNew w' B v l := by
  rcases h with ⟨h0, h | ⟨g, cap, cur, rfl, hb, hc, h1⟩⟩
  · exact ⟨h0, .inl h⟩
  · exact ⟨h0, .inr ⟨g, cap, cur, rfl, hb, (hs g rfl (lt_of_block hc)).trans hc, h1⟩⟩
/-- While the law goes on: what the specification said, the copy, what the program said. -/
structure SX (w w3 w5 w7 wx : World) (A R0 X RG : Array Value) (v0 vg : Value) (L : List ByteArray) : Prop where
  la : LS w wx A
  p0 : wx.heap[w3.heap.size]? = some (.cells R0 45 (0, 0))
  v : SNew wx (w.heap.size + 1) v0 L
  x : wx.heap[w5.heap.size]? = some (.cells X 37 (0, 0))
  t : Below w5.heap.size w5 wx
  p2 : wx.heap[w7.heap.size]? = some (.cells RG 45 (0, 0))
  g : SNew wx (w5.heap.size + 1) vg L
theorem SX.call {w w3 w5 w7 wx wy : World} {A R0 X RG : Array Value} {v0 vg : Value} {L : List ByteArray} (h : SX w w3 w5 w7 wx A R0 X RG v0 vg L) (hb : Below wx.heap.size wx wy) : SX w w3 w5 w7 wy A R0 X RG v0 vg L :=
  ⟨h.la.call hb, below_block hb h.p0, Lv.own_keep h.v hb, below_block hb h.x, below_step h.t hb, below_block hb h.p2, Lv.own_keep h.g hb⟩
theorem SX.drew {w w3 w5 w7 wx : World} {A R0 X RG : Array Value} {v0 vg : Value} {L : List ByteArray} (h : SX w w3 w5 w7 wx A R0 X RG v0 vg L) : SX w w3 w5 w7 wx.drew A R0 X RG v0 vg L :=
  ⟨h.la.drew, h.p0, h.v, h.x, h.t.drew, h.p2, h.g⟩
theorem three_cellsS {w : World} {b : Nat} {x y z : Value} {T : TypeId} (h : w.heap[b]? = some (.cells #[x, y, z] T (0, 0))) : w.cell? ⟨b, 0, none⟩ = some x ∧ w.cell? ⟨b, 1, none⟩ = some y ∧ w.cell? ⟨b, 2, none⟩ = some z := by simp [World.cell?, h]
set_option maxRecDepth 100000 in
set_option maxHeartbeats 12800000 in
theorem lawStands_walk (vk vp ve : Value) (ks ps : List Tri) (es : List Ent) (nm : ByteArray) (w : World) (hB : BookAt w vk vp ve ks ps es) (nB : BNames ks ps es) (hnm : nm.size ≤ maxLen) (hN : NeedIn w) :
    Calls Tryz.prog 4 #[.agg #[vk, vp, ve], .string nm] w fun e w' => e = .returned (.bool true) ∧ Below w.heap.size w w' := by
  have HB : Hid (BookAt w vk vp ve ks ps es) := hB
  have NB : Hid (BNames ks ps es) := nB
  have HN : Hid (NeedIn w) := hN
  obtain ⟨⟨ak, ck, rfl, -, -, -⟩, ⟨ap, cp, rfl, -, -, -⟩, ⟨ae, ce, rfl, -, -, -⟩⟩ := hB
  unfold maxLen at hnm
  clear nB hN
  have L0 : Hid (LS w (w.alloc (.cells #[.slice ak ks.length ck, .slice ap ps.length cp, .slice ae es.length ce] 28)) #[.slice ak ks.length ck, .slice ap ps.length cp, .slice ae es.length ce]) := LS.start w _
  by_cases hnz : (1048576 : Int) < (nm.size : Int)
  · go_enter Tryz.func4, Tryz.ntmps4
    go_wp2
    go_ret
    exact ⟨rfl, L0.out.below⟩
  go_enter Tryz.func4, Tryz.ntmps4
  go_wp2_with fail
  refine (szBook_any _ _ _ ks ps es _ _ (HB.out.keep L0.out.below) NB.out (by omega) (by omega)).mono ?_
  rintro e w1 ⟨rfl, hb1⟩
  have L1 : Hid (LS w w1 #[.slice ak ks.length ck, .slice ap ps.length cp, .slice ae es.length ce]) := L0.out.call hb1
  clear L0 hb1
  by_cases hsz : (szBook ks ps es : Int) ≤ 1048576
  · rw [szR_pos hsz]
    have SB : Hid (BSmall ks ps es) := BSmall.of (by omega)
    have hsA : sumN (fun e => e.fs.length) es ≤ 1048576 := sum_smallS (ks := ks) (ps := ps) (by omega)
    have hge : 0 ≤ 1048576 - (szBook ks ps es : Int) := by omega
    generalize 1048576 - (szBook ks ps es : Int) = r at *
    clear hsz
    obtain ⟨q, t, fx, fy, fz, L, hL, hsh⟩ := stand_shape ks ps es nm
    have GB : Hid (∀ wx : World, Below w.heap.size w wx → Calls Tryz.prog 7 #[.agg #[.slice ak ks.length ck, .slice ap ps.length cp, .slice ae es.length ce]] wx fun e w' => ∃ uk up ue, e = .returned (.agg #[uk, up, ue]) ∧ BookOwn (wx.heap.size + 3) w' uk up ue ks ps es ∧ Below wx.heap.size wx w') :=
      fun wx hx => toBook_own _ _ _ ks ps es wx (HB.out.keep hx) SB.out
    obtain ⟨g, hg⟩ : ∃ g, (standR ks ps es nm).isSome = g := ⟨_, rfl⟩
    have GS : Hid (∀ (x y z : Value) (wx : World), BookAt wx x y z ks ps es → Calls Tryz.prog 10 #[.agg #[x, y, z], .string nm] wx fun e w' => ∃ a n c, e = .returned (.tuple #[.agg #[.string q, .string t.s, .int .i64 t.x, .int .i64 t.y, .int .i64 fx, .int .i64 fy, .int .i64 fz, .slice a n c], .bool g]) ∧ SNew w' wx.heap.size (.slice a n c) L ∧ Below wx.heap.size wx w') := fun x y z wx h => (planStandsS_any x y z ks ps es nm wx h NB.out SB.out).mono fun e w' ⟨rt, he, hr, hb⟩ => by
      obtain ⟨rv, h1, h2⟩ := hsh w' wx.heap.size rt hb.size hr
      obtain ⟨a, c, rfl⟩ := Lv.own_slice h2
      exact ⟨a, _, c, by rw [he, h1, hg]; rfl, h2, hb⟩
    have GI : Hid (∀ (x y z : Value) (wx : World), BookAt wx x y z ks ps es → NeedIn wx → Calls Tryz.prog 11 #[.agg #[x, y, z], .string nm] wx fun e w' => ∃ a n c, e = .returned (.tuple #[.agg #[.string q, .string t.s, .int .i64 t.x, .int .i64 t.y, .int .i64 fx, .int .i64 fy, .int .i64 fz, .slice a n c], .bool g]) ∧ SNew w' wx.heap.size (.slice a n c) L ∧ Below wx.heap.size wx w') := fun x y z wx h hn => (planStands_any x y z ks ps es nm wx h NB.out SB.out hn).mono fun e w' ⟨rt, he, hr, hb⟩ => by
      obtain ⟨rv, h1, h2⟩ := hsh w' wx.heap.size rt hb.size hr
      obtain ⟨a, c, rfl⟩ := Lv.own_slice h2
      exact ⟨a, _, c, by rw [he, h1, hg]; rfl, h2, hb⟩
    clear hsh hg NB
    obtain ⟨y0, y1, y2⟩ : (w1.cell? ⟨w.heap.size, 0, none⟩ = some (.slice ak ks.length ck) ∧ w1.cell? ⟨w.heap.size, 1, none⟩ = some (.slice ap ps.length cp) ∧ w1.cell? ⟨w.heap.size, 2, none⟩ = some (.slice ae es.length ce)) := ⟨L1.out.cell 0, L1.out.cell 1, L1.out.cell 2⟩
    go_wp2_with fail
    refine (GB.out _ L1.out.below).mono ?_
    rintro e w2 ⟨k2, p2, e2, rfl, hB2, hb2⟩
    go_wp2_with fail
    refine (GS.out _ _ _ _ (hB2.at SB.out)).mono ?_
    rintro e w3 ⟨a0, n0, c0, rfl, hv3, hb3⟩
    have L3 : Hid (LS w w3 #[.slice ak ks.length ck, .slice ap ps.length cp, .slice ae es.length ce]) := (L1.out.call hb2).call hb3
    have V3 : Hid (SNew w3 (w.heap.size + 1) (.slice a0 n0 c0) L) := SNew.mono hv3 (by have := L1.out.z; have := hb2.size; omega)
    clear L1 hb2 hb3 hB2 hv3 y0 y1 y2 GS
    have B4 : Hid (Below w3.heap.size w3 (w3.alloc (.cells #[.string q, .string t.s, .int .i64 t.x, .int .i64 t.y, .int .i64 fx, .int .i64 fy, .int .i64 fz, .slice a0 n0 c0] 45))) := (Below.refl _ _).alloc (Nat.le_refl _) _
    have P4 : Hid ((w3.alloc (.cells #[.string q, .string t.s, .int .i64 t.x, .int .i64 t.y, .int .i64 fx, .int .i64 fy, .int .i64 fz, .slice a0 n0 c0] 45)).heap[w3.heap.size]? = some (.cells #[.string q, .string t.s, .int .i64 t.x, .int .i64 t.y, .int .i64 fx, .int .i64 fy, .int .i64 fz, .slice a0 n0 c0] 45 (0, 0))) := Lv.heap_newF w3 _
    have L4 : Hid (LS w (w3.alloc (.cells #[.string q, .string t.s, .int .i64 t.x, .int .i64 t.y, .int .i64 fx, .int .i64 fy, .int .i64 fz, .slice a0 n0 c0] 45)) #[.slice ak ks.length ck, .slice ap ps.length cp, .slice ae es.length ce]) := L3.out.call B4.out
    have V4 : Hid (SNew (w3.alloc (.cells #[.string q, .string t.s, .int .i64 t.x, .int .i64 t.y, .int .i64 fx, .int .i64 fy, .int .i64 fz, .slice a0 n0 c0] 45)) (w.heap.size + 1) (.slice a0 n0 c0) L) := Lv.own_keep V3.out B4.out
    have VL : Hid (∀ k, (Value.slice a0 n0 c0).ownBlock = some k → k < w3.heap.size) := Lv.own_lt V3.out
    obtain ⟨y0, y1, y2⟩ : ((w3.alloc (.cells #[.string q, .string t.s, .int .i64 t.x, .int .i64 t.y, .int .i64 fx, .int .i64 fy, .int .i64 fz, .slice a0 n0 c0] 45)).cell? ⟨w.heap.size, 0, none⟩ = some (.slice ak ks.length ck) ∧ (w3.alloc (.cells #[.string q, .string t.s, .int .i64 t.x, .int .i64 t.y, .int .i64 fx, .int .i64 fy, .int .i64 fz, .slice a0 n0 c0] 45)).cell? ⟨w.heap.size, 1, none⟩ = some (.slice ap ps.length cp) ∧ (w3.alloc (.cells #[.string q, .string t.s, .int .i64 t.x, .int .i64 t.y, .int .i64 fx, .int .i64 fy, .int .i64 fz, .slice a0 n0 c0] 45)).cell? ⟨w.heap.size, 2, none⟩ = some (.slice ae es.length ce)) := ⟨L4.out.cell 0, L4.out.cell 1, L4.out.cell 2⟩
    have hz4 : (w3.alloc (.cells #[.string q, .string t.s, .int .i64 t.x, .int .i64 t.y, .int .i64 fx, .int .i64 fy, .int .i64 fz, .slice a0 n0 c0] 45)).heap.size = w3.heap.size + 1 := by simp
    have hz3 := L3.out.z
    clear L3 V3 B4
    go_wp2_with fail
    generalize (w3.alloc (.cells #[.string q, .string t.s, .int .i64 t.x, .int .i64 t.y, .int .i64 fx, .int .i64 fy, .int .i64 fz, .slice a0 n0 c0] 45)) = w4 at *
    refine (GB.out _ L4.out.below).mono ?_
    rintro e w5 ⟨kv5, pv5, ev5, rfl, hB5, hb5⟩
    obtain ⟨⟨k5, k5', rfl, -, -, -⟩, ⟨p5, p5', rfl, -, -, -⟩, ⟨e5, e5', rfl, -, -, -⟩⟩ := hB5.at SB.out
    have BA5 : Hid (BookAt w5 (.slice k5 ks.length k5') (.slice p5 ps.length p5') (.slice e5 es.length e5') ks ps es) := hB5.at SB.out
    have OW5 : Hid (BookOwn (w4.heap.size + 3) w5 (.slice k5 ks.length k5') (.slice p5 ps.length p5') (.slice e5 es.length e5') ks ps es) := hB5
    have hz5 := hb5.size
    have B6 : Hid (Below w5.heap.size w5 (w5.alloc (.cells #[.slice k5 ks.length k5', .slice p5 ps.length p5', .slice e5 es.length e5'] 37))) := (Below.refl _ _).alloc (Nat.le_refl _) _
    have X6 : Hid ((w5.alloc (.cells #[.slice k5 ks.length k5', .slice p5 ps.length p5', .slice e5 es.length e5'] 37)).heap[w5.heap.size]? = some (.cells #[.slice k5 ks.length k5', .slice p5 ps.length p5', .slice e5 es.length e5'] 37 (0, 0))) := Lv.heap_newF w5 _
    have L6 : Hid (LS w (w5.alloc (.cells #[.slice k5 ks.length k5', .slice p5 ps.length p5', .slice e5 es.length e5'] 37)) #[.slice ak ks.length ck, .slice ap ps.length cp, .slice ae es.length ce]) := (L4.out.call hb5).call B6.out
    have V6 : Hid (SNew (w5.alloc (.cells #[.slice k5 ks.length k5', .slice p5 ps.length p5', .slice e5 es.length e5'] 37)) (w.heap.size + 1) (.slice a0 n0 c0) L ∧ (w5.alloc (.cells #[.slice k5 ks.length k5', .slice p5 ps.length p5', .slice e5 es.length e5'] 37)).heap[w3.heap.size]? = some (.cells #[.string q, .string t.s, .int .i64 t.x, .int .i64 t.y, .int .i64 fx, .int .i64 fy, .int .i64 fz, .slice a0 n0 c0] 45 (0, 0))) := ⟨Lv.own_keep (Lv.own_keep V4.out hb5) B6.out, below_block B6.out (below_block hb5 P4.out)⟩
    have hz6 : (w5.alloc (.cells #[.slice k5 ks.length k5', .slice p5 ps.length p5', .slice e5 es.length e5'] 37)).heap.size = w5.heap.size + 1 := by simp
    clear hB5 hb5 L4 V4 P4 y0 y1 y2
    obtain ⟨y0, y1, y2⟩ := three_cellsS X6.out
    go_wp2_with fail
    generalize (w5.alloc (.cells #[.slice k5 ks.length k5', .slice p5 ps.length p5', .slice e5 es.length e5'] 37)) = w6 at *
    refine (GI.out _ _ _ _ (BA5.out.keep B6.out) (HN.out.keep L6.out.below)).mono ?_
    rintro e w7 ⟨ag, ng, cg, rfl, hv7, hb7⟩
    have hz7 := hb7.size
    have S8 : Hid (SX w w3 w5 w7 (w7.alloc (.cells #[.string q, .string t.s, .int .i64 t.x, .int .i64 t.y, .int .i64 fx, .int .i64 fy, .int .i64 fz, .slice ag ng cg] 45)) #[.slice ak ks.length ck, .slice ap ps.length cp, .slice ae es.length ce] #[.string q, .string t.s, .int .i64 t.x, .int .i64 t.y, .int .i64 fx, .int .i64 fy, .int .i64 fz, .slice a0 n0 c0] #[.slice k5 ks.length k5', .slice p5 ps.length p5', .slice e5 es.length e5'] #[.string q, .string t.s, .int .i64 t.x, .int .i64 t.y, .int .i64 fx, .int .i64 fy, .int .i64 fz, .slice ag ng cg] (.slice a0 n0 c0) (.slice ag ng cg) L) := by
      have hb : Below w7.heap.size w7 (w7.alloc (.cells #[.string q, .string t.s, .int .i64 t.x, .int .i64 t.y, .int .i64 fx, .int .i64 fy, .int .i64 fz, .slice ag ng cg] 45)) := (Below.refl _ _).alloc (Nat.le_refl _) _
      have hc := below_step hb7 hb
      exact ⟨L6.out.call hc, below_block hc V6.out.2, Lv.own_keep V6.out.1 hc, below_block hc X6.out, below_step B6.out hc, Lv.heap_newF w7 _, Lv.own_keep (hz6 ▸ hv7) hb⟩
    have hz8 : (w7.alloc (.cells #[.string q, .string t.s, .int .i64 t.x, .int .i64 t.y, .int .i64 fx, .int .i64 fy, .int .i64 fz, .slice ag ng cg] 45)).heap.size = w7.heap.size + 1 := by simp
    have HGL : Hid (∀ k, (Value.slice ag ng cg).ownBlock = some k → k < w7.heap.size) := Lv.own_lt hv7
    clear L6 V6 X6 B6 hv7 hb7 y0 y1 y2
    obtain ⟨⟨x0, x1, x2, x3⟩, x4, x5, x6, x7⟩ := eight_cells S8.out.p0
    obtain ⟨⟨y0, y1, y2, y3⟩, y4, y5, y6, y7⟩ := eight_cells S8.out.p2
    have hgg : (g != g) = false := by cases g <;> rfl
    go_wp2_with fail
    generalize (w7.alloc (.cells #[.string q, .string t.s, .int .i64 t.x, .int .i64 t.y, .int .i64 fx, .int .i64 fy, .int .i64 fz, .slice ag ng cg] 45)) = w8 at *
    refine (eqFlight_any q t fx fy fz _ _ L _ S8.out.g.arg S8.out.v.arg).mono ?_
    rintro e w9 ⟨rfl, hb9⟩
    have S9 : Hid (SX w w3 w5 w7 w9 #[.slice ak ks.length ck, .slice ap ps.length cp, .slice ae es.length ce] #[.string q, .string t.s, .int .i64 t.x, .int .i64 t.y, .int .i64 fx, .int .i64 fy, .int .i64 fz, .slice a0 n0 c0] #[.slice k5 ks.length k5', .slice p5 ps.length p5', .slice e5 es.length e5'] #[.string q, .string t.s, .int .i64 t.x, .int .i64 t.y, .int .i64 fx, .int .i64 fy, .int .i64 fz, .slice ag ng cg] (.slice a0 n0 c0) (.slice ag ng cg) L) := S8.out.call hb9
    have hz9 := hb9.size
    clear S8 hb9 x0 x1 x2 x3 x4 x5 x6 x7 y0 y1 y2 y3 y4 y5 y6 y7
    go_wp2
    -- the copy is as it was
    refine wp_region_noPanic ?_
    refine wp_region_held_drew (S := fun wx => (wx.cell? ⟨w5.heap.size, 0, none⟩ = some (.slice k5 ks.length k5') ∧ wx.cell? ⟨w5.heap.size, 1, none⟩ = some (.slice p5 ps.length p5') ∧ wx.cell? ⟨w5.heap.size, 2, none⟩ = some (.slice e5 es.length e5')) ∧ (wx.cell? ⟨w.heap.size, 0, none⟩ = some (.slice ak ks.length ck) ∧ wx.cell? ⟨w.heap.size, 1, none⟩ = some (.slice ap ps.length cp) ∧ wx.cell? ⟨w.heap.size, 2, none⟩ = some (.slice ae es.length ce))) (by kernel_rfl) ?_ (fun hHeld => ?_)
    · exact ⟨three_cellsS S9.out.x, S9.out.la.cell 0, S9.out.la.cell 1, S9.out.la.cell 2⟩
    refine wpAnyH_take (i := 0) (v := ?_) rfl (by kernel_rfl) (by kernel_rfl) (by kernel_rfl) (fun _ _ _ h => h) (Or.inl ⟨by rfl, ?_⟩) (by assumption) ?_
    rotate_left
    · intro w hSw; (try dsimp only at hSw); go_simp; try with_reducible rfl
    simp only [Act.put, List.setIfInBounds_toArray, List.set_cons_zero, List.set_cons_succ, List.getElem_toArray, List.getElem_cons_succ, List.getElem_cons_zero]
    refine wpAnyH_take (i := 1) (v := ?_) rfl (by kernel_rfl) (by kernel_rfl) (by kernel_rfl) (fun _ _ _ h => h) (Or.inl ⟨by rfl, ?_⟩) (by assumption) ?_
    rotate_left
    · intro w hSw; (try dsimp only at hSw); go_simp; try with_reducible rfl
    simp only [Act.put, List.setIfInBounds_toArray, List.set_cons_zero, List.set_cons_succ, List.getElem_toArray, List.getElem_cons_succ, List.getElem_cons_zero]
    refine wpAnyH_ready (rs := [2]) (by kernel_rfl) (by simp) ?_
    refine AllReadyH.cons rfl (fun K hK => ?_) AllReadyH.nil
    go_simp
    refine (GB.out _ S9.out.la.below.drew).mono ?_
    rintro e w10 ⟨kz, pz, ez, rfl, hBz, hb10⟩
    have S10 : Hid (SX w w3 w5 w7 w10 #[.slice ak ks.length ck, .slice ap ps.length cp, .slice ae es.length ce] #[.string q, .string t.s, .int .i64 t.x, .int .i64 t.y, .int .i64 fx, .int .i64 fy, .int .i64 fz, .slice a0 n0 c0] #[.slice k5 ks.length k5', .slice p5 ps.length p5', .slice e5 es.length e5'] #[.string q, .string t.s, .int .i64 t.x, .int .i64 t.y, .int .i64 fx, .int .i64 fy, .int .i64 fz, .slice ag ng cg] (.slice a0 n0 c0) (.slice ag ng cg) L) := S9.out.drew.call hb10
    have BZ : Hid (BookAt w10 kz pz ez ks ps es) := hBz.at SB.out
    have hz10 : w9.heap.size ≤ w10.heap.size := hb10.size
    refine hK.out _ _ ⟨three_cellsS S10.out.x, S10.out.la.cell 0, S10.out.la.cell 1, S10.out.la.cell 2⟩ (fun hHeld12 => ?_)
    clear hK K hHeld hHeld12 S9 hb10 hBz
    refine wpAnyH_ready (rs := [3]) (by kernel_rfl) (by simp) ?_
    refine AllReadyH.cons rfl (fun K hK => ?_) AllReadyH.nil
    go_simp
    refine (eqBook_any _ _ _ _ _ _ ks ps es _ (BA5.out.keep S10.out.t) BZ.out).mono ?_
    rintro e w11 ⟨rfl, hb11⟩
    have S11 : Hid (SX w w3 w5 w7 w11 #[.slice ak ks.length ck, .slice ap ps.length cp, .slice ae es.length ce] #[.string q, .string t.s, .int .i64 t.x, .int .i64 t.y, .int .i64 fx, .int .i64 fy, .int .i64 fz, .slice a0 n0 c0] #[.slice k5 ks.length k5', .slice p5 ps.length p5', .slice e5 es.length e5'] #[.string q, .string t.s, .int .i64 t.x, .int .i64 t.y, .int .i64 fx, .int .i64 fy, .int .i64 fz, .slice ag ng cg] (.slice a0 n0 c0) (.slice ag ng cg) L) := S10.out.call hb11
    have hz11 := hb11.size
    refine hK.out _ _ ⟨three_cellsS S11.out.x, S11.out.la.cell 0, S11.out.la.cell 1, S11.out.la.cell 2⟩ (fun hHeld13 => ?_)
    clear hK K S10 hb11 BZ
    refine wpAnyH_take (i := 4) (v := ?_) rfl (by kernel_rfl) (by kernel_rfl) (by kernel_rfl) (fun _ _ _ h => h) (Or.inl ⟨by rfl, ?_⟩) (by assumption) ?_
    rotate_left
    · intro w hSw; (try dsimp only at hSw); go_simp; try with_reducible rfl
    simp only [Act.put, List.setIfInBounds_toArray, List.set_cons_zero, List.set_cons_succ, List.getElem_toArray, List.getElem_cons_succ, List.getElem_cons_zero]
    clear hHeld13
    refine wpAnyH_done (by kernel_rfl) ?_ _
    refine NoPanic.normal ?_
    -- marks over the copy
    obtain ⟨x0, x1, x2⟩ := three_cellsS S11.out.x
    go_wp2_with fail
    refine (markBook_any _ _ _ ks ps es 1 (w4.heap.size + 3) w5 _ OW5.out (fun k _ hk => S11.out.t.block k hk) S11.out.t.size SB.out hsA (by omega)).mono ?_
    rintro e w12 ⟨⟨k12, hk12, hk12', rfl⟩, hO12⟩
    have hl7 : w7.heap.size < w11.heap.size := lt_of_block S11.out.p2
    have hz12 := hO12.below.size
    have L12 : Hid (LS w w12 #[.slice ak ks.length ck, .slice ap ps.length cp, .slice ae es.length ce]) := S11.out.la.only hO12 (by omega)
    have P12 : Hid (w12.heap[w3.heap.size]? = some (.cells #[.string q, .string t.s, .int .i64 t.x, .int .i64 t.y, .int .i64 fx, .int .i64 fy, .int .i64 fz, .slice a0 n0 c0] 45 (0, 0)) ∧ w12.heap[w7.heap.size]? = some (.cells #[.string q, .string t.s, .int .i64 t.x, .int .i64 t.y, .int .i64 fx, .int .i64 fy, .int .i64 fz, .slice ag ng cg] 45 (0, 0))) := ⟨(hO12.below.block _ (by omega)).trans S11.out.p0, (hO12.up _ (by omega) hl7).trans S11.out.p2⟩
    have V12 : Hid (SNew w12 (w.heap.size + 1) (.slice a0 n0 c0) L ∧ SNew w12 (w5.heap.size + 1) (.slice ag ng cg) L) := ⟨S11.out.v.far (fun k hk _ => hO12.below.block k (by have := VL.out k hk; omega)), S11.out.g.far (fun k hk hl => hO12.up k (by have := own_ge S11.out.g k hk; omega) hl)⟩
    clear hO12 x0 x1 x2 S11
    have hk12n : ¬ ((k12 : Nat) : Int) < 0 := by omega
    obtain ⟨⟨x0, x1, x2, x3⟩, x4, x5, x6, x7⟩ := eight_cells P12.out.1
    obtain ⟨⟨y0, y1, y2, y3⟩, y4, y5, y6, y7⟩ := eight_cells P12.out.2
    go_wp2_with fail
    refine (eqFlight_any q t fx fy fz _ _ L _ V12.out.2.arg V12.out.1.arg).mono ?_
    rintro e w13 ⟨rfl, hb13⟩
    have L13 : Hid (LS w w13 #[.slice ak ks.length ck, .slice ap ps.length cp, .slice ae es.length ce]) := L12.out.call hb13
    have P13 : Hid (w13.heap[w3.heap.size]? = some (.cells #[.string q, .string t.s, .int .i64 t.x, .int .i64 t.y, .int .i64 fx, .int .i64 fy, .int .i64 fz, .slice a0 n0 c0] 45 (0, 0)) ∧ w13.heap[w7.heap.size]? = some (.cells #[.string q, .string t.s, .int .i64 t.x, .int .i64 t.y, .int .i64 fx, .int .i64 fy, .int .i64 fz, .slice ag ng cg] 45 (0, 0))) := ⟨below_block hb13 P12.out.1, below_block hb13 P12.out.2⟩
    have V13 : Hid (SNew w13 (w.heap.size + 1) (.slice a0 n0 c0) L ∧ SNew w13 (w5.heap.size + 1) (.slice ag ng cg) L) := ⟨Lv.own_keep V12.out.1 hb13, Lv.own_keep V12.out.2 hb13⟩
    have hz13 := hb13.size
    clear L12 V12 P12 hb13 x0 x1 x2 x3 x4 x5 x6 x7 y0 y1 y2 y3 y4 y5 y6 y7
    -- marks over the answer
    obtain ⟨⟨y0, y1, y2, y3⟩, y4, y5, y6, y7⟩ := eight_cells P13.out.2
    have hgb : Hid (∀ k, (Value.slice ag ng cg).ownBlock = some k → w5.heap.size + 1 ≤ k ∧ k < w7.heap.size) := fun k hk => ⟨own_ge V13.out.2 k hk, HGL.out k hk⟩
    go_wp2_with fail
    refine (markFlight_any q t fx fy fz _ L.length 1 _ (RooT.of V13.out.2) hL (by omega)).mono ?_
    rintro e w14 ⟨rfl, hM14, hg14⟩
    have L14 : Hid (LS w w14 #[.slice ak ks.length ck, .slice ap ps.length cp, .slice ae es.length ce]) := L13.out.grown hg14 (fun k hk => by have := (hgb.out k hk).1; omega)
    have P14 : Hid (w14.heap[w3.heap.size]? = some (.cells #[.string q, .string t.s, .int .i64 t.x, .int .i64 t.y, .int .i64 fx, .int .i64 fy, .int .i64 fz, .slice a0 n0 c0] 45 (0, 0)) ∧ w14.heap[w7.heap.size]? = some (.cells #[.string q, .string t.s, .int .i64 t.x, .int .i64 t.y, .int .i64 fx, .int .i64 fy, .int .i64 fz, .slice ag ng cg] 45 (0, 0))) := ⟨(hg14.block _ (lt_of_block P13.out.1) (fun e => by have := (hgb.out _ e.symm).1; omega)).trans P13.out.1, (hg14.block _ (lt_of_block P13.out.2) (fun e => by have := (hgb.out _ e.symm).2; omega)).trans P13.out.2⟩
    have V14 : Hid (SNew w14 (w.heap.size + 1) (.slice a0 n0 c0) L) := V13.out.1.far (fun k hk hl => hg14.block k hl (fun e => by have h1 := VL.out k hk; have h2 := (hgb.out k e.symm).1; omega))
    have M14 : Hid (RowT w14 (.slice ag ng cg) L.length 1) := hM14
    clear hM14 hg14 L13 V13 P13 y0 y1 y2 y3 y4 y5 y6 y7
    have GH : Hid (∀ wx : World, RowT wx (.slice ag ng cg) L.length 1 → Calls Tryz.prog 15 #[.agg #[.string q, .string t.s, .int .i64 t.x, .int .i64 t.y, .int .i64 fx, .int .i64 fy, .int .i64 fz, .slice ag ng cg], .int .i64 1] wx fun e w' => e = .returned (.int .i64 ((1 + L.length : Nat) : Int)) ∧ Below wx.heap.size wx w') := fun wx h => heldFlight_any q t fx fy fz _ L.length 1 wx h hL (by omega)
    generalize hmm : 1 + L.length = mm at *
    have hmn : ¬ ((mm : Nat) : Int) < 0 := by omega
    have hme : (((mm : Nat) : Int) != ((mm : Nat) : Int)) = false := by simp
    obtain ⟨⟨y0, y1, y2, y3⟩, y4, y5, y6, y7⟩ := eight_cells P14.out.2
    go_wp2_with fail
    refine (GH.out _ M14.out).mono ?_
    rintro e w15 ⟨rfl, hb15⟩
    have L15 : Hid (LS w w15 #[.slice ak ks.length ck, .slice ap ps.length cp, .slice ae es.length ce]) := L14.out.call hb15
    have P15 : Hid (w15.heap[w3.heap.size]? = some (.cells #[.string q, .string t.s, .int .i64 t.x, .int .i64 t.y, .int .i64 fx, .int .i64 fy, .int .i64 fz, .slice a0 n0 c0] 45 (0, 0)) ∧ w15.heap[w7.heap.size]? = some (.cells #[.string q, .string t.s, .int .i64 t.x, .int .i64 t.y, .int .i64 fx, .int .i64 fy, .int .i64 fz, .slice ag ng cg] 45 (0, 0))) := ⟨below_block hb15 P14.out.1, below_block hb15 P14.out.2⟩
    have V15 : Hid (SNew w15 (w.heap.size + 1) (.slice a0 n0 c0) L ∧ RowT w15 (.slice ag ng cg) L.length 1) := ⟨Lv.own_keep V14.out hb15, M14.out.keep hb15⟩
    clear L14 P14 V14 M14 hb15 y0 y1 y2 y3 y4 y5 y6 y7
    -- once more
    obtain ⟨y0, y1, y2⟩ : (w15.cell? ⟨w.heap.size, 0, none⟩ = some (.slice ak ks.length ck) ∧ w15.cell? ⟨w.heap.size, 1, none⟩ = some (.slice ap ps.length cp) ∧ w15.cell? ⟨w.heap.size, 2, none⟩ = some (.slice ae es.length ce)) := ⟨L15.out.cell 0, L15.out.cell 1, L15.out.cell 2⟩
    go_wp2_with fail
    refine (GB.out _ L15.out.below).mono ?_
    rintro e w16 ⟨k3, p3, e3, rfl, hB16, hb16⟩
    have HB16 : Hid (BookAt w16 k3 p3 e3 ks ps es) := hB16.at SB.out
    go_wp2_with fail
    refine (GI.out _ _ _ _ HB16.out (HN.out.keep (below_step L15.out.below hb16))).mono ?_
    rintro e w17 ⟨ah, nh, ch, rfl, hv17, hb17⟩
    have hb18 : Below w17.heap.size w17 (w17.alloc (.cells #[.string q, .string t.s, .int .i64 t.x, .int .i64 t.y, .int .i64 fx, .int .i64 fy, .int .i64 fz, .slice ah nh ch] 45)) := (Below.refl _ _).alloc (Nat.le_refl _) _
    have hbb := below_step (below_step hb16 hb17) hb18
    have L18 : Hid (LS w (w17.alloc (.cells #[.string q, .string t.s, .int .i64 t.x, .int .i64 t.y, .int .i64 fx, .int .i64 fy, .int .i64 fz, .slice ah nh ch] 45)) #[.slice ak ks.length ck, .slice ap ps.length cp, .slice ae es.length ce]) := L15.out.call hbb
    have P18 : Hid ((w17.alloc (.cells #[.string q, .string t.s, .int .i64 t.x, .int .i64 t.y, .int .i64 fx, .int .i64 fy, .int .i64 fz, .slice ah nh ch] 45)).heap[w3.heap.size]? = some (.cells #[.string q, .string t.s, .int .i64 t.x, .int .i64 t.y, .int .i64 fx, .int .i64 fy, .int .i64 fz, .slice a0 n0 c0] 45 (0, 0)) ∧ (w17.alloc (.cells #[.string q, .string t.s, .int .i64 t.x, .int .i64 t.y, .int .i64 fx, .int .i64 fy, .int .i64 fz, .slice ah nh ch] 45)).heap[w7.heap.size]? = some (.cells #[.string q, .string t.s, .int .i64 t.x, .int .i64 t.y, .int .i64 fx, .int .i64 fy, .int .i64 fz, .slice ag ng cg] 45 (0, 0)) ∧ (w17.alloc (.cells #[.string q, .string t.s, .int .i64 t.x, .int .i64 t.y, .int .i64 fx, .int .i64 fy, .int .i64 fz, .slice ah nh ch] 45)).heap[w17.heap.size]? = some (.cells #[.string q, .string t.s, .int .i64 t.x, .int .i64 t.y, .int .i64 fx, .int .i64 fy, .int .i64 fz, .slice ah nh ch] 45 (0, 0))) := ⟨below_block hbb P15.out.1, below_block hbb P15.out.2, Lv.heap_newF w17 _⟩
    have V18 : Hid (SNew (w17.alloc (.cells #[.string q, .string t.s, .int .i64 t.x, .int .i64 t.y, .int .i64 fx, .int .i64 fy, .int .i64 fz, .slice ah nh ch] 45)) (w.heap.size + 1) (.slice a0 n0 c0) L ∧ RowT (w17.alloc (.cells #[.string q, .string t.s, .int .i64 t.x, .int .i64 t.y, .int .i64 fx, .int .i64 fy, .int .i64 fz, .slice ah nh ch] 45)) (.slice ag ng cg) L.length 1 ∧ SNew (w17.alloc (.cells #[.string q, .string t.s, .int .i64 t.x, .int .i64 t.y, .int .i64 fx, .int .i64 fy, .int .i64 fz, .slice ah nh ch] 45)) w16.heap.size (.slice ah nh ch) L) := ⟨Lv.own_keep V15.out.1 hbb, V15.out.2.keep hbb, Lv.own_keep hv17 hb18⟩
    clear L15 P15 V15 hb16 hb17 hb18 hbb hv17 hB16 HB16 y0 y1 y2
    obtain ⟨⟨x0, x1, x2, x3⟩, x4, x5, x6, x7⟩ := eight_cells P18.out.1
    obtain ⟨⟨y0, y1, y2, y3⟩, y4, y5, y6, y7⟩ := eight_cells P18.out.2.2
    go_wp2_with fail
    generalize (w17.alloc (.cells #[.string q, .string t.s, .int .i64 t.x, .int .i64 t.y, .int .i64 fx, .int .i64 fy, .int .i64 fz, .slice ah nh ch] 45)) = w18 at *
    refine (eqFlight_any q t fx fy fz _ _ L _ V18.out.2.2.arg V18.out.1.arg).mono ?_
    rintro e w19 ⟨rfl, hb19⟩
    have L19 : Hid (LS w w19 #[.slice ak ks.length ck, .slice ap ps.length cp, .slice ae es.length ce]) := L18.out.call hb19
    have P19 : Hid (w19.heap[w7.heap.size]? = some (.cells #[.string q, .string t.s, .int .i64 t.x, .int .i64 t.y, .int .i64 fx, .int .i64 fy, .int .i64 fz, .slice ag ng cg] 45 (0, 0))) := below_block hb19 P18.out.2.1
    have V19 : Hid (RowT w19 (.slice ag ng cg) L.length 1) := V18.out.2.1.keep hb19
    clear L18 P18 V18 hb19 x0 x1 x2 x3 x4 x5 x6 x7 y0 y1 y2 y3 y4 y5 y6 y7
    obtain ⟨⟨y0, y1, y2, y3⟩, y4, y5, y6, y7⟩ := eight_cells P19.out
    go_wp2_with fail
    refine (GH.out _ V19.out).mono ?_
    rintro e w20 ⟨rfl, hb20⟩
    have L20 : Hid (LS w w20 #[.slice ak ks.length ck, .slice ap ps.length cp, .slice ae es.length ce]) := L19.out.call hb20
    clear hb20
    go_wp2
    go_ret
    exact ⟨rfl, L20.out.below⟩
  · rw [szR_neg hsz]
    go_wp2
    go_ret
    exact ⟨rfl, L1.out.below⟩
end Go.Proofs.YtfjblenkcfdbiaaGreatDoor.Sd
