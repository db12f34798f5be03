import Derived.Test.YtibpkhmiahamcaaGreatSp1
set_option linter.unusedSimpArgs false
set_option linter.unusedVariables false
namespace Go.Proofs.YtibpkhmiahamcaaGreat.Dr
open Go.RowKit Go.Proofs.YtibpkhmiahamcaaGreat
attribute [local go_sem] Later.cell Later.frozen
theorem cell_row3 {w : World} {X : Nat} {T : TypeId} {u1 u2 u3 : Value} {a1 a2 a3 : Option Addr} {n1 n2 n3 c1 c2 c3 : Nat} (hX : w.heap[X]? = some (.cells #[.slice a1 n1 c1, .slice a2 n2 c2, .slice a3 n3 c3] T (0, 0))) (C : Array Value) {b o : Nat} {s : ByteArray} (hc : w.cell? ⟨b, o, none⟩ = some (.string s)) : (w.setRow X C).heap[b]? = w.heap[b]? := by
 refine setRow_other _ _ _ _ (fun e => ?_)
 subst e
 simp only [World.cell?, hX] at hc
 rcases o with - | - | - | o <;> simp at hc
theorem cell_same {w w' : World} {b o : Nat} {u : Value} (hb : w'.heap[b]? = w.heap[b]?) (hc : w.cell? ⟨b, o, none⟩ = some u) : w'.cell? ⟨b, o, none⟩ = some u := by
 rw [World.cell?_of_block (w := w) hb]
 exact hc
theorem TrisAt_str {w w' : World} {v : Value} {l : List Tri} (h : TrisAt w v l) (hs : ∀ b o s, w.cell? ⟨b, o, none⟩ = some (.string s) → w'.heap[b]? = w.heap[b]?) : TrisAt w' v l := by
 obtain ⟨a, cap, rfl, h1, h2, h3⟩ := h
 refine ⟨a, cap, rfl, h1, h2, fun i t ht => ?_⟩
 obtain ⟨b, off, e, d0, d1, d2⟩ := h3 i t ht
 have hb := hs _ _ _ d0
 exact ⟨b, off, e, cell_same hb d0, cell_same hb d1, cell_same hb d2⟩
theorem FldsAt_str {w w' : World} {v : Value} {l : List Fld} (h : FldsAt w v l) (hs : ∀ b o s, w.cell? ⟨b, o, none⟩ = some (.string s) → w'.heap[b]? = w.heap[b]?) : FldsAt w' v l := by
 obtain ⟨a, cap, rfl, h1, h2, h3⟩ := h
 refine ⟨a, cap, rfl, h1, h2, fun i t ht => ?_⟩
 obtain ⟨b, off, e, d0, d1, d2⟩ := h3 i t ht
 have hb := hs _ _ _ d2
 exact ⟨b, off, e, cell_same hb d0, cell_same hb d1, cell_same hb d2⟩
theorem EntsAt_str {w w' : World} {v : Value} {l : List Ent} (h : EntsAt w v l) (hs : ∀ b o s, w.cell? ⟨b, o, none⟩ = some (.string s) → w'.heap[b]? = w.heap[b]?) : EntsAt w' v l := by
 obtain ⟨a, cap, rfl, h1, h2, h3⟩ := h
 refine ⟨a, cap, rfl, h1, h2, fun i t ht => ?_⟩
 obtain ⟨b, off, e, fv, d0, d1, hf⟩ := h3 i t ht
 have hb := hs _ _ _ d0
 exact ⟨b, off, e, fv, cell_same hb d0, cell_same hb d1, FldsAt_str hf hs⟩
theorem BookAt_str {w w' : World} {vk vp ve : Value} {ks ps : List Tri} {es : List Ent} (h : BookAt w vk vp ve ks ps es) (hs : ∀ b o s, w.cell? ⟨b, o, none⟩ = some (.string s) → w'.heap[b]? = w.heap[b]?) : BookAt w' vk vp ve ks ps es :=
 ⟨TrisAt_str h.k hs, TrisAt_str h.p hs, EntsAt_str h.e hs⟩
theorem BookAt.slices {w : World} {vk vp ve : Value} {ks ps : List Tri} {es : List Ent} (h : BookAt w vk vp ve ks ps es) : ∃ a1 c1 a2 c2 a3 c3, vk = .slice a1 ks.length c1 ∧ vp = .slice a2 ps.length c2 ∧ ve = .slice a3 es.length c3 := by
 obtain ⟨⟨a1, c1, h1, -⟩, ⟨a2, c2, h2, -⟩, ⟨a3, c3, h3, -⟩⟩ := h
 exact ⟨a1, c1, a2, c2, a3, c3, h1, h2, h3⟩
end Go.Proofs.YtibpkhmiahamcaaGreat.Dr
namespace Go.Proofs.YtibpkhmiahamcaaGreat.Dr
open Go.RowKit Go.Proofs.YtibpkhmiahamcaaGreat
attribute [local go_sem] Later.cell Later.frozen
end Go.Proofs.YtibpkhmiahamcaaGreat.Dr
namespace Go.Proofs.YtibpkhmiahamcaaGreat.Dr
open Go.RowKit Go.Proofs.YtibpkhmiahamcaaGreat
attribute [local go_sem] Later.cell Later.frozen
def Str (w w' : World) : Prop := ∀ b o s, w.cell? ⟨b, o, none⟩ = some (.string s) → w'.heap[b]? = w.heap[b]?
theorem Str.trans {w w' w2 : World} (h : Str w w') (k : Str w' w2) : Str w w2 := fun b o s hc => by
 have h1 := h b o s hc
 rw [k b o s (cell_same h1 hc), h1]
theorem Str.below {w w' : World} (h : Below w.heap.size w w') : Str w w' := fun b o s hc => h.block b (lt_of_cell hc)
theorem Str.rd {w w' : World} {R p : Nat} (hr : Rd w R p) (h : w.grownBy w' (some R)) : Str w w' := fun b o s hc => by
 obtain ⟨v, n, hn, hb, a, cap, rfl, -⟩ := hr.box
 refine h.block b (lt_of_cell hc) (fun e => ?_)
 injection e with e
 subst e
 simp only [World.cell?, hb] at hc
 rcases o with - | - | o <;> simp at hc
theorem Str.row3 {w : World} {X : Nat} {T : TypeId} {a1 a2 a3 : Option Addr} {n1 n2 n3 c1 c2 c3 : Nat} (hX : w.heap[X]? = some (.cells #[.slice a1 n1 c1, .slice a2 n2 c2, .slice a3 n3 c3] T (0, 0))) (C : Array Value) : Str w (w.setRow X C) := fun b o s hc => cell_row3 (u1 := .slice none 0 0) (u2 := .slice none 0 0) (u3 := .slice none 0 0) hX C hc
theorem Str.book {w w' : World} {vk vp ve : Value} {ks ps : List Tri} {es : List Ent} (h : Str w w') (hb : BookAt w vk vp ve ks ps es) : BookAt w' vk vp ve ks ps es := BookAt_str hb h
theorem Str.tris {w w' : World} {v : Value} {l : List Tri} (h : Str w w') (hb : TrisAt w v l) : TrisAt w' v l := TrisAt_str hb h
theorem held33 {z : World} {B C : Nat} {T U : TypeId} {k p x a b c : Value} (hB : z.heap[B]? = some (.cells #[k, p, x] T (0, 0))) (hC : z.heap[C]? = some (.cells #[a, b, c] U (0, 0))) :
  (z.cell? ⟨B, 0, none⟩ = some k ∧ z.cell? ⟨B, 1, none⟩ = some p ∧ z.cell? ⟨B, 2, none⟩ = some x) ∧ z.cell? ⟨C, 0, none⟩ = some a ∧ z.cell? ⟨C, 1, none⟩ = some b ∧ z.cell? ⟨C, 2, none⟩ = some c :=
 ⟨⟨cell_blkD hB rfl, cell_blkD hB rfl, cell_blkD hB rfl⟩, cell_blkD hC rfl, cell_blkD hC rfl, cell_blkD hC rfl⟩
def MQ (w W : World) (X Y : Nat) (r0 r1 A B : Array Value) (P Q : World → Prop) : Prop := Below w.heap.size w W ∧ W.heap[w.heap.size]? = some (.cells r0 29 (0, 0)) ∧ W.heap[w.heap.size + 1]? = some (.cells r1 29 (0, 0)) ∧ W.heap[X]? = some (.cells A 29 (0, 0)) ∧ W.heap[Y]? = some (.cells B 29 (0, 0)) ∧ P W ∧ Q W
structure DM (w z : World) (R q : Nat) (bs : List Bx) : Prop where
 rd : Rd z R q
 bx : Bxs w z bs
 lo : w.heap.size ≤ R
 no : ∀ p ∈ bs, p.1 ≠ R
theorem DM.call {w z z' : World} {R q : Nat} {bs : List Bx} (h : DM w z R q bs) (hb : Below z.heap.size z z') : DM w z' R q bs := ⟨h.rd.far hb, h.bx.call hb, h.lo, h.no⟩
theorem DM.grow {w z z' : World} {R q q' : Nat} {bs : List Bx} (h : DM w z R q bs) (hr : Rd z' R q') (hg : z.grownBy z' (some R)) : DM w z' R q' bs :=
 ⟨hr, ⟨below_grown h.bx.below hg h.lo, fun p hp => box_keep hg (h.no p hp) (h.bx.has p hp)⟩, h.lo, h.no⟩
theorem DM.push {w z : World} {R q : Nat} {bs : List Bx} (h : DM w z R q bs) (C : Array Value) (T : TypeId) : DM w (z.alloc (.cells C T)) R q ((z.heap.size, C, T) :: bs) := by
 have h1 := h.call ((Below.refl _ _).alloc (Nat.le_refl _) (.cells C T))
 refine ⟨h1.rd, h1.bx.push (heap_newD z _), h1.lo, fun p hp => ?_⟩
 rcases List.mem_cons.1 hp with rfl | hp
 ·have := h.rd.lt
  show z.heap.size ≠ R
  omega
 ·exact h1.no p hp
set_option maxRecDepth 100000 in
set_option maxHeartbeats 6400000 in
theorem drawMerge_any (v : Value) (n : Nat) (w : World) (h : BysArg w v n) :
  Calls Tryz.prog 12 #[v] w fun e w' => ∃ (x y z x' y' z' : Value) (ks ps ks' ps' : List Tri) (es es' : List Ent), e = .returned (.tuple #[.agg #[x, y, z], .agg #[x', y', z']]) ∧ BookAt w' x y z ks ps es ∧ BookAt w' x' y' z' ks' ps' es' ∧ SmB (ks, ps, es) ∧ SmB (ks', ps', es') ∧ Below w.heap.size w w' := by
 have HA := toHid h
 obtain ⟨a, cap, rfl, -⟩ := h
 have HB : Hid (Bxs w ((w.alloc (.cells #[.slice none 0 0, .slice none 0 0, .slice none 0 0] 29)).alloc (.cells #[.slice none 0 0, .slice none 0 0, .slice none 0 0] 29)) [(w.heap.size, #[.slice none 0 0, .slice none 0 0, .slice none 0 0], 29), (w.heap.size + 1, #[.slice none 0 0, .slice none 0 0, .slice none 0 0], 29)]) := Bxs.start2 w #[.slice none 0 0, .slice none 0 0, .slice none 0 0] #[.slice none 0 0, .slice none 0 0, .slice none 0 0] 29 29
 go_enter Tryz.func12, Tryz.ntmps12
 go_wp2_with fail
 generalize ((w.alloc (.cells #[.slice none 0 0, .slice none 0 0, .slice none 0 0] 29)).alloc (.cells #[.slice none 0 0, .slice none 0 0, .slice none 0 0] 29)) = w1 at *
 refine (l1Open_any _ n _ (HA.out.keep HB.out.below)).mono ?_
 rintro e w2 ⟨R, rfl, hR, hr2, hb2⟩
 have hRw : w.heap.size + 1 < R := by have := HB.out.lt (p := (w.heap.size + 1, #[.slice none 0 0, .slice none 0 0, .slice none 0 0], 29)) (by simp); dsimp only at this; omega
 have D2 : Hid (DM w w2 R 0 [(w.heap.size, #[.slice none 0 0, .slice none 0 0, .slice none 0 0], 29), (w.heap.size + 1, #[.slice none 0 0, .slice none 0 0, .slice none 0 0], 29)]) := ⟨hr2, HB.out.call hb2, by omega, fun p hp => by
  simp only [List.mem_cons, List.not_mem_nil, or_false] at hp
  rcases hp with rfl | rfl
  ·show w.heap.size ≠ R; omega
  ·show w.heap.size + 1 ≠ R; omega⟩
 clear hr2 hb2 HB hR
 go_wp2_with fail
 refine (l1Base_all R 0 _ D2.out.rd (by omega)).mono ?_
 rintro e w3 ⟨kv, pv, ks, ps, rfl, htk, htp, hkb, hpb, hp1, hk1, q3, hq0, hq1, hr3, hg3⟩
 have HT3 : Hid (TrisAt w3 kv ks ∧ TrisAt w3 pv ps) := ⟨tris_own htk, tris_own htp⟩
 obtain ⟨ka, kc, rfl⟩ := own_sliceD htk
 obtain ⟨pa, pc, rfl⟩ := own_sliceD htp
 have KB := toHid hkb
 have PB := toHid hpb
 have D4 := toHid ((D2.out.grow hr3 hg3).push #[.slice ka ks.length kc, .slice pa ps.length pc] 26)
 have S4 : Hid (Str w3 (w3.alloc (.cells #[.slice ka ks.length kc, .slice pa ps.length pc] 26))) := Str.below ((Below.refl _ _).alloc (Nat.le_refl _) _)
 have HT4 : Hid (TrisAt (w3.alloc (.cells #[.slice ka ks.length kc, .slice pa ps.length pc] 26)) (.slice ka ks.length kc) ks ∧ TrisAt (w3.alloc (.cells #[.slice ka ks.length kc, .slice pa ps.length pc] 26)) (.slice pa ps.length pc) ps) := ⟨S4.out.tris HT3.out.1, S4.out.tris HT3.out.2⟩
 clear hr3 hg3 htk htp hkb hpb D2 HT3 S4
 go_wp2_with fail
 generalize (w3.alloc (.cells #[.slice ka ks.length kc, .slice pa ps.length pc] 26)) = w4 at *
 generalize w3.heap.size = BB at *
 refine (l3Book_any R q3 _ _ ks ps _ D4.out.rd (by omega) HT4.out.1 HT4.out.2 KB.out PB.out hp1).mono ?_
 rintro e w5 ⟨x, y, z, es, rfl, hbn, hok, hsm, q5, hq2, hq3, hr5, hg5⟩
 obtain ⟨a1, c1, a2, c2, a3, c3, rfl, rfl, rfl⟩ := hbn.slices
 have S5 := Str.rd D4.out.rd hg5
 have D6 := toHid ((D4.out.grow hr5 hg5).push #[.slice a1 ks.length c1, .slice a2 ps.length c2, .slice a3 es.length c3] 29)
 have S6 : Str w5 (w5.alloc (.cells #[.slice a1 ks.length c1, .slice a2 ps.length c2, .slice a3 es.length c3] 29)) := Str.below ((Below.refl _ _).alloc (Nat.le_refl _) _)
 have HT6 : Hid (TrisAt (w5.alloc (.cells #[.slice a1 ks.length c1, .slice a2 ps.length c2, .slice a3 es.length c3] 29)) (.slice ka ks.length kc) ks ∧ TrisAt (w5.alloc (.cells #[.slice a1 ks.length c1, .slice a2 ps.length c2, .slice a3 es.length c3] 29)) (.slice pa ps.length pc) ps ∧ BookAt (w5.alloc (.cells #[.slice a1 ks.length c1, .slice a2 ps.length c2, .slice a3 es.length c3] 29)) (.slice a1 ks.length c1) (.slice a2 ps.length c2) (.slice a3 es.length c3) ks ps es) := ⟨(S5.trans S6).tris HT4.out.1, (S5.trans S6).tris HT4.out.2, S6.book hbn.at⟩
 have OKA : Hid (bookB ks ps es = true ∧ SmB (ks, ps, es)) := ⟨hok, hsm⟩
 have HBA : Hid (w.heap.size + 1 < w5.heap.size) := by
  have h1 := (D4.out.grow hr5 hg5).bx.lt (p := (w.heap.size + 1, #[.slice none 0 0, .slice none 0 0, .slice none 0 0], 29)) (by simp)
  exact h1
 clear hr5 hg5 hbn hok hsm S5 S6 D4 HT4
 have c0 := D6.out.bx.cell 1 rfl 0
 have c1' := D6.out.bx.cell 1 rfl 1
 go_wp2_with fail
 clear c0 c1'
 have hBA : w.heap.size + 1 < w5.heap.size := HBA.out
 clear HBA
 generalize (w5.alloc (.cells #[.slice a1 ks.length c1, .slice a2 ps.length c2, .slice a3 es.length c3] 29)) = w6 at *
 generalize w5.heap.size = BA at *
 refine (l3Book_any R q5 _ _ ks ps _ D6.out.rd (by omega) HT6.out.1 HT6.out.2.1 KB.out PB.out hp1).mono ?_
 rintro e w7 ⟨x, y, z, es2, rfl, hbn, hok, hsm, q7, hq4, hq5, hr7, hg7⟩
 obtain ⟨b1, d1, b2, d2, b3, d3, rfl, rfl, rfl⟩ := hbn.slices
 have S7 := Str.rd D6.out.rd hg7
 have D8 := toHid ((D6.out.grow hr7 hg7).push #[.slice b1 ks.length d1, .slice b2 ps.length d2, .slice b3 es2.length d3] 29)
 have S8 : Str w7 (w7.alloc (.cells #[.slice b1 ks.length d1, .slice b2 ps.length d2, .slice b3 es2.length d3] 29)) := Str.below ((Below.refl _ _).alloc (Nat.le_refl _) _)
 have HT8 : Hid (BookAt (w7.alloc (.cells #[.slice b1 ks.length d1, .slice b2 ps.length d2, .slice b3 es2.length d3] 29)) (.slice a1 ks.length c1) (.slice a2 ps.length c2) (.slice a3 es.length c3) ks ps es ∧ BookAt (w7.alloc (.cells #[.slice b1 ks.length d1, .slice b2 ps.length d2, .slice b3 es2.length d3] 29)) (.slice b1 ks.length d1) (.slice b2 ps.length d2) (.slice b3 es2.length d3) ks ps es2) := ⟨(S7.trans S8).book HT6.out.2.2, S8.book hbn.at⟩
 have OKB : Hid (bookB ks ps es2 = true ∧ SmB (ks, ps, es2)) := ⟨hok, hsm⟩
 have hBB : BA < w7.heap.size := by
  have h1 := (D6.out.grow hr7 hg7).bx.lt (p := (BA, #[.slice a1 ks.length c1, .slice a2 ps.length c2, .slice a3 es.length c3], 29)) (by simp)
  exact h1
 clear hr7 hg7 hbn hok hsm S7 S8 D6 HT6
 go_wp2_with fail
 generalize (w7.alloc (.cells #[.slice b1 ks.length d1, .slice b2 ps.length d2, .slice b3 es2.length d3] 29)) = w8 at *
 generalize w7.heap.size = BBk at *
 refine (pick_any R q7 16 _ D8.out.rd (by omega) (by omega)).mono ?_
 rintro e w9 ⟨x, rfl, hx0, hx1, -, hr9, hg9⟩
 have D9 := toHid (D8.out.grow hr9 hg9)
 have S9 := Str.rd D8.out.rd hg9
 have HT9 : Hid (BookAt w9 (.slice a1 ks.length c1) (.slice a2 ps.length c2) (.slice a3 es.length c3) ks ps es ∧ BookAt w9 (.slice b1 ks.length d1) (.slice b2 ps.length d2) (.slice b3 es2.length d3) ks ps es2) := ⟨S9.book HT8.out.1, S9.book HT8.out.2⟩
 clear hr9 hg9 S9 D8 HT8
 by_cases hx0' : x = 0
 ·have hxb : (x == 0) = true := by simp [hx0']
  clear hx0' hx0 hx1
  obtain ⟨p0, p1, p2⟩ : w9.cell? ⟨BA, 0, none⟩ = some (.slice a1 ks.length c1) ∧ w9.cell? ⟨BA, 1, none⟩ = some (.slice a2 ps.length c2) ∧ w9.cell? ⟨BA, 2, none⟩ = some (.slice a3 es.length c3) := ⟨D9.out.bx.cell 1 rfl 0, D9.out.bx.cell 1 rfl 1, D9.out.bx.cell 1 rfl 2⟩
  go_wp2_with fail
  clear p0 p1 p2
  refine (l3Spoil_any R (q7 + 1) _ _ _ ks ps es _ D9.out.rd (by omega) HT9.out.1 OKA.out.1 OKA.out.2 hk1 hp1).mono ?_
  rintro e wA ⟨x', y', z', ks', ps', es', rfl, hat, hsp, q6, hq6, hq7, hrA, hgA⟩
  obtain ⟨t1, e1, t2, e2, t3, e3, rfl, rfl, rfl⟩ := BookAt.slices hat.at
  have hBX := (D9.out.grow hrA hgA).bx.has (BA, #[.slice a1 ks.length c1, .slice a2 ps.length c2, .slice a3 es.length c3], 29) (by simp)
  have HP : Hid (MQ w (wA.setRow BA #[.slice t1 ks'.length e1, .slice t2 ps'.length e2, .slice t3 es'.length e3]) BA BBk #[.slice none 0 0, .slice none 0 0, .slice none 0 0] #[.slice none 0 0, .slice none 0 0, .slice none 0 0] #[.slice t1 ks'.length e1, .slice t2 ps'.length e2, .slice t3 es'.length e3] #[.slice b1 ks.length d1, .slice b2 ps.length d2, .slice b3 es2.length d3] (fun z => BookAt z (.slice t1 ks'.length e1) (.slice t2 ps'.length e2) (.slice t3 es'.length e3) ks' ps' es') (fun z => BookAt z (.slice b1 ks.length d1) (.slice b2 ps.length d2) (.slice b3 es2.length d3) ks ps es2)) := by
   have hD := D9.out.grow hrA hgA
   have h1 := Str.row3 hBX #[.slice t1 ks'.length e1, .slice t2 ps'.length e2, .slice t3 es'.length e3]
   exact ⟨below_setRow hD.bx.below (by omega) _, (setRow_other _ _ _ _ (by omega)).trans (hD.bx.has (w.heap.size, #[.slice none 0 0, .slice none 0 0, .slice none 0 0], 29) (by simp)), (setRow_other _ _ _ _ (by omega)).trans (hD.bx.has (w.heap.size + 1, #[.slice none 0 0, .slice none 0 0, .slice none 0 0], 29) (by simp)), setRow_heap _ _ _ _ _ _ hBX, (setRow_other _ _ _ _ (by omega)).trans (hD.bx.has (BBk, #[.slice b1 ks.length d1, .slice b2 ps.length d2, .slice b3 es2.length d3], 29) (by simp)), h1.book hat.at, ((Str.rd D9.out.rd hgA).trans h1).book HT9.out.2⟩
  have SMX : Hid (SmB (ks', ps', es') ∧ SmB (ks, ps, es2)) := ⟨hsp.1, OKB.out.2⟩
  clear hrA hgA hat hsp HT9 D9 OKA OKB
  go_wp2_with (refine wpList_store_row rfl 29 _ _ rfl BA #[.slice t1 ks'.length e1, .slice t2 ps'.length e2, .slice t3 es'.length e3] rfl rfl 29 _ hBX (by kernel_rfl) rfl (by simp [Value.oneCell']) ?_)
  clear hBX
  generalize (wA.setRow BA #[.slice t1 ks'.length e1, .slice t2 ps'.length e2, .slice t3 es'.length e3]) = wB at *
  go_simp
  refine wp_region_noPanic ?_
  refine wp_region_held_drew (S := fun z => (z.cell? ⟨BA, 0, none⟩ = some (.slice t1 ks'.length e1) ∧ z.cell? ⟨BA, 1, none⟩ = some (.slice t2 ps'.length e2) ∧ z.cell? ⟨BA, 2, none⟩ = some (.slice t3 es'.length e3)) ∧ z.cell? ⟨BBk, 0, none⟩ = some (.slice b1 ks.length d1) ∧ z.cell? ⟨BBk, 1, none⟩ = some (.slice b2 ps.length d2) ∧ z.cell? ⟨BBk, 2, none⟩ = some (.slice b3 es2.length d3)) (by kernel_rfl) ?_ (fun hHeld => ?_)
  ·exact held33 HP.out.2.2.2.1 HP.out.2.2.2.2.1
  have HQ : Hid (MQ w wB.drew BA BBk #[.slice none 0 0, .slice none 0 0, .slice none 0 0] #[.slice none 0 0, .slice none 0 0, .slice none 0 0] #[.slice t1 ks'.length e1, .slice t2 ps'.length e2, .slice t3 es'.length e3] #[.slice b1 ks.length d1, .slice b2 ps.length d2, .slice b3 es2.length d3] (fun z => BookAt z (.slice t1 ks'.length e1) (.slice t2 ps'.length e2) (.slice t3 es'.length e3) ks' ps' es') (fun z => BookAt z (.slice b1 ks.length d1) (.slice b2 ps.length d2) (.slice b3 es2.length d3) ks ps es2)) := ⟨HP.out.1.drew, HP.out.2.1, HP.out.2.2.1, HP.out.2.2.2.1, HP.out.2.2.2.2.1, (Str.below (Below.refl _ _).drew).book HP.out.2.2.2.2.2.1, (Str.below (Below.refl _ _).drew).book HP.out.2.2.2.2.2.2⟩
  generalize wB.drew = W0 at *
  clear HP
  refine tkH 0 ?_ rfl ?_ (tkH 1 ?_ rfl ?_ ?_)
  iterate 2 (rotate_left; focus (intro w hSw; (try dsimp only at hSw); simp only [Act.put, tkS]; go_simp; try with_reducible rfl))
  simp only [Act.put, tkS]
  clear hHeld
  have r00 := HQ.out.2.1
  have HQ1 : Hid (MQ w (W0.setRow w.heap.size #[.slice t1 ks'.length e1, .slice t2 ps'.length e2, .slice t3 es'.length e3]) BA BBk #[.slice t1 ks'.length e1, .slice t2 ps'.length e2, .slice t3 es'.length e3] #[.slice none 0 0, .slice none 0 0, .slice none 0 0] #[.slice t1 ks'.length e1, .slice t2 ps'.length e2, .slice t3 es'.length e3] #[.slice b1 ks.length d1, .slice b2 ps.length d2, .slice b3 es2.length d3] (fun z => BookAt z (.slice t1 ks'.length e1) (.slice t2 ps'.length e2) (.slice t3 es'.length e3) ks' ps' es') (fun z => BookAt z (.slice b1 ks.length d1) (.slice b2 ps.length d2) (.slice b3 es2.length d3) ks ps es2)) := ⟨below_setRow HQ.out.1 (Nat.le_refl _) _, setRow_heap _ _ _ _ _ _ r00, (setRow_other _ _ _ _ (by omega)).trans HQ.out.2.2.1, (setRow_other _ _ _ _ (by omega)).trans HQ.out.2.2.2.1, (setRow_other _ _ _ _ (by omega)).trans HQ.out.2.2.2.2.1, (Str.row3 r00 _).book HQ.out.2.2.2.2.2.1, (Str.row3 r00 _).book HQ.out.2.2.2.2.2.2⟩
  refine rdH 2 rfl (fun K hK => ?_)
  refine step_store_rowC rfl 29 _ _ rfl w.heap.size #[.slice t1 ks'.length e1, .slice t2 ps'.length e2, .slice t3 es'.length e3] rfl rfl 29 _ r00 (by kernel_rfl) rfl (by simp [Value.oneCell']) ?_
  refine hK.out _ _ (held33 HQ1.out.2.2.2.1 HQ1.out.2.2.2.2.1) (fun _ => ?_)
  clear hK K r00 HQ
  generalize (W0.setRow w.heap.size #[.slice t1 ks'.length e1, .slice t2 ps'.length e2, .slice t3 es'.length e3]) = W1 at *
  have r10 := HQ1.out.2.2.1
  have HQ2 : Hid (MQ w (W1.setRow (w.heap.size + 1) #[.slice b1 ks.length d1, .slice b2 ps.length d2, .slice b3 es2.length d3]) BA BBk #[.slice t1 ks'.length e1, .slice t2 ps'.length e2, .slice t3 es'.length e3] #[.slice b1 ks.length d1, .slice b2 ps.length d2, .slice b3 es2.length d3] #[.slice t1 ks'.length e1, .slice t2 ps'.length e2, .slice t3 es'.length e3] #[.slice b1 ks.length d1, .slice b2 ps.length d2, .slice b3 es2.length d3] (fun z => BookAt z (.slice t1 ks'.length e1) (.slice t2 ps'.length e2) (.slice t3 es'.length e3) ks' ps' es') (fun z => BookAt z (.slice b1 ks.length d1) (.slice b2 ps.length d2) (.slice b3 es2.length d3) ks ps es2)) := ⟨below_setRow HQ1.out.1 (by omega) _, (setRow_other _ _ _ _ (by omega)).trans HQ1.out.2.1, setRow_heap _ _ _ _ _ _ r10, (setRow_other _ _ _ _ (by omega)).trans HQ1.out.2.2.2.1, (setRow_other _ _ _ _ (by omega)).trans HQ1.out.2.2.2.2.1, (Str.row3 r10 _).book HQ1.out.2.2.2.2.2.1, (Str.row3 r10 _).book HQ1.out.2.2.2.2.2.2⟩
  refine rdH 3 rfl (fun K hK => ?_)
  refine step_store_rowC rfl 29 _ _ rfl (w.heap.size + 1) #[.slice b1 ks.length d1, .slice b2 ps.length d2, .slice b3 es2.length d3] rfl rfl 29 _ r10 (by kernel_rfl) rfl (by simp [Value.oneCell']) ?_
  refine hK.out _ _ (held33 HQ2.out.2.2.2.1 HQ2.out.2.2.2.2.1) (fun _ => ?_)
  clear hK K r10 HQ1
  generalize (W1.setRow (w.heap.size + 1) #[.slice b1 ks.length d1, .slice b2 ps.length d2, .slice b3 es2.length d3]) = W2 at *
  refine wpAnyH_done (by kernel_rfl) ?_ _
  refine NoPanic.normal ?_
  obtain ⟨⟨h00, h01, h02⟩, h10, h11, h12⟩ := held33 HQ2.out.2.1 HQ2.out.2.2.1
  go_wp2_with fail
  exact bodyPost_ret (v := .tuple #[.agg #[.slice t1 ks'.length e1, .slice t2 ps'.length e2, .slice t3 es'.length e3], .agg #[.slice b1 ks.length d1, .slice b2 ps.length d2, .slice b3 es2.length d3]]) (by simp [results, Tryz.results12, go_sem, h00, h01, h02, h10, h11, h12]) rfl ⟨_, _, _, _, _, _, _, _, _, _, _, _, rfl, HQ2.out.2.2.2.2.2.1, HQ2.out.2.2.2.2.2.2, SMX.out.1, SMX.out.2, HQ2.out.1⟩
 by_cases hx12 : x = 1 ∨ x = 2
 ·rcases hx12 with hx1' | hx2'
  focus
   have hxb : (x == 0) = false := by simp [hx0']
   have hxc : (x == 1) = true := by simp [hx1']
   clear hx0' hx1' hx0 hx1
   obtain ⟨p0, p1, p2⟩ : w9.cell? ⟨BBk, 0, none⟩ = some (.slice b1 ks.length d1) ∧ w9.cell? ⟨BBk, 1, none⟩ = some (.slice b2 ps.length d2) ∧ w9.cell? ⟨BBk, 2, none⟩ = some (.slice b3 es2.length d3) := ⟨D9.out.bx.cell 0 rfl 0, D9.out.bx.cell 0 rfl 1, D9.out.bx.cell 0 rfl 2⟩
   go_wp2_with fail
   clear p0 p1 p2
   refine (l3Spoil_any R (q7 + 1) _ _ _ ks ps es2 _ D9.out.rd (by omega) HT9.out.2 OKB.out.1 OKB.out.2 hk1 hp1).mono ?_
   rintro e wA ⟨x', y', z', ks', ps', es', rfl, hat, hsp, q6, hq6, hq7, hrA, hgA⟩
   obtain ⟨t1, e1, t2, e2, t3, e3, rfl, rfl, rfl⟩ := BookAt.slices hat.at
   have hBX := (D9.out.grow hrA hgA).bx.has (BBk, #[.slice b1 ks.length d1, .slice b2 ps.length d2, .slice b3 es2.length d3], 29) (by simp)
   have HP : Hid (MQ w (wA.setRow BBk #[.slice t1 ks'.length e1, .slice t2 ps'.length e2, .slice t3 es'.length e3]) BA BBk #[.slice none 0 0, .slice none 0 0, .slice none 0 0] #[.slice none 0 0, .slice none 0 0, .slice none 0 0] #[.slice a1 ks.length c1, .slice a2 ps.length c2, .slice a3 es.length c3] #[.slice t1 ks'.length e1, .slice t2 ps'.length e2, .slice t3 es'.length e3] (fun z => BookAt z (.slice a1 ks.length c1) (.slice a2 ps.length c2) (.slice a3 es.length c3) ks ps es) (fun z => BookAt z (.slice t1 ks'.length e1) (.slice t2 ps'.length e2) (.slice t3 es'.length e3) ks' ps' es')) := by
    have hD := D9.out.grow hrA hgA
    have h1 := Str.row3 hBX #[.slice t1 ks'.length e1, .slice t2 ps'.length e2, .slice t3 es'.length e3]
    exact ⟨below_setRow hD.bx.below (by omega) _, (setRow_other _ _ _ _ (by omega)).trans (hD.bx.has (w.heap.size, #[.slice none 0 0, .slice none 0 0, .slice none 0 0], 29) (by simp)), (setRow_other _ _ _ _ (by omega)).trans (hD.bx.has (w.heap.size + 1, #[.slice none 0 0, .slice none 0 0, .slice none 0 0], 29) (by simp)), (setRow_other _ _ _ _ (by omega)).trans (hD.bx.has (BA, #[.slice a1 ks.length c1, .slice a2 ps.length c2, .slice a3 es.length c3], 29) (by simp)), setRow_heap _ _ _ _ _ _ hBX, ((Str.rd D9.out.rd hgA).trans h1).book HT9.out.1, h1.book hat.at⟩
   have SMX : Hid (SmB (ks, ps, es) ∧ SmB (ks', ps', es')) := ⟨OKA.out.2, hsp.1⟩
   clear hrA hgA hat hsp HT9 D9 OKA OKB
   go_wp2_with (refine wpList_store_row rfl 29 _ _ rfl BBk #[.slice t1 ks'.length e1, .slice t2 ps'.length e2, .slice t3 es'.length e3] rfl rfl 29 _ hBX (by kernel_rfl) rfl (by simp [Value.oneCell']) ?_)
   clear hBX
   generalize (wA.setRow BBk #[.slice t1 ks'.length e1, .slice t2 ps'.length e2, .slice t3 es'.length e3]) = wB at *
  rotate_left
  focus
   have hxb : (x == 0) = false := by simp [hx0']
   have hxc : (x == 1) = false := by simp [hx2']
   have hxd : (x == 2) = true := by simp [hx2']
   clear hx0' hx2' hx0 hx1
   go_wp2_with fail
   refine (l1Base_all R (q7 + 1) _ D9.out.rd (by omega)).mono ?_
   rintro e wA ⟨kv, pv, ks', ps', rfl, htk, htp, hkb, hpb, hp1', hk1', qA, hqA, hqB, hrA, hgA⟩
   have HTA : Hid (TrisAt wA kv ks' ∧ TrisAt wA pv ps') := ⟨tris_own htk, tris_own htp⟩
   obtain ⟨ka', kc', rfl⟩ := own_sliceD htk
   obtain ⟨pa', pc', rfl⟩ := own_sliceD htp
   have KB' := toHid hkb
   have PB' := toHid hpb
   have DA := toHid (D9.out.grow hrA hgA)
   have SA := toHid (Str.rd D9.out.rd hgA)
   clear hrA hgA htk htp hkb hpb
   go_wp2_with fail
   refine (l3Book_any R qA _ _ ks' ps' _ DA.out.rd (by omega) HTA.out.1 HTA.out.2 KB'.out PB'.out hp1').mono ?_
   rintro e wC ⟨x', y', z', es', rfl, hbn, hok, hsm, qC, hqC, hqD, hrC, hgC⟩
   obtain ⟨t1, e1, t2, e2, t3, e3, rfl, rfl, rfl⟩ := hbn.slices
   have hBX := (DA.out.grow hrC hgC).bx.has (BBk, #[.slice b1 ks.length d1, .slice b2 ps.length d2, .slice b3 es2.length d3], 29) (by simp)
   have HP : Hid (MQ w (wC.setRow BBk #[.slice t1 ks'.length e1, .slice t2 ps'.length e2, .slice t3 es'.length e3]) BA BBk #[.slice none 0 0, .slice none 0 0, .slice none 0 0] #[.slice none 0 0, .slice none 0 0, .slice none 0 0] #[.slice a1 ks.length c1, .slice a2 ps.length c2, .slice a3 es.length c3] #[.slice t1 ks'.length e1, .slice t2 ps'.length e2, .slice t3 es'.length e3] (fun z => BookAt z (.slice a1 ks.length c1) (.slice a2 ps.length c2) (.slice a3 es.length c3) ks ps es) (fun z => BookAt z (.slice t1 ks'.length e1) (.slice t2 ps'.length e2) (.slice t3 es'.length e3) ks' ps' es')) := by
    have hD := DA.out.grow hrC hgC
    have h1 := Str.row3 hBX #[.slice t1 ks'.length e1, .slice t2 ps'.length e2, .slice t3 es'.length e3]
    exact ⟨below_setRow hD.bx.below (by omega) _, (setRow_other _ _ _ _ (by omega)).trans (hD.bx.has (w.heap.size, #[.slice none 0 0, .slice none 0 0, .slice none 0 0], 29) (by simp)), (setRow_other _ _ _ _ (by omega)).trans (hD.bx.has (w.heap.size + 1, #[.slice none 0 0, .slice none 0 0, .slice none 0 0], 29) (by simp)), (setRow_other _ _ _ _ (by omega)).trans (hD.bx.has (BA, #[.slice a1 ks.length c1, .slice a2 ps.length c2, .slice a3 es.length c3], 29) (by simp)), setRow_heap _ _ _ _ _ _ hBX, ((SA.out.trans (Str.rd DA.out.rd hgC)).trans h1).book HT9.out.1, h1.book hbn.at⟩
   have SMX : Hid (SmB (ks, ps, es) ∧ SmB (ks', ps', es')) := ⟨OKA.out.2, hsm⟩
   clear hrC hgC hbn hok hsm HT9 D9 DA SA OKA OKB
   go_wp2_with (refine wpList_store_row rfl 29 _ _ rfl BBk #[.slice t1 ks'.length e1, .slice t2 ps'.length e2, .slice t3 es'.length e3] rfl rfl 29 _ hBX (by kernel_rfl) rfl (by simp [Value.oneCell']) ?_)
   clear hBX
   generalize (wC.setRow BBk #[.slice t1 ks'.length e1, .slice t2 ps'.length e2, .slice t3 es'.length e3]) = wB at *
  rotate_left
  all_goals
   go_simp
   refine wp_region_noPanic ?_
   refine wp_region_held_drew (S := fun z => (z.cell? ⟨BA, 0, none⟩ = some (.slice a1 ks.length c1) ∧ z.cell? ⟨BA, 1, none⟩ = some (.slice a2 ps.length c2) ∧ z.cell? ⟨BA, 2, none⟩ = some (.slice a3 es.length c3)) ∧ z.cell? ⟨BBk, 0, none⟩ = some (.slice t1 ks'.length e1) ∧ z.cell? ⟨BBk, 1, none⟩ = some (.slice t2 ps'.length e2) ∧ z.cell? ⟨BBk, 2, none⟩ = some (.slice t3 es'.length e3)) (by kernel_rfl) ?_ (fun hHeld => ?_)
   ·exact held33 HP.out.2.2.2.1 HP.out.2.2.2.2.1
   have HQ : Hid (MQ w wB.drew BA BBk #[.slice none 0 0, .slice none 0 0, .slice none 0 0] #[.slice none 0 0, .slice none 0 0, .slice none 0 0] #[.slice a1 ks.length c1, .slice a2 ps.length c2, .slice a3 es.length c3] #[.slice t1 ks'.length e1, .slice t2 ps'.length e2, .slice t3 es'.length e3] (fun z => BookAt z (.slice a1 ks.length c1) (.slice a2 ps.length c2) (.slice a3 es.length c3) ks ps es) (fun z => BookAt z (.slice t1 ks'.length e1) (.slice t2 ps'.length e2) (.slice t3 es'.length e3) ks' ps' es')) := ⟨HP.out.1.drew, HP.out.2.1, HP.out.2.2.1, HP.out.2.2.2.1, HP.out.2.2.2.2.1, (Str.below (Below.refl _ _).drew).book HP.out.2.2.2.2.2.1, (Str.below (Below.refl _ _).drew).book HP.out.2.2.2.2.2.2⟩
   generalize wB.drew = W0 at *
   clear HP
   refine tkH 0 ?_ rfl ?_ (tkH 1 ?_ rfl ?_ ?_)
   iterate 2 (rotate_left; focus (intro w hSw; (try dsimp only at hSw); simp only [Act.put, tkS]; go_simp; try with_reducible rfl))
   simp only [Act.put, tkS]
   clear hHeld
   have r00 := HQ.out.2.1
   have HQ1 : Hid (MQ w (W0.setRow w.heap.size #[.slice a1 ks.length c1, .slice a2 ps.length c2, .slice a3 es.length c3]) BA BBk #[.slice a1 ks.length c1, .slice a2 ps.length c2, .slice a3 es.length c3] #[.slice none 0 0, .slice none 0 0, .slice none 0 0] #[.slice a1 ks.length c1, .slice a2 ps.length c2, .slice a3 es.length c3] #[.slice t1 ks'.length e1, .slice t2 ps'.length e2, .slice t3 es'.length e3] (fun z => BookAt z (.slice a1 ks.length c1) (.slice a2 ps.length c2) (.slice a3 es.length c3) ks ps es) (fun z => BookAt z (.slice t1 ks'.length e1) (.slice t2 ps'.length e2) (.slice t3 es'.length e3) ks' ps' es')) := ⟨below_setRow HQ.out.1 (Nat.le_refl _) _, setRow_heap _ _ _ _ _ _ r00, (setRow_other _ _ _ _ (by omega)).trans HQ.out.2.2.1, (setRow_other _ _ _ _ (by omega)).trans HQ.out.2.2.2.1, (setRow_other _ _ _ _ (by omega)).trans HQ.out.2.2.2.2.1, (Str.row3 r00 _).book HQ.out.2.2.2.2.2.1, (Str.row3 r00 _).book HQ.out.2.2.2.2.2.2⟩
   refine rdH 2 rfl (fun K hK => ?_)
   refine step_store_rowC rfl 29 _ _ rfl w.heap.size #[.slice a1 ks.length c1, .slice a2 ps.length c2, .slice a3 es.length c3] rfl rfl 29 _ r00 (by kernel_rfl) rfl (by simp [Value.oneCell']) ?_
   refine hK.out _ _ (held33 HQ1.out.2.2.2.1 HQ1.out.2.2.2.2.1) (fun _ => ?_)
   clear hK K r00 HQ
   generalize (W0.setRow w.heap.size #[.slice a1 ks.length c1, .slice a2 ps.length c2, .slice a3 es.length c3]) = W1 at *
   have r10 := HQ1.out.2.2.1
   have HQ2 : Hid (MQ w (W1.setRow (w.heap.size + 1) #[.slice t1 ks'.length e1, .slice t2 ps'.length e2, .slice t3 es'.length e3]) BA BBk #[.slice a1 ks.length c1, .slice a2 ps.length c2, .slice a3 es.length c3] #[.slice t1 ks'.length e1, .slice t2 ps'.length e2, .slice t3 es'.length e3] #[.slice a1 ks.length c1, .slice a2 ps.length c2, .slice a3 es.length c3] #[.slice t1 ks'.length e1, .slice t2 ps'.length e2, .slice t3 es'.length e3] (fun z => BookAt z (.slice a1 ks.length c1) (.slice a2 ps.length c2) (.slice a3 es.length c3) ks ps es) (fun z => BookAt z (.slice t1 ks'.length e1) (.slice t2 ps'.length e2) (.slice t3 es'.length e3) ks' ps' es')) := ⟨below_setRow HQ1.out.1 (by omega) _, (setRow_other _ _ _ _ (by omega)).trans HQ1.out.2.1, setRow_heap _ _ _ _ _ _ r10, (setRow_other _ _ _ _ (by omega)).trans HQ1.out.2.2.2.1, (setRow_other _ _ _ _ (by omega)).trans HQ1.out.2.2.2.2.1, (Str.row3 r10 _).book HQ1.out.2.2.2.2.2.1, (Str.row3 r10 _).book HQ1.out.2.2.2.2.2.2⟩
   refine rdH 3 rfl (fun K hK => ?_)
   refine step_store_rowC rfl 29 _ _ rfl (w.heap.size + 1) #[.slice t1 ks'.length e1, .slice t2 ps'.length e2, .slice t3 es'.length e3] rfl rfl 29 _ r10 (by kernel_rfl) rfl (by simp [Value.oneCell']) ?_
   refine hK.out _ _ (held33 HQ2.out.2.2.2.1 HQ2.out.2.2.2.2.1) (fun _ => ?_)
   clear hK K r10 HQ1
   generalize (W1.setRow (w.heap.size + 1) #[.slice t1 ks'.length e1, .slice t2 ps'.length e2, .slice t3 es'.length e3]) = W2 at *
   refine wpAnyH_done (by kernel_rfl) ?_ _
   refine NoPanic.normal ?_
   obtain ⟨⟨h00, h01, h02⟩, h10, h11, h12⟩ := held33 HQ2.out.2.1 HQ2.out.2.2.1
   go_wp2_with fail
   exact bodyPost_ret (v := .tuple #[.agg #[.slice a1 ks.length c1, .slice a2 ps.length c2, .slice a3 es.length c3], .agg #[.slice t1 ks'.length e1, .slice t2 ps'.length e2, .slice t3 es'.length e3]]) (by simp [results, Tryz.results12, go_sem, h00, h01, h02, h10, h11, h12]) rfl ⟨_, _, _, _, _, _, _, _, _, _, _, _, rfl, HQ2.out.2.2.2.2.2.1, HQ2.out.2.2.2.2.2.2, SMX.out.1, SMX.out.2, HQ2.out.1⟩
 ·have hxb : (x == 0) = false := by simp [hx0']
  have hx1' : ¬ x = 1 := fun e => hx12 (.inl e)
  have hx2' : ¬ x = 2 := fun e => hx12 (.inr e)
  have hxc : (x == 1) = false := by simp [hx1']
  have hxd : (x == 2) = false := by simp [hx2']
  clear hx0' hx1' hx2' hx0 hx1 hx12
  have HP : Hid (MQ w (w9) BA BBk #[.slice none 0 0, .slice none 0 0, .slice none 0 0] #[.slice none 0 0, .slice none 0 0, .slice none 0 0] #[.slice a1 ks.length c1, .slice a2 ps.length c2, .slice a3 es.length c3] #[.slice b1 ks.length d1, .slice b2 ps.length d2, .slice b3 es2.length d3] (fun z => BookAt z (.slice a1 ks.length c1) (.slice a2 ps.length c2) (.slice a3 es.length c3) ks ps es) (fun z => BookAt z (.slice b1 ks.length d1) (.slice b2 ps.length d2) (.slice b3 es2.length d3) ks ps es2)) := ⟨D9.out.bx.below, D9.out.bx.has (w.heap.size, #[.slice none 0 0, .slice none 0 0, .slice none 0 0], 29) (by simp), D9.out.bx.has (w.heap.size + 1, #[.slice none 0 0, .slice none 0 0, .slice none 0 0], 29) (by simp), D9.out.bx.has (BA, #[.slice a1 ks.length c1, .slice a2 ps.length c2, .slice a3 es.length c3], 29) (by simp), D9.out.bx.has (BBk, #[.slice b1 ks.length d1, .slice b2 ps.length d2, .slice b3 es2.length d3], 29) (by simp), HT9.out.1, HT9.out.2⟩
  have SMX : Hid (SmB (ks, ps, es) ∧ SmB (ks, ps, es2)) := ⟨OKA.out.2, OKB.out.2⟩
  clear HT9 D9 OKA OKB
  go_wp2_with fail
  refine wp_region_noPanic ?_
  refine wp_region_held_drew (S := fun z => (z.cell? ⟨BA, 0, none⟩ = some (.slice a1 ks.length c1) ∧ z.cell? ⟨BA, 1, none⟩ = some (.slice a2 ps.length c2) ∧ z.cell? ⟨BA, 2, none⟩ = some (.slice a3 es.length c3)) ∧ z.cell? ⟨BBk, 0, none⟩ = some (.slice b1 ks.length d1) ∧ z.cell? ⟨BBk, 1, none⟩ = some (.slice b2 ps.length d2) ∧ z.cell? ⟨BBk, 2, none⟩ = some (.slice b3 es2.length d3)) (by kernel_rfl) ?_ (fun hHeld => ?_)
  ·exact held33 HP.out.2.2.2.1 HP.out.2.2.2.2.1
  have HQ : Hid (MQ w w9.drew BA BBk #[.slice none 0 0, .slice none 0 0, .slice none 0 0] #[.slice none 0 0, .slice none 0 0, .slice none 0 0] #[.slice a1 ks.length c1, .slice a2 ps.length c2, .slice a3 es.length c3] #[.slice b1 ks.length d1, .slice b2 ps.length d2, .slice b3 es2.length d3] (fun z => BookAt z (.slice a1 ks.length c1) (.slice a2 ps.length c2) (.slice a3 es.length c3) ks ps es) (fun z => BookAt z (.slice b1 ks.length d1) (.slice b2 ps.length d2) (.slice b3 es2.length d3) ks ps es2)) := ⟨HP.out.1.drew, HP.out.2.1, HP.out.2.2.1, HP.out.2.2.2.1, HP.out.2.2.2.2.1, (Str.below (Below.refl _ _).drew).book HP.out.2.2.2.2.2.1, (Str.below (Below.refl _ _).drew).book HP.out.2.2.2.2.2.2⟩
  generalize w9.drew = W0 at *
  clear HP
  refine tkH 0 ?_ rfl ?_ (tkH 1 ?_ rfl ?_ ?_)
  iterate 2 (rotate_left; focus (intro w hSw; (try dsimp only at hSw); simp only [Act.put, tkS]; go_simp; try with_reducible rfl))
  simp only [Act.put, tkS]
  clear hHeld
  have r00 := HQ.out.2.1
  have HQ1 : Hid (MQ w (W0.setRow w.heap.size #[.slice a1 ks.length c1, .slice a2 ps.length c2, .slice a3 es.length c3]) BA BBk #[.slice a1 ks.length c1, .slice a2 ps.length c2, .slice a3 es.length c3] #[.slice none 0 0, .slice none 0 0, .slice none 0 0] #[.slice a1 ks.length c1, .slice a2 ps.length c2, .slice a3 es.length c3] #[.slice b1 ks.length d1, .slice b2 ps.length d2, .slice b3 es2.length d3] (fun z => BookAt z (.slice a1 ks.length c1) (.slice a2 ps.length c2) (.slice a3 es.length c3) ks ps es) (fun z => BookAt z (.slice b1 ks.length d1) (.slice b2 ps.length d2) (.slice b3 es2.length d3) ks ps es2)) := ⟨below_setRow HQ.out.1 (Nat.le_refl _) _, setRow_heap _ _ _ _ _ _ r00, (setRow_other _ _ _ _ (by omega)).trans HQ.out.2.2.1, (setRow_other _ _ _ _ (by omega)).trans HQ.out.2.2.2.1, (setRow_other _ _ _ _ (by omega)).trans HQ.out.2.2.2.2.1, (Str.row3 r00 _).book HQ.out.2.2.2.2.2.1, (Str.row3 r00 _).book HQ.out.2.2.2.2.2.2⟩
  refine rdH 2 rfl (fun K hK => ?_)
  refine step_store_rowC rfl 29 _ _ rfl w.heap.size #[.slice a1 ks.length c1, .slice a2 ps.length c2, .slice a3 es.length c3] rfl rfl 29 _ r00 (by kernel_rfl) rfl (by simp [Value.oneCell']) ?_
  refine hK.out _ _ (held33 HQ1.out.2.2.2.1 HQ1.out.2.2.2.2.1) (fun _ => ?_)
  clear hK K r00 HQ
  generalize (W0.setRow w.heap.size #[.slice a1 ks.length c1, .slice a2 ps.length c2, .slice a3 es.length c3]) = W1 at *
  have r10 := HQ1.out.2.2.1
  have HQ2 : Hid (MQ w (W1.setRow (w.heap.size + 1) #[.slice b1 ks.length d1, .slice b2 ps.length d2, .slice b3 es2.length d3]) BA BBk #[.slice a1 ks.length c1, .slice a2 ps.length c2, .slice a3 es.length c3] #[.slice b1 ks.length d1, .slice b2 ps.length d2, .slice b3 es2.length d3] #[.slice a1 ks.length c1, .slice a2 ps.length c2, .slice a3 es.length c3] #[.slice b1 ks.length d1, .slice b2 ps.length d2, .slice b3 es2.length d3] (fun z => BookAt z (.slice a1 ks.length c1) (.slice a2 ps.length c2) (.slice a3 es.length c3) ks ps es) (fun z => BookAt z (.slice b1 ks.length d1) (.slice b2 ps.length d2) (.slice b3 es2.length d3) ks ps es2)) := ⟨below_setRow HQ1.out.1 (by omega) _, (setRow_other _ _ _ _ (by omega)).trans HQ1.out.2.1, setRow_heap _ _ _ _ _ _ r10, (setRow_other _ _ _ _ (by omega)).trans HQ1.out.2.2.2.1, (setRow_other _ _ _ _ (by omega)).trans HQ1.out.2.2.2.2.1, (Str.row3 r10 _).book HQ1.out.2.2.2.2.2.1, (Str.row3 r10 _).book HQ1.out.2.2.2.2.2.2⟩
  refine rdH 3 rfl (fun K hK => ?_)
  refine step_store_rowC rfl 29 _ _ rfl (w.heap.size + 1) #[.slice b1 ks.length d1, .slice b2 ps.length d2, .slice b3 es2.length d3] rfl rfl 29 _ r10 (by kernel_rfl) rfl (by simp [Value.oneCell']) ?_
  refine hK.out _ _ (held33 HQ2.out.2.2.2.1 HQ2.out.2.2.2.2.1) (fun _ => ?_)
  clear hK K r10 HQ1
  generalize (W1.setRow (w.heap.size + 1) #[.slice b1 ks.length d1, .slice b2 ps.length d2, .slice b3 es2.length d3]) = W2 at *
  refine wpAnyH_done (by kernel_rfl) ?_ _
  refine NoPanic.normal ?_
  obtain ⟨⟨h00, h01, h02⟩, h10, h11, h12⟩ := held33 HQ2.out.2.1 HQ2.out.2.2.1
  go_wp2_with fail
  exact bodyPost_ret (v := .tuple #[.agg #[.slice a1 ks.length c1, .slice a2 ps.length c2, .slice a3 es.length c3], .agg #[.slice b1 ks.length d1, .slice b2 ps.length d2, .slice b3 es2.length d3]]) (by simp [results, Tryz.results12, go_sem, h00, h01, h02, h10, h11, h12]) rfl ⟨_, _, _, _, _, _, _, _, _, _, _, _, rfl, HQ2.out.2.2.2.2.2.1, HQ2.out.2.2.2.2.2.2, SMX.out.1, SMX.out.2, HQ2.out.1⟩
end Go.Proofs.YtibpkhmiahamcaaGreat.Dr
