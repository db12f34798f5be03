import Derived.Test.YtibpkhmiahamcaaGreatFld0
set_option linter.unusedSimpArgs false
set_option linter.unusedVariables false
namespace Go.Proofs.YtibpkhmiahamcaaGreat
open Go.RowKit
theorem own_rows {α : Type} {w : World} {B : Nat} {e : TypeId} {c : Nat} {v : Value} {l : List α} (f : α → List Value) (hf : ∀ x, (f x).length = c) (h : w.ownsRow B e c v l.length (l.flatMap f)) :
  ∃ a cap, v = .slice a l.length cap ∧ l.length ≤ cap ∧ cap ≤ maxLen ∧ ∀ i t, l[i]? = some t → ∃ g, a = some ⟨g, 0, none⟩ ∧ ∀ r u, (f t)[r]? = some u → w.cell? ⟨g, i * c + r, none⟩ = some u := by
 obtain ⟨h1, h2⟩ := h
 rcases h2 with ⟨rfl, h0⟩ | ⟨g, cap, cur, rfl, hB, hb, hn, hc, hs, ht⟩
 ·refine ⟨none, 0, by rw [h0], by omega, Nat.zero_le _, fun i t hi => ?_⟩
  have := (List.getElem?_eq_some_iff.1 hi).1
  omega
 ·refine ⟨_, cap, rfl, hn, hc, fun i t hi => ⟨g, rfl, fun r u hu => ?_⟩⟩
  have hil := (List.getElem?_eq_some_iff.1 hi).1
  have hr : r < c := by have := (List.getElem?_eq_some_iff.1 hu).1; rw [hf] at this; exact this
  have hx : cur.toList[i * c + r]? = some u := by
   have hlt : i * c + r < l.length * c := rows_room hil hr
   have e1 : (cur.toList.take (l.length * c))[i * c + r]? = cur.toList[i * c + r]? := by rw [List.getElem?_take, if_pos hlt]
   rw [← e1, ht, rows_idx f c hf l i r hr, hi]
   exact hu
  simp only [World.cell?, hb, Option.isSome_none, Bool.false_eq_true, if_false]
  simpa using hx
theorem tris_new {w : World} {B : Nat} {e : TypeId} {v : Value} {l : List Tri} (h : w.ownsRow B e 3 v l.length (triRows l)) : TrisAt w v l := by
 obtain ⟨a, cap, h1, h2, h3, h4⟩ := own_rows triRow triRow_len h
 refine ⟨a, cap, h1, h2, h3, fun i t ht => ?_⟩
 obtain ⟨g, ha, hc⟩ := h4 i t ht
 exact ⟨g, 0, ha, by simpa using hc 0 _ rfl, by simpa using hc 1 _ rfl, by simpa using hc 2 _ rfl⟩
theorem flds_new {w : World} {B : Nat} {e : TypeId} {v : Value} {l : List Fld} (h : w.ownsRow B e 3 v l.length (fldRows l)) : FldsAt w v l := by
 obtain ⟨a, cap, h1, h2, h3, h4⟩ := own_rows fldRow fldRow_len h
 refine ⟨a, cap, h1, h2, h3, fun i t ht => ?_⟩
 obtain ⟨g, ha, hc⟩ := h4 i t ht
 exact ⟨g, 0, ha, by simpa using hc 0 _ rfl, by simpa using hc 1 _ rfl, by simpa using hc 2 _ rfl⟩
theorem pairRow_len (p : EntV) : (pairRow p).length = 2 := rfl
theorem ents_new {w : World} {B : Nat} {o : Value} {es : List Ent} (h : EntsNew w B o es) : EntsAt w o es := by
 obtain ⟨l, rfl, h⟩ := h
 obtain ⟨a, cap, h1, h2, h3, h4⟩ := own_rows pairRow pairRow_len h.row
 refine ⟨a, cap, by rw [List.length_map]; exact h1, by rw [List.length_map]; exact h2, h3, fun i t ht => ?_⟩
 rw [List.getElem?_map] at ht
 cases hp : l[i]? with
 | none => rw [hp] at ht; cases ht
 | some p =>
  rw [hp] at ht
  cases ht
  obtain ⟨g, ha, hc⟩ := h4 i p hp
  exact ⟨g, 0, ha, p.2, by simpa using hc 0 _ rfl, by simpa using hc 1 _ rfl, flds_new (h.flds p (List.mem_of_getElem? hp))⟩
theorem BookNew.at {lo : Nat} {w : World} {x y z : Value} {ks ps : List Tri} {es : List Ent} (h : BookNew lo w x y z ks ps es) : BookAt w x y z ks ps es := ⟨tris_new h.k, tris_new h.p, ents_new h.e⟩
theorem eat_succ (g : Ent) (l : List Ent) (i : Nat) : eat (g :: l) (i + 1) = eat l i := by simp [eat]
theorem putE_hit : ∀ (es : List Ent) (n : ByteArray) (f : Fld) (k : Nat), (es.Pairwise fun a b => blS a.name b.name = true) → k < es.length → (eat es k).name = n → putE es n f = es.set k ⟨(eat es k).name, putF (eat es k).fs f⟩
 | [], n, f, k, _, hk, _ => by simp at hk
 | e :: es, n, f, 0, _, _, hn => by
  have e0 : eat (e :: es) 0 = e := rfl
  rw [e0] at hn ⊢
  rw [putE, if_pos hn]
  rfl
 | e :: es, n, f, k + 1, h, hk, hn => by
  have h' := List.pairwise_cons.1 h
  rw [eat_succ] at hn ⊢
  have hk' : k < es.length := by simpa using hk
  have hlt : blS e.name n = true := by
   rw [← hn]
   exact h'.1 _ (List.mem_of_getElem? (eat_get hk'))
  have hne : ¬ e.name = n := fun h => by rw [h] at hlt; exact absurd hlt (by rw [blS_irrefl]; simp)
  rw [putE, if_neg hne, if_pos hlt, putE_hit es n f k h'.2 hk' hn]
  rfl
theorem putE_in : ∀ (es : List Ent) (n : ByteArray) (f : Fld) (j : Nat), j ≤ es.length → (∀ e ∈ es, ¬ e.name = n) → (∀ i, i < j → blS (eat es i).name n = true) → (j < es.length → blS (eat es j).name n = false) → putE es n f = es.take j ++ ⟨n, [f]⟩ :: es.drop j
 | [], n, f, j, hj, _, _, _ => by
  have : j = 0 := by simpa using hj
  subst this; rfl
 | e :: es, n, f, 0, hj, hne, hl, he => by
  have h0 := he (by simp)
  have e0 : eat (e :: es) 0 = e := rfl
  rw [e0] at h0
  rw [putE, if_neg (hne e (by simp)), if_neg (by rw [h0]; simp)]
  rfl
 | e :: es, n, f, j + 1, hj, hne, hl, he => by
  have h0 := hl 0 (by omega)
  have e0 : eat (e :: es) 0 = e := rfl
  rw [e0] at h0
  rw [putE, if_neg (hne e (by simp)), if_pos h0, putE_in es n f j (by simpa using hj) (fun x hx => hne x (by simp [hx])) (fun i hi => by have := hl (i + 1) (by omega); rwa [eat_succ] at this) (fun hlt => by have := he (by simpa using hlt); rwa [eat_succ] at this)]
  rfl
theorem pairRows_set : ∀ (l : List EntV) (k : Nat) (p : EntV) (e : Ent) (v : Value), l[k]? = some p → e.name = p.1.name → pairRows (l.set k (e, v)) = (pairRows l).set (k * 2 + 1) v
 | [], k, p, e, v, hk, _ => by simp at hk
 | a :: l, 0, p, e, v, hk, hn => by
  have : a = p := by simpa using hk
  subst this
  simp [pairRows, pairRow, hn]
 | a :: l, k + 1, p, e, v, hk, hn => by
  have ih := pairRows_set l k p e v (by simpa using hk) hn
  have c : ∀ (x : EntV) (m : List EntV), pairRows (x :: m) = pairRow x ++ pairRows m := fun x m => by simp [pairRows]
  rw [List.set_cons_succ, c, c, ih, show (k + 1) * 2 + 1 = 2 + (k * 2 + 1) by omega, List.set_append_right _ _ (by simp [pairRow])]
  simp [pairRow]
theorem PairsNew.turn {w w1 : World} {B g n cap k : Nat} {l : List EntV} {e : Ent} {fv v : Value} {fs : List Fld} (h : PairsNew w B (.slice (some ⟨g, 0, none⟩) n cap) l) (hk : l[k]? = some (e, fv)) (hown : w1.ownsRow B 42 3 v fs.length (fldRows fs)) (hg : w.grownBy w1 fv.ownBlock) (hat : ∀ j, v.ownBlock = some j → fv.ownBlock = some j ∨ w.heap.size ≤ j) :
  PairsNew (w1.setCell ⟨g, k * 2 + 1, none⟩ v) B (.slice (some ⟨g, 0, none⟩) n cap) (l.set k (⟨e.name, fs⟩, v)) := by
 have hkl := (List.getElem?_eq_some_iff.1 hk).1
 have hfl := h.flds (e, fv) (List.mem_of_getElem? hk)
 have hrow1 : w1.ownsRow B 40 2 (.slice (some ⟨g, 0, none⟩) n cap) l.length (pairRows l) := ownsRow_farF h.row hg (own_apart hfl h.row (by decide))
 have gs := grown_setF w1 g (k * 2 + 1) v
 have hpw := List.pairwise_iff_getElem.1 h.apart
 have hdiff : ∀ (i : Nat) (q : EntV), i ≠ k → l[i]? = some q → ∀ b, q.2.ownBlock = some b → fv.ownBlock ≠ some b := fun i q hik hq b hb hb' => by
  obtain ⟨hi, rfl⟩ := List.getElem?_eq_some_iff.1 hq
  obtain ⟨hk', hke⟩ := List.getElem?_eq_some_iff.1 hk
  rcases Nat.lt_or_gt_of_ne hik with hlt | hgt
  ·exact hpw i k hi hk' hlt b hb (by rw [hke]; exact hb')
  ·exact hpw k i hk' hi hgt b (by rw [hke]; exact hb') hb
 have hold : ∀ (i : Nat) (q : EntV), i ≠ k → l[i]? = some q → w1.ownsRow B 42 3 q.2 q.1.fs.length (fldRows q.1.fs) := fun i q hik hq => ownsRow_farF (h.flds q (List.mem_of_getElem? hq)) hg (fun b hb e => hdiff i q hik hq b hb e.symm)
 refine ⟨?_, fun p hp => ?_, ?_⟩
 ·rw [pairRows_set l k (e, fv) ⟨e.name, fs⟩ v hk rfl, List.length_set]
  exact own_set1 hrow1 _ _
 ·obtain ⟨i, hi, rfl⟩ := List.getElem_of_mem hp
  rw [List.length_set] at hi
  by_cases e0 : i = k
  ·subst e0
   rw [List.getElem_set_self]
   exact ownsRow_farF hown gs (own_apart hrow1 hown (by decide))
  ·have hq : l[i]? = some l[i] := List.getElem?_eq_getElem hi
   rw [List.getElem_set_ne (Ne.symm e0)]
   have h1 := hold i _ e0 hq
   exact ownsRow_farF h1 gs (own_apart hrow1 h1 (by decide))
 ·rw [List.pairwise_iff_getElem]
  intro i j hi0 hj0 hij b hb hb'
  have hi : i < l.length := by simpa using hi0
  have hj : j < l.length := by simpa using hj0
  by_cases ei : i = k
  ·have ej : j ≠ k := by omega
   subst ei
   rw [List.getElem_set_self] at hb
   rw [List.getElem_set_ne (Ne.symm ej)] at hb'
   have hq : l[j]? = some l[j] := List.getElem?_eq_getElem hj
   rcases hat b hb with h1 | h1
   ·exact hdiff j _ ej hq b hb' h1
   ·have := own_lt (h.flds _ (List.mem_of_getElem? hq)) b hb'; omega
  ·rw [List.getElem_set_ne (Ne.symm ei)] at hb
   have hq : l[i]? = some l[i] := List.getElem?_eq_getElem hi
   by_cases ej : j = k
   ·subst ej
    rw [List.getElem_set_self] at hb'
    rcases hat b hb' with h1 | h1
    ·exact hdiff i _ ei hq b hb h1
    ·have := own_lt (h.flds _ (List.mem_of_getElem? hq)) b hb; omega
   ·rw [List.getElem_set_ne (Ne.symm ej)] at hb'
    exact hpw i j hi hj hij b hb hb'
theorem PairsNew.ins {w w1 : World} {B j : Nat} {o o' fv : Value} {l : List EntV} {e : Ent} (h : PairsNew w B o l) (hb : Below w.heap.size w w1) (hf : w1.ownsRow B 42 3 fv e.fs.length (fldRows e.fs)) (hnew : ∀ q, fv.ownBlock = some q → w.heap.size ≤ q) (hown : w1.ownsRow B 40 2 o' (l.take j ++ (e, fv) :: l.drop j).length (pairRows (l.take j ++ (e, fv) :: l.drop j))) :
  PairsNew w1 B o' (l.take j ++ (e, fv) :: l.drop j) := by
 have hmem : ∀ p, p ∈ l.take j ∨ p ∈ l.drop j → p ∈ l := fun p hp => by
  rcases hp with hp | hp
  ·exact List.mem_of_mem_take hp
  ·exact List.mem_of_mem_drop hp
 have hfar : ∀ p ∈ l, ∀ q, p.2.ownBlock = some q → fv.ownBlock ≠ some q := fun p hp q h1 h2 => by
  have := own_lt (h.flds p hp) q h1
  have := hnew q h2
  omega
 have hsp : (l.take j ++ l.drop j).Pairwise fun p q => ∀ k, p.2.ownBlock = some k → q.2.ownBlock ≠ some k := by rw [List.take_append_drop]; exact h.apart
 have hsp' := List.pairwise_append.1 hsp
 refine ⟨hown, fun p hp => ?_, ?_⟩
 ·rw [List.mem_append, List.mem_cons] at hp
  rcases hp with hp | rfl | hp
  ·exact ownsRow_keep (h.flds p (hmem p (.inl hp))) hb
  ·exact hf
  ·exact ownsRow_keep (h.flds p (hmem p (.inr hp))) hb
 ·rw [List.pairwise_append, List.pairwise_cons]
  refine ⟨hsp'.1, ⟨fun q hq k hk hk' => hfar q (hmem q (.inr hq)) k hk' hk, hsp'.2.1⟩, fun p hp q hq => ?_⟩
  rcases List.mem_cons.1 hq with rfl | hq
  ·exact fun k hk => hfar p (hmem p (.inl hp)) k hk
  ·exact hsp'.2.2 p hp q hq
theorem pairRows_app (a b : List EntV) : pairRows (a ++ b) = pairRows a ++ pairRows b := by simp [pairRows]
theorem pairRows_cons (a : EntV) (b : List EntV) : pairRows (a :: b) = pairRow a ++ pairRows b := by simp [pairRows]
theorem eat_map {l : List EntV} {k : Nat} (hk : k < l.length) : ∃ fv, l[k]? = some (eat (l.map (·.1)) k, fv) := by
 refine ⟨l[k].2, ?_⟩
 rw [List.getElem?_eq_getElem hk]
 simp [eat, hk]
open Go.RowKit
structure Cp3 (w wr : World) (A : Array Value) (X : Nat) (C : Array Value) : Prop where
 below : Below w.heap.size w wr
 a : wr.heap[w.heap.size]? = some (.cells A 29 (0, 0))
 b : wr.heap[w.heap.size + 1]? = some (.cells #[.slice none 0 0, .slice none 0 0, .slice none 0 0] 29 (0, 0))
 c : wr.heap[X]? = some (.cells C 29 (0, 0))
 l : w.heap.size + 2 ≤ X
theorem Cp3.z {w wr : World} {A C : Array Value} {X : Nat} (h : Cp3 w wr A X C) : X < wr.heap.size := (Array.getElem?_eq_some_iff.1 h.c).1
theorem Cp3.call {w wr wy : World} {A C : Array Value} {X : Nat} (h : Cp3 w wr A X C) (hb : Below wr.heap.size wr wy) : Cp3 w wy A X C := by
 have hz := h.z
 have hl := h.l
 exact ⟨below_step h.below hb, (hb.block _ (by omega)).trans h.a, (hb.block _ (by omega)).trans h.b, (hb.block _ (by omega)).trans h.c, hl⟩
theorem Cp3.grown {w wr wy : World} {A C : Array Value} {X : Nat} {r : Option Nat} (h : Cp3 w wr A X C) (hg : wr.grownBy wy r) (hr : ∀ k, r = some k → w.heap.size + 2 ≤ k) (hX : some X ≠ r) : Cp3 w wy A X C := by
 have hz := h.z
 have hl := h.l
 refine ⟨h.below.grown hg h.below.size (fun k e => by have := hr k e; omega), (hg.block _ (by omega) ?_).trans h.a, (hg.block _ (by omega) ?_).trans h.b, (hg.block _ hz hX).trans h.c, hl⟩
 ·intro e; have := hr _ e.symm; omega
 ·intro e; have := hr _ e.symm; omega
theorem Cp3.cellA {w wr : World} {A C : Array Value} {X : Nat} (h : Cp3 w wr A X C) (j : Nat) : wr.cell? ⟨w.heap.size, j, none⟩ = A[j]? := by simp [World.cell?, h.a]
theorem Cp3.cellC {w wr : World} {A C : Array Value} {X : Nat} (h : Cp3 w wr A X C) (j : Nat) : wr.cell? ⟨X, j, none⟩ = C[j]? := by simp [World.cell?, h.c]
theorem Cp3.free {w wr : World} {A C : Array Value} {X : Nat} (h : Cp3 w wr A X C) (j : Nat) : wr.frozen? ⟨X, j, none⟩ = false := by simp [World.frozen?, h.c]
theorem Cp3.set {w wr : World} {A : Array Value} {X : Nat} {x y z : Value} (h : Cp3 w wr A X #[x, y, z]) (v : Value) : Cp3 w (wr.setCell ⟨X, 2, none⟩ v) A X #[x, y, v] := by
 have hl := h.l
 refine ⟨h.below.setCell (p := ⟨X, 2, none⟩) (by show w.heap.size ≤ X; omega) v, ?_, ?_, ?_, hl⟩
 ·rw [Below.heap_setCell wr ⟨X, 2, none⟩ v w.heap.size (by show w.heap.size ≠ X; omega)]; exact h.a
 ·rw [Below.heap_setCell wr ⟨X, 2, none⟩ v (w.heap.size + 1) (by show w.heap.size + 1 ≠ X; omega)]; exact h.b
 ·rw [setCell_eq_setRow _ _ _ _ _ _ _ h.c]; exact setRow_heap _ _ _ _ _ _ h.c
theorem drewCp {w wr : World} {A C : Array Value} {X : Nat} (h : Cp3 w wr A X C) : Cp3 w wr.drew A X C := ⟨h.below.drew, h.a, h.b, h.c, h.l⟩
theorem drewBN {lo : Nat} {w : World} {x y z : Value} {ks ps : List Tri} {es : List Ent} (h : BookNew lo w x y z ks ps es) : BookNew lo w.drew x y z ks ps es := h.keep (Below.refl _ _).drew
theorem BookNew.pushE {W2 W4 : World} {lo : Nat} {x y z z' fv : Value} {ks ps : List Tri} {l : List EntV} {e : Ent} {ob : Obj} (hx : W2.ownsRow lo 107 3 x ks.length (triRows ks)) (hy : W2.ownsRow lo 109 3 y ps.length (triRows ps)) (h : PairsNew W2 lo z l) (hf : W2.ownsRow lo 42 3 fv e.fs.length (fldRows e.fs)) (hnew : ∀ k, fv.ownBlock = some k → ∀ p ∈ l, p.2.ownBlock ≠ some k) (hown : W4.ownsRow lo 40 2 z' (l.length + 1) (pairRows l ++ [.string e.name, fv])) (hg : (W2.alloc ob).grownBy W4 z.ownBlock) : BookNew lo W4 x y z' ks ps (l.map (·.1) ++ [e]) := by
 have hb1 : Below W2.heap.size W2 (W2.alloc ob) := (Below.refl _ _).alloc (Nat.le_refl _) ob
 refine ⟨ownsRow_farF (ownsRow_keep hx hb1) hg (own_apart h.row hx (by decide)), ownsRow_farF (ownsRow_keep hy hb1) hg (own_apart h.row hy (by decide)), l ++ [(e, fv)], by simp, h.pushF hf hnew hown hg⟩
set_option maxRecDepth 100000 in
set_option maxHeartbeats 6400000 in
theorem specL3Copy_any (vk vp ve : Value) (ks ps : List Tri) (es : List Ent) (w : World) (hB : BookAt w vk vp ve ks ps es) (lk : ks.length ≤ 1048576) (lp : ps.length ≤ 1048576) (le : es.length ≤ 1048576) (lf : ∀ e ∈ es, e.fs.length ≤ 1048576) :
  Calls Tryz.prog 28 #[.agg #[vk, vp, ve]] w fun e w' => ∃ x y z, e = .returned (.agg #[x, y, z]) ∧ BookNew (w.heap.size + 2) w' x y z ks ps es ∧ Below w.heap.size w w' := by
 obtain ⟨iE, hiE, hzE0, hzE1, hzE2⟩ := info_parts infoEnt
 obtain ⟨iF, hiF, hzF0, hzF1, hzF2⟩ := info_parts infoFld
 have HB : Hid (BookAt w vk vp ve ks ps es) := hB
 obtain ⟨⟨ak, ck, rfl, -, -, -⟩, ⟨ap, cp, rfl, -, -, -⟩, ⟨ae, ce, rfl, -, -, he3⟩⟩ := hB
 have HEA : Hid (∀ i e, es[i]? = some e → ∃ b off, ae = some ⟨b, off, none⟩ ∧ EntAt w b (off + i * 2) e) := he3
 have HLF : Hid (∀ e ∈ es, e.fs.length ≤ 1048576) := lf
 clear he3 lf
 have hb0 : Below w.heap.size w ((w.alloc (.cells #[.slice ak ks.length ck, .slice ap ps.length cp, .slice ae es.length ce] 29)).alloc (.cells #[.slice none 0 0, .slice none 0 0, .slice none 0 0] 29)) := ((Below.refl _ _).alloc (Nat.le_refl _) _).alloc (by simp) _
 have HB0 : Hid (Below w.heap.size w ((w.alloc (.cells #[.slice ak ks.length ck, .slice ap ps.length cp, .slice ae es.length ce] 29)).alloc (.cells #[.slice none 0 0, .slice none 0 0, .slice none 0 0] 29))) := hb0
 clear hb0
 go_enter Tryz.func28, Tryz.ntmps28
 go_wp2_with fail
 refine (specL1Copy_any _ _ ks ps _ (HB.out.k.keep HB0.out) (HB.out.p.keep HB0.out) lk lp).mono ?_
 rintro e w1 ⟨x, y, rfl, hx, hy, hb1⟩
 obtain ⟨xa, xc, rfl⟩ := own_slice hx
 obtain ⟨ya, yc, rfl⟩ := own_slice hy
 have s0 : ((w.alloc (.cells #[.slice ak ks.length ck, .slice ap ps.length cp, .slice ae es.length ce] 29)).alloc (.cells #[.slice none 0 0, .slice none 0 0, .slice none 0 0] 29)).heap.size = w.heap.size + 1 + 1 := by simp
 rw [s0] at hx hy
 have HC : Hid (Cp3 w (w1.alloc (.cells #[.slice xa ks.length xc, .slice ya ps.length yc, .slice none 0 0] 29)) #[.slice ak ks.length ck, .slice ap ps.length cp, .slice ae es.length ce] w1.heap.size #[.slice xa ks.length xc, .slice ya ps.length yc, .slice none 0 0]) := by
  have h1 := heap_newF w (.cells #[.slice ak ks.length ck, .slice ap ps.length cp, .slice ae es.length ce] 29)
  have h2 := heap_newF (w.alloc (.cells #[.slice ak ks.length ck, .slice ap ps.length cp, .slice ae es.length ce] 29)) (.cells #[.slice none 0 0, .slice none 0 0, .slice none 0 0] 29)
  rw [World.size_alloc] at h2
  have hz1 := hb1.size
  rw [s0] at hz1
  have hal : Below w1.heap.size w1 (w1.alloc (.cells #[.slice xa ks.length xc, .slice ya ps.length yc, .slice none 0 0] 29)) := (Below.refl _ _).alloc (Nat.le_refl _) _
  refine ⟨below_step (below_step HB0.out hb1) hal, ?_, ?_, heap_newF w1 _, by omega⟩
  ·exact (hal.block _ (by omega)).trans ((hb1.block _ (by omega)).trans ((Below.heap_alloc _ _ _ (by rw [World.size_alloc]; omega)).trans h1))
  ·exact (hal.block _ (by omega)).trans ((hb1.block _ (by omega)).trans h2)
 have HN : Hid (BookNew (w.heap.size + 2) (w1.alloc (.cells #[.slice xa ks.length xc, .slice ya ps.length yc, .slice none 0 0] 29)) (.slice xa ks.length xc) (.slice ya ps.length yc) (.slice none 0 0) ks ps []) := by
  have hal : Below w1.heap.size w1 (w1.alloc (.cells #[.slice xa ks.length xc, .slice ya ps.length yc, .slice none 0 0] 29)) := (Below.refl _ _).alloc (Nat.le_refl _) _
  exact ⟨own_mono (ownsRow_keep hx hal) (by omega), own_mono (ownsRow_keep hy hal) (by omega), [], rfl, PairsNew.nil _ _⟩
 clear hx hy hb1 HB0 s0
 go_wp2
 generalize w1.alloc (.cells #[.slice xa ks.length xc, .slice ya ps.length yc, .slice none 0 0] 29) = wa at *
 generalize w1.heap.size = X at *
 go_loopw [4] (fun i wr => ∃ (k : Nat) (z : Value), k ≤ es.length ∧ i = .int .i64 k ∧ (∃ a c, z = .slice a k c) ∧ Hid (Cp3 w wr #[.slice ak ks.length ck, .slice ap ps.length cp, .slice ae es.length ce] X #[.slice xa ks.length xc, .slice ya ps.length yc, z] ∧ BookNew (w.heap.size + 2) wr (.slice xa ks.length xc) (.slice ya ps.length yc) z ks ps (es.take k))) (fun i _ => es.length - (intOf i).toNat)
 case atStart => exact ⟨0, _, Nat.zero_le _, rfl, ⟨_, _, rfl⟩, HC.out, HN.out⟩
 case round =>
  clear HC HN
  obtain ⟨k, z, hk, rfl, ⟨za, zc, rfl⟩, HI⟩ := hrel
  have q2 : wr.cell? ⟨w.heap.size, 2, none⟩ = some (.slice ae es.length ce) := HI.out.1.cellA 2
  have q0 : wr.cell? ⟨w.heap.size, 0, none⟩ = some (.slice ak ks.length ck) := HI.out.1.cellA 0
  have q1 : wr.cell? ⟨w.heap.size, 1, none⟩ = some (.slice ap ps.length cp) := HI.out.1.cellA 1
  by_cases hlt : k < es.length
  ·have ht : es[k]? = some es[k] := List.getElem?_eq_getElem hlt
   obtain ⟨b, off, rfl, fv, d0, d1, hfl⟩ := HEA.out k _ ht
   have hfn := HLF.out _ (List.mem_of_getElem? ht)
   have HT : Hid (es.take (k + 1) = es.take k ++ [es[k]]) := List.take_succ_eq_append_getElem hlt
   have HFS : Hid (FldsAt w fv es[k].fs) := hfl
   obtain ⟨fa, fc, rfl, -, -, -⟩ := hfl
   have HSF : Hid (∀ wx : World, Below w.heap.size w wx → (es[k].fs.length = 0 ∨ ∃ ad, fa = some ad ∧ ∀ j u, (fldRows es[k].fs)[j]? = some u → wx.cell? (ad.add j) = some u)) := fun wx hx => src_keep (flds_src HFS.out) hx
   generalize es[k] = t at *
   have HD : Hid (w.cell? ⟨b, off + k * 2, none⟩ = some (.string t.name) ∧ w.cell? ⟨b, off + k * 2 + 1, none⟩ = some (.slice fa t.fs.length fc)) := ⟨d0, d1⟩
   clear d0 d1 ht HFS
   have hk0 : (0 : Int) ≤ (k : Int) := by omega
   have hk1 : (k : Int) < (es.length : Int) := by omega
   go_wp2
   refine wp_region_noPanic ?_
   have HCS : Hid (∀ wx : World, Cp3 w wx #[.slice ak ks.length ck, .slice ap ps.length cp, .slice (some ⟨b, off, none⟩) es.length ce] X #[.slice xa ks.length xc, .slice ya ps.length yc, .slice za k zc] → (wx.cell? ⟨X, 2, none⟩ = some (.slice za k zc) ∧ wx.cell? ⟨w.heap.size, 2, none⟩ = some (.slice (some ⟨b, off, none⟩) es.length ce) ∧ wx.cell? ⟨b, off + k * 2, none⟩ = some (.string t.name) ∧ wx.cell? ⟨b, off + k * 2 + 1, none⟩ = some (.slice fa t.fs.length fc))) := fun wx hx => ⟨hx.cellC 2, hx.cellA 2, cell_keep hx.below (Nat.le_refl _) HD.out.1, cell_keep hx.below (Nat.le_refl _) HD.out.2⟩
   refine wp_region_till (S := fun w' => w'.cell? ⟨X, 2, none⟩ = some (.slice za k zc) ∧ w'.cell? ⟨w.heap.size, 2, none⟩ = some (.slice (some ⟨b, off, none⟩) es.length ce) ∧ w'.cell? ⟨b, off + k * 2, none⟩ = some (.string t.name) ∧ w'.cell? ⟨b, off + k * 2 + 1, none⟩ = some (.slice fa t.fs.length fc)) 20 (by kernel_rfl) ?_ (fun hHeld => ?_)
   ·exact HCS.out _ (drewCp HI.out.1)
   have HC : Hid (Cp3 w wr.drew #[.slice ak ks.length ck, .slice ap ps.length cp, .slice (some ⟨b, off, none⟩) es.length ce] X #[.slice xa ks.length xc, .slice ya ps.length yc, .slice za k zc]) := drewCp HI.out.1
   have HN : Hid (BookNew (w.heap.size + 2) wr.drew (.slice xa ks.length xc) (.slice ya ps.length yc) (.slice za k zc) ks ps (es.take k)) := drewBN HI.out.2
   generalize wr.drew = W0 at *
   clear q0 q1 q2 HI
   refine tkT 0 ?_ rfl ?_ (tkT 1 ?_ rfl ?_ (tkT 2 ?_ rfl ?_ (tkT 3 ?_ rfl ?_ (tkT 4 ?_ rfl ?_ (tkT 5 ?_ rfl ?_ (tkT 6 ?_ rfl ?_ (tkT 7 ?_ rfl ?_ (tkT 9 ?_ rfl ?_ (tkT 10 ?_ rfl ?_ (tkT 11 ?_ rfl ?_ (tkT 12 ?_ rfl ?_ (tkT 13 ?_ rfl ?_ (tkT 14 ?_ rfl ?_ ?_)))))))))))))
   iterate 14 (rotate_left; focus (intro w hSw; (try dsimp only at hSw); simp only [Act.put, tkS]; go_simp; try with_reducible rfl))
   simp only [Act.put, tkS]
   clear hHeld
   have HBW : Hid (Below W0.heap.size W0 W0) := Below.refl _ _
   have hzz : w.heap.size + 2 ≤ W0.heap.size := by have := HC.out.z; have := HC.out.l; omega
   refine rdT 8 rfl (fun K hK => ?_)
   go_simp
   have HB2 : Hid (Below W0.heap.size W0 (W0.alloc (.cells #[] 42))) := (Below.refl _ _).alloc (Nat.le_refl _) _
   have RF : Hid ((W0.alloc (.cells #[] 42)).ownsRow (w.heap.size + 2) 42 3 (.slice (some ⟨W0.heap.size, 0, none⟩) 0 0) 0 []) := own_new0 (heap_newF W0 _) (by omega) 3
   refine hK.out _ _ (.inr (HCS.out _ (HC.out.call HB2.out))) ?_
   clear hK K HBW
   have HBW := HB2
   clear HB2
   generalize W0.alloc (.cells #[] 42) = W1 at *
   refine rdT 15 rfl (fun K hK => ?_)
   have hsz1 := HBW.out.size
   refine step_append_any _ rfl _ _ 38 rfl (w.heap.size + 2) 42 iF _ 3 32 Tryz.underlying38 hiF hzF0 hzF1 hzF2 rfl (by decide) _ 0 [] rfl RF.out fa t.fs.length fc (fldRows t.fs) rfl (HSF.out _ (below_step HC.out.below HBW.out)) (fldRows_len _) fld_one (by unfold maxLen; omega) (by omega) (by omega) ?_
   intro vf W2 hown hgrow hat
   rw [Nat.zero_add, List.nil_append] at hown
   have HB2 : Hid (Below W0.heap.size W0 W2) := HBW.out.grown hgrow hsz1 (fun j e => by cases e; exact Nat.le_refl _)
   have HFB : Hid (∀ j, vf.ownBlock = some j → W0.heap.size ≤ j) := fun j hj => by
    rcases hat with h | h
    ·rw [hj] at h; have h2 : j = W0.heap.size := Option.some.inj h; omega
    ·rw [hj] at h; injection h with h; omega
   refine hK.out _ _ (.inr (HCS.out _ (HC.out.call HB2.out))) ?_
   clear hK K hgrow hat HBW RF hsz1
   have HBW := HB2
   have RF := toHidC hown
   obtain ⟨va, vc, rfl⟩ := own_slice hown
   clear hown HB2
   have hHeld := HCS.out _ (HC.out.call HBW.out)
   refine tkT 16 ?_ rfl ?_ ?_; rotate_left
   ·intro w hSw; (try dsimp only at hSw); go_simp; try with_reducible rfl
   simp only [Act.put, tkS]
   clear hHeld
   refine rdT 17 rfl (fun K hK => ?_)
   go_simp
   have HB2 : Hid (Below W0.heap.size W0 (W2.alloc (.cells #[.string t.name, .slice va t.fs.length vc] 40))) := HBW.out.alloc HBW.out.size _
   refine hK.out _ _ (.inr (HCS.out _ (HC.out.call HB2.out))) ?_
   clear hK K
   have HBU := HBW
   clear HBW
   have HBW := HB2
   clear HB2
   refine rdT 18 rfl (fun K hK => ?_)
   obtain ⟨hx, hy, l, hl, hE⟩ := HN.out
   have hll : l.length = k := by have := congrArg List.length hl; rw [List.length_map, List.length_take] at this; omega
   have hE2 := hE.keep HBU.out
   have hsz2 := HBU.out.size
   refine step_append_any _ rfl _ _ 27 rfl (w.heap.size + 2) 40 iE _ 2 40 Tryz.underlying27 hiE hzE0 hzE1 hzE2 rfl (by decide) _ l.length (pairRows l) rfl (ownsRow_keep hE2.row ((Below.refl _ _).alloc (Nat.le_refl _) _)) _ 1 1 [.string t.name, .slice va t.fs.length vc] rfl (.inr ⟨_, rfl, cell_two_new _ _ _ _⟩) rfl (fun u hu => by simp at hu; rcases hu with rfl | rfl <;> rfl) (by unfold maxLen; omega) (by omega) (by simp; omega) ?_
   intro vz W4 hown hgrow hat
   have HN2 := toHidC (BookNew.pushE (e := t) (ownsRow_keep hx HBU.out) (ownsRow_keep hy HBU.out) hE2 RF.out (fun j hj p hp hpj => by have h1 := HFB.out j hj; have := own_lt (hE.flds p hp) j hpj; omega) hown hgrow)
   have HC2 : Hid (Cp3 w W4 #[.slice ak ks.length ck, .slice ap ps.length cp, .slice (some ⟨b, off, none⟩) es.length ce] X #[.slice xa ks.length xc, .slice ya ps.length yc, .slice za k zc]) := (HC.out.call HBW.out).grown hgrow (own_ge hE.row) (own_other hE.row HC.out.c (by decide))
   rw [hl, ← HT.out] at HN2
   refine hK.out _ _ (.inr (HCS.out _ HC2.out)) ?_
   obtain ⟨vb, vd, rfl⟩ := own_slice hown
   rw [hll] at *
   clear hK K hgrow hat HC HN hown hx hy hE hE2 HBU HBW hsz2
   have HC := HC2
   have HN := HN2
   clear HC2 HN2
   have hHeld := HCS.out _ HC.out
   refine tkT 19 ?_ rfl ?_ ?_; rotate_left
   ·intro w hSw; (try dsimp only at hSw); go_simp; try with_reducible rfl
   simp only [Act.put, tkS]
   clear hHeld
   refine rdT 20 rfl (fun K hK => ?_)
   have lz := HC.out.cellC 2
   have lf := HC.out.free 2
   simp only [List.getElem?_toArray, List.getElem?_cons_succ, List.getElem?_cons_zero] at lz
   have HC2 := toHidC (HC.out.set (.slice vb (k + 1) vd))
   have HN2 := toHidC (HN.out.box HC.out.c (grown_setF W4 X 2 (.slice vb (k + 1) vd)))
   go_simp
   refine hK.out _ _ (.inl rfl) ?_
   clear hK K lz lf HC HN
   have HC := HC2
   have HN := HN2
   clear HC2 HN2
   refine wpTill_done (by kernel_rfl) ?_ _
   refine NoPanic.normal ?_
   go_wp2
   exact ⟨⟨k + 1, _, by omega, by go_num, ⟨_, _, rfl⟩, HC.out, HN.out⟩, by simp [intOf]; omega⟩
  ·have HE : Hid (BookNew (w.heap.size + 2) wr (.slice xa ks.length xc) (.slice ya ps.length yc) (.slice za k zc) ks ps es) := by
    have h := HI.out.2
    rw [List.take_of_length_le (by omega)] at h
    exact h
   have hrow := HI.out.1.b
   obtain ⟨e0, e1, e2⟩ : wr.cell? ⟨X, 0, none⟩ = some (.slice xa ks.length xc) ∧ wr.cell? ⟨X, 1, none⟩ = some (.slice ya ps.length yc) ∧ wr.cell? ⟨X, 2, none⟩ = some (.slice za k zc) := ⟨HI.out.1.cellC 0, HI.out.1.cellC 1, HI.out.1.cellC 2⟩
   have HZ : Hid (Below w.heap.size w wr) := HI.out.1.below
   go_wp2_with (refine wpList_store_row rfl 29 _ _ rfl (w.heap.size + 1) #[.slice xa ks.length xc, .slice ya ps.length yc, .slice za k zc] rfl rfl 29 _ hrow (by kernel_rfl) rfl (by simp [Value.oneCell']) ?_)
   exact bodyPost_ret (v := .agg #[.slice xa ks.length xc, .slice ya ps.length yc, .slice za k zc]) (by simp [results, Tryz.results28, go_sem, cell_setRow_same _ _ _ _ _ _ _ hrow]) rfl ⟨_, _, _, rfl, HE.out.far (grown_rowF wr (w.heap.size + 1) _) (by omega), below_setRow HZ.out (by omega) _⟩
open Go.RowKit
def putEs (es : List Ent) (cs : List Chg) : List Ent := cs.foldl (fun E c => putE E c.f (fldC c)) es
theorem putEs_sorted : ∀ (cs : List Chg) (es : List Ent), (es.Pairwise fun a b => blS a.name b.name = true) → (putEs es cs).Pairwise fun a b => blS a.name b.name = true
 | [], es, h => h
 | c :: cs, es, h => putEs_sorted cs _ (putE_sorted c.f (fldC c) h)
theorem putEs_ne : ∀ (cs : List Chg) (es : List Ent), (∀ e ∈ es, e.fs ≠ []) → ∀ e ∈ putEs es cs, e.fs ≠ []
 | [], es, h => h
 | c :: cs, es, h => putEs_ne cs _ (putE_ne c.f (fldC c) h)
theorem putEs_chgs : ∀ (cs : List Chg) (es : List Ent), (es.Pairwise fun a b => blS a.name b.name = true) → chgsOf (putEs es cs) = cs.foldl putC (chgsOf es)
 | [], es, h => rfl
 | c :: cs, es, h => by
  have h1 := putEs_chgs cs _ (putE_sorted c.f (fldC c) h)
  show chgsOf (putEs (putE es c.f (fldC c)) cs) = cs.foldl putC (putC (chgsOf es) c)
  rw [h1, chgs_putE c.f (fldC c) h]
  rfl
theorem putEs_snoc (es : List Ent) (cs : List Chg) (c : Chg) : putEs es (cs ++ [c]) = putE (putEs es cs) c.f (fldC c) := by simp [putEs]
theorem putEs_app (es : List Ent) (cs ds : List Chg) : putEs es (cs ++ ds) = putEs (putEs es cs) ds := by simp [putEs]
theorem fold_two {ks ps ks' ps' : List Tri} {es es' : List Ent} (h : bookB ks ps es = true) (h' : bookB ks' ps' es' = true) : (([chgsOf es, chgsOf es'] : List (List Chg)).flatten.foldl putC []).foldl addE [] = putEs es (chgsOf es') := by
 have e1 : ([chgsOf es, chgsOf es'] : List (List Chg)).flatten = chgsOf es ++ chgsOf es' := by simp
 rw [e1, List.foldl_append, putAll_self (book_sorted h), ← putEs_chgs _ _ (book_names h)]
 exact grp_self (putEs_ne _ _ (book_ne h)) (putE_apart (putEs_sorted _ _ (book_names h)))
theorem putE_lenM (es : List Ent) (n : ByteArray) (f : Fld) : (putE es n f).length ≤ es.length + 1 := by
 induction es with
 | nil => simp [putE]
 | cons e es ih =>
  rw [putE]
  split
  ·simp
  ·split
   ·simp; omega
   ·simp
theorem putEs_len : ∀ (cs : List Chg) (es : List Ent), (putEs es cs).length ≤ es.length + cs.length
 | [], es => Nat.le_refl _
 | c :: cs, es => by
  have h1 := putEs_len cs (putE es c.f (fldC c))
  have h2 := putE_lenM es c.f (fldC c)
  show (putEs (putE es c.f (fldC c)) cs).length ≤ _
  simp only [List.length_cons]
  omega
theorem putF_lenM (fs : List Fld) (f : Fld) : (putF fs f).length ≤ fs.length + 1 := by
 induction fs with
 | nil => simp [putF]
 | cons g l ih =>
  rw [putF]
  split
  ·simp; omega
  ·split
   ·split <;> simp
   ·simp
theorem putE_fsM {es : List Ent} (n : ByteArray) (f : Fld) (M : Nat) (h : ∀ e ∈ es, e.fs.length ≤ M) : ∀ e ∈ putE es n f, e.fs.length ≤ M + 1 := by
 induction es with
 | nil => intro e he; simp [putE] at he; subst he; simp
 | cons x es ih =>
  intro e he
  rw [putE] at he
  split at he
  ·rcases List.mem_cons.1 he with rfl | he
   ·have := putF_lenM x.fs f
    have := h x (by simp)
    show (putF x.fs f).length ≤ _
    omega
   ·have := h e (by simp [he]); omega
  ·split at he
   ·rcases List.mem_cons.1 he with rfl | he
    ·have := h e (by simp); omega
    ·exact ih (fun e he => h e (by simp [he])) e he
   ·rcases List.mem_cons.1 he with rfl | he
    ·simp
    ·have := h e he; omega
theorem putEs_fs : ∀ (cs : List Chg) (es : List Ent) (M : Nat), (∀ e ∈ es, e.fs.length ≤ M) → ∀ e ∈ putEs es cs, e.fs.length ≤ M + cs.length
 | [], es, M, h => h
 | c :: cs, es, M, h => fun e he => by
  have := putEs_fs cs (putE es c.f (fldC c)) (M + 1) (putE_fsM c.f (fldC c) M h) e he
  simp only [List.length_cons]
  omega
def mrgC (ks ps ks' ps' : List Tri) (es es' : List Ent) : Int := bif bookB ks ps es && bookB ks' ps' es' then (bif sameBs ks ks' ps ps' then (bif decide (12 < (putEs es (chgsOf es')).length) then 3 else 0) else 2) else 1
def mrgOk (ks ps ks' ps' : List Tri) (es es' : List Ent) : Bool := (bookB ks ps es && bookB ks' ps' es') && (sameBs ks ks' ps ps' && !decide (12 < (putEs es (chgsOf es')).length))
def mrgT (ks ps ks' ps' : List Tri) (es es' : List Ent) (l : List Tri) : List Tri := bif mrgOk ks ps ks' ps' es es' then l else []
def mrgE (ks ps ks' ps' : List Tri) (es es' : List Ent) : List Ent := bif mrgOk ks ps ks' ps' es es' then putEs es (chgsOf es') else []
open Go.RowKit
abbrev Bx := Nat × Array Value × TypeId
structure Bxs (w wr : World) (bs : List Bx) : Prop where
 below : Below w.heap.size w wr
 has : ∀ p ∈ bs, wr.heap[p.1]? = some (.cells p.2.1 p.2.2 (0, 0))
theorem Bxs.lt {w wr : World} {bs : List Bx} (h : Bxs w wr bs) {p : Bx} (hp : p ∈ bs) : p.1 < wr.heap.size := (Array.getElem?_eq_some_iff.1 (h.has p hp)).1
theorem Bxs.call {w wr wy : World} {bs : List Bx} (h : Bxs w wr bs) (hb : Below wr.heap.size wr wy) : Bxs w wy bs := ⟨below_step h.below hb, fun p hp => (hb.block _ (h.lt hp)).trans (h.has p hp)⟩
theorem Bxs.push {w wr : World} {bs : List Bx} (h : Bxs w wr bs) {X : Nat} {C : Array Value} {T : TypeId} (hX : wr.heap[X]? = some (.cells C T (0, 0))) : Bxs w wr ((X, C, T) :: bs) :=
 ⟨h.below, fun p hp => by
  rcases List.mem_cons.1 hp with rfl | hp
  ·exact hX
  ·exact h.has p hp⟩
theorem Bxs.cell {w wr : World} {bs : List Bx} (h : Bxs w wr bs) (i : Nat) {X : Nat} {C : Array Value} {T : TypeId} (hi : bs[i]? = some (X, C, T)) (j : Nat) : wr.cell? ⟨X, j, none⟩ = C[j]? := by
 have := h.has _ (List.mem_of_getElem? hi)
 dsimp only at this
 simp [World.cell?, this]
theorem Bxs.start2 (w : World) (A C : Array Value) (T U : TypeId) : Bxs w ((w.alloc (.cells A T)).alloc (.cells C U)) [(w.heap.size, A, T), (w.heap.size + 1, C, U)] := by
 have s1 : (w.alloc (.cells A T)).heap.size = w.heap.size + 1 := by simp
 have h1 := heap_newF w (.cells A T)
 have h2 := heap_newF (w.alloc (.cells A T)) (.cells C U)
 rw [s1] at h2
 refine ⟨((Below.refl _ _).alloc (Nat.le_refl _) _).alloc (by simp) _, fun p hp => ?_⟩
 simp only [List.mem_cons, List.not_mem_nil, or_false] at hp
 rcases hp with rfl | rfl
 ·exact (Below.heap_alloc _ _ _ (by omega)).trans h1
 ·exact h2
theorem sumN_le_mul {α : Type} (g : α → Nat) (M : Nat) : ∀ l : List α, (∀ a ∈ l, g a ≤ M) → sumN g l ≤ l.length * M
 | [], _ => by simp [sumN]
 | a :: l, h => by
  have h1 := h a (by simp)
  have h2 := sumN_le_mul g M l (fun b hb => h b (by simp [hb]))
  simp only [sumN, List.length_cons, Nat.succ_mul]
  omega
end Go.Proofs.YtibpkhmiahamcaaGreat
