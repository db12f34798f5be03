import Derived.Test.YtcmgddnckohdaaaGreatDoorApp
import Derived.Test.YtcmgddnckohdaaaGreatDoorTake1
set_option linter.unusedSimpArgs false
set_option linter.unusedVariables false
namespace Go.Proofs.YtcmgddnckohdaaaGreatDoor
open Go.RowKit
theorem toHidC {P : Prop} (h : P) : Hid P := h
theorem lt_of_cellA {w : World} {a : Addr} {v : Value} (h : w.cell? a = some v) : a.block < w.heap.size := by
 by_cases hb : a.block < w.heap.size
 ·exact hb
 ·exfalso
  have hn : w.heap[a.block]? = none := by simp; omega
  simp [World.cell?, hn] at h
theorem own_new0 {W : World} {B base : Nat} {e : TypeId} (h : W.heap[B]? = some (.cells #[] e (0, 0))) (hb : base ≤ B) (size : Nat) : W.ownsRow base e size (.slice (some ⟨B, 0, none⟩) 0 0) 0 [] :=
 ⟨by simp, .inr ⟨B, 0, #[], rfl, hb, h, Nat.le_refl _, Nat.zero_le _, by simp, by simp⟩⟩
theorem rows_idx {α : Type} (f : α → List Value) (c : Nat) (hf : ∀ a, (f a).length = c) : ∀ (l : List α) (i r : Nat), r < c → (l.flatMap f)[i * c + r]? = l[i]?.bind fun a => (f a)[r]?
 | [], i, r, hr => by simp
 | a :: l, 0, r, hr => by
  simp only [List.flatMap_cons, Nat.zero_mul, Nat.zero_add]
  rw [List.getElem?_append_left (by rw [hf]; exact hr)]
  rfl
 | a :: l, i + 1, r, hr => by
  simp only [List.flatMap_cons]
  have h1 : (i + 1) * c + r = c + (i * c + r) := by rw [Nat.succ_mul]; omega
  rw [List.getElem?_append_right (by rw [hf, h1]; omega), hf, h1, Nat.add_sub_cancel_left, rows_idx f c hf l i r hr]
  rfl
theorem rows_len {α : Type} (f : α → List Value) (c : Nat) (hf : ∀ a, (f a).length = c) (l : List α) : (l.flatMap f).length = l.length * c := by
 induction l with
 | nil => simp
 | cons a l ih => rw [List.flatMap_cons, List.length_append, ih, hf, List.length_cons, Nat.succ_mul]; omega
theorem addr_add (b o j : Nat) : (⟨b, o, none⟩ : Addr).add j = ⟨b, o + j, none⟩ := by unfold Addr.add; split <;> simp_all
theorem src_of {α : Type} {w : World} {a : Option Addr} {l : List α} (f : α → List Value) (c : Nat) (hc : 0 < c) (hf : ∀ x, (f x).length = c) (h : ∀ i t, l[i]? = some t → ∃ b off, a = some ⟨b, off, none⟩ ∧ ∀ r v, (f t)[r]? = some v → w.cell? ⟨b, off + i * c + r, none⟩ = some v) :
  l.length = 0 ∨ ∃ ad, a = some ad ∧ ∀ j u, (l.flatMap f)[j]? = some u → w.cell? (ad.add j) = some u := by
 cases l with
 | nil => exact .inl rfl
 | cons t l =>
  obtain ⟨b, off, rfl, _⟩ := h 0 t rfl
  refine .inr ⟨_, rfl, fun j u hu => ?_⟩
  have hj : j = (j / c) * c + j % c := by rw [Nat.mul_comm]; exact (Nat.div_add_mod j c).symm
  have hr : j % c < c := Nat.mod_lt _ hc
  rw [hj, rows_idx f c hf _ _ _ hr] at hu
  cases hx : (t :: l)[j / c]? with
  | none => rw [hx] at hu; cases hu
  | some y =>
   rw [hx] at hu
   obtain ⟨b', off', e, hh⟩ := h _ y hx
   cases e
   rw [addr_add]
   have := hh _ u hu
   rw [show off + j = off + j / c * c + j % c by omega]
   exact this
theorem triRow_len (t : Tri) : (triRow t).length = 3 := rfl
theorem fldRow_len (t : Fld) : (fldRow t).length = 3 := rfl
theorem tris_src {w : World} {a : Option Addr} {n c : Nat} {l : List Tri} (h : TrisAt w (.slice a n c) l) : l.length = 0 ∨ ∃ ad, a = some ad ∧ ∀ j u, (triRows l)[j]? = some u → w.cell? (ad.add j) = some u := by
 obtain ⟨a', cap, e, _, _, h⟩ := h
 cases e
 refine src_of triRow 3 (by omega) triRow_len (fun i t ht => ?_)
 obtain ⟨b, off, e, h0, h1, h2⟩ := h i t ht
 refine ⟨b, off, e, fun r v hv => ?_⟩
 match r, hv with
 | 0, hv => cases hv; exact h0
 | 1, hv => cases hv; exact h1
 | 2, hv => cases hv; exact h2
 | r + 3, hv => simp [triRow] at hv
theorem flds_src {w : World} {a : Option Addr} {n c : Nat} {l : List Fld} (h : FldsAt w (.slice a n c) l) : l.length = 0 ∨ ∃ ad, a = some ad ∧ ∀ j u, (fldRows l)[j]? = some u → w.cell? (ad.add j) = some u := by
 obtain ⟨a', cap, e, _, _, h⟩ := h
 cases e
 refine src_of fldRow 3 (by omega) fldRow_len (fun i t ht => ?_)
 obtain ⟨b, off, e, h0, h1, h2⟩ := h i t ht
 refine ⟨b, off, e, fun r v hv => ?_⟩
 match r, hv with
 | 0, hv => cases hv; exact h0
 | 1, hv => cases hv; exact h1
 | 2, hv => cases hv; exact h2
 | r + 3, hv => simp [fldRow] at hv
theorem src_keep {w w' : World} {a : Option Addr} {n : Nat} {xs : List Value} (h : n = 0 ∨ ∃ ad, a = some ad ∧ ∀ j u, xs[j]? = some u → w.cell? (ad.add j) = some u) (hb : Below w.heap.size w w') : n = 0 ∨ ∃ ad, a = some ad ∧ ∀ j u, xs[j]? = some u → w'.cell? (ad.add j) = some u := by
 rcases h with h | ⟨ad, h1, h2⟩
 ·exact .inl h
 ·refine .inr ⟨ad, h1, fun j u hu => ?_⟩
  have hc := h2 j u hu
  exact (hb.cell (lt_of_cellA hc)).trans hc
theorem tri_one {l : List Tri} : ∀ u ∈ triRows l, u.oneCell' = true := fun u hu => by
 obtain ⟨t, _, ht⟩ := List.mem_flatMap.1 hu
 simp only [triRow, List.mem_cons, List.not_mem_nil, or_false] at ht
 rcases ht with rfl | rfl | rfl <;> rfl
theorem fld_one {l : List Fld} : ∀ u ∈ fldRows l, u.oneCell' = true := fun u hu => by
 obtain ⟨t, _, ht⟩ := List.mem_flatMap.1 hu
 simp only [fldRow, List.mem_cons, List.not_mem_nil, or_false] at ht
 rcases ht with rfl | rfl | rfl <;> rfl
theorem triRows_len (l : List Tri) : (triRows l).length = l.length * 3 := rows_len triRow 3 triRow_len l
theorem fldRows_len (l : List Fld) : (fldRows l).length = l.length * 3 := rows_len fldRow 3 fldRow_len l
theorem PairsNew.pushF {w3 w5 : World} {B : Nat} {o o' fv : Value} {l : List EntV} {e : Ent} {ob : Obj} (h : PairsNew w3 B o l) (hf : w3.ownsRow B 67 3 fv e.fs.length (fldRows e.fs)) (hnew : ∀ k, fv.ownBlock = some k → ∀ p ∈ l, p.2.ownBlock ≠ some k) (hown : w5.ownsRow B 65 2 o' (l.length + 1) (pairRows l ++ [.string e.name, fv])) (hg : (w3.alloc ob).grownBy w5 o.ownBlock) : PairsNew w5 B o' (l ++ [(e, fv)]) := by
 have hb1 : Below w3.heap.size w3 (w3.alloc ob) := (Below.refl _ _).alloc (Nat.le_refl _) ob
 refine ⟨?_, fun p hp => ?_, ?_⟩
 ·rw [pairRows_snoc, List.length_append]; exact hown
 ·rcases List.mem_append.1 hp with hp | hp
  ·exact ownsRow_farF (ownsRow_keep (h.flds p hp) hb1) hg (own_apart h.row (h.flds p hp) (by decide))
  ·simp at hp; subst hp
   exact ownsRow_farF (ownsRow_keep hf hb1) hg (own_apart h.row hf (by decide))
 ·rw [List.pairwise_append]
  exact ⟨h.apart, by simp, fun p hp q hq k hk => by simp at hq; subst hq; exact fun hk' => hnew k hk' p hp hk⟩
theorem BookNew.box {lo X : Nat} {w w' : World} {C : Array Value} {x y z : Value} {ks ps : List Tri} {es : List Ent} (h : BookNew lo w x y z ks ps es) (hX : w.heap[X]? = some (.cells C 30 (0, 0))) (hg : w.grownBy w' (some X)) : BookNew lo w' x y z ks ps es := by
 obtain ⟨h1, h2, l, h3, h4⟩ := h
 refine ⟨ownsRow_farF h1 hg (fun k hk e => own_other h1 hX (by decide) (by rw [← e]; exact hk.symm)), ownsRow_farF h2 hg (fun k hk e => own_other h2 hX (by decide) (by rw [← e]; exact hk.symm)), l, h3, ?_, fun p hp => ?_, h4.apart⟩
 ·exact ownsRow_farF h4.row hg (fun k hk e => own_other h4.row hX (by decide) (by rw [← e]; exact hk.symm))
 ·exact ownsRow_farF (h4.flds p hp) hg (fun k hk e => own_other (h4.flds p hp) hX (by decide) (by rw [← e]; exact hk.symm))
theorem ownsRow_sameM {W W' : World} {base : Nat} {e : TypeId} {size : Nat} {v : Value} {n : Nat} {xs : List Value} (h : W.ownsRow base e size v n xs) (hs : ∀ k, v.ownBlock = some k → k < W.heap.size → W'.heap[k]? = W.heap[k]?) : W'.ownsRow base e size v n xs := by
 refine ⟨h.1, ?_⟩
 rcases h.2 with h2 | ⟨g, cap, cur, hv, hb, hc, rest⟩
 ·exact .inl h2
 ·exact .inr ⟨g, cap, cur, hv, hb, (hs g (by rw [hv]; rfl) (Array.getElem?_eq_some_iff.1 hc).1).trans hc, rest⟩
open Go.RowKit
theorem nilKind (n c : Nat) (w : World) : (binOp .eql 24 (.slice none n c) (.slice none 0 0)).run Tryz.prog w = .ok (.bool true) w := by kernel_rfl
theorem someKind (ad : Addr) (n c : Nat) (w : World) : (binOp .eql 24 (.slice (some ad) n c) (.slice none 0 0)).run Tryz.prog w = .ok (.bool false) w := by kernel_rfl
set_option maxRecDepth 100000 in
set_option maxHeartbeats 3200000 in
theorem cloneKind_any (v : Value) (l : List Tri) (w : World) (h : TrisAt w v l) (hl : l.length ≤ 1048576) :
  Calls Tryz.prog 182 #[v] w fun e w' => ∃ u, e = .returned u ∧ w'.ownsRow w.heap.size 69 3 u l.length (triRows l) ∧ Below w.heap.size w w' := by
 obtain ⟨i0, hi, hz0, hz1, hz2⟩ := info_parts infoKindC
 have HT := toHidC h
 obtain ⟨a, c, rfl, h1, h2, h3⟩ := h
 have HS := toHidC (tris_src HT.out)
 clear h3
 cases a with
 | none =>
  have hl0 : l.length = 0 := by
   rcases HS.out with h0 | ⟨ad, h0, _⟩
   ·exact h0
   ·cases h0
  have hl1 : l = [] := List.length_eq_zero_iff.1 hl0
  subst hl1
  have q1 := nilKind
  go_enter Tryz.func182, Tryz.ntmps182
  go_wp2_with fail
  go_ret
  exact ⟨_, rfl, ⟨rfl, .inl ⟨rfl, rfl⟩⟩, Below.refl _ _⟩
 | some ad =>
  have R0 : Hid ((w.alloc (.cells #[] 69)).ownsRow w.heap.size 69 3 (.slice (some ⟨w.heap.size, 0, none⟩) 0 0) 0 []) := own_new0 (heap_newF w _) (Nat.le_refl _) 3
  have B0 : Hid (Below w.heap.size w (w.alloc (.cells #[] 69))) := (Below.refl _ _).alloc (Nat.le_refl _) _
  have hsrc := src_keep HS.out B0.out
  have q1 := someKind
  go_enter Tryz.func182, Tryz.ntmps182
  go_wp2_with (at_builtin; refine wpList_append_any _ rfl _ _ 24 rfl w.heap.size 69 i0 _ 3 32 Tryz.underlying24 hi hz0 hz1 hz2 rfl (by decide) _ 0 [] rfl R0.out (some ad) l.length c (triRows l) rfl hsrc (triRows_len _) tri_one (by unfold maxLen; omega) (by omega) (by simp) ?_; intro vq wx hown hgrow hat)
  rw [Nat.zero_add, List.nil_append] at hown
  have HN : Hid (Below w.heap.size w wx) := B0.out.grown hgrow B0.out.size (fun q e => own_ge R0.out q e)
  have HO := toHidC hown
  clear hown hgrow hat hsrc
  go_ret
  exact ⟨_, rfl, HO.out, HN.out⟩
theorem nilPoint (n c : Nat) (w : World) : (binOp .eql 25 (.slice none n c) (.slice none 0 0)).run Tryz.prog w = .ok (.bool true) w := by kernel_rfl
theorem somePoint (ad : Addr) (n c : Nat) (w : World) : (binOp .eql 25 (.slice (some ad) n c) (.slice none 0 0)).run Tryz.prog w = .ok (.bool false) w := by kernel_rfl
set_option maxRecDepth 100000 in
set_option maxHeartbeats 3200000 in
theorem clonePoint_any (v : Value) (l : List Tri) (w : World) (h : TrisAt w v l) (hl : l.length ≤ 1048576) :
  Calls Tryz.prog 185 #[v] w fun e w' => ∃ u, e = .returned u ∧ w'.ownsRow w.heap.size 72 3 u l.length (triRows l) ∧ Below w.heap.size w w' := by
 obtain ⟨i0, hi, hz0, hz1, hz2⟩ := info_parts infoPointC
 have HT := toHidC h
 obtain ⟨a, c, rfl, h1, h2, h3⟩ := h
 have HS := toHidC (tris_src HT.out)
 clear h3
 cases a with
 | none =>
  have hl0 : l.length = 0 := by
   rcases HS.out with h0 | ⟨ad, h0, _⟩
   ·exact h0
   ·cases h0
  have hl1 : l = [] := List.length_eq_zero_iff.1 hl0
  subst hl1
  have q1 := nilPoint
  go_enter Tryz.func185, Tryz.ntmps185
  go_wp2_with fail
  go_ret
  exact ⟨_, rfl, ⟨rfl, .inl ⟨rfl, rfl⟩⟩, Below.refl _ _⟩
 | some ad =>
  have R0 : Hid ((w.alloc (.cells #[] 72)).ownsRow w.heap.size 72 3 (.slice (some ⟨w.heap.size, 0, none⟩) 0 0) 0 []) := own_new0 (heap_newF w _) (Nat.le_refl _) 3
  have B0 : Hid (Below w.heap.size w (w.alloc (.cells #[] 72))) := (Below.refl _ _).alloc (Nat.le_refl _) _
  have hsrc := src_keep HS.out B0.out
  have q1 := somePoint
  go_enter Tryz.func185, Tryz.ntmps185
  go_wp2_with (at_builtin; refine wpList_append_any _ rfl _ _ 25 rfl w.heap.size 72 i0 _ 3 32 Tryz.underlying25 hi hz0 hz1 hz2 rfl (by decide) _ 0 [] rfl R0.out (some ad) l.length c (triRows l) rfl hsrc (triRows_len _) tri_one (by unfold maxLen; omega) (by omega) (by simp) ?_; intro vq wx hown hgrow hat)
  rw [Nat.zero_add, List.nil_append] at hown
  have HN : Hid (Below w.heap.size w wx) := B0.out.grown hgrow B0.out.size (fun q e => own_ge R0.out q e)
  have HO := toHidC hown
  clear hown hgrow hat hsrc
  go_ret
  exact ⟨_, rfl, HO.out, HN.out⟩
open Go.RowKit
theorem fat_succ (g : Fld) (l : List Fld) (i : Nat) : fat (g :: l) (i + 1) = fat l i := by simp [fat]
theorem putF_hit : ∀ (fs : List Fld) (f : Fld) (j : Nat), j < fs.length → (∀ i, i < j → (fat fs i).what < f.what) → (fat fs j).what = f.what → putF fs f = bif latF f (fat fs j) then fs.set j f else fs
 | [], f, j, hj, _, _ => by simp at hj
 | g :: l, f, 0, hj, hl, he => by
  have e0 : fat (g :: l) 0 = g := rfl
  rw [e0] at he ⊢
  rw [putF, if_neg (by omega), if_pos he]
  cases latF f g <;> rfl
 | g :: l, f, j + 1, hj, hl, he => by
  have h0 := hl 0 (by omega)
  have e0 : fat (g :: l) 0 = g := rfl
  rw [e0] at h0
  rw [fat_succ] at he ⊢
  rw [putF, if_pos h0, putF_hit l f j (by simpa using hj) (fun i hi => by have := hl (i + 1) (by omega); rwa [fat_succ] at this) he]
  cases latF f (fat l j) <;> rfl
theorem putF_in : ∀ (fs : List Fld) (f : Fld) (j : Nat), j ≤ fs.length → (∀ i, i < j → (fat fs i).what < f.what) → (j < fs.length → f.what < (fat fs j).what) → putF fs f = fs.take j ++ f :: fs.drop j
 | [], f, j, hj, _, _ => by
  have : j = 0 := by simpa using hj
  subst this; rfl
 | g :: l, f, 0, hj, hl, he => by
  have h0 := he (by simp)
  have e0 : fat (g :: l) 0 = g := rfl
  rw [e0] at h0
  rw [putF, if_neg (by omega), if_neg (by omega)]
  rfl
 | g :: l, f, j + 1, hj, hl, he => by
  have h0 := hl 0 (by omega)
  have e0 : fat (g :: l) 0 = g := rfl
  rw [e0] at h0
  rw [putF, if_pos h0, putF_in l f j (by simpa using hj) (fun i hi => by have := hl (i + 1) (by omega); rwa [fat_succ] at this) (fun hlt => by have := he (by simpa using hlt); rwa [fat_succ] at this)]
  rfl
theorem putF_len (fs : List Fld) (f : Fld) : (putF fs f).length ≤ fs.length + 1 := by
 induction fs with
 | nil => simp [putF]
 | cons g l ih =>
  rw [putF]
  split
  ·simp; omega
  ·split
   ·split <;> simp
   ·simp
theorem fldRows_app (a b : List Fld) : fldRows (a ++ b) = fldRows a ++ fldRows b := by simp [fldRows]
theorem fldRows_cons (a : Fld) (b : List Fld) : fldRows (a :: b) = fldRow a ++ fldRows b := by simp [fldRows]
theorem fldRows_set : ∀ (fs : List Fld) (f : Fld) (j : Nat), j < fs.length → fldRows (fs.set j f) = (((fldRows fs).set (j * 3) (.int .i64 f.what)).set (j * 3 + 1) (.int .i64 f.num)).set (j * 3 + 2) (.string f.v)
 | [], f, j, hj => by simp at hj
 | g :: l, f, 0, hj => by simp [fldRows, fldRow]
 | g :: l, f, j + 1, hj => by
  rw [List.set_cons_succ, fldRows_cons, fldRows_cons, fldRows_set l f j (by simpa using hj)]
  have h3 : (j + 1) * 3 = 3 + j * 3 := by omega
  have h4 : ∀ (x : List Value) (p : Nat) (v : Value), (fldRow g ++ x).set (3 + p) v = fldRow g ++ x.set p v := fun x p v => by
   rw [List.set_append_right _ _ (by simp [fldRow])]
   simp [fldRow]
  rw [h3, h4, Nat.add_assoc, h4, Nat.add_assoc, h4]
theorem own_set1 {w : World} {B : Nat} {e : TypeId} {size g n cap m : Nat} {xs : List Value} (h : w.ownsRow B e size (.slice (some ⟨g, 0, none⟩) n cap) m xs) (p : Nat) (v : Value) : (w.setCell ⟨g, p, none⟩ v).ownsRow B e size (.slice (some ⟨g, 0, none⟩) n cap) m (xs.set p v) := by
 obtain ⟨h1, h2⟩ := h
 rcases h2 with ⟨h2, _⟩ | ⟨g', cap', cur, hv, hB, hb, hn, hc, hs, ht⟩
 ·cases h2
 ·cases hv
  refine ⟨by simpa using h1, .inr ⟨g, cap, cur.setIfInBounds p v, rfl, hB, ?_, hn, hc, by simpa using hs, ?_⟩⟩
  ·rw [setCell_eq_setRow _ _ _ _ _ _ _ hb]; exact setRow_heap _ _ _ _ _ _ hb
  ·rw [Array.toList_setIfInBounds, List.take_set, ht]
theorem grownF_trans {w w1 w2 : World} {r : Option Nat} (h : w.grownBy w1 r) (k : w1.grownBy w2 r) : w.grownBy w2 r :=
 ⟨k.1.trans h.1, k.2.trans h.2, k.3.trans h.3, Nat.le_trans h.4 k.4, fun j hj hr => (k.5 j (Nat.lt_of_lt_of_le hj h.4) hr).trans (h.5 j hj hr)⟩
theorem grownF_below {w w' : World} (h : Below w.heap.size w w') (r : Option Nat) : w.grownBy w' r := ⟨h.1, h.2, h.3, h.4, fun k hk _ => h.5 k hk⟩
theorem own_fset {w : World} {lo g n cap : Nat} {fs : List Fld} {j : Nat} (f : Fld) (h : w.ownsRow lo 67 3 (.slice (some ⟨g, 0, none⟩) n cap) fs.length (fldRows fs)) (hj : j < fs.length) :
  (w.setCells g (j * 3) (fldRow f)).ownsRow lo 67 3 (.slice (some ⟨g, 0, none⟩) n cap) (fs.set j f).length (fldRows (fs.set j f)) ∧ w.grownBy (w.setCells g (j * 3) (fldRow f)) (some g) := by
 have e : w.setCells g (j * 3) (fldRow f) = ((w.setCell ⟨g, j * 3, none⟩ (.int .i64 f.what)).setCell ⟨g, j * 3 + 1, none⟩ (.int .i64 f.num)).setCell ⟨g, j * 3 + 2, none⟩ (.string f.v) := rfl
 rw [e]
 refine ⟨?_, grownF_trans (grownF_trans (grown_setF _ _ _ _) (grown_setF _ _ _ _)) (grown_setF _ _ _ _)⟩
 rw [fldRows_set fs f j hj, List.length_set]
 exact own_set1 (own_set1 (own_set1 h _ _) _ _) _ _
theorem own_fcells {w : World} {lo : Nat} {v : Value} {fs : List Fld} {j : Nat} (h : w.ownsRow lo 67 3 v fs.length (fldRows fs)) (hj : j < fs.length) :
  ∃ g cap, v = .slice (some ⟨g, 0, none⟩) fs.length cap ∧ lo ≤ g ∧ g < w.heap.size ∧ fs.length ≤ cap ∧ cap ≤ maxLen ∧ w.cell? ⟨g, j * 3, none⟩ = some (.int .i64 (fat fs j).what) ∧ w.cell? ⟨g, j * 3 + 1, none⟩ = some (.int .i64 (fat fs j).num) ∧ w.cell? ⟨g, j * 3 + 2, none⟩ = some (.string (fat fs j).v) ∧ w.there g (j * 3) 3 := by
 obtain ⟨h1, h2⟩ := h
 rcases h2 with ⟨_, h2⟩ | ⟨g, cap, cur, rfl, hB, hb, hn, hc, hs, ht⟩
 ·omega
 ·have hx : ∀ r, r < 3 → cur.toList[j * 3 + r]? = (fldRow (fat fs j))[r]? := fun r hr => by
   have e1 : (cur.toList.take (fs.length * 3))[j * 3 + r]? = cur.toList[j * 3 + r]? := by rw [List.getElem?_take, if_pos (by omega)]
   rw [← e1, ht]
   unfold fldRows
   rw [rows_idx fldRow 3 fldRow_len fs j r hr, fat_get hj]
   rfl
  have x0 := hx 0 (by omega)
  have x1 := hx 1 (by omega)
  have x2 := hx 2 (by omega)
  simp only [Nat.add_zero] at x0
  refine ⟨g, cap, rfl, hB, (Array.getElem?_eq_some_iff.1 hb).1, hn, hc, ?_, ?_, ?_, fun q hq => ?_⟩
  ·simp only [World.cell?, hb, Option.isSome_none, Bool.false_eq_true, if_false]; simpa [fldRow] using x0
  ·simp only [World.cell?, hb, Option.isSome_none, Bool.false_eq_true, if_false]; simpa [fldRow] using x1
  ·simp only [World.cell?, hb, Option.isSome_none, Bool.false_eq_true, if_false]; simpa [fldRow] using x2
  ·have hq' : j * 3 + q < cur.size := by rw [hs]; omega
   simp [World.cell?, World.frozen?, hb, hq']
open Go.RowKit
theorem own_rows {α : Type} {w : World} {B : Nat} {e : TypeId} {c : Nat} {v : Value} {l : List α} (f : α → List Value) (hf : ∀ x, (f x).length = c) (h : w.ownsRow B e c v l.length (l.flatMap f)) :
  ∃ a cap, v = .slice a l.length cap ∧ l.length ≤ cap ∧ cap ≤ maxLen ∧ ∀ i t, l[i]? = some t → ∃ g, a = some ⟨g, 0, none⟩ ∧ ∀ r u, (f t)[r]? = some u → w.cell? ⟨g, i * c + r, none⟩ = some u := by
 obtain ⟨h1, h2⟩ := h
 rcases h2 with ⟨rfl, h0⟩ | ⟨g, cap, cur, rfl, hB, hb, hn, hc, hs, ht⟩
 ·refine ⟨none, 0, by rw [h0], by omega, Nat.zero_le _, fun i t hi => ?_⟩
  have := (List.getElem?_eq_some_iff.1 hi).1
  omega
 ·refine ⟨_, cap, rfl, hn, hc, fun i t hi => ⟨g, rfl, fun r u hu => ?_⟩⟩
  have hil := (List.getElem?_eq_some_iff.1 hi).1
  have hr : r < c := by have := (List.getElem?_eq_some_iff.1 hu).1; rw [hf] at this; exact this
  have hx : cur.toList[i * c + r]? = some u := by
   have hlt : i * c + r < l.length * c := rows_room hil hr
   have e1 : (cur.toList.take (l.length * c))[i * c + r]? = cur.toList[i * c + r]? := by rw [List.getElem?_take, if_pos hlt]
   rw [← e1, ht, rows_idx f c hf l i r hr, hi]
   exact hu
  simp only [World.cell?, hb, Option.isSome_none, Bool.false_eq_true, if_false]
  simpa using hx
theorem tris_new {w : World} {B : Nat} {e : TypeId} {v : Value} {l : List Tri} (h : w.ownsRow B e 3 v l.length (triRows l)) : TrisAt w v l := by
 obtain ⟨a, cap, h1, h2, h3, h4⟩ := own_rows triRow triRow_len h
 refine ⟨a, cap, h1, h2, h3, fun i t ht => ?_⟩
 obtain ⟨g, ha, hc⟩ := h4 i t ht
 exact ⟨g, 0, ha, by simpa using hc 0 _ rfl, by simpa using hc 1 _ rfl, by simpa using hc 2 _ rfl⟩
theorem flds_new {w : World} {B : Nat} {e : TypeId} {v : Value} {l : List Fld} (h : w.ownsRow B e 3 v l.length (fldRows l)) : FldsAt w v l := by
 obtain ⟨a, cap, h1, h2, h3, h4⟩ := own_rows fldRow fldRow_len h
 refine ⟨a, cap, h1, h2, h3, fun i t ht => ?_⟩
 obtain ⟨g, ha, hc⟩ := h4 i t ht
 exact ⟨g, 0, ha, by simpa using hc 0 _ rfl, by simpa using hc 1 _ rfl, by simpa using hc 2 _ rfl⟩
theorem pairRow_len (p : EntV) : (pairRow p).length = 2 := rfl
theorem ents_new {w : World} {B : Nat} {o : Value} {es : List Ent} (h : EntsNew w B o es) : EntsAt w o es := by
 obtain ⟨l, rfl, h⟩ := h
 obtain ⟨a, cap, h1, h2, h3, h4⟩ := own_rows pairRow pairRow_len h.row
 refine ⟨a, cap, by rw [List.length_map]; exact h1, by rw [List.length_map]; exact h2, h3, fun i t ht => ?_⟩
 rw [List.getElem?_map] at ht
 cases hp : l[i]? with
 | none => rw [hp] at ht; cases ht
 | some p =>
  rw [hp] at ht
  cases ht
  obtain ⟨g, ha, hc⟩ := h4 i p hp
  exact ⟨g, 0, ha, p.2, by simpa using hc 0 _ rfl, by simpa using hc 1 _ rfl, flds_new (h.flds p (List.mem_of_getElem? hp))⟩
theorem BookNew.at {lo : Nat} {w : World} {x y z : Value} {ks ps : List Tri} {es : List Ent} (h : BookNew lo w x y z ks ps es) : BookAt w x y z ks ps es := ⟨tris_new h.k, tris_new h.p, ents_new h.e⟩
theorem eat_succ (g : Ent) (l : List Ent) (i : Nat) : eat (g :: l) (i + 1) = eat l i := by simp [eat]
theorem putE_hit : ∀ (es : List Ent) (n : ByteArray) (f : Fld) (k : Nat), (es.Pairwise fun a b => blS a.name b.name = true) → k < es.length → (eat es k).name = n → putE es n f = es.set k ⟨(eat es k).name, putF (eat es k).fs f⟩
 | [], n, f, k, _, hk, _ => by simp at hk
 | e :: es, n, f, 0, _, _, hn => by
  have e0 : eat (e :: es) 0 = e := rfl
  rw [e0] at hn ⊢
  rw [putE, if_pos hn]
  rfl
 | e :: es, n, f, k + 1, h, hk, hn => by
  have h' := List.pairwise_cons.1 h
  rw [eat_succ] at hn ⊢
  have hk' : k < es.length := by simpa using hk
  have hlt : blS e.name n = true := by
   rw [← hn]
   exact h'.1 _ (List.mem_of_getElem? (eat_get hk'))
  have hne : ¬ e.name = n := fun h => by rw [h] at hlt; exact absurd hlt (by rw [blS_irrefl]; simp)
  rw [putE, if_neg hne, if_pos hlt, putE_hit es n f k h'.2 hk' hn]
  rfl
theorem putE_in : ∀ (es : List Ent) (n : ByteArray) (f : Fld) (j : Nat), j ≤ es.length → (∀ e ∈ es, ¬ e.name = n) → (∀ i, i < j → blS (eat es i).name n = true) → (j < es.length → blS (eat es j).name n = false) → putE es n f = es.take j ++ ⟨n, [f]⟩ :: es.drop j
 | [], n, f, j, hj, _, _, _ => by
  have : j = 0 := by simpa using hj
  subst this; rfl
 | e :: es, n, f, 0, hj, hne, hl, he => by
  have h0 := he (by simp)
  have e0 : eat (e :: es) 0 = e := rfl
  rw [e0] at h0
  rw [putE, if_neg (hne e (by simp)), if_neg (by rw [h0]; simp)]
  rfl
 | e :: es, n, f, j + 1, hj, hne, hl, he => by
  have h0 := hl 0 (by omega)
  have e0 : eat (e :: es) 0 = e := rfl
  rw [e0] at h0
  rw [putE, if_neg (hne e (by simp)), if_pos h0, putE_in es n f j (by simpa using hj) (fun x hx => hne x (by simp [hx])) (fun i hi => by have := hl (i + 1) (by omega); rwa [eat_succ] at this) (fun hlt => by have := he (by simpa using hlt); rwa [eat_succ] at this)]
  rfl
theorem pairRows_set : ∀ (l : List EntV) (k : Nat) (p : EntV) (e : Ent) (v : Value), l[k]? = some p → e.name = p.1.name → pairRows (l.set k (e, v)) = (pairRows l).set (k * 2 + 1) v
 | [], k, p, e, v, hk, _ => by simp at hk
 | a :: l, 0, p, e, v, hk, hn => by
  have : a = p := by simpa using hk
  subst this
  simp [pairRows, pairRow, hn]
 | a :: l, k + 1, p, e, v, hk, hn => by
  have ih := pairRows_set l k p e v (by simpa using hk) hn
  have c : ∀ (x : EntV) (m : List EntV), pairRows (x :: m) = pairRow x ++ pairRows m := fun x m => by simp [pairRows]
  rw [List.set_cons_succ, c, c, ih, show (k + 1) * 2 + 1 = 2 + (k * 2 + 1) by omega, List.set_append_right _ _ (by simp [pairRow])]
  simp [pairRow]
theorem PairsNew.turn {w w1 : World} {B g n cap k : Nat} {l : List EntV} {e : Ent} {fv v : Value} {fs : List Fld} (h : PairsNew w B (.slice (some ⟨g, 0, none⟩) n cap) l) (hk : l[k]? = some (e, fv)) (hown : w1.ownsRow B 67 3 v fs.length (fldRows fs)) (hg : w.grownBy w1 fv.ownBlock) (hat : ∀ j, v.ownBlock = some j → fv.ownBlock = some j ∨ w.heap.size ≤ j) :
  PairsNew (w1.setCell ⟨g, k * 2 + 1, none⟩ v) B (.slice (some ⟨g, 0, none⟩) n cap) (l.set k (⟨e.name, fs⟩, v)) := by
 have hkl := (List.getElem?_eq_some_iff.1 hk).1
 have hfl := h.flds (e, fv) (List.mem_of_getElem? hk)
 have hrow1 : w1.ownsRow B 65 2 (.slice (some ⟨g, 0, none⟩) n cap) l.length (pairRows l) := ownsRow_farF h.row hg (own_apart hfl h.row (by decide))
 have gs := grown_setF w1 g (k * 2 + 1) v
 have hpw := List.pairwise_iff_getElem.1 h.apart
 have hdiff : ∀ (i : Nat) (q : EntV), i ≠ k → l[i]? = some q → ∀ b, q.2.ownBlock = some b → fv.ownBlock ≠ some b := fun i q hik hq b hb hb' => by
  obtain ⟨hi, rfl⟩ := List.getElem?_eq_some_iff.1 hq
  obtain ⟨hk', hke⟩ := List.getElem?_eq_some_iff.1 hk
  rcases Nat.lt_or_gt_of_ne hik with hlt | hgt
  ·exact hpw i k hi hk' hlt b hb (by rw [hke]; exact hb')
  ·exact hpw k i hk' hi hgt b (by rw [hke]; exact hb') hb
 have hold : ∀ (i : Nat) (q : EntV), i ≠ k → l[i]? = some q → w1.ownsRow B 67 3 q.2 q.1.fs.length (fldRows q.1.fs) := fun i q hik hq => ownsRow_farF (h.flds q (List.mem_of_getElem? hq)) hg (fun b hb e => hdiff i q hik hq b hb e.symm)
 refine ⟨?_, fun p hp => ?_, ?_⟩
 ·rw [pairRows_set l k (e, fv) ⟨e.name, fs⟩ v hk rfl, List.length_set]
  exact own_set1 hrow1 _ _
 ·obtain ⟨i, hi, rfl⟩ := List.getElem_of_mem hp
  rw [List.length_set] at hi
  by_cases e0 : i = k
  ·subst e0
   rw [List.getElem_set_self]
   exact ownsRow_farF hown gs (own_apart hrow1 hown (by decide))
  ·have hq : l[i]? = some l[i] := List.getElem?_eq_getElem hi
   rw [List.getElem_set_ne (Ne.symm e0)]
   have h1 := hold i _ e0 hq
   exact ownsRow_farF h1 gs (own_apart hrow1 h1 (by decide))
 ·rw [List.pairwise_iff_getElem]
  intro i j hi0 hj0 hij b hb hb'
  have hi : i < l.length := by simpa using hi0
  have hj : j < l.length := by simpa using hj0
  by_cases ei : i = k
  ·have ej : j ≠ k := by omega
   subst ei
   rw [List.getElem_set_self] at hb
   rw [List.getElem_set_ne (Ne.symm ej)] at hb'
   have hq : l[j]? = some l[j] := List.getElem?_eq_getElem hj
   rcases hat b hb with h1 | h1
   ·exact hdiff j _ ej hq b hb' h1
   ·have := own_lt (h.flds _ (List.mem_of_getElem? hq)) b hb'; omega
  ·rw [List.getElem_set_ne (Ne.symm ei)] at hb
   have hq : l[i]? = some l[i] := List.getElem?_eq_getElem hi
   by_cases ej : j = k
   ·subst ej
    rw [List.getElem_set_self] at hb'
    rcases hat b hb' with h1 | h1
    ·exact hdiff i _ ei hq b hb h1
    ·have := own_lt (h.flds _ (List.mem_of_getElem? hq)) b hb; omega
   ·rw [List.getElem_set_ne (Ne.symm ej)] at hb'
    exact hpw i j hi hj hij b hb hb'
theorem PairsNew.ins {w w1 : World} {B j : Nat} {o o' fv : Value} {l : List EntV} {e : Ent} (h : PairsNew w B o l) (hb : Below w.heap.size w w1) (hf : w1.ownsRow B 67 3 fv e.fs.length (fldRows e.fs)) (hnew : ∀ q, fv.ownBlock = some q → w.heap.size ≤ q) (hown : w1.ownsRow B 65 2 o' (l.take j ++ (e, fv) :: l.drop j).length (pairRows (l.take j ++ (e, fv) :: l.drop j))) :
  PairsNew w1 B o' (l.take j ++ (e, fv) :: l.drop j) := by
 have hmem : ∀ p, p ∈ l.take j ∨ p ∈ l.drop j → p ∈ l := fun p hp => by
  rcases hp with hp | hp
  ·exact List.mem_of_mem_take hp
  ·exact List.mem_of_mem_drop hp
 have hfar : ∀ p ∈ l, ∀ q, p.2.ownBlock = some q → fv.ownBlock ≠ some q := fun p hp q h1 h2 => by
  have := own_lt (h.flds p hp) q h1
  have := hnew q h2
  omega
 have hsp : (l.take j ++ l.drop j).Pairwise fun p q => ∀ k, p.2.ownBlock = some k → q.2.ownBlock ≠ some k := by rw [List.take_append_drop]; exact h.apart
 have hsp' := List.pairwise_append.1 hsp
 refine ⟨hown, fun p hp => ?_, ?_⟩
 ·rw [List.mem_append, List.mem_cons] at hp
  rcases hp with hp | rfl | hp
  ·exact ownsRow_keep (h.flds p (hmem p (.inl hp))) hb
  ·exact hf
  ·exact ownsRow_keep (h.flds p (hmem p (.inr hp))) hb
 ·rw [List.pairwise_append, List.pairwise_cons]
  refine ⟨hsp'.1, ⟨fun q hq k hk hk' => hfar q (hmem q (.inr hq)) k hk' hk, hsp'.2.1⟩, fun p hp q hq => ?_⟩
  rcases List.mem_cons.1 hq with rfl | hq
  ·exact fun k hk => hfar p (hmem p (.inl hp)) k hk
  ·exact hsp'.2.2 p hp q hq
theorem pairRows_app (a b : List EntV) : pairRows (a ++ b) = pairRows a ++ pairRows b := by simp [pairRows]
theorem pairRows_cons (a : EntV) (b : List EntV) : pairRows (a :: b) = pairRow a ++ pairRows b := by simp [pairRows]
theorem eat_map {l : List EntV} {k : Nat} (hk : k < l.length) : ∃ fv, l[k]? = some (eat (l.map (·.1)) k, fv) := by
 refine ⟨l[k].2, ?_⟩
 rw [List.getElem?_eq_getElem hk]
 simp [eat, hk]
open Go.RowKit
theorem pairRows_at {l : List EntV} {i : Nat} {p : EntV} (h : l[i]? = some p) : (pairRows l)[i * 2 + 1]? = some p.2 := by
 unfold pairRows
 rw [rows_idx pairRow 2 (fun _ => rfl) l i 1 (by omega), h]
 rfl
theorem sumN_map {α β : Type} (g : β → Nat) (f : α → β) (l : List α) : sumN g (l.map f) = sumN (fun a => g (f a)) l := by
 induction l with
 | nil => rfl
 | cons a l ih => simp only [List.map_cons, sumN, ih]
theorem Roo.slice {w : World} {v : Value} {n c : Nat} (h : Roo w v n c) : ∃ a cap, v = .slice a n cap := by
 rcases h with ⟨h1, h2⟩ | ⟨b, c, h1, _⟩
 ·exact ⟨none, 0, by rw [h1, h2]⟩
 ·exact ⟨_, _, h1⟩
theorem RowM.slice {w : World} {v : Value} {n c : Nat} {f : Nat → Value} (h : RowM w v n c f) : ∃ a cap, v = .slice a n cap := by
 rcases h with ⟨h1, h2⟩ | ⟨b, c, h1, _⟩
 ·exact ⟨none, 0, by rw [h1, h2]⟩
 ·exact ⟨_, _, h1⟩
theorem Roo.lt {w : World} {v : Value} {n c : Nat} (h : Roo w v n c) : ∀ k, v.ownBlock = some k → k < w.heap.size := by
 rcases h with ⟨rfl, _⟩ | ⟨b, c, rfl, hb, _⟩
 ·intro k hk; cases hk
 ·intro k hk; cases hk; exact hb
def Own2 (x y : Value) (j : Nat) : Prop := x.ownBlock = some j ∨ y.ownBlock = some j
theorem Fr.cell {w w' : World} {S : Nat → Prop} {b o : Nat} {v : Value} (h : Fr w w' S) (hb : b < w.heap.size) (hs : ¬ S b) (hc : w.cell? ⟨b, o, none⟩ = some v) : w'.cell? ⟨b, o, none⟩ = some v :=
 (World.cell?_of_block (w := w) (h.block b hb hs)).trans hc
set_option maxHeartbeats 1600000 in
theorem markBaseG_any (x y : Value) (nk np k : Nat) (w : World) (hx : Roo w x nk 3) (hy : Roo w y np 3) (hap : ∀ j, x.ownBlock = some j → y.ownBlock ≠ some j) (hk : nk ≤ 1048576) (hp : np ≤ 1048576) (hk8 : k ≤ 100000000) :
  Calls Tryz.prog 58 #[.agg #[x, y], .int .i64 k] w fun e w' => e = .returned (.int .i64 ((k + nk * 3 + np * 3 : Nat) : Int)) ∧ RowM w' x nk 3 (mkV 3 patKind k) ∧ RowM w' y np 3 (mkV 3 patPoint (k + nk * 3)) ∧ Fr w w' (Own2 x y) := by
 obtain ⟨ax, cx, rfl⟩ := hx.slice
 obtain ⟨ay, cy, rfl⟩ := hy.slice
 have HX : Hid (Roo w (.slice ax nk cx) nk 3 ∧ Roo w (.slice ay np cy) np 3) := ⟨hx, hy⟩
 have HL : Hid ((∀ k, (Value.slice ax nk cx).ownBlock = some k → k < w.heap.size) ∧ ∀ k, (Value.slice ay np cy).ownBlock = some k → k < w.heap.size) := ⟨hx.lt, hy.lt⟩
 have HAP : Hid (∀ j, (Value.slice ax nk cx).ownBlock = some j → (Value.slice ay np cy).ownBlock ≠ some j) := hap
 have HX0 : Hid (OwnAt w (w.alloc (.cells #[.slice ax nk cx, .slice ay np cy] 27)) [[.slice ax nk cx, .slice ay np cy]]) := (OwnAt.start w).push rfl _ _
 clear hx hy hap
 go_enter Tryz.func58, Tryz.ntmps58
 go_wp2_with fail
 refine (markKindG_any _ nk k _ (HX.out.1.keep HX0.out.below) hk (by omega)).mono ?_
 rintro e w1 ⟨rfl, hM1, hg1⟩
 have hs0 : (w.alloc (.cells #[.slice ax nk cx, .slice ay np cy] 27)).heap.size = w.heap.size + 1 := by simp
 have hne : ∀ j, (Value.slice ax nk cx).ownBlock = some j → ¬ j = w.heap.size := fun j hj => by have := HL.out.1 j hj; omega
 have hblk := hg1.block w.heap.size (by omega) (fun e => hne _ e.symm rfl)
 have y0 : w1.cell? ⟨w.heap.size, 0, none⟩ = some (.slice ax nk cx) := (World.cell?_of_block (w := w.alloc _) hblk).trans (HX0.out.has 0 _ rfl 0 _ rfl).1
 have y1 : w1.cell? ⟨w.heap.size, 1, none⟩ = some (.slice ay np cy) := (World.cell?_of_block (w := w.alloc _) hblk).trans (HX0.out.has 0 _ rfl 1 _ rfl).1
 have HM1 : Hid (RowM w1 (.slice ax nk cx) nk 3 (mkV 3 patKind k)) := hM1
 have HY1 : Hid (Roo w1 (.slice ay np cy) np 3) := (HX.out.2.keep HX0.out.below).far hg1 (fun j hj e => HAP.out j e.symm hj)
 have HF1 : Hid (Fr w w1 (Own2 (.slice ax nk cx) (.slice ay np cy))) := (Fr.call HX0.out.below).trans (Fr.grown hg1 (fun j e => .inl e))
 clear hM1 hg1 hblk hne hs0
 generalize hkk : k + nk * 3 = k1 at *
 have hk1 : k1 ≤ 1000000000 := by omega
 go_wp2_with fail
 refine (markPointG_any _ np k1 _ HY1.out hp hk1).mono ?_
 rintro e w2 ⟨rfl, hM2, hg2⟩
 have HF2 : Hid (RowM w2 (.slice ax nk cx) nk 3 (mkV 3 patKind k) ∧ RowM w2 (.slice ay np cy) np 3 (mkV 3 patPoint k1) ∧ Fr w w2 (Own2 (.slice ax nk cx) (.slice ay np cy))) :=
  ⟨HM1.out.far hg2 (fun j hj e => HAP.out j hj e.symm), hM2, HF1.out.trans (Fr.grown hg2 (fun j e => .inr e))⟩
 clear hM2 hg2
 generalize hk2 : k1 + np * 3 = k2 at *
 go_wp2
 go_ret
 exact ⟨ret_int (by rw [← hk2, ← hkk]), HF2.out.1, by rw [hkk]; exact HF2.out.2.1, HF2.out.2.2⟩
set_option maxHeartbeats 1600000 in
theorem heldBaseG_any (x y : Value) (nk np k : Nat) (w : World) (hx : RowM w x nk 3 (mkV 3 patKind k)) (hy : RowM w y np 3 (mkV 3 patPoint (k + nk * 3))) (hk : nk ≤ 1048576) (hp : np ≤ 1048576) (hk8 : k ≤ 100000000) :
  Calls Tryz.prog 60 #[.agg #[x, y], .int .i64 k] w fun e w' => e = .returned (.int .i64 ((k + nk * 3 + np * 3 : Nat) : Int)) ∧ Below w.heap.size w w' := by
 obtain ⟨ax, cx, rfl⟩ := hx.slice
 obtain ⟨ay, cy, rfl⟩ := hy.slice
 have HX0 : Hid (OwnAt w (w.alloc (.cells #[.slice ax nk cx, .slice ay np cy] 27)) [[.slice ax nk cx, .slice ay np cy]]) := (OwnAt.start w).push rfl _ _
 generalize hkk : k + nk * 3 = k1 at *
 have HX : Hid (RowM w (.slice ax nk cx) nk 3 (mkV 3 patKind k) ∧ RowM w (.slice ay np cy) np 3 (mkV 3 patPoint k1)) := ⟨hx, hy⟩
 have HKK : Hid (k + nk * 3 = k1) := hkk
 have hk1 : k1 ≤ 1000000000 := by omega
 clear hx hy hkk
 go_enter Tryz.func60, Tryz.ntmps60
 go_wp2_with fail
 refine (heldKindG_any _ nk k _ (HX.out.1.keep HX0.out.below) hk (by omega)).mono ?_
 rintro e w1 ⟨rfl, hb1⟩
 rw [HKK.out]
 have HX1 : Hid (OwnAt w w1 _) := HX0.out.call hb1
 have y0 : w1.cell? ⟨w.heap.size, 0, none⟩ = some (.slice ax nk cx) := (HX1.out.has 0 _ rfl 0 _ rfl).1
 have y1 : w1.cell? ⟨w.heap.size, 1, none⟩ = some (.slice ay np cy) := (HX1.out.has 0 _ rfl 1 _ rfl).1
 have hk10 : (0 : Int) ≤ (k1 : Int) := by omega
 clear hb1 HX0
 go_wp2_with fail
 refine (heldPointG_any _ np k1 _ (HX.out.2.keep HX1.out.below) hp hk1).mono ?_
 rintro e w2 ⟨rfl, hb2⟩
 have HB2 : Hid (Below w.heap.size w w2) := below_step HX1.out.below hb2
 clear hb2
 generalize hk2 : k1 + np * 3 = k2 at *
 have hk20 : (0 : Int) ≤ (k2 : Int) := by omega
 go_wp2
 go_ret
 exact ⟨ret_int (by rw [← hk2]), HB2.out⟩
theorem markEntNil_any (k : Nat) (w : World) : Calls Tryz.prog 59 #[.slice none 0 0, .int .i64 k] w fun e w' => e = .returned (.int .i64 k) ∧ w' = w := by
 go_enter Tryz.func59, Tryz.ntmps59
 go_wp2
 go_loopw [1, 5] (fun kk i wr => i = .int .i64 0 ∧ kk = .int .i64 k ∧ wr = w) (fun _ _ _ => 0)
 case atStart => exact ⟨rfl, rfl, rfl⟩
 case round =>
  obtain ⟨rfl, rfl, rfl⟩ := hrel
  go_wp2
  go_ret
  exact ⟨rfl, rfl⟩
theorem heldEntNil_any (k : Nat) (w : World) : Calls Tryz.prog 61 #[.slice none 0 0, .int .i64 k] w fun e w' => e = .returned (.int .i64 k) ∧ w' = w := by
 go_enter Tryz.func61, Tryz.ntmps61
 go_wp2
 go_loopw [1, 5] (fun kk i wr => i = .int .i64 0 ∧ kk = .int .i64 k ∧ wr = w) (fun _ _ _ => 0)
 case atStart => exact ⟨rfl, rfl, rfl⟩
 case round =>
  obtain ⟨rfl, rfl, rfl⟩ := hrel
  go_wp2
  go_ret
  exact ⟨rfl, rfl⟩
def EntsM (w : World) (z : Value) (l : List EntV) (k : Nat) : Prop := (z = .slice none 0 0 ∧ l = []) ∨ ∃ g cap, z = .slice (some ⟨g, 0, none⟩) l.length cap ∧ EMk w g l k l.length l.length
theorem EntsM.keep {w w' : World} {z : Value} {l : List EntV} {k : Nat} (h : EntsM w z l k) (hb : Below w.heap.size w w') : EntsM w' z l k := by
 rcases h with h | ⟨g, cap, h1, h2⟩
 ·exact .inl h
 ·exact .inr ⟨g, cap, h1, h2.call hb⟩
def SZ (z : Value) (l : List EntV) (j : Nat) : Prop := z.ownBlock = some j ∨ ∃ p ∈ l, p.2.ownBlock = some j
theorem PairsNew.emk {w : World} {B g n cap : Nat} {l : List EntV} (h : PairsNew w B (.slice (some ⟨g, 0, none⟩) n cap) l) (k : Nat) : EMk w g l k 0 0 := by
 have hr := Roo.of h.row
 obtain ⟨h1, h2⟩ := h.row
 rcases h2 with ⟨h2, _⟩ | ⟨g', cap', cur, hv, hB, hb, hn, hc, hs, ht⟩
 ·cases h2
 ·cases hv
  rcases hr with ⟨hr, _⟩ | ⟨b, c, hr, hlt, hth⟩
  ·cases hr
  ·cases hr
   refine ⟨hlt, hth, fun i p hp => ?_, fun i p hp _ => Roo.of (h.flds p (List.mem_of_getElem? hp)), fun i hi => by omega, fun i p hi => by omega⟩
   have hil : i < l.length := (List.getElem?_eq_some_iff.1 hp).1
   have hx : cur.toList[i * 2 + 1]? = some p.2 := by
    have e1 : (cur.toList.take (l.length * 2))[i * 2 + 1]? = cur.toList[i * 2 + 1]? := by rw [List.getElem?_take, if_pos (by omega)]
    rw [← e1, ht]
    exact pairRows_at hp
   simp only [World.cell?, hb, Option.isSome_none, Bool.false_eq_true, if_false]
   simpa using hx
theorem markEntsN_any (z : Value) (k B : Nat) (l : List EntV) (w : World) (h : PairsNew w B z l) (hl : l.length ≤ 1048576) (hsz : sumN (fun p => p.1.fs.length) l ≤ 1048576) (hk8 : k ≤ 200000000) :
  Calls Tryz.prog 59 #[z, .int .i64 k] w fun e w' => e = .returned (.int .i64 ((kAt l k l.length : Nat) : Int)) ∧ EntsM w' z l k ∧ Fr w w' (SZ z l) := by
 rcases h.row.2 with ⟨rfl, h0⟩ | ⟨g, cap, cur, rfl, _⟩
 ·obtain rfl : l = [] := List.eq_nil_of_length_eq_zero h0
  refine (markEntNil_any k w).mono ?_
  rintro e w' ⟨rfl, rfl⟩
  exact ⟨by simp [kAt_zero], .inl ⟨rfl, rfl⟩, Fr.refl _ _⟩
 ·refine (markEntsG_any g cap k l w (h.emk k) (Ap.of h) hl hsz hk8).mono ?_
  rintro e w' ⟨rfl, hE, hF⟩
  exact ⟨rfl, .inr ⟨g, cap, rfl, hE⟩, hF.mono (fun j hj => by
   rcases hj with rfl | hj
   ·exact .inl rfl
   ·exact .inr hj)⟩
theorem heldEntsN_any (z : Value) (k : Nat) (l : List EntV) (w : World) (h : EntsM w z l k) (hl : l.length ≤ 1048576) (hsz : sumN (fun p => p.1.fs.length) l ≤ 1048576) (hk8 : k ≤ 200000000) :
  Calls Tryz.prog 61 #[z, .int .i64 k] w fun e w' => e = .returned (.int .i64 ((kAt l k l.length : Nat) : Int)) ∧ Below w.heap.size w w' := by
 rcases h with ⟨rfl, rfl⟩ | ⟨g, cap, rfl, hE⟩
 ·refine (heldEntNil_any k w).mono ?_
  rintro e w' ⟨rfl, rfl⟩
  exact ⟨by simp [kAt_zero], Below.refl _ _⟩
 ·exact heldEntsG_any g cap k l w hE hl hsz hk8
structure BookM (w : World) (x y z : Value) (M : Nat) : Prop where
 has : ∃ nk np l, nk ≤ 1048576 ∧ np ≤ 1048576 ∧ l.length ≤ 1048576 ∧ sumN (fun p : EntV => p.1.fs.length) l ≤ 1048576 ∧ RowM w x nk 3 (mkV 3 patKind 1) ∧ RowM w y np 3 (mkV 3 patPoint (1 + nk * 3)) ∧ EntsM w z l (1 + nk * 3 + np * 3) ∧ M = kAt l (1 + nk * 3 + np * 3) l.length
theorem BookM.keep {w w' : World} {x y z : Value} {M : Nat} (h : BookM w x y z M) (hb : Below w.heap.size w w') : BookM w' x y z M := by
 obtain ⟨nk, np, l, h1, h2, h3, h4, h5, h6, h7, h8⟩ := h.has
 exact ⟨nk, np, l, h1, h2, h3, h4, h5.keep hb, h6.keep hb, h7.keep hb, h8⟩
set_option maxHeartbeats 1600000 in
theorem markBookG_any (x y z : Value) (ks ps : List Tri) (es : List Ent) (lo : Nat) (w : World) (hB : BookNew lo w x y z ks ps es) (hlo : lo ≤ w.heap.size) (lk : ks.length ≤ 1048576) (lp : ps.length ≤ 1048576) (le : es.length ≤ 1048576) (hsz : sumN (fun e => e.fs.length) es ≤ 1048576) :
  Calls Tryz.prog 21 #[.agg #[x, y, z], .int .i64 1] w fun e w' => ∃ M : Nat, e = .returned (.int .i64 (M : Int)) ∧ M ≤ 20000000 ∧ BookM w' x y z M ∧ Below lo w w' ∧ ∀ (X : Nat) (C : Array Value), w.heap[X]? = some (.cells C 30 (0, 0)) → w'.heap[X]? = some (.cells C 30 (0, 0)) := by
 obtain ⟨hk, hp, l, hl, hE⟩ := hB
 obtain ⟨ax, cx, rfl⟩ := own_slice hk
 obtain ⟨ay, cy, rfl⟩ := own_slice hp
 obtain ⟨az, cz, rfl⟩ := own_slice hE.row
 have hll : l.length ≤ 1048576 := by rw [← hl, List.length_map] at le; exact le
 have hls : sumN (fun p : EntV => p.1.fs.length) l ≤ 1048576 := by rw [← hl, sumN_map] at hsz; exact hsz
 have axy : ∀ j, (Value.slice ax ks.length cx).ownBlock = some j → (Value.slice ay ps.length cy).ownBlock ≠ some j := fun j h1 h2 => own_apart hk hp (by decide) j h2 h1.symm
 have axz : ∀ j, (Value.slice ax ks.length cx).ownBlock = some j → (Value.slice az l.length cz).ownBlock ≠ some j := fun j h1 h2 => own_apart hk hE.row (by decide) j h2 h1.symm
 have ayz : ∀ j, (Value.slice ay ps.length cy).ownBlock = some j → (Value.slice az l.length cz).ownBlock ≠ some j := fun j h1 h2 => own_apart hp hE.row (by decide) j h2 h1.symm
 have axf : ∀ p ∈ l, ∀ j, (Value.slice ax ks.length cx).ownBlock = some j → p.2.ownBlock ≠ some j := fun p hpl j h1 h2 => own_apart hk (hE.flds p hpl) (by decide) j h2 h1.symm
 have ayf : ∀ p ∈ l, ∀ j, (Value.slice ay ps.length cy).ownBlock = some j → p.2.ownBlock ≠ some j := fun p hpl j h1 h2 => own_apart hp (hE.flds p hpl) (by decide) j h2 h1.symm
 have HR : Hid (Roo w (.slice ax ks.length cx) ks.length 3 ∧ Roo w (.slice ay ps.length cy) ps.length 3 ∧ PairsNew w lo (.slice az l.length cz) l) := ⟨Roo.of hk, Roo.of hp, hE⟩
 have HAP : Hid ((∀ j, (Value.slice ax ks.length cx).ownBlock = some j → (Value.slice ay ps.length cy).ownBlock ≠ some j) ∧ (∀ j, Own2 (.slice ax ks.length cx) (.slice ay ps.length cy) j → ¬ SZ (.slice az l.length cz) l j)) := by
  refine ⟨axy, fun j h1 h2 => ?_⟩
  rcases h1 with h1 | h1 <;> rcases h2 with h2 | ⟨p, hpl, h2⟩
  ·exact axz j h1 h2
  ·exact axf p hpl j h1 h2
  ·exact ayz j h1 h2
  ·exact ayf p hpl j h1 h2
 have HGE : Hid ((∀ j, Own2 (.slice ax ks.length cx) (.slice ay ps.length cy) j → lo ≤ j ∧ j < w.heap.size) ∧ ∀ j, SZ (.slice az l.length cz) l j → lo ≤ j ∧ j < w.heap.size) := by
  refine ⟨fun j h => ?_, fun j h => ?_⟩
  ·rcases h with h | h
   ·exact ⟨own_ge hk j h, own_lt hk j h⟩
   ·exact ⟨own_ge hp j h, own_lt hp j h⟩
  ·rcases h with h | ⟨p, hpl, h⟩
   ·exact ⟨own_ge hE.row j h, own_lt hE.row j h⟩
   ·exact ⟨own_ge (hE.flds p hpl) j h, own_lt (hE.flds p hpl) j h⟩
 have HNB : Hid (∀ (X : Nat) (C : Array Value), w.heap[X]? = some (.cells C 30 (0, 0)) → ¬ Own2 (.slice ax ks.length cx) (.slice ay ps.length cy) X ∧ ¬ SZ (.slice az l.length cz) l X) := fun X C hX => by
  refine ⟨fun h => ?_, fun h => ?_⟩
  ·rcases h with h | h
   ·exact own_other hk hX (by decide) h.symm
   ·exact own_other hp hX (by decide) h.symm
  ·rcases h with h | ⟨p, hpl, h⟩
   ·exact own_other hE.row hX (by decide) h.symm
   ·exact own_other (hE.flds p hpl) hX (by decide) h.symm
 clear hk hp hE axy axz ayz axf ayf hl le hsz
 have HX0 : Hid (OwnAt w (w.alloc (.cells #[.slice ax ks.length cx, .slice ay ps.length cy, .slice az l.length cz] 30)) [[.slice ax ks.length cx, .slice ay ps.length cy, .slice az l.length cz]]) := (OwnAt.start w).push rfl _ _
 go_enter Tryz.func21, Tryz.ntmps21
 go_wp2_with fail
 refine (markBaseG_any _ _ ks.length ps.length 1 _ (HR.out.1.keep HX0.out.below) (HR.out.2.1.keep HX0.out.below) HAP.out.1 lk lp (by omega)).mono ?_
 rintro e w1 ⟨rfl, hMx, hMy, hF⟩
 have hs0 : (w.alloc (.cells #[.slice ax ks.length cx, .slice ay ps.length cy, .slice az l.length cz] 30)).heap.size = w.heap.size + 1 := by simp
 have hnS : ¬ Own2 (.slice ax ks.length cx) (.slice ay ps.length cy) w.heap.size := fun h => by have := (HGE.out.1 _ h).2; omega
 have y0 : w1.cell? ⟨w.heap.size, 0, none⟩ = some (.slice ax ks.length cx) := hF.cell (by omega) hnS (HX0.out.has 0 _ rfl 0 _ rfl).1
 have y1 : w1.cell? ⟨w.heap.size, 1, none⟩ = some (.slice ay ps.length cy) := hF.cell (by omega) hnS (HX0.out.has 0 _ rfl 1 _ rfl).1
 have y2 : w1.cell? ⟨w.heap.size, 2, none⟩ = some (.slice az l.length cz) := hF.cell (by omega) hnS (HX0.out.has 0 _ rfl 2 _ rfl).1
 have HM1 : Hid (RowM w1 (.slice ax ks.length cx) ks.length 3 (mkV 3 patKind 1) ∧ RowM w1 (.slice ay ps.length cy) ps.length 3 (mkV 3 patPoint (1 + ks.length * 3))) := ⟨hMx, hMy⟩
 have HP1 : Hid (PairsNew w1 lo (.slice az l.length cz) l) := by
  have h0 := HR.out.2.2.keep HX0.out.below
  refine ⟨ownsRow_sameM h0.row (fun j hj hlt => hF.block j hlt (fun hS => HAP.out.2 j hS (.inl hj))), fun p hpl => ownsRow_sameM (h0.flds p hpl) (fun j hj hlt => hF.block j hlt (fun hS => HAP.out.2 j hS (.inr ⟨p, hpl, hj⟩))), h0.apart⟩
 have HF1 : Hid (Below lo w w1) := (HX0.out.below.mono hlo).trans (hF.below (by omega) (fun j hj => (HGE.out.1 j hj).1))
 have HBX1 : Hid (∀ (X : Nat) (C : Array Value), w.heap[X]? = some (.cells C 30 (0, 0)) → w1.heap[X]? = some (.cells C 30 (0, 0))) := fun X C hX => by
  have hlt := (Array.getElem?_eq_some_iff.1 hX).1
  exact (hF.block X (by omega) (HNB.out X C hX).1).trans ((HX0.out.below.block X hlt).trans hX)
 clear hMx hMy hF hnS hs0
 generalize hK : 1 + ks.length * 3 + ps.length * 3 = K at *
 go_wp2_with fail
 refine (markEntsN_any _ K lo l _ HP1.out hll hls (by omega)).mono ?_
 rintro e w2 ⟨rfl, hE2, hF2⟩
 have hkl := kAt_le K l.length hll hls
 have HO : Hid (BookM w2 (.slice ax ks.length cx) (.slice ay ps.length cy) (.slice az l.length cz) (kAt l K l.length) ∧ Below lo w w2 ∧ ∀ (X : Nat) (C : Array Value), w.heap[X]? = some (.cells C 30 (0, 0)) → w2.heap[X]? = some (.cells C 30 (0, 0))) := by
  have hsz1 := HF1.out.size
  have hr : ∀ (v : Value), (∀ j, v.ownBlock = some j → Own2 (.slice ax ks.length cx) (.slice ay ps.length cy) j) → ∀ j, v.ownBlock = some j → j < w1.heap.size → w2.heap[j]? = w1.heap[j]? := fun v hv j hj hlt => hF2.block j hlt (fun hS => HAP.out.2 j (hv j hj) hS)
  refine ⟨⟨ks.length, ps.length, l, lk, lp, hll, hls, ?_, ?_, by rw [hK]; exact hE2, by rw [hK]⟩, HF1.out.trans (hF2.below (Nat.le_trans hlo hsz1) (fun j hj => (HGE.out.2 j hj).1)), fun X C hX => (hF2.block X (Nat.lt_of_lt_of_le (Array.getElem?_eq_some_iff.1 hX).1 hsz1) (HNB.out X C hX).2).trans (HBX1.out X C hX)⟩
  ·rcases HM1.out.1 with h | ⟨b, cap, hv, hb, hh⟩
   ·exact .inl h
   ·exact .inr ⟨b, cap, hv, Nat.lt_of_lt_of_le hb hF2.size, fun q hq => (World.cell?_of_block (w := w1) (hr _ (fun j hj => .inl hj) b (by rw [hv]; rfl) hb)).trans (hh q hq)⟩
  ·rcases HM1.out.2 with h | ⟨b, cap, hv, hb, hh⟩
   ·exact .inl h
   ·exact .inr ⟨b, cap, hv, Nat.lt_of_lt_of_le hb hF2.size, fun q hq => (World.cell?_of_block (w := w1) (hr _ (fun j hj => .inr hj) b (by rw [hv]; rfl) hb)).trans (hh q hq)⟩
 clear hE2 hF2
 generalize kAt l K l.length = M at *
 go_wp2
 go_ret
 exact ⟨M, rfl, by omega, HO.out⟩
set_option maxHeartbeats 1600000 in
theorem heldBookG_any (x y z : Value) (M : Nat) (w : World) (hB : BookM w x y z M) :
  Calls Tryz.prog 22 #[.agg #[x, y, z], .int .i64 1] w fun e w' => e = .returned (.int .i64 (M : Int)) ∧ Below w.heap.size w w' := by
 obtain ⟨nk, np, l, lk, lp, ll, ls, hx, hy, hz, hM⟩ := hB.has
 obtain ⟨ax, cx, rfl⟩ := hx.slice
 obtain ⟨ay, cy, rfl⟩ := hy.slice
 obtain ⟨az, cz, rfl⟩ : ∃ a c, z = .slice a l.length c := by
  rcases hz with ⟨h1, h2⟩ | ⟨g, cap, h1, _⟩
  ·exact ⟨none, 0, by rw [h1, h2]; rfl⟩
  ·exact ⟨_, _, h1⟩
 have HX0 : Hid (OwnAt w (w.alloc (.cells #[.slice ax nk cx, .slice ay np cy, .slice az l.length cz] 30)) [[.slice ax nk cx, .slice ay np cy, .slice az l.length cz]]) := (OwnAt.start w).push rfl _ _
 have HX : Hid (RowM w (.slice ax nk cx) nk 3 (mkV 3 patKind 1) ∧ RowM w (.slice ay np cy) np 3 (mkV 3 patPoint (1 + nk * 3))) := ⟨hx, hy⟩
 generalize hK : 1 + nk * 3 + np * 3 = K at *
 have HZ : Hid (EntsM w (.slice az l.length cz) l K) := hz
 have HM : Hid (M = kAt l K l.length) := hM
 have HK : Hid (1 + nk * 3 + np * 3 = K) := hK
 have hkb : K ≤ 200000000 := by omega
 clear hx hy hz hM hB hK
 go_enter Tryz.func22, Tryz.ntmps22
 go_wp2_with fail
 refine (heldBaseG_any _ _ nk np 1 _ (HX.out.1.keep HX0.out.below) (HX.out.2.keep HX0.out.below) lk lp (by omega)).mono ?_
 rintro e w1 ⟨rfl, hb1⟩
 rw [HK.out]
 have HX1 : Hid (OwnAt w w1 _) := HX0.out.call hb1
 have y0 : w1.cell? ⟨w.heap.size, 0, none⟩ = some (.slice ax nk cx) := (HX1.out.has 0 _ rfl 0 _ rfl).1
 have y1 : w1.cell? ⟨w.heap.size, 1, none⟩ = some (.slice ay np cy) := (HX1.out.has 0 _ rfl 1 _ rfl).1
 have y2 : w1.cell? ⟨w.heap.size, 2, none⟩ = some (.slice az l.length cz) := (HX1.out.has 0 _ rfl 2 _ rfl).1
 have hk10 : (0 : Int) ≤ (K : Int) := by omega
 clear hb1 HX0
 go_wp2_with fail
 refine (heldEntsN_any _ K l _ (HZ.out.keep HX1.out.below) ll ls hkb).mono ?_
 rintro e w2 ⟨rfl, hb2⟩
 have HB2 : Hid (Below w.heap.size w w2) := below_step HX1.out.below hb2
 clear hb2
 rw [← HM.out]
 have hk20 : (0 : Int) ≤ (M : Int) := by omega
 go_wp2
 go_ret
 exact ⟨rfl, HB2.out⟩
end Go.Proofs.YtcmgddnckohdaaaGreatDoor
