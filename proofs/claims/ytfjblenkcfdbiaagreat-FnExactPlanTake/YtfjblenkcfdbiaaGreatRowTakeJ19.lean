/-
  For the proof of take_holds: part 19 (Ents2, Mark4, App).
-/
import Derived.Deep.AppendLies
import Derived.Test.YtfjblenkcfdbiaaGreatRowTakeJ18
/-
  impl: a book is made.
-/
namespace Go.Proofs.YtfjblenkcfdbiaaGreat
open Go.RowKit
set_option linter.unusedSimpArgs false
set_option linter.unusedVariables false

theorem PairsNew.far {w w' : World} {B r : Nat} {o : Value} {l : List EntV} (h : PairsNew w B o l) (hg : w.grownBy w' (some r)) (hr : r < B) : PairsNew w' B o l :=
  ⟨ownsRow_farF h.row hg (fun k hk e => by have := own_ge h.row k hk; injection e; omega), fun p hp => ownsRow_farF (h.flds p hp) hg (fun k hk e => by have := own_ge (h.flds p hp) k hk; injection e; omega), h.apart⟩
theorem own_mono {w : World} {base base' : Nat} {e : TypeId} {size : Nat} {v : Value} {n : Nat} {xs : List Value} (h : w.ownsRow base e size v n xs) (hb : base' ≤ base) : w.ownsRow base' e size v n xs := by
  refine ⟨h.1, ?_⟩
  rcases h.2 with h2 | ⟨g, cap, cur, hv, hg, rest⟩
  · exact .inl h2
  · exact .inr ⟨g, cap, cur, hv, by omega, rest⟩
theorem PairsNew.mono {w : World} {B B' : Nat} {o : Value} {l : List EntV} (h : PairsNew w B o l) (hb : B' ≤ B) : PairsNew w B' o l := ⟨own_mono h.row hb, fun p hp => own_mono (h.flds p hp) hb, h.apart⟩
/-- A book of one's own, from lo on. -/
structure BookNew (lo : Nat) (w : World) (x y z : Value) (ks ps : List Tri) (es : List Ent) : Prop where
  k : w.ownsRow lo 116 3 x ks.length (triRows ks)
  p : w.ownsRow lo 118 3 y ps.length (triRows ps)
  e : EntsNew w lo z es
theorem BookNew.keep {lo : Nat} {w w' : World} {x y z : Value} {ks ps : List Tri} {es : List Ent} (h : BookNew lo w x y z ks ps es) (hb : Below w.heap.size w w') : BookNew lo w' x y z ks ps es := by
  obtain ⟨h1, h2, l, h3, h4⟩ := h
  exact ⟨ownsRow_keep h1 hb, ownsRow_keep h2 hb, l, h3, h4.keep hb⟩
theorem BookNew.far {lo r : Nat} {w w' : World} {x y z : Value} {ks ps : List Tri} {es : List Ent} (h : BookNew lo w x y z ks ps es) (hg : w.grownBy w' (some r)) (hr : r < lo) : BookNew lo w' x y z ks ps es := by
  obtain ⟨h1, h2, l, h3, h4⟩ := h
  exact ⟨ownsRow_farF h1 hg (fun k hk e => by have := own_ge h1 k hk; injection e; omega), ownsRow_farF h2 hg (fun k hk e => by have := own_ge h2 k hk; injection e; omega), l, h3, h4.far hg hr⟩
theorem BookNew.mono {lo lo' : Nat} {w : World} {x y z : Value} {ks ps : List Tri} {es : List Ent} (h : BookNew lo w x y z ks ps es) (hl : lo' ≤ lo) : BookNew lo' w x y z ks ps es := by
  obtain ⟨h1, h2, l, h3, h4⟩ := h
  exact ⟨own_mono h1 hl, own_mono h2 hl, l, h3, h4.mono hl⟩
theorem own_slice {w : World} {base : Nat} {e : TypeId} {size : Nat} {v : Value} {n : Nat} {xs : List Value} (h : w.ownsRow base e size v n xs) : ∃ a c, v = .slice a n c := by
  rcases h.2 with ⟨rfl, h0⟩ | ⟨g, cap, cur, rfl, _⟩
  · exact ⟨none, 0, by rw [h0]⟩
  · exact ⟨_, cap, rfl⟩

theorem put_fit {P : Chg → Prop} : ∀ (L S : List Chg), (∀ c ∈ S, P c) → (∀ c ∈ L, P c) → ∀ c ∈ L.foldl putC S, P c
  | [], S, hS, _ => hS
  | a :: L, S, hS, hL => put_fit L (putC S a) (fun c hc => by
      rcases putC_mem hc with rfl | hc
      · exact hL _ (by simp)
      · exact hS c hc) (fun c hc => hL c (by simp [hc]))
theorem putC_len : ∀ (S : List Chg) (c : Chg), (putC S c).length ≤ S.length + 1
  | [], c => Nat.le_refl _
  | a :: l, c => by
    have := putC_len l c
    unfold putC
    repeat' split
    all_goals simp only [List.length_cons]
    all_goals omega
theorem put_len : ∀ (L S : List Chg), (L.foldl putC S).length ≤ S.length + L.length
  | [], S => Nat.le_refl _
  | a :: L, S => by
    have h1 := put_len L (putC S a)
    have h2 := putC_len S a
    simp only [List.foldl_cons, List.length_cons]
    omega

theorem bookOf_own (vk vp vl : Value) (ks ps : List Tri) (Ls : List (List Chg)) (w : World) (hk : TrisAt w vk ks) (hp : TrisAt w vp ps) (lk : ks.length ≤ 1048575) (lp : ps.length ≤ 1048575) (sk : ∀ t ∈ ks, t.s.size ≤ 1048576) (sp : ∀ t ∈ ps, t.s.size ≤ 1048576)
    (hL : ListsAt w vl Ls) (hlen : Ls.flatten.length ≤ 4194304) (hLl : Ls.length ≤ 1048576) (hLe : ∀ L ∈ Ls, L.length ≤ 2097152) (hfit : ∀ L ∈ Ls, ∀ c ∈ L, KeyFit c ∧ 1 ≤ c.num) (hsm : ∀ L ∈ Ls, ∀ c ∈ L, c.f.size ≤ 1048576 ∧ c.v.size ≤ 1048576) :
    Calls Tryz.prog 34 #[.agg #[vk, vp], vl] w fun e w' => ∃ x y z, e = .returned (.agg #[x, y, z]) ∧ BookNew (w.heap.size + 3) w' x y z ks ps ((Ls.flatten.foldl putC []).foldl addE []) ∧ Below w.heap.size w w' := by
  have hvk : ∃ a n c, vk = .slice a n c := by obtain ⟨a, c, h, _⟩ := hk; exact ⟨_, _, _, h⟩
  have hvp : ∃ a n c, vp = .slice a n c := by obtain ⟨a, c, h, _⟩ := hp; exact ⟨_, _, _, h⟩
  have hall : ∀ c ∈ Ls.flatten, (KeyFit c ∧ 1 ≤ c.num) ∧ (c.f.size ≤ 1048576 ∧ c.v.size ≤ 1048576) := fun c hc => by
    obtain ⟨L, h1, h2⟩ := List.mem_flatten.1 hc
    exact ⟨hfit L h1 c h2, hsm L h1 c h2⟩
  have hS := put_fit (P := fun c => (KeyFit c ∧ 1 ≤ c.num) ∧ (c.f.size ≤ 1048576 ∧ c.v.size ≤ 1048576)) Ls.flatten [] (fun c h => by cases h) hall
  have hSl : (Ls.flatten.foldl putC []).length ≤ 4194304 := by
    have := put_len Ls.flatten []
    rw [List.length_nil, Nat.zero_add] at this
    omega
  refine (bookOf_any vk vp vl Ls w hvk hvp hL hlen hLl hLe hfit (fun x y z w2 => BookNew (w.heap.size + 3) w2 x y z ks ps ((Ls.flatten.foldl putC []).foldl addE []) ∧ Below w.heap.size w w2 ∧ w.heap.size + 2 < w2.heap.size) ?_).mono ?_
  · intro wx n hn hF
    have hz := hF.z
    refine (copyBase_any vk vp ks ps wx (hk.keep hF.below) (hp.keep hF.below) lk lp sk sp).mono ?_
    rintro e w1 ⟨a1, n1, c1, a2, n2, c2, rfl, ⟨o1, o2⟩, hb1⟩
    have hF1 := hF.call hb1
    refine ⟨a1, n1, c1, a2, n2, c2, rfl, ?_⟩
    refine (entriesOf_any (w.heap.size + 2) n _ w1 hF1.m (putAll_sorted _ List.Pairwise.nil) (fun c hc => (hS c hc).1.1) (fun c hc => (hS c hc).2) (by omega) hSl (by have := hF1.z; omega)).mono ?_
    rintro e w2 ⟨o, rfl, ⟨l, hl1, hl2⟩, hb2⟩
    obtain ⟨a3, c3, rfl⟩ := own_slice hl2.row
    have hz1 := hF1.z
    refine ⟨a3, _, c3, rfl, (hb2.block _ (by omega)).trans hF1.r, ⟨own_mono (ownsRow_keep o1 hb2) (by omega), own_mono (ownsRow_keep o2 hb2) (by omega), l, hl1, hl2.mono (by omega)⟩, below_step hF1.below hb2, by have := hb2.size; omega⟩
  · rintro e w' ⟨x, y, z, w2, rfl, ⟨hB, hb, hz⟩, rfl⟩
    exact ⟨x, y, z, rfl, hB.far (grown_rowF w2 (w.heap.size + 1) _) (by omega), below_setRow hb (by omega) _⟩
end Go.Proofs.YtfjblenkcfdbiaaGreat

/-
  The law's marks over a book of one's own: written, and read back.
-/
namespace Go.Proofs.YtfjblenkcfdbiaaGreat
open Go.RowKit
attribute [local go_sem] Later.cell Later.frozen
set_option linter.unusedSimpArgs false
set_option linter.unusedVariables false

/-- A row that can be written, nil if there is nothing in it. -/
def Roo (w : World) (v : Value) (n c : Nat) : Prop := (v = .slice none 0 0 ∧ n = 0) ∨ ∃ b cap, v = .slice (some ⟨b, 0, none⟩) n cap ∧ b < w.heap.size ∧ w.there b 0 (n * c)
/-- A row that holds its marks. -/
def RowM (w : World) (v : Value) (n c : Nat) (f : Nat → Value) : Prop := (v = .slice none 0 0 ∧ n = 0) ∨ ∃ b cap, v = .slice (some ⟨b, 0, none⟩) n cap ∧ b < w.heap.size ∧ ∀ q, q < n * c → w.cell? ⟨b, q, none⟩ = some (f q)
theorem Roo.of {w : World} {base : Nat} {e : TypeId} {size : Nat} {v : Value} {n : Nat} {xs : List Value} (h : w.ownsRow base e size v n xs) : Roo w v n size := by
  rcases h.2 with h2 | ⟨g, cap, cur, rfl, hb, hc, h1, h2, h3, h4⟩
  · exact .inl h2
  · refine .inr ⟨g, cap, rfl, (Array.getElem?_eq_some_iff.1 hc).1, fun q hq => ?_⟩
    have hq' : q < cur.size := by rw [h3]; exact Nat.lt_of_lt_of_le hq (Nat.mul_le_mul_right _ h1)
    simp [World.cell?, World.frozen?, hc, hq']
theorem Roo.far {w w' : World} {v : Value} {n c : Nat} {r : Option Nat} (h : Roo w v n c) (hg : w.grownBy w' r) (hr : ∀ k, v.ownBlock = some k → some k ≠ r) : Roo w' v n c := by
  rcases h with h | ⟨b, cap, rfl, hb, ht⟩
  · exact .inl h
  · exact .inr ⟨b, cap, rfl, Nat.lt_of_lt_of_le hb hg.size, there_same ht (hg.block b hb (hr b rfl))⟩
theorem RowM.far {w w' : World} {v : Value} {n c : Nat} {f : Nat → Value} {r : Option Nat} (h : RowM w v n c f) (hg : w.grownBy w' r) (hr : ∀ k, v.ownBlock = some k → some k ≠ r) : RowM w' v n c f := by
  rcases h with h | ⟨b, cap, rfl, hb, ht⟩
  · exact .inl h
  · exact .inr ⟨b, cap, rfl, Nat.lt_of_lt_of_le hb hg.size, fun q hq => (World.cell?_of_block (w := w) (hg.block b hb (hr b rfl))).trans (ht q hq)⟩
theorem RowM.keep {w w' : World} {v : Value} {n c : Nat} {f : Nat → Value} (h : RowM w v n c f) (hb : Below w.heap.size w w') : RowM w' v n c f := h.far (below_grown hb none) (fun k _ e => by cases e)
theorem Roo.keep {w w' : World} {v : Value} {n c : Nat} (h : Roo w v n c) (hb : Below w.heap.size w w') : Roo w' v n c := h.far (below_grown hb none) (fun k _ e => by cases e)

theorem markKindNil_any (k : Nat) (w : World) : Calls Tryz.prog 77 #[.slice none 0 0, .int .i64 k] w fun e w' => e = .returned (.int .i64 k) ∧ w' = w := by
  go_enter Tryz.func77, Tryz.ntmps77
  go_wp2
  go_loopw [1, 5] (fun kk i wr => i = .int .i64 0 ∧ kk = .int .i64 k ∧ wr = w) (fun _ _ _ => 0)
  case atStart => exact ⟨rfl, rfl, rfl⟩
  case round =>
    obtain ⟨rfl, rfl, rfl⟩ := hrel
    go_wp2
    go_ret
    exact ⟨rfl, rfl⟩
theorem heldKindNil_any (k : Nat) (w : World) : Calls Tryz.prog 80 #[.slice none 0 0, .int .i64 k] w fun e w' => e = .returned (.int .i64 k) ∧ w' = w := by
  go_enter Tryz.func80, Tryz.ntmps80
  go_wp2
  go_loopw [1, 5] (fun kk i wr => i = .int .i64 0 ∧ kk = .int .i64 k ∧ wr = w) (fun _ _ _ => 0)
  case atStart => exact ⟨rfl, rfl, rfl⟩
  case round =>
    obtain ⟨rfl, rfl, rfl⟩ := hrel
    go_wp2
    go_ret
    exact ⟨rfl, rfl⟩
theorem markKindG_any (v : Value) (n k : Nat) (w : World) (h : Roo w v n 3) (hn : n ≤ 1048576) (hk : k ≤ 1000000000) :
    Calls Tryz.prog 77 #[v, .int .i64 k] w fun e w' => e = .returned (.int .i64 ((k + n * 3 : Nat) : Int)) ∧ RowM w' v n 3 (mkV 3 patKind k) ∧ w.grownBy w' v.ownBlock := by
  rcases h with ⟨rfl, rfl⟩ | ⟨b, cap, rfl, hb, ht⟩
  · refine (markKindNil_any k w).mono ?_
    rintro e w' ⟨rfl, rfl⟩
    exact ⟨by simp, .inl ⟨rfl, rfl⟩, below_grown (Below.refl _ _) _⟩
  · refine (markKinds_any b n cap k w hb ht hn hk).mono ?_
    rintro e w' ⟨rfl, hM⟩
    exact ⟨rfl, .inr ⟨b, cap, rfl, Nat.lt_of_lt_of_le hb hM.grown.size, fun q hq => hM.has q hq⟩, hM.grown⟩
theorem heldKindG_any (v : Value) (n k : Nat) (w : World) (h : RowM w v n 3 (mkV 3 patKind k)) (hn : n ≤ 1048576) (hk : k ≤ 1000000000) :
    Calls Tryz.prog 80 #[v, .int .i64 k] w fun e w' => e = .returned (.int .i64 ((k + n * 3 : Nat) : Int)) ∧ Below w.heap.size w w' := by
  rcases h with ⟨rfl, rfl⟩ | ⟨b, cap, rfl, hb, ht⟩
  · refine (heldKindNil_any k w).mono ?_
    rintro e w' ⟨rfl, rfl⟩
    exact ⟨by simp, Below.refl _ _⟩
  · exact heldKinds_any b n cap k w ht hn hk

theorem markPointNil_any (k : Nat) (w : World) : Calls Tryz.prog 78 #[.slice none 0 0, .int .i64 k] w fun e w' => e = .returned (.int .i64 k) ∧ w' = w := by
  go_enter Tryz.func78, Tryz.ntmps78
  go_wp2
  go_loopw [1, 5] (fun kk i wr => i = .int .i64 0 ∧ kk = .int .i64 k ∧ wr = w) (fun _ _ _ => 0)
  case atStart => exact ⟨rfl, rfl, rfl⟩
  case round =>
    obtain ⟨rfl, rfl, rfl⟩ := hrel
    go_wp2
    go_ret
    exact ⟨rfl, rfl⟩
theorem heldPointNil_any (k : Nat) (w : World) : Calls Tryz.prog 81 #[.slice none 0 0, .int .i64 k] w fun e w' => e = .returned (.int .i64 k) ∧ w' = w := by
  go_enter Tryz.func81, Tryz.ntmps81
  go_wp2
  go_loopw [1, 5] (fun kk i wr => i = .int .i64 0 ∧ kk = .int .i64 k ∧ wr = w) (fun _ _ _ => 0)
  case atStart => exact ⟨rfl, rfl, rfl⟩
  case round =>
    obtain ⟨rfl, rfl, rfl⟩ := hrel
    go_wp2
    go_ret
    exact ⟨rfl, rfl⟩
theorem markPointG_any (v : Value) (n k : Nat) (w : World) (h : Roo w v n 3) (hn : n ≤ 1048576) (hk : k ≤ 1000000000) :
    Calls Tryz.prog 78 #[v, .int .i64 k] w fun e w' => e = .returned (.int .i64 ((k + n * 3 : Nat) : Int)) ∧ RowM w' v n 3 (mkV 3 patPoint k) ∧ w.grownBy w' v.ownBlock := by
  rcases h with ⟨rfl, rfl⟩ | ⟨b, cap, rfl, hb, ht⟩
  · refine (markPointNil_any k w).mono ?_
    rintro e w' ⟨rfl, rfl⟩
    exact ⟨by simp, .inl ⟨rfl, rfl⟩, below_grown (Below.refl _ _) _⟩
  · refine (markPoints_any b n cap k w hb ht hn hk).mono ?_
    rintro e w' ⟨rfl, hM⟩
    exact ⟨rfl, .inr ⟨b, cap, rfl, Nat.lt_of_lt_of_le hb hM.grown.size, fun q hq => hM.has q hq⟩, hM.grown⟩
theorem heldPointG_any (v : Value) (n k : Nat) (w : World) (h : RowM w v n 3 (mkV 3 patPoint k)) (hn : n ≤ 1048576) (hk : k ≤ 1000000000) :
    Calls Tryz.prog 81 #[v, .int .i64 k] w fun e w' => e = .returned (.int .i64 ((k + n * 3 : Nat) : Int)) ∧ Below w.heap.size w w' := by
  rcases h with ⟨rfl, rfl⟩ | ⟨b, cap, rfl, hb, ht⟩
  · refine (heldPointNil_any k w).mono ?_
    rintro e w' ⟨rfl, rfl⟩
    exact ⟨by simp, Below.refl _ _⟩
  · exact heldPoints_any b n cap k w ht hn hk

theorem markFieldNil_any (k : Nat) (w : World) : Calls Tryz.prog 79 #[.slice none 0 0, .int .i64 k] w fun e w' => e = .returned (.int .i64 k) ∧ w' = w := by
  go_enter Tryz.func79, Tryz.ntmps79
  go_wp2
  go_loopw [1, 5] (fun kk i wr => i = .int .i64 0 ∧ kk = .int .i64 k ∧ wr = w) (fun _ _ _ => 0)
  case atStart => exact ⟨rfl, rfl, rfl⟩
  case round =>
    obtain ⟨rfl, rfl, rfl⟩ := hrel
    go_wp2
    go_ret
    exact ⟨rfl, rfl⟩
theorem heldFieldNil_any (k : Nat) (w : World) : Calls Tryz.prog 82 #[.slice none 0 0, .int .i64 k] w fun e w' => e = .returned (.int .i64 k) ∧ w' = w := by
  go_enter Tryz.func82, Tryz.ntmps82
  go_wp2
  go_loopw [1, 5] (fun kk i wr => i = .int .i64 0 ∧ kk = .int .i64 k ∧ wr = w) (fun _ _ _ => 0)
  case atStart => exact ⟨rfl, rfl, rfl⟩
  case round =>
    obtain ⟨rfl, rfl, rfl⟩ := hrel
    go_wp2
    go_ret
    exact ⟨rfl, rfl⟩
theorem markFieldG_any (v : Value) (n k : Nat) (w : World) (h : Roo w v n 3) (hn : n ≤ 1048576) (hk : k ≤ 1000000000) :
    Calls Tryz.prog 79 #[v, .int .i64 k] w fun e w' => e = .returned (.int .i64 ((k + n * 3 : Nat) : Int)) ∧ RowM w' v n 3 (mkV 3 patField k) ∧ w.grownBy w' v.ownBlock := by
  rcases h with ⟨rfl, rfl⟩ | ⟨b, cap, rfl, hb, ht⟩
  · refine (markFieldNil_any k w).mono ?_
    rintro e w' ⟨rfl, rfl⟩
    exact ⟨by simp, .inl ⟨rfl, rfl⟩, below_grown (Below.refl _ _) _⟩
  · refine (markFields_any b n cap k w hb ht hn hk).mono ?_
    rintro e w' ⟨rfl, hM⟩
    exact ⟨rfl, .inr ⟨b, cap, rfl, Nat.lt_of_lt_of_le hb hM.grown.size, fun q hq => hM.has q hq⟩, hM.grown⟩
theorem heldFieldG_any (v : Value) (n k : Nat) (w : World) (h : RowM w v n 3 (mkV 3 patField k)) (hn : n ≤ 1048576) (hk : k ≤ 1000000000) :
    Calls Tryz.prog 82 #[v, .int .i64 k] w fun e w' => e = .returned (.int .i64 ((k + n * 3 : Nat) : Int)) ∧ Below w.heap.size w w' := by
  rcases h with ⟨rfl, rfl⟩ | ⟨b, cap, rfl, hb, ht⟩
  · refine (heldFieldNil_any k w).mono ?_
    rintro e w' ⟨rfl, rfl⟩
    exact ⟨by simp, Below.refl _ _⟩
  · exact heldFields_any b n cap k w ht hn hk

def kAt (l : List EntV) (k i : Nat) : Nat := k + i + sumN (fun p => p.1.fs.length) (l.take i) * 3
theorem kAt_zero (l : List EntV) (k : Nat) : kAt l k 0 = k := by simp [kAt, sumN]
theorem kAt_succ {l : List EntV} {i : Nat} {p : EntV} (k : Nat) (h : l[i]? = some p) : kAt l k (i + 1) = kAt l k i + 1 + p.1.fs.length * 3 := by
  unfold kAt
  rw [sumN_take_succ _ l i p h]
  omega
theorem kAt_le {l : List EntV} (k i : Nat) (hi : i ≤ 1048576) (hs : sumN (fun p => p.1.fs.length) l ≤ 1048576) : kAt l k i ≤ k + 4194304 := by
  unfold kAt
  have := sumN_take_le (fun p : EntV => p.1.fs.length) l i
  omega
/-- No two lists of fields share a block, and none has that of the entries. -/
structure Ap (g : Nat) (l : List EntV) : Prop where
  g : ∀ (i : Nat) (p : EntV), l[i]? = some p → p.2.ownBlock ≠ some g
  two : ∀ (i j : Nat) (p q : EntV), i ≠ j → l[i]? = some p → l[j]? = some q → ∀ b, p.2.ownBlock = some b → q.2.ownBlock ≠ some b
theorem Ap.of {w : World} {B g n cap : Nat} {l : List EntV} (h : PairsNew w B (.slice (some ⟨g, 0, none⟩) n cap) l) : Ap g l := by
  refine ⟨fun i p hp e => ?_, fun i j p q hij hp hq b hb hb' => ?_⟩
  · exact own_apart h.row (h.flds p (List.mem_of_getElem? hp)) (by decide) _ e rfl
  · obtain ⟨hi, rfl⟩ := List.getElem?_eq_some_iff.1 hp
    obtain ⟨hj, rfl⟩ := List.getElem?_eq_some_iff.1 hq
    have hpw := List.pairwise_iff_getElem.1 h.apart
    rcases Nat.lt_or_gt_of_ne hij with hlt | hgt
    · exact hpw i j hi hj hlt b hb hb'
    · exact hpw j i hj hi hgt b hb' hb
/-- While entries are marked: mn names and the fields of mf entries are. -/
structure EMk (w : World) (g : Nat) (l : List EntV) (k mn mf : Nat) : Prop where
  z : g < w.heap.size
  t : w.there g 0 (l.length * 2)
  s : ∀ (i : Nat) (p : EntV), l[i]? = some p → w.cell? ⟨g, i * 2 + 1, none⟩ = some p.2
  r : ∀ (i : Nat) (p : EntV), l[i]? = some p → mf ≤ i → Roo w p.2 p.1.fs.length 3
  n : ∀ i, i < mn → w.cell? ⟨g, i * 2, none⟩ = some (.string (mkT (kAt l k i)))
  f : ∀ (i : Nat) (p : EntV), i < mf → l[i]? = some p → RowM w p.2 p.1.fs.length 3 (mkV 3 patField (kAt l k i + 1))
theorem EMk.call {w w' : World} {g : Nat} {l : List EntV} {k mn mf : Nat} (h : EMk w g l k mn mf) (hb : Below w.heap.size w w') : EMk w' g l k mn mf :=
  ⟨Nat.lt_of_lt_of_le h.z hb.size, there_keep h.t hb h.z, fun i p hp => cell_keep hb (Nat.le_refl _) (h.s i p hp), fun i p hp hm => (h.r i p hp hm).keep hb, fun i hi => cell_keep hb (Nat.le_refl _) (h.n i hi), fun i p hi hp => (h.f i p hi hp).keep hb⟩
theorem EMk.name {w : World} {g : Nat} {l : List EntV} {k m : Nat} (h : EMk w g l k m m) (hA : Ap g l) (hm : m < l.length) : EMk (w.setCell ⟨g, m * 2, none⟩ (.string (mkT (kAt l k m)))) g l k (m + 1) m := by
  have gs := grown_set w g (m * 2) (.string (mkT (kAt l k m)))
  have hne : ∀ (i : Nat) (p : EntV), l[i]? = some p → ∀ b, p.2.ownBlock = some b → some b ≠ some g := fun i p hp b hb e => hA.g i p hp (hb.trans e)
  refine ⟨by simpa using h.z, World.there_setCells h.t g (m * 2) [_], fun i p hp => ?_, fun i p hp hi => (h.r i p hp hi).far gs (hne i p hp), fun i hi => ?_, fun i p hi hp => (h.f i p hi hp).far gs (hne i p hp)⟩
  · exact (World.cell?_setCell_other w ⟨g, m * 2, none⟩ ⟨g, i * 2 + 1, none⟩ _ (by simp <;> omega)).trans (h.s i p hp)
  · by_cases e : i = m
    · subst e
      have := h.t (i * 2) (by omega)
      obtain ⟨u, hu⟩ : ∃ u, w.cell? ⟨g, i * 2, none⟩ = some u := by
        simp [Option.isSome_iff_exists] at this
        exact this.1
      rw [World.cell?_setCell_same w ⟨g, i * 2, none⟩ _ hu]
    · rw [World.cell?_setCell_other w ⟨g, m * 2, none⟩ ⟨g, i * 2, none⟩ _ (by simp <;> omega)]
      exact h.n i (by omega)
theorem EMk.flds {w w' : World} {g : Nat} {l : List EntV} {k m : Nat} {p : EntV} (h : EMk w g l k (m + 1) m) (hA : Ap g l) (hp : l[m]? = some p) (hR : RowM w' p.2 p.1.fs.length 3 (mkV 3 patField (kAt l k m + 1))) (hg : w.grownBy w' p.2.ownBlock) : EMk w' g l k (m + 1) (m + 1) := by
  have hb := hg.block g h.z (fun e => hA.g m p hp e.symm)
  have hne : ∀ (i : Nat) (q : EntV), i ≠ m → l[i]? = some q → ∀ b, q.2.ownBlock = some b → some b ≠ p.2.ownBlock := fun i q hi hq b hb e => hA.two i m q p hi hq hp b hb e.symm
  refine ⟨Nat.lt_of_lt_of_le h.z hg.size, there_same h.t hb, fun i q hq => (World.cell?_of_block (w := w) hb).trans (h.s i q hq), fun i q hq hi => (h.r i q hq (by omega)).far hg (hne i q (by omega) hq), fun i hi => (World.cell?_of_block (w := w) hb).trans (h.n i hi), fun i q hi hq => ?_⟩
  by_cases e : i = m
  · subst e
    rw [hp] at hq
    cases hq
    exact hR
  · exact (h.f i q (by omega) hq).far hg (hne i q e hq)
/-- What has turned: blocks of S alone. -/
structure Fr (w w' : World) (S : Nat → Prop) : Prop where
  os : w'.os = w.os
  tape : w'.tape = w.tape
  output : w'.output = w.output
  size : w.heap.size ≤ w'.heap.size
  block : ∀ j, j < w.heap.size → ¬ S j → w'.heap[j]? = w.heap[j]?
theorem Fr.refl (w : World) (S : Nat → Prop) : Fr w w S := ⟨rfl, rfl, rfl, Nat.le_refl _, fun _ _ _ => rfl⟩
theorem Fr.trans {w w1 w2 : World} {S : Nat → Prop} (h : Fr w w1 S) (k : Fr w1 w2 S) : Fr w w2 S :=
  ⟨k.1.trans h.1, k.2.trans h.2, k.3.trans h.3, Nat.le_trans h.4 k.4, fun j hj hs => (k.5 j (Nat.lt_of_lt_of_le hj h.4) hs).trans (h.5 j hj hs)⟩
theorem Fr.grown {w w' : World} {r : Option Nat} {S : Nat → Prop} (h : w.grownBy w' r) (hS : ∀ j, r = some j → S j) : Fr w w' S := ⟨h.1, h.2, h.3, h.4, fun j hj hs => h.5 j hj (fun e => hs (hS j e.symm))⟩
theorem Fr.call {w w' : World} {S : Nat → Prop} (h : Below w.heap.size w w') : Fr w w' S := ⟨h.1, h.2, h.3, h.4, fun j hj _ => h.5 j hj⟩
theorem Fr.below {w w' : World} {S : Nat → Prop} {B : Nat} (h : Fr w w' S) (hB : B ≤ w.heap.size) (hS : ∀ j, S j → B ≤ j) : Below B w w' := ⟨h.1, h.2, h.3, h.4, fun j hj => h.5 j (by omega) (fun hs => by have := hS j hs; omega)⟩
theorem Fr.mono {w w' : World} {S T : Nat → Prop} (h : Fr w w' S) (hS : ∀ j, S j → T j) : Fr w w' T := ⟨h.1, h.2, h.3, h.4, fun j hj hs => h.5 j hj (fun k => hs (hS j k))⟩
def SE (g : Nat) (l : List EntV) (j : Nat) : Prop := j = g ∨ ∃ p ∈ l, p.2.ownBlock = some j

set_option maxHeartbeats 3200000 in
theorem markEntsG_any (g cap k : Nat) (l : List EntV) (w : World) (hE : EMk w g l k 0 0) (hA : Ap g l) (hl : l.length ≤ 1048576) (hsz : sumN (fun p => p.1.fs.length) l ≤ 1048576) (hk8 : k ≤ 200000000) :
    Calls Tryz.prog 38 #[.slice (some ⟨g, 0, none⟩) l.length cap, .int .i64 k] w fun e w' => e = .returned (.int .i64 ((kAt l k l.length : Nat) : Int)) ∧ EMk w' g l k l.length l.length ∧ Fr w w' (SE g l) := by
  have HE : Hid (EMk w g l k 0 0) := hE
  have HA : Hid (Ap g l) := hA
  have HFL : Hid (∀ (i : Nat) (p : EntV), l[i]? = some p → p.1.fs.length ≤ 1048576) := fun i p hp => Nat.le_trans (sumN_mem (fun p : EntV => p.1.fs.length) l p (List.mem_of_getElem? hp)) hsz
  have HK0 : Hid (kAt l k 0 = k) := kAt_zero l k
  have HKL : Hid (∀ i, i ≤ 1048576 → kAt l k i ≤ k + 4194304) := fun i hi => kAt_le k i hi hsz
  clear hE hA hsz
  go_enter Tryz.func38, Tryz.ntmps38
  go_wp2
  go_loopw [1, 5] (fun kk i wr => ∃ m K : Nat, m ≤ l.length ∧ i = .int .i64 m ∧ Hid (kAt l k m = K) ∧ kk = .int .i64 (K : Int) ∧ Hid (EMk wr g l k m m ∧ Fr w wr (SE g l))) (fun _ i _ => l.length - (intOf i).toNat)
  case atStart => exact ⟨0, k, Nat.zero_le _, rfl, HK0.out, rfl, HE.out, Fr.refl _ _⟩
  case round =>
    obtain ⟨m, K, hm, rfl, HQ, rfl, HS⟩ := hrel
    have hK1 : K ≤ k + 4194304 := by rw [← HQ.out]; exact HKL.out m (by omega)
    by_cases hlt : m < l.length
    · have hm0 : (0 : Int) ≤ (m : Int) := by omega
      have hm1 : (m : Int) < (l.length : Int) := by omega
      obtain ⟨p, hp⟩ : ∃ p, l[m]? = some p := ⟨l[m], List.getElem?_eq_getElem hlt⟩
      have HP : Hid (l[m]? = some p) := hp
      have hfl := HFL.out m p hp
      have HT : Hid (kAt l k (m + 1) = K + 1 + p.1.fs.length * 3) := by
        show _ = _
        rw [kAt_succ k hp, HQ.out]
      clear hp
      go_wp2_with fail
      refine (markText_any K (by omega) _).mono ?_
      rintro e w1 ⟨rfl, hb1⟩
      have hE1 := HS.out.1.call hb1
      obtain ⟨⟨v0, c0⟩, f0⟩ : (∃ v, w1.cell? ⟨g, m * 2, none⟩ = some v) ∧ w1.frozen? ⟨g, m * 2, none⟩ = false := by
        have := hE1.t (m * 2) (by omega)
        simpa [Option.isSome_iff_exists] using this
      have c1 : w1.cell? ⟨g, m * 2 + 1, none⟩ = some p.2 := hE1.s m p HP.out
      have hE2 := hE1.name HA.out hlt
      rw [HQ.out] at hE2
      have HE2 : Hid (EMk (w1.setCell ⟨g, m * 2, none⟩ (.string (mkT K))) g l k (m + 1) m) := hE2
      have HF2 : Hid (Fr w (w1.setCell ⟨g, m * 2, none⟩ (.string (mkT K))) (SE g l)) := (HS.out.2.trans (Fr.call hb1)).trans (Fr.grown (grown_set w1 g (m * 2) _) (fun j e => by cases e; exact .inl rfl))
      have hR := hE2.r m p HP.out (Nat.le_refl _)
      have HSL : Hid (∃ a c, p.2 = .slice a p.1.fs.length c) := by
        rcases hR with ⟨h1, h2⟩ | ⟨b, c, h1, _⟩
        · exact ⟨none, 0, by rw [h1, h2]⟩
        · exact ⟨_, _, h1⟩
      obtain ⟨pa, pc, hpv⟩ := HSL.out
      have HW : Hid (Calls Tryz.prog 79 #[.slice pa p.1.fs.length pc, .int .i64 ((K : Int) + 1)] (w1.setCell ⟨g, m * 2, none⟩ (.string (mkT K))) fun e w' => e = .returned (.int .i64 ((K + 1 + p.1.fs.length * 3 : Nat) : Int)) ∧ RowM w' p.2 p.1.fs.length 3 (mkV 3 patField (K + 1)) ∧ (w1.setCell ⟨g, m * 2, none⟩ (.string (mkT K))).grownBy w' p.2.ownBlock) := by
        have h := markFieldG_any p.2 p.1.fs.length (K + 1) _ hR hfl (by omega)
        rw [show ((K + 1 : Nat) : Int) = (K : Int) + 1 by push_cast; rfl] at h
        rw [hpv] at h ⊢
        exact h
      rw [hpv] at c1
      clear hE1 hE2 hR hb1 HS HSL hpv
      go_wp2_with fail
      refine HW.out.mono ?_
      rintro e w2 ⟨rfl, hM2, hg2⟩
      have HE3 : Hid (EMk w2 g l k (m + 1) (m + 1) ∧ Fr w w2 (SE g l)) := by
        refine ⟨HE2.out.flds HA.out HP.out ?_ hg2, HF2.out.trans (Fr.grown hg2 (fun j e => .inr ⟨p, List.mem_of_getElem? HP.out, e⟩))⟩
        rw [HQ.out]; exact hM2
      clear hM2 hg2 HW HE2 HF2
      generalize hK2 : K + 1 + p.1.fs.length * 3 = K2 at *
      go_wp2
      exact ⟨⟨m + 1, K2, by omega, by go_num, HT, rfl, HE3⟩, by simp [intOf]; omega⟩
    · have HF : Hid (m = l.length) := by show m = l.length; omega
      go_wp2
      go_ret
      have h1 := HS.out
      have h2 := HQ.out
      rw [HF.out] at h1 h2
      exact ⟨ret_int (by rw [h2]), h1⟩

set_option maxHeartbeats 3200000 in
theorem heldEntsG_any (g cap k : Nat) (l : List EntV) (w : World) (hE : EMk w g l k l.length l.length) (hl : l.length ≤ 1048576) (hsz : sumN (fun p => p.1.fs.length) l ≤ 1048576) (hk8 : k ≤ 200000000) :
    Calls Tryz.prog 40 #[.slice (some ⟨g, 0, none⟩) l.length cap, .int .i64 k] w fun e w' => e = .returned (.int .i64 ((kAt l k l.length : Nat) : Int)) ∧ Below w.heap.size w w' := by
  have HE : Hid (EMk w g l k l.length l.length) := hE
  have HFL : Hid (∀ (i : Nat) (p : EntV), l[i]? = some p → p.1.fs.length ≤ 1048576) := fun i p hp => Nat.le_trans (sumN_mem (fun p : EntV => p.1.fs.length) l p (List.mem_of_getElem? hp)) hsz
  have HK0 : Hid (kAt l k 0 = k) := kAt_zero l k
  have HKL : Hid (∀ i, i ≤ 1048576 → kAt l k i ≤ k + 4194304) := fun i hi => kAt_le k i hi hsz
  clear hE hsz
  go_enter Tryz.func40, Tryz.ntmps40
  go_wp2
  go_loopw [1, 5] (fun kk i wr => ∃ m K : Nat, m ≤ l.length ∧ i = .int .i64 m ∧ Hid (kAt l k m = K) ∧ kk = .int .i64 (K : Int) ∧ Hid (Below w.heap.size w wr)) (fun _ i _ => l.length - (intOf i).toNat)
  case atStart => exact ⟨0, k, Nat.zero_le _, rfl, HK0.out, rfl, Below.refl _ _⟩
  case round =>
    obtain ⟨m, K, hm, rfl, HQ, rfl, HBW⟩ := hrel
    have hK1 : K ≤ k + 4194304 := by rw [← HQ.out]; exact HKL.out m (by omega)
    by_cases hlt : m < l.length
    · have hm0 : (0 : Int) ≤ (m : Int) := by omega
      have hm1 : (m : Int) < (l.length : Int) := by omega
      obtain ⟨p, hp⟩ : ∃ p, l[m]? = some p := ⟨l[m], List.getElem?_eq_getElem hlt⟩
      have HP : Hid (l[m]? = some p) := hp
      have hfl := HFL.out m p hp
      have HT : Hid (kAt l k (m + 1) = K + 1 + p.1.fs.length * 3) := by
        show _ = _
        rw [kAt_succ k hp, HQ.out]
      have hM := HE.out.f m p hlt hp
      rw [HQ.out] at hM
      have d0 := HE.out.n m hlt
      rw [HQ.out] at d0
      have d1 := HE.out.s m p hp
      have HSL : Hid (∃ a c, p.2 = .slice a p.1.fs.length c) := by
        rcases hM with ⟨h1, h2⟩ | ⟨b, c, h1, _⟩
        · exact ⟨none, 0, by rw [h1, h2]⟩
        · exact ⟨_, _, h1⟩
      obtain ⟨pa, pc, hpv⟩ := HSL.out
      have HRM : Hid (RowM w (.slice pa p.1.fs.length pc) p.1.fs.length 3 (mkV 3 patField (K + 1))) := by rw [hpv] at hM; exact hM
      rw [hpv] at d1
      clear hp hM HSL hpv
      have GT0 : Hid (∀ wx : World, Calls Tryz.prog 49 #[.int .i64 (K : Int)] wx fun e w' => e = .returned (.string (mkT K)) ∧ Below wx.heap.size wx w') := fun wx => markText_any K (by omega) wx
      have HD := toHid (And.intro d0 d1)
      clear d0 d1
      obtain ⟨d0, d1⟩ := HD.out
      have c0 := cell_keep HBW.out (Nat.le_refl _) d0
      have c1 := cell_keep HBW.out (Nat.le_refl _) d1
      clear d0 d1
      have bz : g < wr.heap.size := lt_of_cell c0
      have hne0 := Later.some wr
      have GL0 : Hid (∀ y : Later wr, Calls Tryz.prog 49 #[.int .i64 (K : Int)] y.val fun e w'' => e = .returned (.string (mkT K)) ∧ ∃ z : Later wr, w'' = z.val) := fun y => Calls.later (GT0.out y.val)
      go_wp2
      refine wp_region_later (by kernel_rfl) (by kernel_rfl) ?_
      repeat (go_big_quiet_step (first | (go_at_call 49; exact GL0.out _)))
      refine wpQuiet_nil ?_
      rintro _ ⟨x0, rfl⟩
      have HBN0 : Hid (Below w.heap.size w x0.val) := below_step HBW.out x0.below
      generalize x0.val = w0 at *
      clear c0 c1 bz HBW GL0 hne0
      have HBW := HBN0
      clear HBN0
      obtain ⟨d0, d1⟩ := HD.out
      have c0 := cell_keep HBW.out (Nat.le_refl _) d0
      have c1 := cell_keep HBW.out (Nat.le_refl _) d1
      clear d0 d1
      have HW : Hid (Calls Tryz.prog 82 #[.slice pa p.1.fs.length pc, .int .i64 ((K : Int) + 1)] w0 fun e w' => e = .returned (.int .i64 ((K + 1 + p.1.fs.length * 3 : Nat) : Int)) ∧ Below w0.heap.size w0 w') := by
        have h := heldFieldG_any _ p.1.fs.length (K + 1) _ (HRM.out.keep HBW.out) hfl (by omega)
        rw [show ((K + 1 : Nat) : Int) = (K : Int) + 1 by push_cast; rfl] at h
        exact h
      go_wp2_with fail
      refine HW.out.mono ?_
      rintro e w2 ⟨rfl, hb2⟩
      have HB2 : Hid (Below w.heap.size w w2) := below_step HBW.out hb2
      clear hb2 HW HBW c0 c1
      generalize hK2 : K + 1 + p.1.fs.length * 3 = K2 at *
      have hK20 : (0 : Int) ≤ (K2 : Int) := by omega
      go_wp2
      exact ⟨⟨m + 1, K2, by omega, by go_num, HT, rfl, HB2⟩, by simp [intOf]; omega⟩
    · have HF : Hid (m = l.length) := by show m = l.length; omega
      go_wp2
      go_ret
      have h2 := HQ.out
      rw [HF.out] at h2
      exact ⟨ret_int (by rw [h2]), HBW.out⟩
end Go.Proofs.YtfjblenkcfdbiaaGreat

/-
  append of whatever slice (nil too) onto a row of one's own.
-/
namespace Go.Proofs.YtfjblenkcfdbiaaGreat
open Go.RowKit
set_option linter.unusedSimpArgs false
set_option linter.unusedVariables false

section
variable {P : Program} (w : World)

theorem run_append_any (base : Nat) (t ty e : TypeId) (i : TypeInfo) (z : Value) (size bytes : Nat) (ht : P.underlying t = some (.slice e)) (hi : P.info? e = some i) (hz : i.zero = some z)
    (hsize : i.size = size) (hby : i.bytes = bytes) (hzs : z.cells.size = size) (hsz : 0 < size)
    (v : Value) (n : Nat) (xs : List Value) (hown : w.ownsRow base e size v n xs)
    (ao : Option Addr) (m c : Nat) (news : List Value) (hsrc : m = 0 ∨ ∃ ad, ao = some ad ∧ ∀ j u, news[j]? = some u → w.cell? (ad.add j) = some u) (hl : news.length = m * size) (h1 : ∀ u ∈ news, u.oneCell' = true)
    (h63 : n + m ≤ maxLen) (hbytes : (n + m) * bytes ≤ 140737488355328) (hbase : base ≤ w.heap.size) :
    ∃ v' w', (Builtin.append_ #[t, t] ty #[v, .slice ao m c]).run P w = .ok v' w' ∧ w'.ownsRow base e size v' (n + m) (xs ++ news) ∧ w.grownBy w' v.ownBlock ∧ (v'.ownBlock = v.ownBlock ∨ v'.ownBlock = some w.heap.size) := by
  have hnil : m = 0 → news = [] := fun h0 => List.eq_nil_of_length_eq_zero (by rw [hl, h0, Nat.zero_mul])
  cases ao with
  | some ad =>
    obtain ⟨v', w', h2, h3, h4, _, h5⟩ := run_append_own_at (P := P) w base t ty e i z size bytes ht hi hz hsize hby hzs hsz v n xs hown ad m c news hl (by
      rcases hsrc with h0 | ⟨ad', h0, h⟩
      · rw [hnil h0]; intro j u hu; simp at hu
      · cases h0; exact h) h1 h63 hbytes hbase
    exact ⟨v', w', h2, h3, h4, h5⟩
  | none =>
    rcases hsrc with rfl | ⟨_, h0, _⟩
    · refine ⟨v, w, ?_, by rw [hnil rfl, List.append_nil, Nat.add_zero]; exact hown, ⟨rfl, rfl, rfl, Nat.le_refl _, fun _ _ _ => rfl⟩, .inl rfl⟩
      rcases hown.2 with ⟨rfl, rfl⟩ | ⟨g, cap, cur, rfl, hbg, hg, hnc, hcm, hcs, htake⟩
      · simp [Builtin.append_, run_underlying ht, sizeOf, typeInfo, hi, Builtin.lenOf, Builtin.firstCells, loadCells, loadCellsFrom]
      · simp [Builtin.append_, run_underlying ht, sizeOf, typeInfo, hi, Builtin.lenOf, Builtin.firstCells, loadCells, loadCellsFrom, storeCells, hnc]
    · cases h0

theorem wp_append_any {o : Oper} {a : Act} {K : Act → World → Prop} {Q : Exit → Act → World → Prop} (s x : Operand) (t : TypeId)
    (ho : o.op = .call { callee := .builtin .append, args := #[s, x], argTypes := #[t, t] })
    (base : Nat) (e : TypeId) (i : TypeInfo) (z : Value) (size bytes : Nat) (ht : P.underlying t = some (.slice e)) (hi : P.info? e = some i) (hz : i.zero = some z)
    (hsize : i.size = size) (hby : i.bytes = bytes) (hzs : z.cells.size = size) (hsz : 0 < size)
    (v : Value) (n : Nat) (xs : List Value) (hs : a.eval s = v) (hown : w.ownsRow base e size v n xs)
    (ao : Option Addr) (m c : Nat) (news : List Value) (hx : a.eval x = .slice ao m c) (hsrc : m = 0 ∨ ∃ ad, ao = some ad ∧ ∀ j u, news[j]? = some u → w.cell? (ad.add j) = some u) (hl : news.length = m * size) (h1 : ∀ u ∈ news, u.oneCell' = true)
    (h63 : n + m ≤ maxLen) (hbytes : (n + m) * bytes ≤ 140737488355328) (hbase : base ≤ w.heap.size)
    (h : ∀ v' w', w'.ownsRow base e size v' (n + m) (xs ++ news) → w.grownBy w' v.ownBlock → (v'.ownBlock = v.ownBlock ∨ v'.ownBlock = some w.heap.size) → K (a.put o.dst v') w') : o.wp P a w K Q := by
  obtain ⟨v', w', hr, h2, h3, h4⟩ := run_append_any (P := P) w base t o.type e i z size bytes ht hi hz hsize hby hzs hsz v n xs hown ao m c news hsrc hl h1 h63 hbytes hbase
  unfold Oper.wp execOp
  simp only [ho, resolve, invoke, builtin, Sem.run_bind, Sem.run_pure, Result.andThen_ok, List.map_toArray, List.map_cons, List.map_nil, hs, hx, hr]
  exact h v' w' h2 h3 h4

theorem wpList_append_any {ops : Array Oper} {rest : List Oper} {o : Oper} {a : Act} {Q : Exit → Act → World → Prop} (hgd : o.guard = none) (s x : Operand) (t : TypeId)
    (ho : o.op = .call { callee := .builtin .append, args := #[s, x], argTypes := #[t, t] })
    (base : Nat) (e : TypeId) (i : TypeInfo) (z : Value) (size bytes : Nat) (ht : P.underlying t = some (.slice e)) (hi : P.info? e = some i) (hz : i.zero = some z)
    (hsize : i.size = size) (hby : i.bytes = bytes) (hzs : z.cells.size = size) (hsz : 0 < size)
    (v : Value) (n : Nat) (xs : List Value) (hs : a.eval s = v) (hown : w.ownsRow base e size v n xs)
    (ao : Option Addr) (m c : Nat) (news : List Value) (hx : a.eval x = .slice ao m c) (hsrc : m = 0 ∨ ∃ ad, ao = some ad ∧ ∀ j u, news[j]? = some u → w.cell? (ad.add j) = some u) (hl : news.length = m * size) (h1 : ∀ u ∈ news, u.oneCell' = true)
    (h63 : n + m ≤ maxLen) (hbytes : (n + m) * bytes ≤ 140737488355328) (hbase : base ≤ w.heap.size)
    (h : ∀ v' w', w'.ownsRow base e size v' (n + m) (xs ++ news) → w.grownBy w' v.ownBlock → (v'.ownBlock = v.ownBlock ∨ v'.ownBlock = some w.heap.size) → wpList P ops Q rest (a.put o.dst v') w') : wpList P ops Q (o :: rest) a w :=
  wpList_plain hgd fun _ hK => wp_append_any w s x t ho base e i z size bytes ht hi hz hsize hby hzs hsz v n xs hs hown ao m c news hx hsrc hl h1 h63 hbytes hbase fun v' w' h2 h3 h4 => hK _ _ (h v' w' h2 h3 h4)

theorem step_append_any {ops : Array Oper} {o : Oper} {a : Act} {K : Act → World → Prop} {Q : Exit → Act → World → Prop} {E : Prop} (hgd : o.guard = none) (s x : Operand) (t : TypeId)
    (ho : o.op = .call { callee := .builtin .append, args := #[s, x], argTypes := #[t, t] })
    (base : Nat) (e : TypeId) (i : TypeInfo) (z : Value) (size bytes : Nat) (ht : P.underlying t = some (.slice e)) (hi : P.info? e = some i) (hz : i.zero = some z)
    (hsize : i.size = size) (hby : i.bytes = bytes) (hzs : z.cells.size = size) (hsz : 0 < size)
    (v : Value) (n : Nat) (xs : List Value) (hs : a.eval s = v) (hown : w.ownsRow base e size v n xs)
    (ao : Option Addr) (m c : Nat) (news : List Value) (hx : a.eval x = .slice ao m c) (hsrc : m = 0 ∨ ∃ ad, ao = some ad ∧ ∀ j u, news[j]? = some u → w.cell? (ad.add j) = some u) (hl : news.length = m * size) (h1 : ∀ u ∈ news, u.oneCell' = true)
    (h63 : n + m ≤ maxLen) (hbytes : (n + m) * bytes ≤ 140737488355328) (hbase : base ≤ w.heap.size)
    (h : ∀ v' w', w'.ownsRow base e size v' (n + m) (xs ++ news) → w.grownBy w' v.ownBlock → (v'.ownBlock = v.ownBlock ∨ v'.ownBlock = some w.heap.size) → K (a.put o.dst v') w') :
    if Region.wanted o (yielded ops a.tmps) = true then Oper.wp P o a w K Q else E := by
  have hw : Region.wanted o (yielded ops a.tmps) = true := by simp [Region.wanted, hgd]
  rw [if_pos hw]
  exact wp_append_any w s x t ho base e i z size bytes ht hi hz hsize hby hzs hsz v n xs hs hown ao m c news hx hsrc hl h1 h63 hbytes hbase h
theorem step_store_rowC {ops : Array Oper} {o : Oper} {a : Act} {w : World} {K : Act → World → Prop} {Q : Exit → Act → World → Prop} {E : Prop} (hgd : o.guard = none) (ty : TypeId) (x y : Operand) (ho : o.op = .store ty x y)
    (g : Nat) (cells : Array Value) (hx : a.eval x = .pointer (some ⟨g, 0, none⟩)) (hy : a.eval y = .agg cells)
    (t : TypeId) (old : Array Value) (hg : w.heap[g]? = some (.cells old t (0, 0))) (hi : (P.info? ty).map (·.size) = some cells.size)
    (hold : old.size = cells.size) (h1 : cells.all (·.oneCell') = true)
    (h : K (a.put o.dst undef) (w.setRow g cells)) : if Region.wanted o (yielded ops a.tmps) = true then Oper.wp P o a w K Q else E := by
  have hw : Region.wanted o (yielded ops a.tmps) = true := by simp [Region.wanted, hgd]
  rw [if_pos hw]
  exact wp_store_row ty x y ho g cells hx hy t old hg hi hold h1 h
end
end Go.Proofs.YtfjblenkcfdbiaaGreat
