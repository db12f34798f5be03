/-
  For the proof of take_holds: part 17 (Sort0, Sort1, Keys2, Cbase2, Ents0).
-/
import Derived.Shelf.SlSortCmp.WholeK
import Derived.Shelf.Lay
import Derived.Ground.SlsfProg
import Derived.Deep.AppendLies
import Derived.Test.YtfjblenkcfdbiaaGreatRowTakeJ16
/-
  impl: slices.SortFunc at keys, by compareKeys: what the row holds behind it.
-/
namespace Go.Proofs.YtfjblenkcfdbiaaGreat
open Go.RowKit Go.Shelf Go.Lib Go.Sort
set_option linter.unusedSimpArgs false
set_option linter.unusedVariables false

def mkC (p : KeyP) : Chg := ⟨p.1, p.2, 0, ⟨#[]⟩⟩
def cfP (p q : KeyP) : Int := cmpK (mkC p) (mkC q)
def ltP (p q : KeyP) : Bool := keyLt (mkC p) (mkC q)
theorem keyEq_self (a : Chg) : keyEq a a = true := keyEq_iff.2 ⟨rfl, rfl⟩
theorem ltP_irrefl (p : KeyP) : ltP p p = false := by
  cases h : ltP p p with
  | false => rfl
  | true => have := keyLt_ne h; rw [keyEq_self] at this; cases this
theorem lt_cf (p q : KeyP) : ltOf cfP p q = ltP p q := by
  unfold ltOf cfP ltP
  rw [cmpK_eq]
  cases keyLt (mkC p) (mkC q) <;> cases keyEq (mkC p) (mkC q) <;> simp
theorem ltP_trans {p q r : KeyP} (h : ltP p q = true) (k : ltP q r = true) : ltP p r = true := keyLt_trans h k
theorem ltP_total {p q : KeyP} (h : ltP p q = false) (k : ltP q p = false) : p = q := by
  cases he : keyEq (mkC p) (mkC q) with
  | true => obtain ⟨h1, h2⟩ := keyEq_iff.1 he; exact Prod.ext h1 h2
  | false => have := keyGt h he; unfold ltP at k; rw [k] at this; cases this
theorem swoP : SWO (ltOf cfP) where
  irrefl x := by rw [lt_cf]; exact ltP_irrefl x
  trans x y z h1 h2 := by rw [lt_cf] at *; exact ltP_trans h1 h2
  ntrans x y z h1 h2 := by
    rw [lt_cf] at *
    cases h : ltP x z with
    | false => rfl
    | true =>
      cases h3 : ltP y x with
      | true => rw [ltP_trans h3 h] at h2; cases h2
      | false => rw [ltP_total h1 h3] at h; rw [h] at h2; cases h2
/-- Two lists of the same keys, both in order, are one. -/
theorem sorted_one {a b : List KeyP} (hp : a.Perm b) (ha : a.Pairwise fun p q => ltP q p = false) (hb : b.Pairwise fun p q => ltP q p = false) : a = b :=
  hp.eq_of_pairwise (fun x y _ _ h1 h2 => ltP_total h2 h1) ha hb

theorem grow_of {w w' : World} (h : Below w.heap.size w w') (hd : w.drawn ≤ w'.drawn) : ∃ q os', w' = grow (w.drewN q) os' := by
  obtain ⟨hp, tp, dr, os, out⟩ := w
  obtain ⟨hp', tp', dr', os', out'⟩ := w'
  obtain ⟨h1, h2, h3, h4, h5⟩ := h
  dsimp only at h1 h2 h3 h4 h5 hd
  subst h1 h2 h3
  refine ⟨dr' - dr, hp'.extract hp.size hp'.size, ?_⟩
  simp only [grow, World.drewN, World.mk.injEq]
  refine ⟨?_, by first | rfl | trivial, by omega, by first | rfl | trivial, by first | rfl | trivial⟩
  apply Array.ext
  · simp; omega
  · intro i h6 h7
    by_cases hi : i < hp.size
    · have := h5 i hi
      rw [Array.getElem?_eq_getElem h6, Array.getElem?_eq_getElem hi] at this
      rw [Array.getElem_append_left hi]
      exact Option.some.inj this
    · rw [Array.getElem_append_right (by omega), Array.getElem_extract]
      congr 1
      omega

set_option maxHeartbeats 1600000 in
theorem compareKeys_grow (a b : Chg) (w : World) : Calls Tryz.prog 110 #[.agg #[.string a.f, .int .i64 a.what], .agg #[.string b.f, .int .i64 b.what]] w fun e w' => e = .returned (.int .i64 (cmpK a b)) ∧ ∃ q os', w' = grow (w.drewN q) os' := by
  have HK : Hid (cmpK a b = orI (cmpS a.f b.f) (cmpN a.what b.what)) := rfl
  have HX0 : Hid (OwnAt w ((w.alloc (.cells #[.string a.f, .int .i64 a.what] 106)).alloc (.cells #[.string b.f, .int .i64 b.what] 106)) [[.string a.f, .int .i64 a.what], [.string b.f, .int .i64 b.what]]) := ((OwnAt.start w).push rfl _ _).push (by simp) _ _
  have HD0 : Hid (w.drawn ≤ ((w.alloc (.cells #[.string a.f, .int .i64 a.what] 106)).alloc (.cells #[.string b.f, .int .i64 b.what] 106)).drawn) := Nat.le_refl w.drawn
  go_enter Tryz.func110, Tryz.ntmps110
  go_wp2
  generalize (w.alloc (.cells #[.string a.f, .int .i64 a.what] 106)).alloc (.cells #[.string b.f, .int .i64 b.what] 106) = w1 at *
  go_region_held3 (fun w' => (w'.cell? ⟨w.heap.size, 0, none⟩ = some (.string a.f) ∧ w'.cell? ⟨w.heap.size, 1, none⟩ = some (.int .i64 a.what) ∧ w'.cell? ⟨w.heap.size + 1, 0, none⟩ = some (.string b.f) ∧ w'.cell? ⟨w.heap.size + 1, 1, none⟩ = some (.int .i64 b.what)) ∧ (OwnAt w w' [[.string a.f, .int .i64 a.what], [.string b.f, .int .i64 b.what]] ∧ w.drawn ≤ w'.drawn))
    (first | (have ha := HX0.out.call (Below.refl _ w1).drew; exact ⟨⟨(ha.has 0 _ rfl 0 _ rfl).1, (ha.has 0 _ rfl 1 _ rfl).1, (ha.has 1 _ rfl 0 _ rfl).1, (ha.has 1 _ rfl 1 _ rfl).1⟩, ha, Nat.le_succ_of_le HD0.out⟩) | (have ha := HX0.out.call ((Below.refl _ w1).alloc (Nat.le_refl _) (.cells #[.int .i64 (cmpS a.f b.f), .int .i64 (cmpN a.what b.what)] 3)).drew; exact ⟨⟨(ha.has 0 _ rfl 0 _ rfl).1, (ha.has 0 _ rfl 1 _ rfl).1, (ha.has 1 _ rfl 0 _ rfl).1, (ha.has 1 _ rfl 1 _ rfl).1⟩, ha, Nat.le_succ_of_le HD0.out⟩) | (exact ‹_ ∧ (OwnAt w _ _ ∧ _)›))
    (first | (go_at_call 125; refine (strCompare_any _ _ _).mono ?_; rintro e w3 ⟨rfl, rfl⟩) | (go_at_call 126; refine (cmpCompare_any _ _ _).mono ?_; rintro e w3 ⟨rfl, rfl⟩) | (go_at_call 124; refine (cmpOr_any w1.heap.size (cmpS a.f b.f) (cmpN a.what b.what) _ (by simp [go_sem]) (by simp [go_sem])).mono ?_; rintro e w3 ⟨rfl, rfl⟩))
  all_goals go_wp2
  all_goals go_ret
  all_goals exact ⟨ret_int HK.out.symm, grow_of (‹_ ∧ (OwnAt w _ _ ∧ _)›).2.1.below (‹_ ∧ (OwnAt w _ _ ∧ _)›).2.2⟩

shelf_lay_g SlLaysF0.n6 Slsf 6 at Tryz 122 as Tryz.sortKeys
theorem keyRow_length (p : KeyP) : (keyRow p).length = 2 := rfl
theorem cmpLaysK (blk off size : Nat) (w : World) : CmpLays Tryz.prog 110 #[] keyRow 2 cfP blk off size w := fun m os dk _ x y => compareKeys_grow (mkC x) (mkC y) (sortWorldK keyRow 2 w blk off m dk os)
end Go.Proofs.YtfjblenkcfdbiaaGreat

/-
  impl: slices.SortFunc at keys: a row of one's own, sorted.
-/
namespace Go.Proofs.YtfjblenkcfdbiaaGreat
open Go.RowKit Go.Shelf Go.Lib Go.Sort
set_option linter.unusedSimpArgs false
set_option linter.unusedVariables false

theorem keyRows_get : ∀ (ss : List KeyP) (t : Nat), (keyRows ss)[t]? = (ss[t / 2]?).bind fun p => (keyRow p)[t % 2]?
  | [], t => by simp [keyRows]
  | p :: l, 0 => rfl
  | p :: l, 1 => rfl
  | p :: l, t + 2 => by
    have h1 : (t + 2) / 2 = t / 2 + 1 := by omega
    have h2 : (t + 2) % 2 = t % 2 := by omega
    rw [h1, h2]
    have := keyRows_get l t
    simpa [keyRows, keyRow] using this
theorem keyRows_length (ss : List KeyP) : (keyRows ss).length = ss.length * 2 := by
  induction ss with
  | nil => rfl
  | cons a l ih => simp only [keyRows, List.flatMap_cons, List.length_append] at ih ⊢; rw [ih]; simp [keyRow]; omega
theorem flat_get (ss : List KeyP) (t : Nat) (h : t < ss.length * 2) : (keyRows ss)[t]? = some ((flatK keyRow 2 ss.toArray)[t]!) := by
  rw [keyRows_get, get_flatK keyRow 2 ss.toArray t (by simpa using h)]
  have h1 : t / 2 < ss.length := by omega
  have h2 : t % 2 < (keyRow (ss[t / 2])).length := by rw [keyRow_length]; omega
  rw [List.getElem?_eq_getElem h1, Option.bind_some, List.getElem?_eq_getElem h2]
  congr 1
  have e : ss.toArray[t / 2]! = ss[t / 2] := by simp [h1]
  rw [e, getElem!_pos (keyRow (ss[t / 2])) (t % 2) h2]
theorem holds_row {w : World} {g : Nat} {cur : Array Value} {e : TypeId} {ss : List KeyP} (hb : w.heap[g]? = some (.cells cur e (0, 0))) (ht : cur.toList.take (ss.length * 2) = keyRows ss) : HoldsK keyRow 2 w g 0 ss.toArray := by
  intro t hs
  have hs' : t < ss.length * 2 := by simpa using hs
  have h1 := flat_get ss t hs'
  rw [← ht, List.getElem?_take, if_pos hs'] at h1
  refine ⟨?_, ?_⟩
  · simp only [Nat.zero_add, World.cell?, hb, Option.isSome_none, Bool.false_eq_true, if_false, id]
    simpa using h1
  · exact Lib.frozen_of_heap hb _
theorem putRow_take (cur : Array Value) (ss : List KeyP) (h : ss.length * 2 ≤ cur.size) : (putCells id 0 (flatK keyRow 2 ss.toArray) cur).toList.take (ss.length * 2) = keyRows ss := by
  apply List.ext_getElem?
  intro t
  rw [List.getElem?_take]
  by_cases ht : t < ss.length * 2
  · rw [if_pos ht, flat_get ss t ht]
    have hc : t < cur.size := by omega
    simp only [putCells, Array.getElem?_toList, Array.getElem?_mapIdx]
    rw [Array.getElem?_eq_getElem hc, Option.map_some, if_pos ⟨Nat.zero_le _, by simp; omega⟩]
    rfl
  · rw [if_neg ht, List.getElem?_eq_none (by rw [keyRows_length]; omega)]

theorem bitsLen0 (w : World) : Calls Tryz.prog 129 #[.int .u64 0] w fun e w' => e = .returned (.int .i64 0) ∧ w' = w := by
  have h := Any.bits_Len (SlLaysF0.n15.bits (P := Tryz.prog) { Tryz.sortKeys with }) (0 : Int) w (by omega) (by omega)
  exact h
set_option maxHeartbeats 1600000 in
theorem insertion_nil (w : World) (f : Value) : Calls Tryz.prog 132 #[.slice none 0 0, .int .i64 0, .int .i64 0, f] w fun e w' => e = .returned (.tuple #[]) ∧ w' = w := by
  go_enter Tryz.func132, Tryz.ntmps132
  go_wp2
  go_loopw [8] (fun i wr => i = .int .i64 1 ∧ wr = w) (fun _ _ => 0)
  case atStart => exact ⟨rfl, rfl⟩
  case round =>
    obtain ⟨rfl, rfl⟩ := hrel
    go_wp2
    go_end0
    exact ⟨rfl, rfl⟩
set_option maxHeartbeats 1600000 in
theorem pdq_nil (w : World) (f : Value) : Calls Tryz.prog 128 #[.slice none 0 0, .int .i64 0, .int .i64 0, .int .i64 0, f] w fun e w' => e = .returned (.tuple #[]) ∧ w' = w := by
  go_enter Tryz.func128, Tryz.ntmps128
  go_wp2
  go_loopw [1, 2] (fun a b wr => a = .int .i64 0 ∧ b = .int .i64 0 ∧ wr = w) (fun _ _ _ => 0)
  case atStart => exact ⟨rfl, rfl, rfl⟩
  case round =>
    obtain ⟨rfl, rfl, rfl⟩ := hrel
    go_wp2_with fail
    refine (insertion_nil _ _).mono ?_
    rintro e w1 ⟨rfl, rfl⟩
    go_wp2
    exact bodyPost_ret (v := .tuple #[]) (by simp [results, Tryz.results128, go_sem]) rfl ⟨rfl, rfl⟩
set_option maxHeartbeats 1600000 in
theorem sort_nil (w : World) (f : Value) : Calls Tryz.prog 122 #[.slice none 0 0, f] w fun e w' => e = .returned (.tuple #[]) ∧ w' = w := by
  go_enter Tryz.func122, Tryz.ntmps122
  go_wp2_with fail
  refine (bitsLen0 w).mono ?_
  rintro e w1 ⟨rfl, rfl⟩
  go_wp2_with fail
  refine (pdq_nil w1 f).mono ?_
  rintro e w2 ⟨rfl, rfl⟩
  go_wp2
  go_end0
  exact ⟨rfl, rfl⟩

set_option maxHeartbeats 1600000 in
theorem sortKeys_any (ss : List KeyP) (v : Value) (B : Nat) (w : World) (ho : w.ownsRow B 106 2 v ss.length (keyRows ss)) (hlen : ss.length ≤ 4194304) :
    Calls Tryz.prog 122 #[v, .func (.func 110) #[] #[]] w fun e w' => e = .returned (.tuple #[]) ∧ ∃ ss' : List KeyP, ss'.Perm ss ∧ (ss'.Pairwise fun p q => ltP q p = false) ∧ w'.ownsRow B 106 2 v ss'.length (keyRows ss') ∧ w.grownBy w' v.ownBlock := by
  have ho' := ho
  obtain ⟨hl, h⟩ := ho
  rcases h with ⟨rfl, h0⟩ | ⟨g, cap, cur, rfl, hB, hb, hn, hc, hsz, ht⟩
  · refine (sort_nil w _).mono ?_
    rintro e w' ⟨rfl, rfl⟩
    have : ss = [] := List.length_eq_zero_iff.1 h0
    subst this
    exact ⟨rfl, [], List.Perm.nil, List.Pairwise.nil, ho', World.grownBy.refl _ _⟩
  · have eg : ∀ args w, (callFunc 110 args).run Tryz.prog w = .ok (.enter 110 args) w := enters_of Tryz.func110 (by kernel_rfl) rfl
    have hlt : g < w.heap.size := (Array.getElem?_eq_some_iff.1 hb).1
    have hcon := AnyQ.slices_SortFunc Tryz.sortKeys 2 Tryz.isAgg106 Tryz.sizeOf106 keyRow keyRow_length (fun x u hu => by simp [keyRow] at hu; rcases hu with rfl | rfl <;> rfl) cfP swoP 110 #[] g 0 cap ss.toArray w eg (cmpLaysK g 0 _ w) (holds_row hb ht) hlt (by simp; omega)
    change Calls Tryz.prog 122 _ _ _ at hcon
    have e0 : ss.toArray.size = ss.length := by simp
    rw [e0] at hcon
    refine hcon.mono ?_
    rintro e w' ⟨rfl, d', n, os, ⟨hs', _, hp⟩, hso, rfl⟩
    have hsz' : d'.toList.length = ss.length := by simpa using hs'
    have hd : d' = d'.toList.toArray := by simp
    have hx1 : (d'.extract 0 ss.length).toList = d'.toList := by rw [show ss.length = d'.size by simpa using hs'.symm]; simp
    have hx2 : (ss.toArray.extract 0 ss.length).toList = ss := by simp
    rw [hx1, hx2] at hp
    refine ⟨rfl, d'.toList, hp, ?_, ?_, ?_⟩
    · rw [List.pairwise_iff_getElem]
      intro i j hi hj hij
      have := hso i j (Nat.zero_le _) hij (by rw [← hsz']; exact hj)
      rw [lt_cf] at this
      have e1 : d'[j]! = d'.toList[j] := by rw [getElem!_pos d' j (by simpa using hj)]; simp
      have e2 : d'[i]! = d'.toList[i] := by rw [getElem!_pos d' i (by simpa using hi)]; simp
      rw [e1, e2] at this
      exact this
    · refine ⟨keyRows_length _, .inr ⟨g, cap, putCells id 0 (flatK keyRow 2 d'.toList.toArray) cur, by rw [hsz'], hB, ?_, by omega, hc, by simp [putCells, hsz], ?_⟩⟩
      · rw [← hd]
        simp only [sortWorldK, grow, putRowK, putRow, mapBlock, Sort.ahead]
        rw [Array.getElem?_append_left (by simpa using hlt), Array.getElem?_modify, if_pos rfl, hb]
        rfl
      · exact putRow_take cur d'.toList (by rw [hsz', hsz]; exact Nat.mul_le_mul_right 2 hn)
    · refine ⟨rfl, rfl, rfl, by simp [sortWorldK, grow, putRowK, putRow, mapBlock, Sort.ahead], fun k hk hne => ?_⟩
      simp only [sortWorldK, grow, putRowK, putRow, mapBlock, Sort.ahead]
      have hne' : ¬ g = k := fun e => hne (by rw [e]; rfl)
      rw [Array.getElem?_append_left (by simpa using hk), Array.getElem?_modify, if_neg hne']
end Go.Proofs.YtfjblenkcfdbiaaGreat

/-
  impl: the keys of the map, sorted.
-/
namespace Go.Proofs.YtfjblenkcfdbiaaGreat
open Go.RowKit
set_option linter.unusedSimpArgs false
set_option linter.unusedVariables false

def kyOf (c : Chg) : KeyP := (c.f, c.what)
theorem perm_of_mem : ∀ (a b : List KeyP), a.Nodup → b.Nodup → (∀ p, p ∈ a ↔ p ∈ b) → a.Perm b
  | [], b, _, _, h => by
    have : b = [] := List.eq_nil_iff_forall_not_mem.2 fun p hp => by have := (h p).2 hp; simp at this
    rw [this]
  | x :: a, b, ha, hb, h => by
    have hx : x ∈ b := (h x).1 (by simp)
    rw [List.nodup_cons] at ha
    obtain ⟨s, t, rfl⟩ := List.append_of_mem hx
    have hb' : (x :: (s ++ t)).Nodup := (List.perm_middle.nodup_iff).1 hb
    rw [List.nodup_cons] at hb'
    refine List.Perm.trans (List.Perm.cons x (perm_of_mem a (s ++ t) ha.2 hb'.2 fun p => ?_)) List.perm_middle.symm
    have hp := h p
    simp only [List.mem_cons, List.mem_append] at hp ⊢
    by_cases e : p = x
    · subst e
      simp only [List.mem_append] at hb'
      exact ⟨fun h1 => absurd h1 ha.1, fun h1 => absurd h1 hb'.1⟩
    · simp only [e, false_or] at hp
      exact hp
theorem keys_sorted {S : List Chg} (h : SortedC S) : (S.map kyOf).Pairwise fun p q => ltP q p = false := by
  rw [List.pairwise_map]
  refine List.Pairwise.imp ?_ h
  intro a b hab
  cases hq : ltP (kyOf b) (kyOf a) with
  | false => rfl
  | true =>
    have h1 : ltP (kyOf a) (kyOf b) = true := hab
    have := ltP_trans h1 hq
    rw [ltP_irrefl] at this; cases this
theorem keys_nodup {S : List Chg} (h : SortedC S) : (S.map kyOf).Nodup := by
  unfold List.Nodup
  rw [List.pairwise_map]
  refine List.Pairwise.imp ?_ h
  intro a b hab e
  have h1 : ltP (kyOf a) (kyOf b) = true := hab
  rw [e, ltP_irrefl] at h1; cases h1

set_option maxRecDepth 100000 in
set_option maxHeartbeats 3200000 in
theorem sortedKeys_any (b n : Nat) (S : List Chg) (w : World) (h : MapIs w b n S) (hS : SortedC S) (hfit : ∀ c ∈ S, KeyFit c) (hn : n ≤ 4194304) :
    Calls Tryz.prog 106 #[.map (some b)] w fun e w' => ∃ v, e = .returned v ∧ w'.ownsRow w.heap.size 106 2 v S.length (keyRows (S.map kyOf)) ∧ Below w.heap.size w w' := by
  obtain ⟨i0, hi, hz0, hz1, hz2⟩ := info_parts infoKey
  obtain ⟨D, hown, hD, hat⟩ := h
  have HH : Hid (∀ k : Chg, KeyFit k → Maps.has D (klK k.f k.what) = S.any fun a => keyEq a k) := fun k hk => MapIs.has hat k hk
  clear hat
  go_enter Tryz.func106, Tryz.ntmps106
  go_wp2_with (first
    | (at_range; refine wpList_range_own _ rfl _ 104 rfl 106 62 keyedK Tryz.underlying104 _ b n _ rfl hown ?_; intro w0 hrg0 hg0 hs0)
    | go_in)
  go_frame
  go_loopw [3, 4] (fun o _ wr => ∃ (ss : List KeyP) (left : Lit → Bool) (cnt : Nat), wr.ranges Tryz.prog 106 RF b w.heap.size n D left cnt ∧ wr.ownsRow w.heap.size 106 2 o ss.length (keyRows ss) ∧ Below w.heap.size w wr ∧ CollK D left ss ∧ ss.length + cnt ≤ n) (fun _ _ wr => wr.rangeLeft b w.heap.size)
  case atStart => exact ⟨[], _, _, hrg0, ⟨rfl, .inl ⟨rfl, rfl⟩⟩, ⟨hg0.os, hg0.tape, hg0.output, hg0.size, fun k hk => hg0.block k hk (by simp)⟩, CollK.start D, by simpa using size_le hown⟩
  case round =>
    obtain ⟨ss, left, cnt, hrg, ho, hbl, hcoll, hcn⟩ := hrel
    go_wp2_with (first
      | (at_next; refine wpList_next_ranges _ rfl _ rfl 106 keyedK RF keyV (fun f : Fld => Value.agg #[.int .i64 f.what, .int .i64 f.num, .string f.v]) (fun key kl hk => by obtain ⟨f, n, rfl, _⟩ := keyOf_inv hk; exact ⟨(f, n), rfl⟩) RF_shape b w.heap.size n _ _ _ rfl hrg ?_ ?_)
      | go_in)
    · intro _ hl0
      have HC : Hid (∀ p : KeyP, FitP p → (p ∈ ss ↔ ∃ c ∈ S, c.f = p.1 ∧ c.what = p.2)) := fun p hp => by
        rw [hcoll.2.2 p hp, hl0, HH.out ⟨p.1, p.2, 0, ⟨#[]⟩⟩ hp]
        simp [keyEq]
      have HO : Hid (ss.Nodup ∧ (∀ p ∈ ss, FitP p) ∧ wr.ownsRow w.heap.size 106 2 u3 ss.length (keyRows ss) ∧ Below w.heap.size w wr) := ⟨hcoll.1, hcoll.2.1, ho, hbl⟩
      clear hrg ho hbl hcoll hrg0 hown hl0 hg0
      have HP : Hid (ss.Perm (S.map kyOf)) := perm_of_mem _ _ HO.out.1 (keys_nodup hS) fun p => ⟨fun hp => by
          obtain ⟨c, hc, h1, h2⟩ := (HC.out p (HO.out.2.1 p hp)).1 hp
          exact List.mem_map.2 ⟨c, hc, Prod.ext h1 h2⟩, fun hp => by
          obtain ⟨c, hc, rfl⟩ := List.mem_map.1 hp
          exact (HC.out (kyOf c) (show FitP (kyOf c) from hfit c hc)).2 ⟨c, hc, rfl, rfl⟩⟩
      have hlen : ss.length ≤ 4194304 := by omega
      go_wp2_with fail
      refine (sortKeys_any ss u3 w.heap.size wr HO.out.2.2.1 hlen).mono ?_
      rintro e w1 ⟨rfl, ss', hp', hs', ho', hg'⟩
      have HE : Hid (ss' = S.map kyOf) := sorted_one (hp'.trans HP.out) hs' (keys_sorted hS)
      have HF : Hid (w1.ownsRow w.heap.size 106 2 u3 S.length (keyRows (S.map kyOf)) ∧ Below w.heap.size w w1) := by
        have h1 := ho'
        rw [HE.out, List.length_map] at h1
        exact ⟨h1, HO.out.2.2.2.grown hg' HO.out.2.2.2.size (own_ge HO.out.2.2.1)⟩
      clear hp' hs' ho' hg'
      go_wp2
      go_ret
      exact ⟨_, rfl, HF.out.1, HF.out.2⟩
    · intro pf pn f kl y1 y2 w1 cnt1 hkey hlk hv hat hrg1 hlt hg1 hs1 hen
      obtain ⟨f', n', hpe, hp1, hp2, rfl⟩ := keyOf_inv hkey
      simp only [keyV, Value.agg.injEq, Array.mk.injEq, List.cons.injEq, Value.string.injEq, Value.int.injEq, and_true, true_and] at hpe
      obtain ⟨rfl, rfl⟩ := hpe
      dsimp only [keyV] at *
      have hfp : FitP (pf, pn) := ⟨hp1, hp2⟩
      have HCO : Hid (CollK D (fun z => left z && !z.sameKey (klK pf pn)) (ss ++ [(pf, pn)])) := CollK.step (p := (pf, pn)) hcoll hfp hlk (Maps.has_true_of_atKey (y := y1) hat)
      have ho1 : w1.ownsRow w.heap.size 106 2 u3 ss.length (keyRows ss) := ownsRow_farF ho hg1 (fun k hk => (ranges_row hrg ho k hk).1)
      have hbl1 : Below w.heap.size w w1 := hbl.grown hg1 hbl.size (fun k e => by cases e; exact Nat.le_refl _)
      have HRG : Hid (w1.ranges Tryz.prog 106 RF b w.heap.size n D (fun z => left z && !z.sameKey (klK pf pn)) cnt1) := hrg1
      have hms : wr.rangeLeft b w.heap.size = cnt := hrg.left_eq
      have HRB : Hid (∀ k, u3.ownBlock = some k → w.heap.size < k ∧ k ≠ b) := fun k hk => by
        have h1 := ranges_row hrg ho k hk
        have h2 := own_ge ho k hk
        refine ⟨?_, fun e => h1.2 (by rw [e])⟩
        have h3 : k ≠ w.heap.size := fun e => h1.1 (by rw [e])
        omega
      have hsz1 := hbl1.size
      clear hrg hrg1 hcoll ho hbl hg1 hat hv hkey hlk hrg0 hg0 hown
      clear hs1
      have hcn1 : ss.length + 1 + cnt1 ≤ n := by omega
      have hl4 : ss.length ≤ 4194304 := by omega
      have HBD : Hid (∀ k, u3.ownBlock = some k → w.heap.size < k ∧ k ≠ b) := HRB.out
      have HNW : Hid (∀ (j : Nat) (u : Value), (keyRow (pf, pn))[j]? = some u → ((w1.alloc (.cells #[.string pf, .int .i64 pn] 106)).alloc (.cells #[.string pf, .int .i64 pn] 106)).cell? ((⟨w1.heap.size + 1, 0, none⟩ : Addr).add j) = some u) := by
        have h := cell_two_new (w1.alloc (.cells #[.string pf, .int .i64 pn] 106)) (.string pf) (.int .i64 pn) 106
        rw [World.size_alloc] at h
        exact h
      go_wp2_with (at_builtin; refine wpList_append_own _ rfl _ _ 146 rfl w.heap.size 106 i0 (.agg #[.string ByteArray.empty, .int .i64 0]) 2 24 Tryz.underlying146 hi hz0 hz1 hz2 rfl (by decide) _ _ _ rfl ((ho1.alloc _).alloc _) ⟨w1.heap.size + 1, 0, none⟩ 1 1 (keyRow (pf, pn)) rfl rfl HNW.out (fun x hx => by simp [keyRow] at hx; rcases hx with rfl | rfl <;> rfl) (by unfold maxLen; omega) (by omega) (by simp; omega) ?_; intro v' w3 hown' hgrow3 hnil3)
      have hgr : ((w1.alloc (.cells #[.string pf, .int .i64 pn] 106)).alloc (.cells #[.string pf, .int .i64 pn] 106)).grownBy w3 u3.ownBlock := hgrow3
      have hrg3 := ((HRG.out.alloc (.cells #[.string pf, .int .i64 pn] 106)).alloc (.cells #[.string pf, .int .i64 pn] 106)).kept hgr (fun e => (HBD.out b e.symm).2 rfl) (fun e => Nat.lt_irrefl _ (HBD.out _ e.symm).1)
      refine ⟨⟨ss ++ [(pf, pn)], _, cnt1, hrg3, ?_, ?_, HCO.out, by simp; omega⟩, by rw [hrg3.left_eq, hms]; exact hlt⟩
      · rw [keyRows_snoc, List.length_append]
        exact hown'
      · exact ((hbl1.alloc hsz1 _).alloc (by simp; omega) _).grown hgr (by simp; omega) (fun k hk => Nat.le_of_lt (HBD.out k hk).1)
end Go.Proofs.YtfjblenkcfdbiaaGreat

/-
  impl: a base is copied: the walk.
-/
namespace Go.Proofs.YtfjblenkcfdbiaaGreat
open Go.RowKit
set_option linter.unusedSimpArgs false
set_option linter.unusedVariables false

theorem grown_rowF (w : World) (g : Nat) (cs : Array Value) : w.grownBy (w.setRow g cs) (some g) := ⟨rfl, rfl, rfl, by simp, fun k _ hk => setRow_other _ _ _ _ (fun e => hk (by rw [e]))⟩
set_option maxRecDepth 100000 in
set_option maxHeartbeats 6400000 in
theorem copyBase_any (vk vp : Value) (ks ps : List Tri) (w : World) (hk : TrisAt w vk ks) (hp : TrisAt w vp ps) (lk : ks.length ≤ 1048575) (lp : ps.length ≤ 1048575) (sk : ∀ t ∈ ks, t.s.size ≤ 1048576) (sp : ∀ t ∈ ps, t.s.size ≤ 1048576) :
    Calls Tryz.prog 72 #[.agg #[vk, vp]] w fun e w' => ∃ a1 n1 c1 a2 n2 c2, e = .returned (.agg #[.slice a1 n1 c1, .slice a2 n2 c2]) ∧ (w'.ownsRow (w.heap.size + 3) 116 3 (.slice a1 n1 c1) ks.length (triRows ks) ∧ w'.ownsRow (w.heap.size + 3) 118 3 (.slice a2 n2 c2) ps.length (triRows ps)) ∧ Below w.heap.size w w' := by
  obtain ⟨iK, hiK, hz0K, hz1K, hz2K⟩ := info_parts infoKindC
  obtain ⟨iP, hiP, hz0P, hz1P, hz2P⟩ := info_parts infoPointC
  obtain ⟨ak, ck, rfl, hlk, hmk, hck⟩ := hk
  obtain ⟨ap, cp, rfl, hlp, hmp, hcp⟩ := hp
  unfold maxLen at hmk hmp
  have HK : Hid (∀ i t, ks[i]? = some t → ∃ b off, ak = some ⟨b, off, none⟩ ∧ w.cell? ⟨b, off + i * 3, none⟩ = some (.string t.s) ∧ w.cell? ⟨b, off + i * 3 + 1, none⟩ = some (.int .i64 t.x) ∧ w.cell? ⟨b, off + i * 3 + 2, none⟩ = some (.int .i64 t.y)) := hck
  have HP : Hid (∀ i t, ps[i]? = some t → ∃ b off, ap = some ⟨b, off, none⟩ ∧ w.cell? ⟨b, off + i * 3, none⟩ = some (.string t.s) ∧ w.cell? ⟨b, off + i * 3 + 1, none⟩ = some (.int .i64 t.x) ∧ w.cell? ⟨b, off + i * 3 + 2, none⟩ = some (.int .i64 t.y)) := hcp
  have HSM : Hid ((∀ t ∈ ks, t.s.size ≤ 1048576) ∧ ∀ t ∈ ps, t.s.size ≤ 1048576) := ⟨sk, sp⟩
  clear hck hcp sk sp
  have H0 : Hid (CB w (((w.alloc (.cells #[.slice ak ks.length ck, .slice ap ps.length cp] 36)).alloc (.cells #[.slice none 0 0, .slice none 0 0] 36)).alloc (.cells #[.slice none 0 0, .slice none 0 0] 36)) #[.slice ak ks.length ck, .slice ap ps.length cp] (.slice none 0 0) (.slice none 0 0) [] []) := CB.start w _
  go_enter Tryz.func72, Tryz.ntmps72
  go_wp2
  go_loopw [5, 11] (fun _ i wr => ∃ (k : Nat) (v u : Value), k ≤ ks.length ∧ i = .int .i64 k ∧ (∃ a n c, v = .slice a n c) ∧ (∃ a n c, u = .slice a n c) ∧ CB w wr #[.slice ak ks.length ck, .slice ap ps.length cp] v u (ks.take k) []) (fun _ i _ => ks.length - (intOf i).toNat)
  case atStart => exact ⟨0, _, _, Nat.zero_le _, rfl, ⟨_, _, _, rfl⟩, ⟨_, _, _, rfl⟩, by simpa using H0.out⟩
  case round =>
    clear H0
    obtain ⟨k, v, u, hk, rfl, ⟨va, vn, vc, rfl⟩, ⟨ub, un, uc, rfl⟩, hB⟩ := hrel
    have HB : Hid (CB w wr #[.slice ak ks.length ck, .slice ap ps.length cp] (.slice va vn vc) (.slice ub un uc) (ks.take k) []) := hB
    clear hB
    by_cases hlt : k < ks.length
    · have ht : ks[k]? = some ks[k] := List.getElem?_eq_getElem hlt
      obtain ⟨b, off, rfl, d0', d1', d2'⟩ := HK.out k _ ht
      have d0 := cell_keep HB.out.below (Nat.le_refl _) d0'
      have d1 := cell_keep HB.out.below (Nat.le_refl _) d1'
      have d2 := cell_keep HB.out.below (Nat.le_refl _) d2'
      have hsm := HSM.out.1 _ (List.mem_of_getElem? ht)
      have HT : Hid (ks.take (k + 1) = ks.take k ++ [ks[k]]) := List.take_succ_eq_append_getElem hlt
      have hln : (ks.take k).length + 1 ≤ 1048576 := by simp; omega
      have hlk : (ks.take k).length = k := by simp; omega
      clear d0' d1' d2'
      generalize ks[k] = t at *
      have hk0 : (0 : Int) ≤ (k : Int) := by omega
      have hk1 : (k : Int) < (ks.length : Int) := by omega
      have BA : Hid (Below wr.heap.size wr (wr.alloc (.cells #[.string t.s, .int .i64 t.x, .int .i64 t.y] 116))) := (Below.refl _ _).alloc (Nat.le_refl _) _
      go_wp2_with fail
      refine (clone_any t.s _ hsm).mono ?_
      rintro e w1 ⟨rfl, hb1⟩
      have X1 : w1.heap[wr.heap.size]? = some (.cells #[.string t.s, .int .i64 t.x, .int .i64 t.y] 116) := (hb1.block _ (by simp)).trans (heap_newF wr _)
      have hz1 : wr.heap.size < w1.heap.size := (Array.getElem?_eq_some_iff.1 X1).1
      obtain ⟨q0, q1, q2⟩ : w1.cell? ⟨wr.heap.size, 0, none⟩ = some (.string t.s) ∧ w1.cell? ⟨wr.heap.size, 1, none⟩ = some (.int .i64 t.x) ∧ w1.cell? ⟨wr.heap.size, 2, none⟩ = some (.int .i64 t.y) := by simp [World.cell?, X1]
      have qf : w1.frozen? ⟨wr.heap.size, 0, none⟩ = false := by simp [World.frozen?, X1]
      have hbw : Below wr.heap.size wr w1 := below_step BA.out hb1
      have H2 : Hid (CB w (w1.setCell ⟨wr.heap.size, 0, none⟩ (.string t.s)) _ (.slice va vn vc) (.slice ub un uc) (ks.take k) []) := HB.out.call (below_set hbw _ _ (Nat.le_refl _) _)
      have X2 : Hid ((w1.setCell ⟨wr.heap.size, 0, none⟩ (.string t.s)).heap[wr.heap.size]? = some (.cells #[.string t.s, .int .i64 t.x, .int .i64 t.y] 116)) := by
        show _ = _
        rw [setCell_eq_setRow _ _ _ _ _ _ _ X1]; exact setRow_heap _ _ _ _ _ _ X1
      clear hb1 hbw BA
      go_upto_region 6 with fail
      generalize w1.setCell ⟨wr.heap.size, 0, none⟩ (.string t.s) = w2 at *
      clear q0 q1 q2 qf X1
      obtain ⟨q0, q1, q2⟩ : w2.cell? ⟨wr.heap.size, 0, none⟩ = some (.string t.s) ∧ w2.cell? ⟨wr.heap.size, 1, none⟩ = some (.int .i64 t.x) ∧ w2.cell? ⟨wr.heap.size, 2, none⟩ = some (.int .i64 t.y) := by simp [World.cell?, X2.out]
      obtain ⟨e0, e1⟩ : w2.cell? ⟨w.heap.size + 1 + 1, 0, none⟩ = some (.slice va vn vc) ∧ w2.cell? ⟨w.heap.size + 1 + 1, 1, none⟩ = some (.slice ub un uc) := by simp [World.cell?, H2.out.c]
      have hz2 := H2.out.z
      have ho2 := H2.out.k
      have hc2 := H2.out.c
      go_wp2_with (at_builtin; refine wpList_append_lies _ rfl _ _ 33 rfl (w.heap.size + 3) 116 iK (.agg #[.string ByteArray.empty, .int .i64 0, .int .i64 0]) 3 32 Tryz.underlying33 hiK hz0K hz1K hz2K rfl (by decide) _ _ _ rfl (ho2.alloc _) ⟨w2.heap.size, 0, none⟩ 1 1 (triRow t) rfl rfl (cell_three_new _ _ _ _ _) (fun x hx => by simp [triRow] at hx; rcases hx with rfl | rfl | rfl <;> rfl) (by decide) (by unfold maxLen; omega) (by omega) (by simp; omega) _ rfl ?_; intro g cap w3 hown' hgrow3 hat3 hlt3; have hc3 := (hgrow3.block _ (by simp; omega) (own_other ho2 hc2 (by decide))).trans ((Below.heap_alloc _ _ _ (by omega)).trans hc2); obtain ⟨x0, x1⟩ : w3.cell? ⟨w.heap.size + 1 + 1, 0, none⟩ = some (.slice va vn vc) ∧ w3.cell? ⟨w.heap.size + 1 + 1, 1, none⟩ = some (.slice ub un uc) := (by simp [World.cell?, hc3]); have xf0 : w3.frozen? ⟨w.heap.size + 1 + 1, 0, none⟩ = false := (by simp [World.frozen?, hc3]); have xf1 : w3.frozen? ⟨w.heap.size + 1 + 1, 1, none⟩ = false := (by simp [World.frozen?, hc3]))
      have HM := H2.out.moreK hown' hgrow3
      rw [← HT.out, hlk] at HM
      exact ⟨⟨k + 1, _, _, by omega, by go_num, ⟨_, _, _, rfl⟩, ⟨_, _, _, rfl⟩, HM⟩, by simp [intOf]; omega⟩
    · have HE : Hid (CB w wr #[.slice ak ks.length ck, .slice ap ps.length cp] (.slice va vn vc) (.slice ub un uc) ks []) := by
        show CB _ _ _ _ _ _ _
        have h := HB.out
        rw [List.take_of_length_le (by omega)] at h
        exact h
      clear HB
      obtain ⟨f0, f1⟩ : wr.cell? ⟨w.heap.size, 0, none⟩ = some (.slice ak ks.length ck) ∧ wr.cell? ⟨w.heap.size, 1, none⟩ = some (.slice ap ps.length cp) := by simp [World.cell?, HE.out.a]
      have HE0 := HE
      clear HE
      go_wp2
      go_loopw [7, 29] (fun _ i wr => ∃ (k : Nat) (v u : Value), k ≤ ps.length ∧ i = .int .i64 k ∧ (∃ a n c, v = .slice a n c) ∧ (∃ a n c, u = .slice a n c) ∧ CB w wr #[.slice ak ks.length ck, .slice ap ps.length cp] v u ks (ps.take k)) (fun _ i _ => ps.length - (intOf i).toNat)
      case atStart => exact ⟨0, _, _, Nat.zero_le _, rfl, ⟨_, _, _, rfl⟩, ⟨_, _, _, rfl⟩, by simpa using HE0.out⟩
      case round =>
        clear HE0
        obtain ⟨k, v, u, hk, rfl, ⟨va, vn, vc, rfl⟩, ⟨ub, un, uc, rfl⟩, hB⟩ := hrel
        have HB : Hid (CB w wr #[.slice ak ks.length ck, .slice ap ps.length cp] (.slice va vn vc) (.slice ub un uc) ks (ps.take k)) := hB
        clear hB
        by_cases hlt : k < ps.length
        · have ht : ps[k]? = some ps[k] := List.getElem?_eq_getElem hlt
          obtain ⟨b, off, rfl, d0', d1', d2'⟩ := HP.out k _ ht
          have d0 := cell_keep HB.out.below (Nat.le_refl _) d0'
          have d1 := cell_keep HB.out.below (Nat.le_refl _) d1'
          have d2 := cell_keep HB.out.below (Nat.le_refl _) d2'
          have hsm := HSM.out.2 _ (List.mem_of_getElem? ht)
          have HT : Hid (ps.take (k + 1) = ps.take k ++ [ps[k]]) := List.take_succ_eq_append_getElem hlt
          have hln : (ps.take k).length + 1 ≤ 1048576 := by simp; omega
          have hlk : (ps.take k).length = k := by simp; omega
          clear d0' d1' d2'
          generalize ps[k] = t at *
          have hk0 : (0 : Int) ≤ (k : Int) := by omega
          have hk1 : (k : Int) < (ps.length : Int) := by omega
          have BA : Hid (Below wr.heap.size wr (wr.alloc (.cells #[.string t.s, .int .i64 t.x, .int .i64 t.y] 118))) := (Below.refl _ _).alloc (Nat.le_refl _) _
          go_wp2_with fail
          refine (clone_any t.s _ hsm).mono ?_
          rintro e w1 ⟨rfl, hb1⟩
          have X1 : w1.heap[wr.heap.size]? = some (.cells #[.string t.s, .int .i64 t.x, .int .i64 t.y] 118) := (hb1.block _ (by simp)).trans (heap_newF wr _)
          have hz1 : wr.heap.size < w1.heap.size := (Array.getElem?_eq_some_iff.1 X1).1
          obtain ⟨q0, q1, q2⟩ : w1.cell? ⟨wr.heap.size, 0, none⟩ = some (.string t.s) ∧ w1.cell? ⟨wr.heap.size, 1, none⟩ = some (.int .i64 t.x) ∧ w1.cell? ⟨wr.heap.size, 2, none⟩ = some (.int .i64 t.y) := by simp [World.cell?, X1]
          have qf : w1.frozen? ⟨wr.heap.size, 0, none⟩ = false := by simp [World.frozen?, X1]
          have hbw : Below wr.heap.size wr w1 := below_step BA.out hb1
          have H2 : Hid (CB w (w1.setCell ⟨wr.heap.size, 0, none⟩ (.string t.s)) _ (.slice va vn vc) (.slice ub un uc) ks (ps.take k)) := HB.out.call (below_set hbw _ _ (Nat.le_refl _) _)
          have X2 : Hid ((w1.setCell ⟨wr.heap.size, 0, none⟩ (.string t.s)).heap[wr.heap.size]? = some (.cells #[.string t.s, .int .i64 t.x, .int .i64 t.y] 118)) := by
            show _ = _
            rw [setCell_eq_setRow _ _ _ _ _ _ _ X1]; exact setRow_heap _ _ _ _ _ _ X1
          clear hb1 hbw BA
          go_upto_region 12 with fail
          generalize w1.setCell ⟨wr.heap.size, 0, none⟩ (.string t.s) = w2 at *
          clear q0 q1 q2 qf X1
          obtain ⟨q0, q1, q2⟩ : w2.cell? ⟨wr.heap.size, 0, none⟩ = some (.string t.s) ∧ w2.cell? ⟨wr.heap.size, 1, none⟩ = some (.int .i64 t.x) ∧ w2.cell? ⟨wr.heap.size, 2, none⟩ = some (.int .i64 t.y) := by simp [World.cell?, X2.out]
          obtain ⟨e0, e1⟩ : w2.cell? ⟨w.heap.size + 1 + 1, 0, none⟩ = some (.slice va vn vc) ∧ w2.cell? ⟨w.heap.size + 1 + 1, 1, none⟩ = some (.slice ub un uc) := by simp [World.cell?, H2.out.c]
          have hz2 := H2.out.z
          have ho2 := H2.out.p
          have hc2 := H2.out.c
          go_wp2_with (at_builtin; refine wpList_append_lies _ rfl _ _ 34 rfl (w.heap.size + 3) 118 iP (.agg #[.string ByteArray.empty, .int .i64 0, .int .i64 0]) 3 32 Tryz.underlying34 hiP hz0P hz1P hz2P rfl (by decide) _ _ _ rfl (ho2.alloc _) ⟨w2.heap.size, 0, none⟩ 1 1 (triRow t) rfl rfl (cell_three_new _ _ _ _ _) (fun x hx => by simp [triRow] at hx; rcases hx with rfl | rfl | rfl <;> rfl) (by decide) (by unfold maxLen; omega) (by omega) (by simp; omega) _ rfl ?_; intro g cap w3 hown' hgrow3 hat3 hlt3; have hc3 := (hgrow3.block _ (by simp; omega) (own_other ho2 hc2 (by decide))).trans ((Below.heap_alloc _ _ _ (by omega)).trans hc2); obtain ⟨x0, x1⟩ : w3.cell? ⟨w.heap.size + 1 + 1, 0, none⟩ = some (.slice va vn vc) ∧ w3.cell? ⟨w.heap.size + 1 + 1, 1, none⟩ = some (.slice ub un uc) := (by simp [World.cell?, hc3]); have xf0 : w3.frozen? ⟨w.heap.size + 1 + 1, 0, none⟩ = false := (by simp [World.frozen?, hc3]); have xf1 : w3.frozen? ⟨w.heap.size + 1 + 1, 1, none⟩ = false := (by simp [World.frozen?, hc3]))
          have HM := H2.out.moreP hown' hgrow3
          rw [← HT.out, hlk] at HM
          exact ⟨⟨k + 1, _, _, by omega, by go_num, ⟨_, _, _, rfl⟩, ⟨_, _, _, rfl⟩, HM⟩, by simp [intOf]; omega⟩
        · have HE : Hid (CB w wr #[.slice ak ks.length ck, .slice ap ps.length cp] (.slice va vn vc) (.slice ub un uc) ks ps) := by
            show CB _ _ _ _ _ _ _
            have h := HB.out
            rw [List.take_of_length_le (by omega)] at h
            exact h
          clear HB
          obtain ⟨e0, e1⟩ : wr.cell? ⟨w.heap.size + 1 + 1, 0, none⟩ = some (.slice va vn vc) ∧ wr.cell? ⟨w.heap.size + 1 + 1, 1, none⟩ = some (.slice ub un uc) := by simp [World.cell?, HE.out.c]
          have hr := HE.out.r
          go_wp2_with (refine wpList_store_row rfl 36 _ _ rfl (w.heap.size + 1) #[.slice va vn vc, .slice ub un uc] rfl rfl 36 _ hr (by kernel_rfl) rfl (by simp [Value.oneCell']) ?_)
          refine bodyPost_ret (v := .agg #[.slice va vn vc, .slice ub un uc]) (by simp [results, Tryz.results72, go_sem, cell_setRow_same _ _ _ _ _ _ _ hr]) rfl ⟨_, _, _, _, _, _, rfl, ⟨?_, ?_⟩, below_setRow HE.out.below (by omega) _⟩
          · exact ownsRow_farF HE.out.k (grown_rowF wr (w.heap.size + 1) _) (fun k hk e => by have := own_ge HE.out.k k hk; injection e; omega)
          · exact ownsRow_farF HE.out.p (grown_rowF wr (w.heap.size + 1) _) (fun k hk e => by have := own_ge HE.out.p k hk; injection e; omega)
end Go.Proofs.YtfjblenkcfdbiaaGreat

/-
  Entries of one's own, in the making: each with a row of fields of its own.
-/
namespace Go.Proofs.YtfjblenkcfdbiaaGreat
open Go.RowKit
set_option linter.unusedSimpArgs false
set_option linter.unusedVariables false

abbrev EntV := Ent × Value
def pairRow (p : EntV) : List Value := [.string p.1.name, p.2]
def pairRows (l : List EntV) : List Value := l.flatMap pairRow
theorem pairRows_snoc (l : List EntV) (p : EntV) : pairRows (l ++ [p]) = pairRows l ++ pairRow p := by simp [pairRows]
theorem pairRows_length (l : List EntV) : (pairRows l).length = l.length * 2 := by
  induction l with
  | nil => rfl
  | cons a l ih => simp only [pairRows, List.flatMap_cons, List.length_append] at ih ⊢; rw [ih]; simp [pairRow]; omega
def fldRows (l : List Fld) : List Value := l.flatMap fldRow
theorem fldRows_snoc (l : List Fld) (f : Fld) : fldRows (l ++ [f]) = fldRows l ++ fldRow f := by simp [fldRows]
theorem infoEnt : (Tryz.prog.info? 73).map (fun i => (i.zero, i.size, i.bytes)) = some (some (.agg #[.string ByteArray.empty, .slice none 0 0]), 2, 40) := by kernel_rfl
theorem infoFld : (Tryz.prog.info? 62).map (fun i => (i.zero, i.size, i.bytes)) = some (some (.agg #[.int .i64 0, .int .i64 0, .string ByteArray.empty]), 3, 32) := by kernel_rfl
theorem own_lt {w : World} {base : Nat} {e : TypeId} {size : Nat} {v : Value} {n : Nat} {xs : List Value} (h : w.ownsRow base e size v n xs) : ∀ k, v.ownBlock = some k → k < w.heap.size := by
  intro k hk
  rcases h.2 with ⟨rfl, _⟩ | ⟨g, cap, cur, rfl, _, hc, _⟩
  · cases hk
  · cases hk; exact (Array.getElem?_eq_some_iff.1 hc).1

/-- The entries lie in a row of their own, the fields of each in one of its own. -/
structure PairsNew (w : World) (B : Nat) (o : Value) (l : List EntV) : Prop where
  row : w.ownsRow B 73 2 o l.length (pairRows l)
  flds : ∀ p ∈ l, w.ownsRow B 62 3 p.2 p.1.fs.length (fldRows p.1.fs)
  apart : l.Pairwise fun p q => ∀ k, p.2.ownBlock = some k → q.2.ownBlock ≠ some k
theorem PairsNew.nil (w : World) (B : Nat) : PairsNew w B (.slice none 0 0) [] := ⟨⟨rfl, .inl ⟨rfl, rfl⟩⟩, (fun p h => by cases h), List.Pairwise.nil⟩
theorem PairsNew.keep {w w' : World} {B : Nat} {o : Value} {l : List EntV} (h : PairsNew w B o l) (hb : Below w.heap.size w w') : PairsNew w' B o l :=
  ⟨ownsRow_keep h.row hb, fun p hp => ownsRow_keep (h.flds p hp) hb, h.apart⟩
theorem PairsNew.push {w2 w3 : World} {B : Nat} {o o' : Value} {l : List EntV} {n : ByteArray} {ob : Obj} (h : PairsNew w2 B o l) (hown : w3.ownsRow B 73 2 o' (l.length + 1) (pairRows l ++ [.string n, .slice none 0 0])) (hg : (w2.alloc ob).grownBy w3 o.ownBlock) : PairsNew w3 B o' (l ++ [(⟨n, []⟩, .slice none 0 0)]) := by
  refine ⟨?_, fun p hp => ?_, ?_⟩
  · rw [pairRows_snoc, List.length_append]; exact hown
  · rcases List.mem_append.1 hp with hp | hp
    · exact ownsRow_farF (ownsRow_keep (h.flds p hp) ((Below.refl _ _).alloc (Nat.le_refl _) ob)) hg (own_apart h.row (h.flds p hp) (by decide))
    · simp at hp; subst hp; exact ⟨rfl, .inl ⟨rfl, rfl⟩⟩
  · rw [List.pairwise_append]
    exact ⟨h.apart, by simp, fun p _ q hq k _ => by simp at hq; subst hq; simp [Value.ownBlock]⟩
/-- The last entry. -/
theorem PairsNew.last {w : World} {B : Nat} {o : Value} {l : List EntV} {e : Ent} {fv : Value} (h : PairsNew w B o (l ++ [(e, fv)])) : ∃ g cap, o = .slice (some ⟨g, 0, none⟩) (l.length + 1) cap ∧ w.cell? ⟨g, l.length * 2, none⟩ = some (.string e.name) ∧ w.cell? ⟨g, l.length * 2 + 1, none⟩ = some fv ∧ w.frozen? ⟨g, l.length * 2 + 1, none⟩ = false ∧ l.length + 1 ≤ cap ∧ cap ≤ maxLen := by
  rcases h.row.2 with ⟨_, h0⟩ | ⟨g, cap, cur, rfl, _, hb, hn, hc, hs, ht⟩
  · simp at h0
  · have hlen : (l ++ [(e, fv)]).length = l.length + 1 := by simp
    rw [hlen] at ht hn ⊢
    have hx : ∀ j, j < 2 → cur.toList[l.length * 2 + j]? = [Value.string e.name, fv][j]? := fun j hj => by
      have h1 : (cur.toList.take ((l.length + 1) * 2))[l.length * 2 + j]? = cur.toList[l.length * 2 + j]? := by
        rw [List.getElem?_take, if_pos (by omega)]
      rw [← h1, ht, pairRows_snoc, List.getElem?_append_right (by rw [pairRows_length]; omega), pairRows_length, Nat.add_sub_cancel_left]
      rfl
    have x0 := hx 0 (by omega)
    have x1 := hx 1 (by omega)
    simp only [Nat.add_zero] at x0
    refine ⟨g, cap, rfl, ?_, ?_, Lib.frozen_of_heap hb _, hn, hc⟩
    · simp only [World.cell?, hb, Option.isSome_none, Bool.false_eq_true, if_false]
      simpa using x0
    · simp only [World.cell?, hb, Option.isSome_none, Bool.false_eq_true, if_false]
      simpa using x1
theorem set_end {α : Type} (L : List α) (a b x : α) : (L ++ [a, b]).set (L.length + 1) x = L ++ [a, x] := by
  rw [List.set_append_right _ _ (by omega)]
  simp
/-- One more field of the last entry: appended, and the entry's list turned. -/
theorem PairsNew.more {w2 w3 : World} {B H : Nat} {g cap n fg fcap : Nat} {l : List EntV} {e : Ent} {fv : Value} {f : Fld} {ob : Obj} (h : PairsNew w2 B (.slice (some ⟨g, 0, none⟩) n cap) (l ++ [(e, fv)])) (hown : w3.ownsRow B 62 3 (.slice (some ⟨fg, 0, none⟩) (e.fs.length + 1) fcap) (e.fs.length + 1) (fldRows e.fs ++ fldRow f)) (hg : (w2.alloc ob).grownBy w3 fv.ownBlock) (hat : fv.ownBlock = some fg ∨ fg = H) (hH : w2.heap.size ≤ H) :
    PairsNew (w3.setCell ⟨g, l.length * 2 + 1, none⟩ (.slice (some ⟨fg, 0, none⟩) (e.fs.length + 1) fcap)) B (.slice (some ⟨g, 0, none⟩) n cap) (l ++ [(⟨e.name, e.fs ++ [f]⟩, .slice (some ⟨fg, 0, none⟩) (e.fs.length + 1) fcap)]) := by
  have hfl := h.flds (e, fv) (by simp)
  have hb1 : Below w2.heap.size w2 (w2.alloc ob) := (Below.refl _ _).alloc (Nat.le_refl _) ob
  have hrow3 : w3.ownsRow B 73 2 (.slice (some ⟨g, 0, none⟩) n cap) (l ++ [(e, fv)]).length (pairRows (l ++ [(e, fv)])) := ownsRow_farF (ownsRow_keep h.row hb1) hg (own_apart hfl h.row (by decide))
  have gs := grown_setF w3 g (l.length * 2 + 1) (.slice (some ⟨fg, 0, none⟩) (e.fs.length + 1) fcap)
  have hne : ∀ (p : EntV), w3.ownsRow B 62 3 p.2 p.1.fs.length (fldRows p.1.fs) → ∀ k, p.2.ownBlock = some k → some k ≠ some g := fun p hp => own_apart hrow3 hp (by decide)
  have hap := List.pairwise_append.1 h.apart
  refine ⟨?_, fun p hp => ?_, ?_⟩
  · obtain ⟨h1, h2⟩ := hrow3
    rcases h2 with ⟨h2, _⟩ | ⟨g', cap', cur, hv, hB, hb, hn, hc, hs, ht⟩
    · cases h2
    · cases hv
      have hlen : ∀ x : EntV, (l ++ [x]).length = l.length + 1 := fun x => by simp
      rw [hlen] at h1 hn ht
      refine ⟨by rw [pairRows_length], .inr ⟨g, cap, cur.setIfInBounds (l.length * 2 + 1) (.slice (some ⟨fg, 0, none⟩) (e.fs.length + 1) fcap), by simp, hB, ?_, by rw [hlen]; exact hn, hc, by simpa using hs, ?_⟩⟩
      · rw [Sort.setCell_eq]
        simp only [Sort.mapBlock, Array.getElem?_modify, if_true, hb, Option.map_some, Sort.onCells]
      · rw [hlen, Array.toList_setIfInBounds, List.take_set, ht, pairRows_snoc, pairRows_snoc]
        have := set_end (pairRows l) (.string e.name) fv (.slice (some ⟨fg, 0, none⟩) (e.fs.length + 1) fcap)
        rw [pairRows_length] at this
        exact this
  · rcases List.mem_append.1 hp with hp | hp
    · have hp2 := h.flds p (List.mem_append_left _ hp)
      have hp3 : w3.ownsRow B 62 3 p.2 p.1.fs.length (fldRows p.1.fs) := ownsRow_farF (ownsRow_keep hp2 hb1) hg (fun k hk ee => (hap.2.2 p hp (e, fv) (by simp) k hk) ee.symm)
      exact ownsRow_farF hp3 gs (hne p hp3)
    · simp at hp; subst hp
      have h3 : w3.ownsRow B 62 3 (.slice (some ⟨fg, 0, none⟩) (e.fs.length + 1) fcap) (e.fs ++ [f]).length (fldRows (e.fs ++ [f])) := by
        rw [fldRows_snoc, List.length_append]; exact hown
      exact ownsRow_farF h3 gs (hne (⟨e.name, e.fs ++ [f]⟩, _) h3)
  · rw [List.pairwise_append]
    refine ⟨hap.1, by simp, fun p hp q hq k hk => ?_⟩
    simp at hq; subst hq
    show some fg ≠ some k
    intro ee
    injection ee with ee
    subst ee
    rcases hat with hat | hat
    · exact hap.2.2 p hp (e, fv) (by simp) _ hk hat
    · have := own_lt (h.flds p (List.mem_append_left _ hp)) _ hk
      omega
/-- What the entries are. -/
def EntsNew (w : World) (B : Nat) (o : Value) (es : List Ent) : Prop := ∃ l : List EntV, l.map (·.1) = es ∧ PairsNew w B o l
end Go.Proofs.YtfjblenkcfdbiaaGreat
