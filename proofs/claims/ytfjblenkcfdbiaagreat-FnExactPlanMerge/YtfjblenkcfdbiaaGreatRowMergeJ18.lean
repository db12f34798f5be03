/-
  For the proof of merge_holds: part 18 (Ents1).
-/
import Derived.Test.YtfjblenkcfdbiaaGreatRowMergeJ17
namespace Go.Proofs.YtfjblenkcfdbiaaGreat
open Go.RowKit
set_option linter.unusedSimpArgs false
set_option linter.unusedVariables false

theorem getF_at {S : List Chg} {c : Chg} (hS : SortedC S) (hc : c ∈ S) : getF S c = fldC c := by
  unfold getF
  have : S.find? (fun a => keyEq a c) = some c := by
    induction S with
    | nil => cases hc
    | cons a l ih =>
      have h' := List.pairwise_cons.1 hS
      rcases List.mem_cons.1 hc with rfl | hc
      · simp [keyEq_self]
      · rw [List.find?_cons, keyLt_ne (h'.1 c hc)]
        exact ih h'.2 hc
  rw [this]
theorem add_step {S : List Chg} {k : Nat} (h : k < S.length) : (S.take (k + 1)).foldl addE [] = addE ((S.take k).foldl addE []) (cat' S k) := by
  have : S[k] = cat' S k := by simp [cat', h]
  rw [List.take_succ_eq_append_getElem h, List.foldl_append, this]; rfl
theorem key_cells {w : World} {B : Nat} {v : Value} {S : List Chg} (h : w.ownsRow B 106 2 v S.length (keyRows (S.map kyOf))) (k : Nat) (hk : k < S.length) : ∃ g cap, v = .slice (some ⟨g, 0, none⟩) S.length cap ∧ w.cell? ⟨g, k * 2, none⟩ = some (.string (cat' S k).f) ∧ w.cell? ⟨g, k * 2 + 1, none⟩ = some (.int .i64 (cat' S k).what) := by
  rcases h.2 with ⟨_, h0⟩ | ⟨g, cap, cur, rfl, _, hb, hn, hc, hs, ht⟩
  · omega
  · have hx : ∀ j, j < 2 → cur.toList[k * 2 + j]? = (keyRow (kyOf (cat' S k)))[j]? := fun j hj => by
      have h1 : (cur.toList.take (S.length * 2))[k * 2 + j]? = cur.toList[k * 2 + j]? := by
        rw [List.getElem?_take, if_pos (by omega)]
      have e1 : (k * 2 + j) / 2 = k := by omega
      have e2 : (k * 2 + j) % 2 = j := by omega
      rw [← h1, ht, keyRows_get, e1, e2, List.getElem?_map, cat_get hk]
      rfl
    have x0 := hx 0 (by omega)
    have x1 := hx 1 (by omega)
    simp only [Nat.add_zero] at x0
    refine ⟨g, cap, rfl, ?_, ?_⟩
    · simp only [World.cell?, hb, Option.isSome_none, Bool.false_eq_true, if_false]
      simpa [keyRow, kyOf] using x0
    · simp only [World.cell?, hb, Option.isSome_none, Bool.false_eq_true, if_false]
      simpa [keyRow, kyOf] using x1

theorem addE_len (es : List Ent) (c : Chg) : (addE es c).length ≤ es.length + 1 := by
  rcases List.eq_nil_or_concat es with rfl | ⟨l, e, rfl⟩
  · rw [addE_new (fun e he => by simp at he)]; simp
  · rw [List.concat_eq_append]
    by_cases h : e.name = c.f
    · rw [addE_more h]; simp
    · rw [addE_new (fun e' he => by simp at he; rw [← he]; exact h)]; simp
theorem fold_len : ∀ (L : List Chg) (es : List Ent), (L.foldl addE es).length ≤ es.length + L.length
  | [], es => Nat.le_refl _
  | c :: L, es => by
    have h1 := fold_len L (addE es c)
    have h2 := addE_len es c
    simp only [List.foldl_cons, List.length_cons]
    omega
theorem addE_fs (es : List Ent) (c : Chg) (M : Nat) (h : ∀ e ∈ es, e.fs.length ≤ M) : ∀ e ∈ addE es c, e.fs.length ≤ M + 1 := by
  rcases List.eq_nil_or_concat es with rfl | ⟨l, e0, rfl⟩
  · rw [addE_new (fun e he => by simp at he)]
    intro e he
    simp at he; subst he; simp
  · rw [List.concat_eq_append] at h ⊢
    by_cases hn : e0.name = c.f
    · rw [addE_more hn]
      intro e he
      rcases List.mem_append.1 he with he | he
      · have := h e (List.mem_append_left _ he); omega
      · simp at he; subst he
        have := h e0 (by simp)
        simp; exact this
    · rw [addE_new (fun e' he => by simp at he; rw [← he]; exact hn)]
      intro e he
      rcases List.mem_append.1 he with he | he
      · have := h e he; omega
      · simp at he; subst he; simp
theorem fold_fs : ∀ (L : List Chg) (es : List Ent) (M : Nat), (∀ e ∈ es, e.fs.length ≤ M) → ∀ e ∈ L.foldl addE es, e.fs.length ≤ M + L.length
  | [], es, M, h => h
  | c :: L, es, M, h => fun e he => by
    have := fold_fs L (addE es c) (M + 1) (addE_fs es c M h) e he
    simp only [List.length_cons]
    omega
/-- While the entries are made. -/
structure EL (w wr : World) (kv : Value) (S : List Chg) (o : Value) (k : Nat) : Prop where
  below : Below w.heap.size w wr
  keys : wr.ownsRow w.heap.size 106 2 kv S.length (keyRows (S.map kyOf))
  ents : EntsNew wr w.heap.size o ((S.take k).foldl addE [])
/-- .. with the entry at hand the last one. -/
structure EM (w wr : World) (kv : Value) (S : List Chg) (o : Value) (l : List EntV) (e : Ent) (fv : Value) : Prop where
  below : Below w.heap.size w wr
  keys : wr.ownsRow w.heap.size 106 2 kv S.length (keyRows (S.map kyOf))
  ents : PairsNew wr w.heap.size o (l ++ [(e, fv)])
theorem EM.call {w wr wy : World} {kv o fv : Value} {S : List Chg} {l : List EntV} {e : Ent} (h : EM w wr kv S o l e fv) (hb : Below wr.heap.size wr wy) : EM w wy kv S o l e fv :=
  ⟨below_step h.below hb, ownsRow_keep h.keys hb, h.ents.keep hb⟩
theorem EM.push {w w2 w3 : World} {kv o o' : Value} {S : List Chg} {l : List EntV} {n : ByteArray} {ob : Obj} (hb : Below w.heap.size w w2) (hk : w2.ownsRow w.heap.size 106 2 kv S.length (keyRows (S.map kyOf))) (h : PairsNew w2 w.heap.size o l) (hown : w3.ownsRow w.heap.size 73 2 o' (l.length + 1) (pairRows l ++ [.string n, .slice none 0 0])) (hg : (w2.alloc ob).grownBy w3 o.ownBlock) : EM w w3 kv S o' l ⟨n, []⟩ (.slice none 0 0) :=
  ⟨(hb.alloc hb.size ob).grown hg (by simp; have := hb.size; omega) (own_ge h.row), ownsRow_farF (ownsRow_keep hk ((Below.refl _ _).alloc (Nat.le_refl _) ob)) hg (own_apart h.row hk (by decide)), h.push hown hg⟩
theorem EM.next {w w2 w3 : World} {kv : Value} {S : List Chg} {g cap n fg fcap H k : Nat} {l : List EntV} {e : Ent} {fv : Value} {f : Fld} {ob : Obj} (h : EM w w2 kv S (.slice (some ⟨g, 0, none⟩) n cap) l e fv) (hown : w3.ownsRow w.heap.size 62 3 (.slice (some ⟨fg, 0, none⟩) (e.fs.length + 1) fcap) (e.fs.length + 1) (fldRows e.fs ++ fldRow f)) (hg : (w2.alloc ob).grownBy w3 fv.ownBlock) (hat : fv.ownBlock = some fg ∨ fg = H) (hH : w2.heap.size ≤ H) (hs : l.map (·.1) ++ [⟨e.name, e.fs ++ [f]⟩] = (S.take (k + 1)).foldl addE []) :
    EL w (w3.setCell ⟨g, l.length * 2 + 1, none⟩ (.slice (some ⟨fg, 0, none⟩) (e.fs.length + 1) fcap)) kv S (.slice (some ⟨g, 0, none⟩) n cap) (k + 1) := by
  have hfl := h.ents.flds (e, fv) (by simp)
  have hb3 : Below w.heap.size w w3 := (h.below.alloc h.below.size ob).grown hg (by simp; have := h.below.size; omega) (own_ge hfl)
  have hge : w.heap.size ≤ g := own_ge h.ents.row g rfl
  have hk3 : w3.ownsRow w.heap.size 106 2 kv S.length (keyRows (S.map kyOf)) := ownsRow_farF (ownsRow_keep h.keys ((Below.refl _ _).alloc (Nat.le_refl _) ob)) hg (own_apart hfl h.keys (by decide))
  have hr3 : w3.ownsRow w.heap.size 73 2 (.slice (some ⟨g, 0, none⟩) n cap) (l ++ [(e, fv)]).length (pairRows (l ++ [(e, fv)])) := ownsRow_farF (ownsRow_keep h.ents.row ((Below.refl _ _).alloc (Nat.le_refl _) ob)) hg (own_apart hfl h.ents.row (by decide))
  refine ⟨hb3.setCell (p := ⟨g, l.length * 2 + 1, none⟩) hge _, ownsRow_farF hk3 (grown_setF w3 g (l.length * 2 + 1) _) (own_apart hr3 hk3 (by decide)), _, ?_, h.ents.more hown hg hat hH⟩
  rw [← hs, List.map_append]; rfl
theorem addE_old {l : List EntV} {e : Ent} {fv : Value} {es : List Ent} {c : Chg} (h : (l ++ [(e, fv)]).map (·.1) = es) (hn : e.name = c.f) : l.map (·.1) ++ [⟨e.name, e.fs ++ [fldC c]⟩] = addE es c := by
  rw [← h, List.map_append]; exact (addE_more hn).symm
theorem addE_fresh {l : List EntV} {es : List Ent} {c : Chg} (h : l.map (·.1) = es) (hn : ∀ e, es.getLast? = some e → e.name ≠ c.f) : l.map (·.1) ++ [⟨c.f, [] ++ [fldC c]⟩] = addE es c := by
  rw [h]; exact (addE_new hn).symm

set_option maxRecDepth 100000 in
set_option maxHeartbeats 12800000 in
theorem entriesOf_any (b n : Nat) (S : List Chg) (w : World) (h : MapIs w b n S) (hS : SortedC S) (hfit : ∀ c ∈ S, KeyFit c) (hsm : ∀ c ∈ S, c.f.size ≤ 1048576 ∧ c.v.size ≤ 1048576) (hn : n ≤ 4194304) (hl : S.length ≤ 4194304) (hbw : b < w.heap.size) :
    Calls Tryz.prog 73 #[.map (some b)] w fun e w' => ∃ o, e = .returned o ∧ EntsNew w' w.heap.size o (S.foldl addE []) ∧ Below w.heap.size w w' := by
  obtain ⟨i0, hi, hz0, hz1, hz2⟩ := info_parts infoEnt
  obtain ⟨j0, hj, jz0, jz1, jz2⟩ := info_parts infoFld
  have HM : Hid (MapIs w b n S) := h
  have HF : Hid (∀ c ∈ S, KeyFit c) := hfit
  have HSM : Hid (∀ c ∈ S, c.f.size ≤ 1048576 ∧ c.v.size ≤ 1048576) := hsm
  have HSS : Hid (SortedC S) := hS
  clear h hfit hsm hS
  go_enter Tryz.func73, Tryz.ntmps73
  go_wp2_with fail
  refine (sortedKeys_any b n S _ HM.out HSS.out HF.out hn).mono ?_
  rintro e w1 ⟨kv, rfl, hk1, hb1⟩
  have HK1 : Hid (EL w w1 kv S (.slice none 0 0) 0) := ⟨hb1, hk1, [], rfl, PairsNew.nil _ _⟩
  obtain ⟨ka, kc, rfl⟩ : ∃ ka kc, kv = .slice ka S.length kc := by
    rcases hk1.2 with ⟨rfl, h0⟩ | ⟨g, cap, cur, rfl, _⟩
    · exact ⟨none, 0, by rw [h0]⟩
    · exact ⟨_, cap, rfl⟩
  clear hk1 hb1
  go_wp2
  go_loopw [3, 12] (fun o i wr => ∃ k : Nat, k ≤ S.length ∧ i = .int .i64 k ∧ EL w wr (.slice ka S.length kc) S o k) (fun _ i _ => S.length - (intOf i).toNat)
  case atStart => exact ⟨0, Nat.zero_le _, rfl, HK1.out⟩
  case round =>
    clear HK1
    obtain ⟨k, hk, rfl, hEL⟩ := hrel
    by_cases hlt : k < S.length
    · obtain ⟨kg, kcap, hkv, d0, d1⟩ := key_cells hEL.keys k hlt
      cases hkv
      have HC := List.mem_of_getElem? (cat_get hlt)
      have HQ : Hid (KeyFit (cat' S k) ∧ getF S (cat' S k) = fldC (cat' S k)) := ⟨HF.out _ HC, getF_at HSS.out HC⟩
      have hcs := (HSM.out _ HC).1
      have hcv := (HSM.out _ HC).2
      have HST : Hid ((S.take (k + 1)).foldl addE [] = addE ((S.take k).foldl addE []) (cat' S k)) := add_step hlt
      have HMR : Hid (MapIs wr b n S) := HM.out.kept (row := none) ⟨hEL.below.os, hEL.below.tape, hEL.below.output, hEL.below.size, fun j hj _ => hEL.below.block j hj⟩ (by simp)
      clear HC
      generalize cat' S k = c at *
      obtain ⟨l, hle, hP⟩ := hEL.ents
      have hk0 : (0 : Int) ≤ (k : Int) := by omega
      have hk1 : (k : Int) < (S.length : Int) := by omega
      have HE0 : Hid (Below w.heap.size w wr ∧ wr.ownsRow w.heap.size 106 2 (.slice (some ⟨kg, 0, none⟩) S.length kc) S.length (keyRows (S.map kyOf))) := ⟨hEL.below, hEL.keys⟩
      have hll : l.length ≤ 4194304 := by
        have : l.length = ((S.take k).foldl addE []).length := by rw [← hle, List.length_map]
        rw [this]
        refine Nat.le_trans (fold_len _ _) ?_
        simp; omega
      have BA : Hid (Below wr.heap.size wr (wr.alloc (.cells #[.string c.f, .int .i64 c.what] 106))) := (Below.refl _ _).alloc (Nat.le_refl _) _
      have XA : Hid ((wr.alloc (.cells #[.string c.f, .int .i64 c.what] 106)).heap[wr.heap.size]? = some (.cells #[.string c.f, .int .i64 c.what] 106)) := heap_newF wr _
      clear hEL
      have HOL : Hid (∃ oa oc, u3 = .slice oa l.length oc) := by
        rcases hP.row.2 with ⟨rfl, h0⟩ | ⟨g, cap, cur, rfl, _⟩
        · exact ⟨none, 0, by rw [h0]⟩
        · exact ⟨_, cap, rfl⟩
      obtain ⟨oa, oc, rfl⟩ := HOL.out
      clear HOL
      have HPP : Hid (PairsNew wr w.heap.size (.slice oa l.length oc) l) := hP
      have HLE : Hid (l.map (·.1) = (S.take k).foldl addE []) := hle
      clear hP hle
      rcases List.eq_nil_or_concat l with hnil | ⟨l', ⟨e, fv⟩, hcon⟩
      · have hw0 : IntKind.i64.wrap ((l.length : Int) - 1) = -1 := by rw [hnil]; rfl
        have HAD : Hid (l.map (·.1) ++ [⟨c.f, [] ++ [fldC c]⟩] = (S.take (k + 1)).foldl addE []) := by
          show _ = _
          rw [HST.out]
          exact addE_fresh HLE.out fun e he => by rw [← HLE.out, hnil] at he; simp at he
        clear hnil HLE
        go_upto_region 6 with fail
        clear hw0
        go_quiet (fail)
        go_wp2_with fail
        refine (clone_any c.f _ hcs).mono ?_
        rintro e1 w2 ⟨rfl, hb2'⟩
        have hb2 : Below wr.heap.size wr w2 := below_step BA.out ⟨hb2'.os, hb2'.tape, hb2'.output, hb2'.size, hb2'.block⟩
        have X2 : w2.heap[wr.heap.size]? = some (.cells #[.string c.f, .int .i64 c.what] 106) := (hb2'.block _ (by simp)).trans XA.out
        have ho2 := HPP.out.keep hb2
        have hzw2 := (below_step HE0.out.1 hb2).size
        have HNW2 : Hid (∀ (j : Nat) (u : Value), [Value.string c.f, .slice none 0 0][j]? = some u → (w2.alloc (.cells #[.string c.f, .slice none 0 0] 73)).cell? ((⟨w2.heap.size, 0, none⟩ : Addr).add j) = some u) := cell_two_new w2 _ _ _
        go_upto_region 8 with (at_builtin; go_loud (refine wpList_append_lies _ rfl _ _ 37 rfl w.heap.size 73 i0 (.agg #[.string ByteArray.empty, .slice none 0 0]) 2 40 Tryz.underlying37 hi hz0 hz1 hz2 rfl (by decide) _ l.length (pairRows l) rfl (ho2.row.alloc _) ⟨w2.heap.size, 0, none⟩ 1 1 [.string c.f, .slice none 0 0] rfl rfl HNW2.out (fun x hx => by simp at hx; rcases hx with rfl | rfl <;> rfl) (by decide) (by unfold maxLen; omega) (by omega) (by simp; omega) _ rfl ?_); intro g cap w3 hown3 hg3 hat3 hlt3)
        have hz23 : wr.heap.size < w2.heap.size := (Array.getElem?_eq_some_iff.1 X2).1
        have X3 : w3.heap[wr.heap.size]? = some (.cells #[.string c.f, .int .i64 c.what] 106) := (hg3.block _ (by simp; omega) (own_other ho2.row X2 (by decide))).trans ((Below.heap_alloc _ _ _ hz23).trans X2)
        have HEM0 : Hid (EM w w3 (.slice (some ⟨kg, 0, none⟩) S.length kc) S (.slice (some ⟨g, 0, none⟩) (l.length + 1) cap) l ⟨c.f, []⟩ (.slice none 0 0)) := EM.push (below_step HE0.out.1 hb2) (ownsRow_keep HE0.out.2 hb2) ho2 hown3 hg3
        obtain ⟨q, HQQ⟩ : ∃ q : Ent × Value, Hid (EM w w3 (.slice (some ⟨kg, 0, none⟩) S.length kc) S (.slice (some ⟨g, 0, none⟩) (l.length + 1) cap) l q.1 q.2 ∧ l.map (·.1) ++ [⟨q.1.name, q.1.fs ++ [fldC c]⟩] = (S.take (k + 1)).foldl addE [] ∧ q.1.fs.length ≤ 4194304) := ⟨(⟨c.f, []⟩, .slice none 0 0), HEM0.out, HAD.out, by simp⟩
        clear hown3 hg3 hat3 hlt3 hb2 X2 ho2 HNW2 BA XA HPP HEM0 HAD
        obtain ⟨e, fv⟩ := q
        obtain ⟨l', hl'⟩ : ∃ l' : List EntV, l' = l := ⟨_, rfl⟩
        rw [← hl'] at HQQ hll
        simp only [← hl']
        clear hl'
        have HEM : Hid (EM w w3 (.slice (some ⟨kg, 0, none⟩) S.length kc) S (.slice (some ⟨g, 0, none⟩) (l'.length + 1) cap) l' e fv) := HQQ.out.1
        have HAD : Hid (l'.map (·.1) ++ [⟨e.name, e.fs ++ [fldC c]⟩] = (S.take (k + 1)).foldl addE []) := HQQ.out.2.1
        have HFL : Hid (e.fs.length ≤ 4194304) := HQQ.out.2.2
        clear HQQ
        have HFB : Hid (∀ j, fv.ownBlock = some j → j < w3.heap.size) := own_lt (HEM.out.ents.flds (e, fv) (by simp))
        have HM3 : Hid (MapIs w3 b n S) := HM.out.kept (row := none) ⟨HEM.out.below.os, HEM.out.below.tape, HEM.out.below.output, HEM.out.below.size, fun j hj _ => HEM.out.below.block j hj⟩ (by simp)
        have hlk : (Instr.lookup 104 (.map (some b)) (.agg #[.string c.f, .int .i64 c.what]) false).run Tryz.prog w3 = .ok (.agg #[.int .i64 c.what, .int .i64 c.num, .string c.v]) w3 := by
          have h := HM3.out.lookup c HQ.out.1
          rw [HQ.out.2] at h
          exact h
        obtain ⟨p0, p1⟩ : w3.cell? ⟨wr.heap.size, 0, none⟩ = some (.string c.f) ∧ w3.cell? ⟨wr.heap.size, 1, none⟩ = some (.int .i64 c.what) := by simp [World.cell?, X3]
        go_wp2_with fail
        refine (clone_any c.v _ hcv).mono ?_
        rintro e5 w5 ⟨rfl, hb5⟩
        have X5 : w5.heap[w3.heap.size]? = some (.cells #[.int .i64 c.what, .int .i64 c.num, .string c.v] 62) := (hb5.block _ (by simp)).trans (heap_newF w3 _)
        have hb35 : Below w3.heap.size w3 w5 := below_step ((Below.refl _ _).alloc (Nat.le_refl _) _) hb5
        have hz5 : w3.heap.size < w5.heap.size := (Array.getElem?_eq_some_iff.1 X5).1
        obtain ⟨q0, q1, q2⟩ : w5.cell? ⟨w3.heap.size, 0, none⟩ = some (.int .i64 c.what) ∧ w5.cell? ⟨w3.heap.size, 1, none⟩ = some (.int .i64 c.num) ∧ w5.cell? ⟨w3.heap.size, 2, none⟩ = some (.string c.v) := by simp [World.cell?, X5]
        have qf : w5.frozen? ⟨w3.heap.size, 2, none⟩ = false := by simp [World.frozen?, X5]
        have HE6 : Hid (EM w (w5.setCell ⟨w3.heap.size, 2, none⟩ (.string c.v)) (.slice (some ⟨kg, 0, none⟩) S.length kc) S (.slice (some ⟨g, 0, none⟩) (l'.length + 1) cap) l' e fv) := HEM.out.call (below_set hb35 _ _ (Nat.le_refl _) _)
        have X6 : Hid ((w5.setCell ⟨w3.heap.size, 2, none⟩ (.string c.v)).heap[w3.heap.size]? = some (.cells #[.int .i64 c.what, .int .i64 c.num, .string c.v] 62) ∧ w3.heap.size < (w5.setCell ⟨w3.heap.size, 2, none⟩ (.string c.v)).heap.size) := by
          refine ⟨?_, by simpa using hz5⟩
          rw [setCell_eq_setRow _ _ _ _ _ _ _ X5]; exact setRow_heap _ _ _ _ _ _ X5
        have hL0 : (0 : Int) ≤ (l'.length : Int) := by omega
        have hL1 : (l'.length : Int) < (l'.length : Int) + 1 := by omega
        have hw1 : IntKind.i64.wrap ((l'.length : Int) + 1 - 1) = (l'.length : Int) := by rw [IntKind.wrap_i64]; omega
        clear hlk p0 p1 X3 hb5 hb35 HEM HM3
        go_upto_region 11 with fail
        generalize w5.setCell ⟨w3.heap.size, 2, none⟩ (.string c.v) = w6 at *
        clear q0 q1 q2 qf X5 hz5
        generalize w3.heap.size = fb at *
        obtain ⟨q0, q1, q2⟩ : w6.cell? ⟨fb, 0, none⟩ = some (.int .i64 c.what) ∧ w6.cell? ⟨fb, 1, none⟩ = some (.int .i64 c.num) ∧ w6.cell? ⟨fb, 2, none⟩ = some (.string c.v) := by simp [World.cell?, X6.out.1]
        obtain ⟨g', cap', hgo, y0, y1, yf, hcp, hcm⟩ := HE6.out.ents.last
        injection hgo with hgo1 hgo2 hgo3
        injection hgo1 with hgo1
        injection hgo1 with hgo1
        subst hgo1 hgo3
        have hfl := HE6.out.ents.flds (e, fv) (by simp)
        have hgz : g < w6.heap.size := lt_of_cell y0
        have HFO : Hid ((w6.alloc (.cells #[.int .i64 c.what, .int .i64 c.num, .string c.v] 62)).ownsRow w.heap.size 62 3 fv e.fs.length (fldRows e.fs)) := hfl.alloc _
        have HNW : Hid (∀ (j : Nat) (u : Value), (fldRow (fldC c))[j]? = some u → (w6.alloc (.cells #[.int .i64 c.what, .int .i64 c.num, .string c.v] 62)).cell? ((⟨w6.heap.size, 0, none⟩ : Addr).add j) = some u) := cell_three_new w6 _ _ _ _
        have HWZ : Hid (w.heap.size ≤ (w6.alloc (.cells #[.int .i64 c.what, .int .i64 c.num, .string c.v] 62)).heap.size) := by
          have := HE6.out.below.size
          show w.heap.size ≤ _
          simp; omega
        have HGF : Hid (fb ≠ g) := fun ee => own_other HE6.out.ents.row X6.out.1 (by decide) (by rw [ee]; rfl)
        have HCL : Hid (∀ wx : World, (w6.alloc (.cells #[.int .i64 c.what, .int .i64 c.num, .string c.v] 62)).grownBy wx fv.ownBlock → wx.cell? ⟨g, l'.length * 2 + 1, none⟩ = some fv ∧ wx.frozen? ⟨g, l'.length * 2 + 1, none⟩ = false ∧ wx.heap[fb]? = some (.cells #[.int .i64 c.what, .int .i64 c.num, .string c.v] 62)) := fun wx hgx => by
          have hg1 : wx.heap[g]? = w6.heap[g]? := (hgx.block g (by simp; omega) (own_apart hfl HE6.out.ents.row (by decide) g rfl)).trans (Below.heap_alloc _ _ _ hgz)
          have hf1 : wx.heap[fb]? = some (.cells #[.int .i64 c.what, .int .i64 c.num, .string c.v] 62) := (hgx.block fb (by have := X6.out.2; simp; omega) (fun ee => by have := HFB.out fb ee.symm; omega)).trans ((Below.heap_alloc _ _ _ X6.out.2).trans X6.out.1)
          exact ⟨(World.cell?_of_block (a := ⟨g, l'.length * 2 + 1, none⟩) hg1).trans y1, (World.frozen?_of_block (a := ⟨g, l'.length * 2 + 1, none⟩) hg1).trans yf, hf1⟩
        have hAL : Below w6.heap.size w6 (w6.alloc (.cells #[.int .i64 c.what, .int .i64 c.num, .string c.v] 62)) := (Below.refl _ _).alloc (Nat.le_refl _) _
        have HSA : Hid ((w6.alloc (.cells #[.int .i64 c.what, .int .i64 c.num, .string c.v] 62)).cell? ⟨fb, 0, none⟩ = some (.int .i64 c.what) ∧ (w6.alloc (.cells #[.int .i64 c.what, .int .i64 c.num, .string c.v] 62)).cell? ⟨fb, 1, none⟩ = some (.int .i64 c.num) ∧ (w6.alloc (.cells #[.int .i64 c.what, .int .i64 c.num, .string c.v] 62)).cell? ⟨fb, 2, none⟩ = some (.string c.v)) := ⟨cell_keep hAL (Nat.le_refl _) q0, cell_keep hAL (Nat.le_refl _) q1, cell_keep hAL (Nat.le_refl _) q2⟩
        clear hAL
        refine wp_region_noPanic ?_
        refine wp_region_held_drew (S := fun w' => w'.cell? ⟨fb, 0, none⟩ = some (.int .i64 c.what) ∧ w'.cell? ⟨fb, 1, none⟩ = some (.int .i64 c.num) ∧ w'.cell? ⟨fb, 2, none⟩ = some (.string c.v)) (by kernel_rfl) ?_ (fun hHeld => ?_)
        · exact ⟨q0, q1, q2⟩
        refine wpAnyH_take (i := 0) (v := ?_) rfl (by kernel_rfl) (by kernel_rfl) (by kernel_rfl) (fun _ _ _ h => h) (Or.inl ⟨by rfl, ?_⟩) (by assumption) ?_
        rotate_left
        · intro w hSw; (try dsimp only at hSw); go_simp; try with_reducible rfl
        simp only [Act.put, List.setIfInBounds_toArray, List.set_cons_zero, List.set_cons_succ, List.getElem_toArray, List.getElem_cons_succ, List.getElem_cons_zero]
        refine wpAnyH_take (i := 1) (v := ?_) rfl (by kernel_rfl) (by kernel_rfl) (by kernel_rfl) (fun _ _ _ h => h) (Or.inl ⟨by rfl, ?_⟩) (by assumption) ?_
        rotate_left
        · intro w hSw; (try dsimp only at hSw); go_simp; try with_reducible rfl
        simp only [Act.put, List.setIfInBounds_toArray, List.set_cons_zero, List.set_cons_succ, List.getElem_toArray, List.getElem_cons_succ, List.getElem_cons_zero]
        refine wpAnyH_take (i := 2) (v := ?_) rfl (by kernel_rfl) (by kernel_rfl) (by kernel_rfl) (fun _ _ _ h => h) (Or.inl ⟨by rfl, ?_⟩) (by assumption) ?_
        rotate_left
        · intro w hSw; (try dsimp only at hSw); go_simp; try with_reducible rfl
        simp only [Act.put, List.setIfInBounds_toArray, List.set_cons_zero, List.set_cons_succ, List.getElem_toArray, List.getElem_cons_succ, List.getElem_cons_zero]
        refine wpAnyH_take (i := 3) (v := ?_) rfl (by kernel_rfl) (by kernel_rfl) (by kernel_rfl) (fun _ _ _ h => h) (Or.inl ⟨by rfl, ?_⟩) (by assumption) ?_
        rotate_left
        · intro w hSw; (try dsimp only at hSw); go_simp; try with_reducible rfl
        simp only [Act.put, List.setIfInBounds_toArray, List.set_cons_zero, List.set_cons_succ, List.getElem_toArray, List.getElem_cons_succ, List.getElem_cons_zero]
        refine wpAnyH_take (i := 5) (v := ?_) rfl (by kernel_rfl) (by kernel_rfl) (by kernel_rfl) (fun _ _ _ h => h) (Or.inl ⟨by rfl, ?_⟩) (by assumption) ?_
        rotate_left
        · intro w hSw; (try dsimp only at hSw); go_simp; try with_reducible rfl
        simp only [Act.put, List.setIfInBounds_toArray, List.set_cons_zero, List.set_cons_succ, List.getElem_toArray, List.getElem_cons_succ, List.getElem_cons_zero]
        refine wpAnyH_ready (rs := [4, 6]) (by kernel_rfl) (by simp) ?_
        refine AllReadyH.cons rfl (fun K hK => ?_) (AllReadyH.cons rfl (fun K hK => ?_) AllReadyH.nil)
        · go_simp
          refine hK.out _ _ ⟨q0, q1, q2⟩ (fun hHeld4 => ?_)
          clear hK K
          refine wpAnyH_ready (rs := [6]) (by kernel_rfl) (by simp) ?_
          refine AllReadyH.cons rfl (fun K hK => ?_) AllReadyH.nil
          go_simp
          refine hK.out _ _ HSA.out (fun hHeld6 => ?_)
          clear hK K
          refine wpAnyH_ready (rs := [7]) (by kernel_rfl) (by simp) ?_
          refine AllReadyH.cons rfl (fun K hK => ?_) AllReadyH.nil
          refine step_append_lies _ rfl _ _ 71 rfl w.heap.size 62 j0 (.agg #[.int .i64 0, .int .i64 0, .string ByteArray.empty]) 3 32 Tryz.underlying71 hj jz0 jz1 jz2 rfl (by decide) fv e.fs.length (fldRows e.fs) rfl HFO.out ⟨w6.heap.size, 0, none⟩ 1 1 (fldRow (fldC c)) rfl rfl HNW.out (fun x hx => by simp [fldRow] at hx; rcases hx with rfl | rfl | rfl <;> rfl) (by decide) (by unfold maxLen; have := HFL.out; omega) (by have := HFL.out; omega) HWZ.out (w6.heap.size + 1) (by simp) ?_
          intro fg fcap w7 hown7 hg7 hat7 hlt7
          have HG7 : Hid ((w6.alloc (.cells #[.int .i64 c.what, .int .i64 c.num, .string c.v] 62)).grownBy w7 fv.ownBlock) := ⟨hg7.os, hg7.tape, hg7.output, hg7.size, hg7.block⟩
          have HNX : Hid (EL w (w7.setCell ⟨g, l'.length * 2 + 1, none⟩ (.slice (some ⟨fg, 0, none⟩) (e.fs.length + 1) fcap)) (.slice (some ⟨kg, 0, none⟩) S.length kc) S (.slice (some ⟨g, 0, none⟩) (l'.length + 1) cap) (k + 1)) := HE6.out.next hown7 HG7.out hat7 (Nat.le_succ _) HAD.out
          have hq7 := HCL.out w7 HG7.out
          have x1 := hq7.1
          have xf := hq7.2.1
          have HS7 : Hid (w7.cell? ⟨fb, 0, none⟩ = some (.int .i64 c.what) ∧ w7.cell? ⟨fb, 1, none⟩ = some (.int .i64 c.num) ∧ w7.cell? ⟨fb, 2, none⟩ = some (.string c.v)) := by
            have h := hq7.2.2
            show _ ∧ _ ∧ _
            simp [World.cell?, h]
          have HS8 : Hid ((w7.setCell ⟨g, l'.length * 2 + 1, none⟩ (.slice (some ⟨fg, 0, none⟩) (e.fs.length + 1) fcap)).cell? ⟨fb, 0, none⟩ = some (.int .i64 c.what) ∧ (w7.setCell ⟨g, l'.length * 2 + 1, none⟩ (.slice (some ⟨fg, 0, none⟩) (e.fs.length + 1) fcap)).cell? ⟨fb, 1, none⟩ = some (.int .i64 c.num) ∧ (w7.setCell ⟨g, l'.length * 2 + 1, none⟩ (.slice (some ⟨fg, 0, none⟩) (e.fs.length + 1) fcap)).cell? ⟨fb, 2, none⟩ = some (.string c.v)) := by
            have h := (Below.heap_setCell w7 ⟨g, l'.length * 2 + 1, none⟩ (.slice (some ⟨fg, 0, none⟩) (e.fs.length + 1) fcap) fb HGF.out).trans hq7.2.2
            show _ ∧ _ ∧ _
            simp only [World.cell?, h]
            exact ⟨rfl, rfl, rfl⟩
          clear hq7
          refine hK.out _ _ HS7.out (fun hHeld7 => ?_)
          clear hK K
          refine wpAnyH_take (i := 8) (v := ?_) rfl (by kernel_rfl) (by kernel_rfl) (by kernel_rfl) (fun _ _ _ h => h) (Or.inl ⟨by rfl, ?_⟩) (by assumption) ?_
          rotate_left
          · intro w hSw; (try dsimp only at hSw); go_simp; try with_reducible rfl
          simp only [Act.put, List.setIfInBounds_toArray, List.set_cons_zero, List.set_cons_succ, List.getElem_toArray, List.getElem_cons_succ, List.getElem_cons_zero]
          refine wpAnyH_take (i := 9) (v := ?_) rfl (by kernel_rfl) (by kernel_rfl) (by kernel_rfl) (fun _ _ _ h => h) (Or.inl ⟨by rfl, ?_⟩) (by assumption) ?_
          rotate_left
          · intro w hSw; (try dsimp only at hSw); go_simp; try with_reducible rfl
          simp only [Act.put, List.setIfInBounds_toArray, List.set_cons_zero, List.set_cons_succ, List.getElem_toArray, List.getElem_cons_succ, List.getElem_cons_zero]
          refine wpAnyH_ready (rs := [10]) (by kernel_rfl) (by simp) ?_
          refine AllReadyH.cons rfl (fun K hK => ?_) AllReadyH.nil
          go_simp
          refine hK.out _ _ HS8.out (fun hHeld9 => ?_)
          clear hK K
          refine wpAnyH_done (by kernel_rfl) ?_ _
          refine NoPanic.normal ?_
          go_wp2
          exact ⟨⟨k + 1, by omega, by go_num, HNX.out⟩, by simp [intOf]; omega⟩
        · go_simp
          refine hK.out _ _ HSA.out (fun hHeld4 => ?_)
          clear hK K
          refine wpAnyH_ready (rs := [4]) (by kernel_rfl) (by simp) ?_
          refine AllReadyH.cons rfl (fun K hK => ?_) AllReadyH.nil
          go_simp
          refine hK.out _ _ HSA.out (fun hHeld6 => ?_)
          clear hK K
          refine wpAnyH_ready (rs := [7]) (by kernel_rfl) (by simp) ?_
          refine AllReadyH.cons rfl (fun K hK => ?_) AllReadyH.nil
          refine step_append_lies _ rfl _ _ 71 rfl w.heap.size 62 j0 (.agg #[.int .i64 0, .int .i64 0, .string ByteArray.empty]) 3 32 Tryz.underlying71 hj jz0 jz1 jz2 rfl (by decide) fv e.fs.length (fldRows e.fs) rfl HFO.out ⟨w6.heap.size, 0, none⟩ 1 1 (fldRow (fldC c)) rfl rfl HNW.out (fun x hx => by simp [fldRow] at hx; rcases hx with rfl | rfl | rfl <;> rfl) (by decide) (by unfold maxLen; have := HFL.out; omega) (by have := HFL.out; omega) HWZ.out (w6.heap.size + 1) (by simp) ?_
          intro fg fcap w7 hown7 hg7 hat7 hlt7
          have HG7 : Hid ((w6.alloc (.cells #[.int .i64 c.what, .int .i64 c.num, .string c.v] 62)).grownBy w7 fv.ownBlock) := ⟨hg7.os, hg7.tape, hg7.output, hg7.size, hg7.block⟩
          have HNX : Hid (EL w (w7.setCell ⟨g, l'.length * 2 + 1, none⟩ (.slice (some ⟨fg, 0, none⟩) (e.fs.length + 1) fcap)) (.slice (some ⟨kg, 0, none⟩) S.length kc) S (.slice (some ⟨g, 0, none⟩) (l'.length + 1) cap) (k + 1)) := HE6.out.next hown7 HG7.out hat7 (Nat.le_succ _) HAD.out
          have hq7 := HCL.out w7 HG7.out
          have x1 := hq7.1
          have xf := hq7.2.1
          have HS7 : Hid (w7.cell? ⟨fb, 0, none⟩ = some (.int .i64 c.what) ∧ w7.cell? ⟨fb, 1, none⟩ = some (.int .i64 c.num) ∧ w7.cell? ⟨fb, 2, none⟩ = some (.string c.v)) := by
            have h := hq7.2.2
            show _ ∧ _ ∧ _
            simp [World.cell?, h]
          have HS8 : Hid ((w7.setCell ⟨g, l'.length * 2 + 1, none⟩ (.slice (some ⟨fg, 0, none⟩) (e.fs.length + 1) fcap)).cell? ⟨fb, 0, none⟩ = some (.int .i64 c.what) ∧ (w7.setCell ⟨g, l'.length * 2 + 1, none⟩ (.slice (some ⟨fg, 0, none⟩) (e.fs.length + 1) fcap)).cell? ⟨fb, 1, none⟩ = some (.int .i64 c.num) ∧ (w7.setCell ⟨g, l'.length * 2 + 1, none⟩ (.slice (some ⟨fg, 0, none⟩) (e.fs.length + 1) fcap)).cell? ⟨fb, 2, none⟩ = some (.string c.v)) := by
            have h := (Below.heap_setCell w7 ⟨g, l'.length * 2 + 1, none⟩ (.slice (some ⟨fg, 0, none⟩) (e.fs.length + 1) fcap) fb HGF.out).trans hq7.2.2
            show _ ∧ _ ∧ _
            simp only [World.cell?, h]
            exact ⟨rfl, rfl, rfl⟩
          clear hq7
          refine hK.out _ _ HS7.out (fun hHeld7 => ?_)
          clear hK K
          refine wpAnyH_take (i := 8) (v := ?_) rfl (by kernel_rfl) (by kernel_rfl) (by kernel_rfl) (fun _ _ _ h => h) (Or.inl ⟨by rfl, ?_⟩) (by assumption) ?_
          rotate_left
          · intro w hSw; (try dsimp only at hSw); go_simp; try with_reducible rfl
          simp only [Act.put, List.setIfInBounds_toArray, List.set_cons_zero, List.set_cons_succ, List.getElem_toArray, List.getElem_cons_succ, List.getElem_cons_zero]
          refine wpAnyH_take (i := 9) (v := ?_) rfl (by kernel_rfl) (by kernel_rfl) (by kernel_rfl) (fun _ _ _ h => h) (Or.inl ⟨by rfl, ?_⟩) (by assumption) ?_
          rotate_left
          · intro w hSw; (try dsimp only at hSw); go_simp; try with_reducible rfl
          simp only [Act.put, List.setIfInBounds_toArray, List.set_cons_zero, List.set_cons_succ, List.getElem_toArray, List.getElem_cons_succ, List.getElem_cons_zero]
          refine wpAnyH_ready (rs := [10]) (by kernel_rfl) (by simp) ?_
          refine AllReadyH.cons rfl (fun K hK => ?_) AllReadyH.nil
          go_simp
          refine hK.out _ _ HS8.out (fun hHeld9 => ?_)
          clear hK K
          refine wpAnyH_done (by kernel_rfl) ?_ _
          refine NoPanic.normal ?_
          go_wp2
          exact ⟨⟨k + 1, by omega, by go_num, HNX.out⟩, by simp [intOf]; omega⟩
      · rw [List.concat_eq_append] at hcon
        have hlen : l.length = l'.length + 1 := by rw [hcon]; simp
        have hw0 : IntKind.i64.wrap ((l.length : Int) - 1) = (l'.length : Int) := by rw [IntKind.wrap_i64]; omega
        have hx0 : (0 : Int) ≤ (l'.length : Int) := by omega
        have hx1 : (l'.length : Int) < (l.length : Int) := by omega
        have HPC : Hid (PairsNew wr w.heap.size (.slice oa l.length oc) (l' ++ [(e, fv)])) := by
          show PairsNew wr w.heap.size (.slice oa l.length oc) (l' ++ [(e, fv)])
          rw [← hcon]; exact HPP.out
        obtain ⟨g0, cap0, hgo, y0', y1', yf', hcp0, hcm0⟩ := HPC.out.last
        injection hgo with hgo1 hgo2 hgo3
        subst hgo1 hgo3
        by_cases hnm : e.name = c.f
        · have hq : (e.name.toList == c.f.toList) = true := str_eq hnm
          have hneg : decide ((l'.length : Int) < 0) = false := by simp
          have HAD : Hid (l'.map (·.1) ++ [⟨e.name, e.fs ++ [fldC c]⟩] = (S.take (k + 1)).foldl addE []) := by
            show _ = _
            rw [HST.out]
            exact addE_old (l := l') (e := e) (fv := fv) (by rw [← hcon]; exact HLE.out) hnm
          have HFL : Hid (e.fs.length ≤ 4194304) := by
            have hm : e ∈ (S.take k).foldl addE [] := by rw [← HLE.out, hcon]; simp
            have h := fold_fs (S.take k) [] 0 (fun e he => by cases he) e hm
            show _ ≤ _
            simp at h; omega
          have y0 := cell_keep BA.out (Nat.le_refl _) y0'
          obtain ⟨k0, k1⟩ : (wr.alloc (.cells #[.string c.f, .int .i64 c.what] 106)).cell? ⟨wr.heap.size, 0, none⟩ = some (.string c.f) ∧ (wr.alloc (.cells #[.string c.f, .int .i64 c.what] 106)).cell? ⟨wr.heap.size, 1, none⟩ = some (.int .i64 c.what) := ⟨by simp, by simp⟩
          have HEM0 : Hid (∀ nq, EM w ((wr.alloc (.cells #[.string c.f, .int .i64 c.what] 106)).drewN nq) (.slice (some ⟨kg, 0, none⟩) S.length kc) S (.slice (some ⟨g0, 0, none⟩) (l'.length + 1) oc) l' e fv) := fun nq => by
            have h : EM w wr (.slice (some ⟨kg, 0, none⟩) S.length kc) S (.slice (some ⟨g0, 0, none⟩) (l'.length + 1) oc) l' e fv := ⟨HE0.out.1, HE0.out.2, by rw [← hlen]; exact HPC.out⟩
            exact h.call (below_drewN BA.out nq)
          have hw2 : IntKind.i64.wrap ((l'.length : Int) + 1 - 1) = (l'.length : Int) := by rw [IntKind.wrap_i64]; omega
          have hx2 : (l'.length : Int) < (l'.length : Int) + 1 := by omega
          rw [hlen] at hll
          rw [hlen]
          clear hnm HLE HPC y1' yf' hcp0 hcm0 hw0 hx1
          go_upto_region 6 with fail
          go_quiet (fail)
          obtain ⟨w3, hw3⟩ : ∃ w3, w3 = (wr.alloc (.cells #[.string c.f, .int .i64 c.what] 106)).drewN nq := ⟨_, rfl⟩
          have HEM : Hid (EM w w3 (.slice (some ⟨kg, 0, none⟩) S.length kc) S (.slice (some ⟨g0, 0, none⟩) (l'.length + 1) oc) l' e fv) := by rw [hw3]; exact HEM0.out nq
          have X3 : w3.heap[wr.heap.size]? = some (.cells #[.string c.f, .int .i64 c.what] 106) := by rw [hw3]; exact XA.out
          rw [← hw3]
          clear hw3 HEM0 BA XA HPP y0 k0 k1
          obtain ⟨g, rfl⟩ : ∃ g, g = g0 := ⟨_, rfl⟩
          obtain ⟨cap, rfl⟩ : ∃ cap, cap = oc := ⟨_, rfl⟩
          have hz23 : wr.heap.size < w3.heap.size := (Array.getElem?_eq_some_iff.1 X3).1
          have HFB : Hid (∀ j, fv.ownBlock = some j → j < w3.heap.size) := own_lt (HEM.out.ents.flds (e, fv) (by simp))
          have HM3 : Hid (MapIs w3 b n S) := HM.out.kept (row := none) ⟨HEM.out.below.os, HEM.out.below.tape, HEM.out.below.output, HEM.out.below.size, fun j hj _ => HEM.out.below.block j hj⟩ (by simp)
          have hlk : (Instr.lookup 104 (.map (some b)) (.agg #[.string c.f, .int .i64 c.what]) false).run Tryz.prog w3 = .ok (.agg #[.int .i64 c.what, .int .i64 c.num, .string c.v]) w3 := by
            have h := HM3.out.lookup c HQ.out.1
            rw [HQ.out.2] at h
            exact h
          obtain ⟨p0, p1⟩ : w3.cell? ⟨wr.heap.size, 0, none⟩ = some (.string c.f) ∧ w3.cell? ⟨wr.heap.size, 1, none⟩ = some (.int .i64 c.what) := by simp [World.cell?, X3]
          go_wp2_with fail
          refine (clone_any c.v _ hcv).mono ?_
          rintro e5 w5 ⟨rfl, hb5⟩
          have X5 : w5.heap[w3.heap.size]? = some (.cells #[.int .i64 c.what, .int .i64 c.num, .string c.v] 62) := (hb5.block _ (by simp)).trans (heap_newF w3 _)
          have hb35 : Below w3.heap.size w3 w5 := below_step ((Below.refl _ _).alloc (Nat.le_refl _) _) hb5
          have hz5 : w3.heap.size < w5.heap.size := (Array.getElem?_eq_some_iff.1 X5).1
          obtain ⟨q0, q1, q2⟩ : w5.cell? ⟨w3.heap.size, 0, none⟩ = some (.int .i64 c.what) ∧ w5.cell? ⟨w3.heap.size, 1, none⟩ = some (.int .i64 c.num) ∧ w5.cell? ⟨w3.heap.size, 2, none⟩ = some (.string c.v) := by simp [World.cell?, X5]
          have qf : w5.frozen? ⟨w3.heap.size, 2, none⟩ = false := by simp [World.frozen?, X5]
          have HE6 : Hid (EM w (w5.setCell ⟨w3.heap.size, 2, none⟩ (.string c.v)) (.slice (some ⟨kg, 0, none⟩) S.length kc) S (.slice (some ⟨g, 0, none⟩) (l'.length + 1) cap) l' e fv) := HEM.out.call (below_set hb35 _ _ (Nat.le_refl _) _)
          have X6 : Hid ((w5.setCell ⟨w3.heap.size, 2, none⟩ (.string c.v)).heap[w3.heap.size]? = some (.cells #[.int .i64 c.what, .int .i64 c.num, .string c.v] 62) ∧ w3.heap.size < (w5.setCell ⟨w3.heap.size, 2, none⟩ (.string c.v)).heap.size) := by
            refine ⟨?_, by simpa using hz5⟩
            rw [setCell_eq_setRow _ _ _ _ _ _ _ X5]; exact setRow_heap _ _ _ _ _ _ X5
          have hL0 : (0 : Int) ≤ (l'.length : Int) := by omega
          have hL1 : (l'.length : Int) < (l'.length : Int) + 1 := by omega
          have hw1 : IntKind.i64.wrap ((l'.length : Int) + 1 - 1) = (l'.length : Int) := by rw [IntKind.wrap_i64]; omega
          clear hlk p0 p1 X3 hb5 hb35 HEM HM3
          go_upto_region 11 with fail
          generalize w5.setCell ⟨w3.heap.size, 2, none⟩ (.string c.v) = w6 at *
          clear q0 q1 q2 qf X5 hz5
          generalize w3.heap.size = fb at *
          obtain ⟨q0, q1, q2⟩ : w6.cell? ⟨fb, 0, none⟩ = some (.int .i64 c.what) ∧ w6.cell? ⟨fb, 1, none⟩ = some (.int .i64 c.num) ∧ w6.cell? ⟨fb, 2, none⟩ = some (.string c.v) := by simp [World.cell?, X6.out.1]
          obtain ⟨g', cap', hgo, y0, y1, yf, hcp, hcm⟩ := HE6.out.ents.last
          injection hgo with hgo1 hgo2 hgo3
          injection hgo1 with hgo1
          injection hgo1 with hgo1
          subst hgo1 hgo3
          have hfl := HE6.out.ents.flds (e, fv) (by simp)
          have hgz : g < w6.heap.size := lt_of_cell y0
          have HFO : Hid ((w6.alloc (.cells #[.int .i64 c.what, .int .i64 c.num, .string c.v] 62)).ownsRow w.heap.size 62 3 fv e.fs.length (fldRows e.fs)) := hfl.alloc _
          have HNW : Hid (∀ (j : Nat) (u : Value), (fldRow (fldC c))[j]? = some u → (w6.alloc (.cells #[.int .i64 c.what, .int .i64 c.num, .string c.v] 62)).cell? ((⟨w6.heap.size, 0, none⟩ : Addr).add j) = some u) := cell_three_new w6 _ _ _ _
          have HWZ : Hid (w.heap.size ≤ (w6.alloc (.cells #[.int .i64 c.what, .int .i64 c.num, .string c.v] 62)).heap.size) := by
            have := HE6.out.below.size
            show w.heap.size ≤ _
            simp; omega
          have HGF : Hid (fb ≠ g) := fun ee => own_other HE6.out.ents.row X6.out.1 (by decide) (by rw [ee]; rfl)
          have HCL : Hid (∀ wx : World, (w6.alloc (.cells #[.int .i64 c.what, .int .i64 c.num, .string c.v] 62)).grownBy wx fv.ownBlock → wx.cell? ⟨g, l'.length * 2 + 1, none⟩ = some fv ∧ wx.frozen? ⟨g, l'.length * 2 + 1, none⟩ = false ∧ wx.heap[fb]? = some (.cells #[.int .i64 c.what, .int .i64 c.num, .string c.v] 62)) := fun wx hgx => by
            have hg1 : wx.heap[g]? = w6.heap[g]? := (hgx.block g (by simp; omega) (own_apart hfl HE6.out.ents.row (by decide) g rfl)).trans (Below.heap_alloc _ _ _ hgz)
            have hf1 : wx.heap[fb]? = some (.cells #[.int .i64 c.what, .int .i64 c.num, .string c.v] 62) := (hgx.block fb (by have := X6.out.2; simp; omega) (fun ee => by have := HFB.out fb ee.symm; omega)).trans ((Below.heap_alloc _ _ _ X6.out.2).trans X6.out.1)
            exact ⟨(World.cell?_of_block (a := ⟨g, l'.length * 2 + 1, none⟩) hg1).trans y1, (World.frozen?_of_block (a := ⟨g, l'.length * 2 + 1, none⟩) hg1).trans yf, hf1⟩
          have hAL : Below w6.heap.size w6 (w6.alloc (.cells #[.int .i64 c.what, .int .i64 c.num, .string c.v] 62)) := (Below.refl _ _).alloc (Nat.le_refl _) _
          have HSA : Hid ((w6.alloc (.cells #[.int .i64 c.what, .int .i64 c.num, .string c.v] 62)).cell? ⟨fb, 0, none⟩ = some (.int .i64 c.what) ∧ (w6.alloc (.cells #[.int .i64 c.what, .int .i64 c.num, .string c.v] 62)).cell? ⟨fb, 1, none⟩ = some (.int .i64 c.num) ∧ (w6.alloc (.cells #[.int .i64 c.what, .int .i64 c.num, .string c.v] 62)).cell? ⟨fb, 2, none⟩ = some (.string c.v)) := ⟨cell_keep hAL (Nat.le_refl _) q0, cell_keep hAL (Nat.le_refl _) q1, cell_keep hAL (Nat.le_refl _) q2⟩
          clear hAL
          refine wp_region_noPanic ?_
          refine wp_region_held_drew (S := fun w' => w'.cell? ⟨fb, 0, none⟩ = some (.int .i64 c.what) ∧ w'.cell? ⟨fb, 1, none⟩ = some (.int .i64 c.num) ∧ w'.cell? ⟨fb, 2, none⟩ = some (.string c.v)) (by kernel_rfl) ?_ (fun hHeld => ?_)
          · exact ⟨q0, q1, q2⟩
          refine wpAnyH_take (i := 0) (v := ?_) rfl (by kernel_rfl) (by kernel_rfl) (by kernel_rfl) (fun _ _ _ h => h) (Or.inl ⟨by rfl, ?_⟩) (by assumption) ?_
          rotate_left
          · intro w hSw; (try dsimp only at hSw); go_simp; try with_reducible rfl
          simp only [Act.put, List.setIfInBounds_toArray, List.set_cons_zero, List.set_cons_succ, List.getElem_toArray, List.getElem_cons_succ, List.getElem_cons_zero]
          refine wpAnyH_take (i := 1) (v := ?_) rfl (by kernel_rfl) (by kernel_rfl) (by kernel_rfl) (fun _ _ _ h => h) (Or.inl ⟨by rfl, ?_⟩) (by assumption) ?_
          rotate_left
          · intro w hSw; (try dsimp only at hSw); go_simp; try with_reducible rfl
          simp only [Act.put, List.setIfInBounds_toArray, List.set_cons_zero, List.set_cons_succ, List.getElem_toArray, List.getElem_cons_succ, List.getElem_cons_zero]
          refine wpAnyH_take (i := 2) (v := ?_) rfl (by kernel_rfl) (by kernel_rfl) (by kernel_rfl) (fun _ _ _ h => h) (Or.inl ⟨by rfl, ?_⟩) (by assumption) ?_
          rotate_left
          · intro w hSw; (try dsimp only at hSw); go_simp; try with_reducible rfl
          simp only [Act.put, List.setIfInBounds_toArray, List.set_cons_zero, List.set_cons_succ, List.getElem_toArray, List.getElem_cons_succ, List.getElem_cons_zero]
          refine wpAnyH_take (i := 3) (v := ?_) rfl (by kernel_rfl) (by kernel_rfl) (by kernel_rfl) (fun _ _ _ h => h) (Or.inl ⟨by rfl, ?_⟩) (by assumption) ?_
          rotate_left
          · intro w hSw; (try dsimp only at hSw); go_simp; try with_reducible rfl
          simp only [Act.put, List.setIfInBounds_toArray, List.set_cons_zero, List.set_cons_succ, List.getElem_toArray, List.getElem_cons_succ, List.getElem_cons_zero]
          refine wpAnyH_take (i := 5) (v := ?_) rfl (by kernel_rfl) (by kernel_rfl) (by kernel_rfl) (fun _ _ _ h => h) (Or.inl ⟨by rfl, ?_⟩) (by assumption) ?_
          rotate_left
          · intro w hSw; (try dsimp only at hSw); go_simp; try with_reducible rfl
          simp only [Act.put, List.setIfInBounds_toArray, List.set_cons_zero, List.set_cons_succ, List.getElem_toArray, List.getElem_cons_succ, List.getElem_cons_zero]
          refine wpAnyH_ready (rs := [4, 6]) (by kernel_rfl) (by simp) ?_
          refine AllReadyH.cons rfl (fun K hK => ?_) (AllReadyH.cons rfl (fun K hK => ?_) AllReadyH.nil)
          · go_simp
            refine hK.out _ _ ⟨q0, q1, q2⟩ (fun hHeld4 => ?_)
            clear hK K
            refine wpAnyH_ready (rs := [6]) (by kernel_rfl) (by simp) ?_
            refine AllReadyH.cons rfl (fun K hK => ?_) AllReadyH.nil
            go_simp
            refine hK.out _ _ HSA.out (fun hHeld6 => ?_)
            clear hK K
            refine wpAnyH_ready (rs := [7]) (by kernel_rfl) (by simp) ?_
            refine AllReadyH.cons rfl (fun K hK => ?_) AllReadyH.nil
            refine step_append_lies _ rfl _ _ 71 rfl w.heap.size 62 j0 (.agg #[.int .i64 0, .int .i64 0, .string ByteArray.empty]) 3 32 Tryz.underlying71 hj jz0 jz1 jz2 rfl (by decide) fv e.fs.length (fldRows e.fs) rfl HFO.out ⟨w6.heap.size, 0, none⟩ 1 1 (fldRow (fldC c)) rfl rfl HNW.out (fun x hx => by simp [fldRow] at hx; rcases hx with rfl | rfl | rfl <;> rfl) (by decide) (by unfold maxLen; have := HFL.out; omega) (by have := HFL.out; omega) HWZ.out (w6.heap.size + 1) (by simp) ?_
            intro fg fcap w7 hown7 hg7 hat7 hlt7
            have HG7 : Hid ((w6.alloc (.cells #[.int .i64 c.what, .int .i64 c.num, .string c.v] 62)).grownBy w7 fv.ownBlock) := ⟨hg7.os, hg7.tape, hg7.output, hg7.size, hg7.block⟩
            have HNX : Hid (EL w (w7.setCell ⟨g, l'.length * 2 + 1, none⟩ (.slice (some ⟨fg, 0, none⟩) (e.fs.length + 1) fcap)) (.slice (some ⟨kg, 0, none⟩) S.length kc) S (.slice (some ⟨g, 0, none⟩) (l'.length + 1) cap) (k + 1)) := HE6.out.next hown7 HG7.out hat7 (Nat.le_succ _) HAD.out
            have hq7 := HCL.out w7 HG7.out
            have x1 := hq7.1
            have xf := hq7.2.1
            have HS7 : Hid (w7.cell? ⟨fb, 0, none⟩ = some (.int .i64 c.what) ∧ w7.cell? ⟨fb, 1, none⟩ = some (.int .i64 c.num) ∧ w7.cell? ⟨fb, 2, none⟩ = some (.string c.v)) := by
              have h := hq7.2.2
              show _ ∧ _ ∧ _
              simp [World.cell?, h]
            have HS8 : Hid ((w7.setCell ⟨g, l'.length * 2 + 1, none⟩ (.slice (some ⟨fg, 0, none⟩) (e.fs.length + 1) fcap)).cell? ⟨fb, 0, none⟩ = some (.int .i64 c.what) ∧ (w7.setCell ⟨g, l'.length * 2 + 1, none⟩ (.slice (some ⟨fg, 0, none⟩) (e.fs.length + 1) fcap)).cell? ⟨fb, 1, none⟩ = some (.int .i64 c.num) ∧ (w7.setCell ⟨g, l'.length * 2 + 1, none⟩ (.slice (some ⟨fg, 0, none⟩) (e.fs.length + 1) fcap)).cell? ⟨fb, 2, none⟩ = some (.string c.v)) := by
              have h := (Below.heap_setCell w7 ⟨g, l'.length * 2 + 1, none⟩ (.slice (some ⟨fg, 0, none⟩) (e.fs.length + 1) fcap) fb HGF.out).trans hq7.2.2
              show _ ∧ _ ∧ _
              simp only [World.cell?, h]
              exact ⟨rfl, rfl, rfl⟩
            clear hq7
            refine hK.out _ _ HS7.out (fun hHeld7 => ?_)
            clear hK K
            refine wpAnyH_take (i := 8) (v := ?_) rfl (by kernel_rfl) (by kernel_rfl) (by kernel_rfl) (fun _ _ _ h => h) (Or.inl ⟨by rfl, ?_⟩) (by assumption) ?_
            rotate_left
            · intro w hSw; (try dsimp only at hSw); go_simp; try with_reducible rfl
            simp only [Act.put, List.setIfInBounds_toArray, List.set_cons_zero, List.set_cons_succ, List.getElem_toArray, List.getElem_cons_succ, List.getElem_cons_zero]
            refine wpAnyH_take (i := 9) (v := ?_) rfl (by kernel_rfl) (by kernel_rfl) (by kernel_rfl) (fun _ _ _ h => h) (Or.inl ⟨by rfl, ?_⟩) (by assumption) ?_
            rotate_left
            · intro w hSw; (try dsimp only at hSw); go_simp; try with_reducible rfl
            simp only [Act.put, List.setIfInBounds_toArray, List.set_cons_zero, List.set_cons_succ, List.getElem_toArray, List.getElem_cons_succ, List.getElem_cons_zero]
            refine wpAnyH_ready (rs := [10]) (by kernel_rfl) (by simp) ?_
            refine AllReadyH.cons rfl (fun K hK => ?_) AllReadyH.nil
            go_simp
            refine hK.out _ _ HS8.out (fun hHeld9 => ?_)
            clear hK K
            refine wpAnyH_done (by kernel_rfl) ?_ _
            refine NoPanic.normal ?_
            go_wp2
            exact ⟨⟨k + 1, by omega, by go_num, HNX.out⟩, by simp [intOf]; omega⟩
          · go_simp
            refine hK.out _ _ HSA.out (fun hHeld4 => ?_)
            clear hK K
            refine wpAnyH_ready (rs := [4]) (by kernel_rfl) (by simp) ?_
            refine AllReadyH.cons rfl (fun K hK => ?_) AllReadyH.nil
            go_simp
            refine hK.out _ _ HSA.out (fun hHeld6 => ?_)
            clear hK K
            refine wpAnyH_ready (rs := [7]) (by kernel_rfl) (by simp) ?_
            refine AllReadyH.cons rfl (fun K hK => ?_) AllReadyH.nil
            refine step_append_lies _ rfl _ _ 71 rfl w.heap.size 62 j0 (.agg #[.int .i64 0, .int .i64 0, .string ByteArray.empty]) 3 32 Tryz.underlying71 hj jz0 jz1 jz2 rfl (by decide) fv e.fs.length (fldRows e.fs) rfl HFO.out ⟨w6.heap.size, 0, none⟩ 1 1 (fldRow (fldC c)) rfl rfl HNW.out (fun x hx => by simp [fldRow] at hx; rcases hx with rfl | rfl | rfl <;> rfl) (by decide) (by unfold maxLen; have := HFL.out; omega) (by have := HFL.out; omega) HWZ.out (w6.heap.size + 1) (by simp) ?_
            intro fg fcap w7 hown7 hg7 hat7 hlt7
            have HG7 : Hid ((w6.alloc (.cells #[.int .i64 c.what, .int .i64 c.num, .string c.v] 62)).grownBy w7 fv.ownBlock) := ⟨hg7.os, hg7.tape, hg7.output, hg7.size, hg7.block⟩
            have HNX : Hid (EL w (w7.setCell ⟨g, l'.length * 2 + 1, none⟩ (.slice (some ⟨fg, 0, none⟩) (e.fs.length + 1) fcap)) (.slice (some ⟨kg, 0, none⟩) S.length kc) S (.slice (some ⟨g, 0, none⟩) (l'.length + 1) cap) (k + 1)) := HE6.out.next hown7 HG7.out hat7 (Nat.le_succ _) HAD.out
            have hq7 := HCL.out w7 HG7.out
            have x1 := hq7.1
            have xf := hq7.2.1
            have HS7 : Hid (w7.cell? ⟨fb, 0, none⟩ = some (.int .i64 c.what) ∧ w7.cell? ⟨fb, 1, none⟩ = some (.int .i64 c.num) ∧ w7.cell? ⟨fb, 2, none⟩ = some (.string c.v)) := by
              have h := hq7.2.2
              show _ ∧ _ ∧ _
              simp [World.cell?, h]
            have HS8 : Hid ((w7.setCell ⟨g, l'.length * 2 + 1, none⟩ (.slice (some ⟨fg, 0, none⟩) (e.fs.length + 1) fcap)).cell? ⟨fb, 0, none⟩ = some (.int .i64 c.what) ∧ (w7.setCell ⟨g, l'.length * 2 + 1, none⟩ (.slice (some ⟨fg, 0, none⟩) (e.fs.length + 1) fcap)).cell? ⟨fb, 1, none⟩ = some (.int .i64 c.num) ∧ (w7.setCell ⟨g, l'.length * 2 + 1, none⟩ (.slice (some ⟨fg, 0, none⟩) (e.fs.length + 1) fcap)).cell? ⟨fb, 2, none⟩ = some (.string c.v)) := by
              have h := (Below.heap_setCell w7 ⟨g, l'.length * 2 + 1, none⟩ (.slice (some ⟨fg, 0, none⟩) (e.fs.length + 1) fcap) fb HGF.out).trans hq7.2.2
              show _ ∧ _ ∧ _
              simp only [World.cell?, h]
              exact ⟨rfl, rfl, rfl⟩
            clear hq7
            refine hK.out _ _ HS7.out (fun hHeld7 => ?_)
            clear hK K
            refine wpAnyH_take (i := 8) (v := ?_) rfl (by kernel_rfl) (by kernel_rfl) (by kernel_rfl) (fun _ _ _ h => h) (Or.inl ⟨by rfl, ?_⟩) (by assumption) ?_
            rotate_left
            · intro w hSw; (try dsimp only at hSw); go_simp; try with_reducible rfl
            simp only [Act.put, List.setIfInBounds_toArray, List.set_cons_zero, List.set_cons_succ, List.getElem_toArray, List.getElem_cons_succ, List.getElem_cons_zero]
            refine wpAnyH_take (i := 9) (v := ?_) rfl (by kernel_rfl) (by kernel_rfl) (by kernel_rfl) (fun _ _ _ h => h) (Or.inl ⟨by rfl, ?_⟩) (by assumption) ?_
            rotate_left
            · intro w hSw; (try dsimp only at hSw); go_simp; try with_reducible rfl
            simp only [Act.put, List.setIfInBounds_toArray, List.set_cons_zero, List.set_cons_succ, List.getElem_toArray, List.getElem_cons_succ, List.getElem_cons_zero]
            refine wpAnyH_ready (rs := [10]) (by kernel_rfl) (by simp) ?_
            refine AllReadyH.cons rfl (fun K hK => ?_) AllReadyH.nil
            go_simp
            refine hK.out _ _ HS8.out (fun hHeld9 => ?_)
            clear hK K
            refine wpAnyH_done (by kernel_rfl) ?_ _
            refine NoPanic.normal ?_
            go_wp2
            exact ⟨⟨k + 1, by omega, by go_num, HNX.out⟩, by simp [intOf]; omega⟩
        · have hq : (e.name.toList == c.f.toList) = false := str_ne hnm
          have hneg : decide ((l'.length : Int) < 0) = false := by simp
          have HAD : Hid (l.map (·.1) ++ [⟨c.f, [] ++ [fldC c]⟩] = (S.take (k + 1)).foldl addE []) := by
            show _ = _
            rw [HST.out]
            exact addE_fresh HLE.out fun e' he => by
              rw [← HLE.out, hcon, List.map_append] at he
              simp at he
              rw [← he]; exact hnm
          have y0 := cell_keep BA.out (Nat.le_refl _) y0'
          obtain ⟨k0, k1⟩ : (wr.alloc (.cells #[.string c.f, .int .i64 c.what] 106)).cell? ⟨wr.heap.size, 0, none⟩ = some (.string c.f) ∧ (wr.alloc (.cells #[.string c.f, .int .i64 c.what] 106)).cell? ⟨wr.heap.size, 1, none⟩ = some (.int .i64 c.what) := ⟨by simp, by simp⟩
          clear hnm HLE HPC y1' yf' hcp0 hcm0 hcon hlen hgo2
          go_upto_region 6 with fail
          clear hw0
          go_quiet (fail)
          go_wp2_with fail
          refine (clone_any c.f _ hcs).mono ?_
          rintro e1 w2 ⟨rfl, hb2'⟩
          have hb2 : Below wr.heap.size wr w2 := below_step BA.out ⟨hb2'.os, hb2'.tape, hb2'.output, hb2'.size, hb2'.block⟩
          have X2 : w2.heap[wr.heap.size]? = some (.cells #[.string c.f, .int .i64 c.what] 106) := (hb2'.block _ (by simp)).trans XA.out
          have ho2 := HPP.out.keep hb2
          have hzw2 := (below_step HE0.out.1 hb2).size
          have HNW2 : Hid (∀ (j : Nat) (u : Value), [Value.string c.f, .slice none 0 0][j]? = some u → (w2.alloc (.cells #[.string c.f, .slice none 0 0] 73)).cell? ((⟨w2.heap.size, 0, none⟩ : Addr).add j) = some u) := cell_two_new w2 _ _ _
          go_upto_region 8 with (at_builtin; go_loud (refine wpList_append_lies _ rfl _ _ 37 rfl w.heap.size 73 i0 (.agg #[.string ByteArray.empty, .slice none 0 0]) 2 40 Tryz.underlying37 hi hz0 hz1 hz2 rfl (by decide) _ l.length (pairRows l) rfl (ho2.row.alloc _) ⟨w2.heap.size, 0, none⟩ 1 1 [.string c.f, .slice none 0 0] rfl rfl HNW2.out (fun x hx => by simp at hx; rcases hx with rfl | rfl <;> rfl) (by decide) (by unfold maxLen; omega) (by omega) (by simp; omega) _ rfl ?_); intro g cap w3 hown3 hg3 hat3 hlt3)
          have hz23 : wr.heap.size < w2.heap.size := (Array.getElem?_eq_some_iff.1 X2).1
          have X3 : w3.heap[wr.heap.size]? = some (.cells #[.string c.f, .int .i64 c.what] 106) := (hg3.block _ (by simp; omega) (own_other ho2.row X2 (by decide))).trans ((Below.heap_alloc _ _ _ hz23).trans X2)
          have HEM0 : Hid (EM w w3 (.slice (some ⟨kg, 0, none⟩) S.length kc) S (.slice (some ⟨g, 0, none⟩) (l.length + 1) cap) l ⟨c.f, []⟩ (.slice none 0 0)) := EM.push (below_step HE0.out.1 hb2) (ownsRow_keep HE0.out.2 hb2) ho2 hown3 hg3
          obtain ⟨q, HQQ⟩ : ∃ q : Ent × Value, Hid (EM w w3 (.slice (some ⟨kg, 0, none⟩) S.length kc) S (.slice (some ⟨g, 0, none⟩) (l.length + 1) cap) l q.1 q.2 ∧ l.map (·.1) ++ [⟨q.1.name, q.1.fs ++ [fldC c]⟩] = (S.take (k + 1)).foldl addE [] ∧ q.1.fs.length ≤ 4194304) := ⟨(⟨c.f, []⟩, .slice none 0 0), HEM0.out, HAD.out, by simp⟩
          clear hown3 hg3 hat3 hlt3 hb2 X2 ho2 HNW2 BA XA HPP HEM0 HAD
          obtain ⟨e, fv⟩ := q
          obtain ⟨l', hl'⟩ : ∃ l' : List EntV, l' = l := ⟨_, rfl⟩
          rw [← hl'] at HQQ hll
          simp only [← hl']
          clear hl'
          have HEM : Hid (EM w w3 (.slice (some ⟨kg, 0, none⟩) S.length kc) S (.slice (some ⟨g, 0, none⟩) (l'.length + 1) cap) l' e fv) := HQQ.out.1
          have HAD : Hid (l'.map (·.1) ++ [⟨e.name, e.fs ++ [fldC c]⟩] = (S.take (k + 1)).foldl addE []) := HQQ.out.2.1
          have HFL : Hid (e.fs.length ≤ 4194304) := HQQ.out.2.2
          clear HQQ
          have HFB : Hid (∀ j, fv.ownBlock = some j → j < w3.heap.size) := own_lt (HEM.out.ents.flds (e, fv) (by simp))
          have HM3 : Hid (MapIs w3 b n S) := HM.out.kept (row := none) ⟨HEM.out.below.os, HEM.out.below.tape, HEM.out.below.output, HEM.out.below.size, fun j hj _ => HEM.out.below.block j hj⟩ (by simp)
          have hlk : (Instr.lookup 104 (.map (some b)) (.agg #[.string c.f, .int .i64 c.what]) false).run Tryz.prog w3 = .ok (.agg #[.int .i64 c.what, .int .i64 c.num, .string c.v]) w3 := by
            have h := HM3.out.lookup c HQ.out.1
            rw [HQ.out.2] at h
            exact h
          obtain ⟨p0, p1⟩ : w3.cell? ⟨wr.heap.size, 0, none⟩ = some (.string c.f) ∧ w3.cell? ⟨wr.heap.size, 1, none⟩ = some (.int .i64 c.what) := by simp [World.cell?, X3]
          go_wp2_with fail
          refine (clone_any c.v _ hcv).mono ?_
          rintro e5 w5 ⟨rfl, hb5⟩
          have X5 : w5.heap[w3.heap.size]? = some (.cells #[.int .i64 c.what, .int .i64 c.num, .string c.v] 62) := (hb5.block _ (by simp)).trans (heap_newF w3 _)
          have hb35 : Below w3.heap.size w3 w5 := below_step ((Below.refl _ _).alloc (Nat.le_refl _) _) hb5
          have hz5 : w3.heap.size < w5.heap.size := (Array.getElem?_eq_some_iff.1 X5).1
          obtain ⟨q0, q1, q2⟩ : w5.cell? ⟨w3.heap.size, 0, none⟩ = some (.int .i64 c.what) ∧ w5.cell? ⟨w3.heap.size, 1, none⟩ = some (.int .i64 c.num) ∧ w5.cell? ⟨w3.heap.size, 2, none⟩ = some (.string c.v) := by simp [World.cell?, X5]
          have qf : w5.frozen? ⟨w3.heap.size, 2, none⟩ = false := by simp [World.frozen?, X5]
          have HE6 : Hid (EM w (w5.setCell ⟨w3.heap.size, 2, none⟩ (.string c.v)) (.slice (some ⟨kg, 0, none⟩) S.length kc) S (.slice (some ⟨g, 0, none⟩) (l'.length + 1) cap) l' e fv) := HEM.out.call (below_set hb35 _ _ (Nat.le_refl _) _)
          have X6 : Hid ((w5.setCell ⟨w3.heap.size, 2, none⟩ (.string c.v)).heap[w3.heap.size]? = some (.cells #[.int .i64 c.what, .int .i64 c.num, .string c.v] 62) ∧ w3.heap.size < (w5.setCell ⟨w3.heap.size, 2, none⟩ (.string c.v)).heap.size) := by
            refine ⟨?_, by simpa using hz5⟩
            rw [setCell_eq_setRow _ _ _ _ _ _ _ X5]; exact setRow_heap _ _ _ _ _ _ X5
          have hL0 : (0 : Int) ≤ (l'.length : Int) := by omega
          have hL1 : (l'.length : Int) < (l'.length : Int) + 1 := by omega
          have hw1 : IntKind.i64.wrap ((l'.length : Int) + 1 - 1) = (l'.length : Int) := by rw [IntKind.wrap_i64]; omega
          clear hlk p0 p1 X3 hb5 hb35 HEM HM3
          go_upto_region 11 with fail
          generalize w5.setCell ⟨w3.heap.size, 2, none⟩ (.string c.v) = w6 at *
          clear q0 q1 q2 qf X5 hz5
          generalize w3.heap.size = fb at *
          obtain ⟨q0, q1, q2⟩ : w6.cell? ⟨fb, 0, none⟩ = some (.int .i64 c.what) ∧ w6.cell? ⟨fb, 1, none⟩ = some (.int .i64 c.num) ∧ w6.cell? ⟨fb, 2, none⟩ = some (.string c.v) := by simp [World.cell?, X6.out.1]
          obtain ⟨g', cap', hgo, y0, y1, yf, hcp, hcm⟩ := HE6.out.ents.last
          injection hgo with hgo1 hgo2 hgo3
          injection hgo1 with hgo1
          injection hgo1 with hgo1
          subst hgo1 hgo3
          have hfl := HE6.out.ents.flds (e, fv) (by simp)
          have hgz : g < w6.heap.size := lt_of_cell y0
          have HFO : Hid ((w6.alloc (.cells #[.int .i64 c.what, .int .i64 c.num, .string c.v] 62)).ownsRow w.heap.size 62 3 fv e.fs.length (fldRows e.fs)) := hfl.alloc _
          have HNW : Hid (∀ (j : Nat) (u : Value), (fldRow (fldC c))[j]? = some u → (w6.alloc (.cells #[.int .i64 c.what, .int .i64 c.num, .string c.v] 62)).cell? ((⟨w6.heap.size, 0, none⟩ : Addr).add j) = some u) := cell_three_new w6 _ _ _ _
          have HWZ : Hid (w.heap.size ≤ (w6.alloc (.cells #[.int .i64 c.what, .int .i64 c.num, .string c.v] 62)).heap.size) := by
            have := HE6.out.below.size
            show w.heap.size ≤ _
            simp; omega
          have HGF : Hid (fb ≠ g) := fun ee => own_other HE6.out.ents.row X6.out.1 (by decide) (by rw [ee]; rfl)
          have HCL : Hid (∀ wx : World, (w6.alloc (.cells #[.int .i64 c.what, .int .i64 c.num, .string c.v] 62)).grownBy wx fv.ownBlock → wx.cell? ⟨g, l'.length * 2 + 1, none⟩ = some fv ∧ wx.frozen? ⟨g, l'.length * 2 + 1, none⟩ = false ∧ wx.heap[fb]? = some (.cells #[.int .i64 c.what, .int .i64 c.num, .string c.v] 62)) := fun wx hgx => by
            have hg1 : wx.heap[g]? = w6.heap[g]? := (hgx.block g (by simp; omega) (own_apart hfl HE6.out.ents.row (by decide) g rfl)).trans (Below.heap_alloc _ _ _ hgz)
            have hf1 : wx.heap[fb]? = some (.cells #[.int .i64 c.what, .int .i64 c.num, .string c.v] 62) := (hgx.block fb (by have := X6.out.2; simp; omega) (fun ee => by have := HFB.out fb ee.symm; omega)).trans ((Below.heap_alloc _ _ _ X6.out.2).trans X6.out.1)
            exact ⟨(World.cell?_of_block (a := ⟨g, l'.length * 2 + 1, none⟩) hg1).trans y1, (World.frozen?_of_block (a := ⟨g, l'.length * 2 + 1, none⟩) hg1).trans yf, hf1⟩
          have hAL : Below w6.heap.size w6 (w6.alloc (.cells #[.int .i64 c.what, .int .i64 c.num, .string c.v] 62)) := (Below.refl _ _).alloc (Nat.le_refl _) _
          have HSA : Hid ((w6.alloc (.cells #[.int .i64 c.what, .int .i64 c.num, .string c.v] 62)).cell? ⟨fb, 0, none⟩ = some (.int .i64 c.what) ∧ (w6.alloc (.cells #[.int .i64 c.what, .int .i64 c.num, .string c.v] 62)).cell? ⟨fb, 1, none⟩ = some (.int .i64 c.num) ∧ (w6.alloc (.cells #[.int .i64 c.what, .int .i64 c.num, .string c.v] 62)).cell? ⟨fb, 2, none⟩ = some (.string c.v)) := ⟨cell_keep hAL (Nat.le_refl _) q0, cell_keep hAL (Nat.le_refl _) q1, cell_keep hAL (Nat.le_refl _) q2⟩
          clear hAL
          refine wp_region_noPanic ?_
          refine wp_region_held_drew (S := fun w' => w'.cell? ⟨fb, 0, none⟩ = some (.int .i64 c.what) ∧ w'.cell? ⟨fb, 1, none⟩ = some (.int .i64 c.num) ∧ w'.cell? ⟨fb, 2, none⟩ = some (.string c.v)) (by kernel_rfl) ?_ (fun hHeld => ?_)
          · exact ⟨q0, q1, q2⟩
          refine wpAnyH_take (i := 0) (v := ?_) rfl (by kernel_rfl) (by kernel_rfl) (by kernel_rfl) (fun _ _ _ h => h) (Or.inl ⟨by rfl, ?_⟩) (by assumption) ?_
          rotate_left
          · intro w hSw; (try dsimp only at hSw); go_simp; try with_reducible rfl
          simp only [Act.put, List.setIfInBounds_toArray, List.set_cons_zero, List.set_cons_succ, List.getElem_toArray, List.getElem_cons_succ, List.getElem_cons_zero]
          refine wpAnyH_take (i := 1) (v := ?_) rfl (by kernel_rfl) (by kernel_rfl) (by kernel_rfl) (fun _ _ _ h => h) (Or.inl ⟨by rfl, ?_⟩) (by assumption) ?_
          rotate_left
          · intro w hSw; (try dsimp only at hSw); go_simp; try with_reducible rfl
          simp only [Act.put, List.setIfInBounds_toArray, List.set_cons_zero, List.set_cons_succ, List.getElem_toArray, List.getElem_cons_succ, List.getElem_cons_zero]
          refine wpAnyH_take (i := 2) (v := ?_) rfl (by kernel_rfl) (by kernel_rfl) (by kernel_rfl) (fun _ _ _ h => h) (Or.inl ⟨by rfl, ?_⟩) (by assumption) ?_
          rotate_left
          · intro w hSw; (try dsimp only at hSw); go_simp; try with_reducible rfl
          simp only [Act.put, List.setIfInBounds_toArray, List.set_cons_zero, List.set_cons_succ, List.getElem_toArray, List.getElem_cons_succ, List.getElem_cons_zero]
          refine wpAnyH_take (i := 3) (v := ?_) rfl (by kernel_rfl) (by kernel_rfl) (by kernel_rfl) (fun _ _ _ h => h) (Or.inl ⟨by rfl, ?_⟩) (by assumption) ?_
          rotate_left
          · intro w hSw; (try dsimp only at hSw); go_simp; try with_reducible rfl
          simp only [Act.put, List.setIfInBounds_toArray, List.set_cons_zero, List.set_cons_succ, List.getElem_toArray, List.getElem_cons_succ, List.getElem_cons_zero]
          refine wpAnyH_take (i := 5) (v := ?_) rfl (by kernel_rfl) (by kernel_rfl) (by kernel_rfl) (fun _ _ _ h => h) (Or.inl ⟨by rfl, ?_⟩) (by assumption) ?_
          rotate_left
          · intro w hSw; (try dsimp only at hSw); go_simp; try with_reducible rfl
          simp only [Act.put, List.setIfInBounds_toArray, List.set_cons_zero, List.set_cons_succ, List.getElem_toArray, List.getElem_cons_succ, List.getElem_cons_zero]
          refine wpAnyH_ready (rs := [4, 6]) (by kernel_rfl) (by simp) ?_
          refine AllReadyH.cons rfl (fun K hK => ?_) (AllReadyH.cons rfl (fun K hK => ?_) AllReadyH.nil)
          · go_simp
            refine hK.out _ _ ⟨q0, q1, q2⟩ (fun hHeld4 => ?_)
            clear hK K
            refine wpAnyH_ready (rs := [6]) (by kernel_rfl) (by simp) ?_
            refine AllReadyH.cons rfl (fun K hK => ?_) AllReadyH.nil
            go_simp
            refine hK.out _ _ HSA.out (fun hHeld6 => ?_)
            clear hK K
            refine wpAnyH_ready (rs := [7]) (by kernel_rfl) (by simp) ?_
            refine AllReadyH.cons rfl (fun K hK => ?_) AllReadyH.nil
            refine step_append_lies _ rfl _ _ 71 rfl w.heap.size 62 j0 (.agg #[.int .i64 0, .int .i64 0, .string ByteArray.empty]) 3 32 Tryz.underlying71 hj jz0 jz1 jz2 rfl (by decide) fv e.fs.length (fldRows e.fs) rfl HFO.out ⟨w6.heap.size, 0, none⟩ 1 1 (fldRow (fldC c)) rfl rfl HNW.out (fun x hx => by simp [fldRow] at hx; rcases hx with rfl | rfl | rfl <;> rfl) (by decide) (by unfold maxLen; have := HFL.out; omega) (by have := HFL.out; omega) HWZ.out (w6.heap.size + 1) (by simp) ?_
            intro fg fcap w7 hown7 hg7 hat7 hlt7
            have HG7 : Hid ((w6.alloc (.cells #[.int .i64 c.what, .int .i64 c.num, .string c.v] 62)).grownBy w7 fv.ownBlock) := ⟨hg7.os, hg7.tape, hg7.output, hg7.size, hg7.block⟩
            have HNX : Hid (EL w (w7.setCell ⟨g, l'.length * 2 + 1, none⟩ (.slice (some ⟨fg, 0, none⟩) (e.fs.length + 1) fcap)) (.slice (some ⟨kg, 0, none⟩) S.length kc) S (.slice (some ⟨g, 0, none⟩) (l'.length + 1) cap) (k + 1)) := HE6.out.next hown7 HG7.out hat7 (Nat.le_succ _) HAD.out
            have hq7 := HCL.out w7 HG7.out
            have x1 := hq7.1
            have xf := hq7.2.1
            have HS7 : Hid (w7.cell? ⟨fb, 0, none⟩ = some (.int .i64 c.what) ∧ w7.cell? ⟨fb, 1, none⟩ = some (.int .i64 c.num) ∧ w7.cell? ⟨fb, 2, none⟩ = some (.string c.v)) := by
              have h := hq7.2.2
              show _ ∧ _ ∧ _
              simp [World.cell?, h]
            have HS8 : Hid ((w7.setCell ⟨g, l'.length * 2 + 1, none⟩ (.slice (some ⟨fg, 0, none⟩) (e.fs.length + 1) fcap)).cell? ⟨fb, 0, none⟩ = some (.int .i64 c.what) ∧ (w7.setCell ⟨g, l'.length * 2 + 1, none⟩ (.slice (some ⟨fg, 0, none⟩) (e.fs.length + 1) fcap)).cell? ⟨fb, 1, none⟩ = some (.int .i64 c.num) ∧ (w7.setCell ⟨g, l'.length * 2 + 1, none⟩ (.slice (some ⟨fg, 0, none⟩) (e.fs.length + 1) fcap)).cell? ⟨fb, 2, none⟩ = some (.string c.v)) := by
              have h := (Below.heap_setCell w7 ⟨g, l'.length * 2 + 1, none⟩ (.slice (some ⟨fg, 0, none⟩) (e.fs.length + 1) fcap) fb HGF.out).trans hq7.2.2
              show _ ∧ _ ∧ _
              simp only [World.cell?, h]
              exact ⟨rfl, rfl, rfl⟩
            clear hq7
            refine hK.out _ _ HS7.out (fun hHeld7 => ?_)
            clear hK K
            refine wpAnyH_take (i := 8) (v := ?_) rfl (by kernel_rfl) (by kernel_rfl) (by kernel_rfl) (fun _ _ _ h => h) (Or.inl ⟨by rfl, ?_⟩) (by assumption) ?_
            rotate_left
            · intro w hSw; (try dsimp only at hSw); go_simp; try with_reducible rfl
            simp only [Act.put, List.setIfInBounds_toArray, List.set_cons_zero, List.set_cons_succ, List.getElem_toArray, List.getElem_cons_succ, List.getElem_cons_zero]
            refine wpAnyH_take (i := 9) (v := ?_) rfl (by kernel_rfl) (by kernel_rfl) (by kernel_rfl) (fun _ _ _ h => h) (Or.inl ⟨by rfl, ?_⟩) (by assumption) ?_
            rotate_left
            · intro w hSw; (try dsimp only at hSw); go_simp; try with_reducible rfl
            simp only [Act.put, List.setIfInBounds_toArray, List.set_cons_zero, List.set_cons_succ, List.getElem_toArray, List.getElem_cons_succ, List.getElem_cons_zero]
            refine wpAnyH_ready (rs := [10]) (by kernel_rfl) (by simp) ?_
            refine AllReadyH.cons rfl (fun K hK => ?_) AllReadyH.nil
            go_simp
            refine hK.out _ _ HS8.out (fun hHeld9 => ?_)
            clear hK K
            refine wpAnyH_done (by kernel_rfl) ?_ _
            refine NoPanic.normal ?_
            go_wp2
            exact ⟨⟨k + 1, by omega, by go_num, HNX.out⟩, by simp [intOf]; omega⟩
          · go_simp
            refine hK.out _ _ HSA.out (fun hHeld4 => ?_)
            clear hK K
            refine wpAnyH_ready (rs := [4]) (by kernel_rfl) (by simp) ?_
            refine AllReadyH.cons rfl (fun K hK => ?_) AllReadyH.nil
            go_simp
            refine hK.out _ _ HSA.out (fun hHeld6 => ?_)
            clear hK K
            refine wpAnyH_ready (rs := [7]) (by kernel_rfl) (by simp) ?_
            refine AllReadyH.cons rfl (fun K hK => ?_) AllReadyH.nil
            refine step_append_lies _ rfl _ _ 71 rfl w.heap.size 62 j0 (.agg #[.int .i64 0, .int .i64 0, .string ByteArray.empty]) 3 32 Tryz.underlying71 hj jz0 jz1 jz2 rfl (by decide) fv e.fs.length (fldRows e.fs) rfl HFO.out ⟨w6.heap.size, 0, none⟩ 1 1 (fldRow (fldC c)) rfl rfl HNW.out (fun x hx => by simp [fldRow] at hx; rcases hx with rfl | rfl | rfl <;> rfl) (by decide) (by unfold maxLen; have := HFL.out; omega) (by have := HFL.out; omega) HWZ.out (w6.heap.size + 1) (by simp) ?_
            intro fg fcap w7 hown7 hg7 hat7 hlt7
            have HG7 : Hid ((w6.alloc (.cells #[.int .i64 c.what, .int .i64 c.num, .string c.v] 62)).grownBy w7 fv.ownBlock) := ⟨hg7.os, hg7.tape, hg7.output, hg7.size, hg7.block⟩
            have HNX : Hid (EL w (w7.setCell ⟨g, l'.length * 2 + 1, none⟩ (.slice (some ⟨fg, 0, none⟩) (e.fs.length + 1) fcap)) (.slice (some ⟨kg, 0, none⟩) S.length kc) S (.slice (some ⟨g, 0, none⟩) (l'.length + 1) cap) (k + 1)) := HE6.out.next hown7 HG7.out hat7 (Nat.le_succ _) HAD.out
            have hq7 := HCL.out w7 HG7.out
            have x1 := hq7.1
            have xf := hq7.2.1
            have HS7 : Hid (w7.cell? ⟨fb, 0, none⟩ = some (.int .i64 c.what) ∧ w7.cell? ⟨fb, 1, none⟩ = some (.int .i64 c.num) ∧ w7.cell? ⟨fb, 2, none⟩ = some (.string c.v)) := by
              have h := hq7.2.2
              show _ ∧ _ ∧ _
              simp [World.cell?, h]
            have HS8 : Hid ((w7.setCell ⟨g, l'.length * 2 + 1, none⟩ (.slice (some ⟨fg, 0, none⟩) (e.fs.length + 1) fcap)).cell? ⟨fb, 0, none⟩ = some (.int .i64 c.what) ∧ (w7.setCell ⟨g, l'.length * 2 + 1, none⟩ (.slice (some ⟨fg, 0, none⟩) (e.fs.length + 1) fcap)).cell? ⟨fb, 1, none⟩ = some (.int .i64 c.num) ∧ (w7.setCell ⟨g, l'.length * 2 + 1, none⟩ (.slice (some ⟨fg, 0, none⟩) (e.fs.length + 1) fcap)).cell? ⟨fb, 2, none⟩ = some (.string c.v)) := by
              have h := (Below.heap_setCell w7 ⟨g, l'.length * 2 + 1, none⟩ (.slice (some ⟨fg, 0, none⟩) (e.fs.length + 1) fcap) fb HGF.out).trans hq7.2.2
              show _ ∧ _ ∧ _
              simp only [World.cell?, h]
              exact ⟨rfl, rfl, rfl⟩
            clear hq7
            refine hK.out _ _ HS7.out (fun hHeld7 => ?_)
            clear hK K
            refine wpAnyH_take (i := 8) (v := ?_) rfl (by kernel_rfl) (by kernel_rfl) (by kernel_rfl) (fun _ _ _ h => h) (Or.inl ⟨by rfl, ?_⟩) (by assumption) ?_
            rotate_left
            · intro w hSw; (try dsimp only at hSw); go_simp; try with_reducible rfl
            simp only [Act.put, List.setIfInBounds_toArray, List.set_cons_zero, List.set_cons_succ, List.getElem_toArray, List.getElem_cons_succ, List.getElem_cons_zero]
            refine wpAnyH_take (i := 9) (v := ?_) rfl (by kernel_rfl) (by kernel_rfl) (by kernel_rfl) (fun _ _ _ h => h) (Or.inl ⟨by rfl, ?_⟩) (by assumption) ?_
            rotate_left
            · intro w hSw; (try dsimp only at hSw); go_simp; try with_reducible rfl
            simp only [Act.put, List.setIfInBounds_toArray, List.set_cons_zero, List.set_cons_succ, List.getElem_toArray, List.getElem_cons_succ, List.getElem_cons_zero]
            refine wpAnyH_ready (rs := [10]) (by kernel_rfl) (by simp) ?_
            refine AllReadyH.cons rfl (fun K hK => ?_) AllReadyH.nil
            go_simp
            refine hK.out _ _ HS8.out (fun hHeld9 => ?_)
            clear hK K
            refine wpAnyH_done (by kernel_rfl) ?_ _
            refine NoPanic.normal ?_
            go_wp2
            exact ⟨⟨k + 1, by omega, by go_num, HNX.out⟩, by simp [intOf]; omega⟩
    · have HFE : Hid (EntsNew wr w.heap.size u3 (S.foldl addE []) ∧ Below w.heap.size w wr) := by
        have h := hEL.ents
        rw [List.take_of_length_le (by omega)] at h
        exact ⟨h, hEL.below⟩
      clear hEL
      go_wp2
      go_ret
      exact ⟨_, rfl, HFE.out⟩
end Go.Proofs.YtfjblenkcfdbiaaGreat
