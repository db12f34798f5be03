
/-
  impl: two books side by side: the iterator.
-/
import Derived.Test.YtfjblenkcfdbiaaGreatRnd
import Derived.RangeFuncNested
import Derived.RangeFuncBound
import Derived.RangeFuncCalls
import Derived.RangeFuncLeaves
import Derived.Shelf.Abstract
import Derived.Shelf.RegionOpen
import Derived.OwnWalkIn
import Derived.TacticsInMore
import Derived.LoopNIn
import Derived.LoopIn
import Derived.BigFrameIn
namespace Go.Proofs.YtfjblenkcfdbiaaGreat
open Go.RowKit Go.Shelf
set_option linter.unusedSimpArgs false
set_option linter.unusedVariables false
attribute [local go_sem] Oper.semAt_some Later.cell Later.frozen

/-- The blocks from n₁ up to n₂ are as they were. -/
def KeepR (n₁ n₂ : Nat) (W W' : World) : Prop := ∀ k, n₁ ≤ k → k < n₂ → W'.heap[k]? = W.heap[k]?
theorem KeepR.refl (n₁ n₂ : Nat) (W : World) : KeepR n₁ n₂ W W := fun _ _ _ => rfl
theorem KeepR.trans {n₁ n₂ : Nat} {A B C : World} (h : KeepR n₁ n₂ A B) (k : KeepR n₁ n₂ B C) : KeepR n₁ n₂ A C := fun j h1 h2 => (k j h1 h2).trans (h j h1 h2)
theorem KeepR.below {n₁ n₂ : Nat} {A B : World} (h : Below A.heap.size A B) (hn : n₂ ≤ A.heap.size) : KeepR n₁ n₂ A B := fun j _ h2 => h.block j (by omega)
theorem KeepR.size {n₁ n₂ : Nat} {A B : World} (h : KeepR n₁ n₂ A B) (h1 : n₁ < n₂) (hn : n₂ ≤ A.heap.size) : n₂ ≤ B.heap.size := by
  have h2 := h (n₂ - 1) (by omega) (by omega)
  rw [Array.getElem?_eq_getElem (xs := A.heap) (by omega)] at h2
  have := (Array.getElem?_eq_some_iff.1 h2).1
  omega
/-- A slice of changes in these blocks. -/
def ChgsR (n₁ n₂ : Nat) (w : World) (v : Value) (l : List Chg) : Prop :=
  ∃ a cap, v = .slice a l.length cap ∧ l.length ≤ cap ∧ cap ≤ maxLen ∧ ∀ (i : Nat) (c : Chg), l[i]? = some c → ∃ b off, n₁ ≤ b ∧ b < n₂ ∧ a = some ⟨b, off, none⟩ ∧ ChgAt w b (off + i * 4) c
theorem ChgsR.keep {n₁ n₂ : Nat} {w w' : World} {v : Value} {l : List Chg} (h : ChgsR n₁ n₂ w v l) (hk : KeepR n₁ n₂ w w') : ChgsR n₁ n₂ w' v l := by
  obtain ⟨a, cap, rfl, h1, h2, h3⟩ := h
  refine ⟨a, cap, rfl, h1, h2, fun i c hc => ?_⟩
  obtain ⟨b, off, l1, l2, ha, c0, c1, c2, c3⟩ := h3 i c hc
  have e : ∀ o, w'.cell? ⟨b, o, none⟩ = w.cell? ⟨b, o, none⟩ := fun o => World.cell?_of_block (w := w) (hk b l1 l2)
  exact ⟨b, off, l1, l2, ha, (e _).trans c0, (e _).trans c1, (e _).trans c2, (e _).trans c3⟩
theorem ChgsR.at {n₁ n₂ : Nat} {w : World} {v : Value} {l : List Chg} (h : ChgsR n₁ n₂ w v l) : ChgsAt w v l := by
  obtain ⟨a, cap, rfl, h1, h2, h3⟩ := h
  refine ⟨a, cap, rfl, h1, h2, fun i c hc => ?_⟩
  obtain ⟨b, off, _, _, ha, hh⟩ := h3 i c hc
  exact ⟨b, off, ha, hh⟩
theorem ChgsNew.r {n₁ n₂ : Nat} {w : World} {base : Nat} {v : Value} {l : List Chg} (h : ChgsNew w base v l) (h1 : n₁ ≤ base) (h2 : w.heap.size ≤ n₂) : ChgsR n₁ n₂ w v l := by
  have hat := h.at
  obtain ⟨a, cap, hv, l1, l2, l3⟩ := hat
  refine ⟨a, cap, hv, l1, l2, fun i c hc => ?_⟩
  obtain ⟨b, off, ha, hh⟩ := l3 i c hc
  refine ⟨b, off, ?_, ?_, ha, hh⟩
  · have : v.ownBlock = some b := by rw [hv, ha]; rfl
    have := own_ge h b this
    omega
  · have := lt_of_cell hh.1
    omega
/-- Cut from a place on. -/
theorem ChgsAt.drop {w : World} {a : Option Addr} {n cap : Nat} {l : List Chg} (h : ChgsAt w (.slice a n cap) l) (i : Nat) (hi : i ≤ l.length) :
    ∃ v, (∀ wx : World, (Instr.slice 50 (.slice a n cap) (some (.int .i64 (i : Int))) none none).run Tryz.prog wx = .ok v wx) ∧ ChgsAt w v (l.drop i) := by
  obtain ⟨a', cap', he, h1, h2, h3⟩ := h
  cases he
  refine ⟨sliced a i l.length cap 4, fun wx => ?_, ?_⟩
  · have hrun := run_slice_l (P := Tryz.prog) wx 50 a l.length cap (by rw [show Tryz.prog.elem 50 = 43 by kernel_rfl]; exact Tryz.underlying50) .i64 (i : Int) (by omega) (by omega)
    rw [hrun]
    have hsz : (sizeOf (Tryz.prog.elem 50)).run Tryz.prog wx = .ok 4 wx := by kernel_rfl
    rw [hsz]
    simp
  · refine ⟨if cap = i then a else a.map (·.add (i * 4)), cap - i, by simp [sliced], by simp; omega, by omega, fun j c hc => ?_⟩
    rw [List.getElem?_drop] at hc
    obtain ⟨b, off, rfl, hh⟩ := h3 (i + j) c hc
    have hlt : i + j < l.length := (List.getElem?_eq_some_iff.1 hc).1
    rw [if_neg (by omega)]
    refine ⟨b, off + i * 4, by simp [Addr.add], ?_⟩
    rw [show off + i * 4 + j * 4 = off + (i + j) * 4 by omega]
    exact hh
/-- A step side by side. -/
theorem pairs_step (A B : List Chg) (h : A ≠ [] ∨ B ≠ []) :
    (nextC A B = -1 ∧ ∃ a A', A = a :: A' ∧ pairsW A B = (a, noC) :: pairsW A' B) ∨ (nextC A B = 0 ∧ ∃ a A' b B', A = a :: A' ∧ B = b :: B' ∧ pairsW A B = (a, b) :: pairsW A' B') ∨ (nextC A B = 1 ∧ ∃ b B', B = b :: B' ∧ pairsW A B = (noC, b) :: pairsW A B') := by
  match A, B with
  | [], [] => rcases h with h | h <;> exact absurd rfl h
  | a :: A, [] => exact .inl ⟨rfl, a, A, rfl, by rw [pairsW]⟩
  | [], b :: B => exact .inr (.inr ⟨rfl, b, B, rfl, by rw [pairsW]⟩)
  | a :: A, b :: B =>
    have e : nextC (a :: A) (b :: B) = cmpK a b := rfl
    rw [e, cmpK_eq, pairsW]
    cases h1 : keyLt a b with
    | true => exact .inl ⟨by simp, a, A, rfl, by simp⟩
    | false =>
      cases h2 : keyEq a b with
      | true => exact .inr (.inl ⟨by simp, a, A, b, B, rfl, rfl, by simp⟩)
      | false => exact .inr (.inr ⟨by simp, b, B, rfl, by simp⟩)
theorem pairs_le : ∀ A B : List Chg, (pairsW A B).length ≤ A.length + B.length
  | [], [] => by simp [pairsW]
  | a :: A, [] => by rw [pairsW]; have := pairs_le A []; simp at this ⊢; omega
  | [], b :: B => by rw [pairsW]; have := pairs_le [] B; simp at this ⊢; omega
  | a :: A, b :: B => by
    rw [pairsW]
    split
    · have := pairs_le A (b :: B); simp at this ⊢; omega
    · split
      · have := pairs_le A B; simp at this ⊢; omega
      · have := pairs_le (a :: A) B; simp at this ⊢; omega
termination_by A B => A.length + B.length

/-- What comes to the loop: what one says, what the other says. -/
abbrev PairC := { p : Chg × Chg // p.2.f.size ≤ 1048576 ∧ p.2.v.size ≤ 1048576 }
def chgVal (c : Chg) : Value := .agg #[.string c.f, .int .i64 c.what, .int .i64 c.num, .string c.v]
theorem below_none {w w' : World} (h : Below w.heap.size w w') : w.grownBy w' none := ⟨h.os, h.tape, h.output, h.size, fun k hk _ => h.block k hk⟩

theorem noC_small : noC.f.size ≤ 1048576 ∧ noC.v.size ≤ 1048576 := by constructor <;> decide
/-- A call of yield. -/
theorem uponIn_yield {F : Fence} {n : Nat} {P : Program} {o : Oper} {a : Act} {next : Act → World → Prop} {Q : Exit → Act → World → Prop} {l : Nat} {args : Array Value} {W : World} {R : Ending → World → Prop} (h : YieldAt F (n - 1) P l args W R) (hd : F.depth.isSome = true → 1 ≤ n) (hm : ∀ e w', R e w' → ∃ v, e = .returned v ∧ next (a.put o.dst v) w') :
    o.uponIn F n P a next Q ((Instr.yield l args).run P W) := by
  obtain ⟨fn, tmps, assign, body, hy, hR⟩ := h
  rw [hy]
  refine ⟨hd, hR.mono fun e w' hr => ?_⟩
  obtain ⟨v, rfl, h⟩ := hm e w' hr
  exact h
set_option maxRecDepth 100000 in
set_option maxHeartbeats 6400000 in
theorem side_stops (n B1 B2 n₁ n₂ : Nat) (hn : 1 ≤ n) (va vb : Value) (A B : List Chg) (w : World) (l1 : n₁ ≤ B1) (l2 : B1 < n₂) (l3 : n₁ ≤ B2) (l4 : B2 < n₂) (hw : n₂ ≤ w.heap.size) (c1 : w.cell? ⟨B1, 0, none⟩ = some va) (c2 : w.cell? ⟨B2, 0, none⟩ = some vb) (hA : ChgsR n₁ n₂ w va A) (hB : ChgsR n₁ n₂ w vb B)
    (zA : A.length ≤ 1048576) (zB : B.length ≤ 1048576) (hs : ∀ c ∈ B, c.f.size ≤ 1048576 ∧ c.v.size ≤ 1048576) :
    SeqStopsK Fence.wide n Tryz.prog 86 #[.pointer (some ⟨B1, 0, none⟩), .pointer (some ⟨B2, 0, none⟩)] (fun x : PairC => #[chgVal x.1.1, chgVal x.1.2]) (KeepR n₁ n₂) (fun xs => xs.map (·.1) = pairsW A B) (fun _ => True) (A.length + B.length) w := by
  intro l J Jx W hW hJ hJx hY h0
  have HK0 : Hid (KeepR n₁ n₂ w W) := KeepR.below hW hw
  have hW0 : n₂ ≤ W.heap.size := Nat.le_trans hw hW.size
  have hAW := hA.keep HK0.out
  have hBW := hB.keep HK0.out
  have c1W : W.cell? ⟨B1, 0, none⟩ = some va := (World.cell?_of_block (w := w) (HK0.out B1 l1 l2)).trans c1
  have c2W : W.cell? ⟨B2, 0, none⟩ = some vb := (World.cell?_of_block (w := w) (HK0.out B2 l3 l4)).trans c2
  have HAB : Hid ((ChgsR n₁ n₂ W va A ∧ ChgsR n₁ n₂ W vb B) ∧ (W.cell? ⟨B1, 0, none⟩ = some va ∧ W.cell? ⟨B2, 0, none⟩ = some vb)) := ⟨⟨hAW, hBW⟩, c1W, c2W⟩
  have HY : Hid (∀ pre x W1, J pre W1 → pre.length < A.length + B.length → YieldAt Fence.wide (n - 1) Tryz.prog l #[chgVal x.1.1, chgVal x.1.2] W1 fun e W' =>
      (e = .returned (.bool true) ∧ J (pre ++ [x]) W' ∧ KeepR n₁ n₂ W1 W') ∨ (e = .returned (.bool false) ∧ Jx (pre ++ [x]) W')) := hY
  have HJ : Hid (∀ pre W1 W2, J pre W1 → Below W1.heap.size W1 W2 → J pre W2) := fun pre W1 W2 h hb => hJ pre W1 W2 none h (below_none hb) (fun r e => by cases e)
  obtain ⟨aA, cA, rfl, hcA, hmA, -⟩ := hAW
  obtain ⟨aB, cB, rfl, hcB, hmB, -⟩ := hBW
  unfold maxLen at hmA hmB
  clear hY hJ hJx hA hB c1 c2 c1W c2W hW HK0
  refine callsIn_of_wp Tryz.func86 rfl trivial ?_ rfl
  simp only [Tryz.ntmps86, List.size_toArray, List.length_cons, List.length_nil, Nat.reduceAdd, Nat.reduceSub, Array.replicate_succ, Array.replicate_zero, List.push_toArray, List.append_toArray, List.nil_append, List.cons_append]
  gi_wp2
  gi_loopw [4, 5, 6, 7, 8] (fun si sk _ _ _ wr => ∃ (i k : Nat) (pre : List PairC), i ≤ A.length ∧ k ≤ B.length ∧ si = .int .i64 i ∧ sk = .int .i64 k ∧ Hid (pre.map (·.1) ++ pairsW (A.drop i) (B.drop k) = pairsW A B) ∧ J pre wr ∧ Hid (KeepR n₁ n₂ W wr)) (fun si sk _ _ _ _ => (A.length - (intOf si).toNat) + (B.length - (intOf sk).toNat))
  case atStart => exact ⟨0, 0, [], Nat.zero_le _, Nat.zero_le _, rfl, rfl, (show _ = _ by simp), h0, KeepR.refl _ _ _⟩
  case round =>
    obtain ⟨i, k, pre, hi, hk, rfl, rfl, HP, hJr, HKr⟩ := hrel
    have hwr : n₂ ≤ wr.heap.size := HKr.out.size (by omega) hW0
    have HJr : Hid (J pre wr) := hJr
    clear hJr h0
    have HA2 : Hid (ChgsR n₁ n₂ wr (.slice aA A.length cA) A ∧ ChgsR n₁ n₂ wr (.slice aB B.length cB) B) := ⟨HAB.out.1.1.keep HKr.out, HAB.out.1.2.keep HKr.out⟩
    have x1 : wr.cell? ⟨B1, 0, none⟩ = some (.slice aA A.length cA) := (World.cell?_of_block (w := W) (HKr.out B1 l1 l2)).trans HAB.out.2.1
    have x2 : wr.cell? ⟨B2, 0, none⟩ = some (.slice aB B.length cB) := (World.cell?_of_block (w := W) (HKr.out B2 l3 l4)).trans HAB.out.2.2
    have z1 : B1 < wr.heap.size := by omega
    have z2 : B2 < wr.heap.size := by omega
    by_cases hmore : A.drop i ≠ [] ∨ B.drop k ≠ []
    · obtain ⟨va, hsa, hva⟩ := HA2.out.1.at.drop i hi
      obtain ⟨vb, hsb, hvb⟩ := HA2.out.2.at.drop k hk
      have HVV : Hid (ChgsAt wr va (A.drop i) ∧ ChgsAt wr vb (B.drop k)) := ⟨hva, hvb⟩
      obtain ⟨a1, n1, k1, rfl⟩ : ∃ a1 n1 k1, va = .slice a1 n1 k1 := by obtain ⟨x, y, e, _⟩ := hva; exact ⟨_, _, _, e⟩
      obtain ⟨a2, n2, k2, rfl⟩ : ∃ a2 n2 k2, vb = .slice a2 n2 k2 := by obtain ⟨x, y, e, _⟩ := hvb; exact ⟨_, _, _, e⟩
      clear hva hvb
      have hlenA : A.drop i ≠ [] → i < A.length := fun h => by
        rcases Nat.lt_or_ge i A.length with h' | h'
        · exact h'
        · exact absurd (List.drop_eq_nil_iff.2 h') h
      have hlenB : B.drop k ≠ [] → k < B.length := fun h => by
        rcases Nat.lt_or_ge k B.length with h' | h'
        · exact h'
        · exact absurd (List.drop_eq_nil_iff.2 h') h
      have HO0 : Hid (TwoAt wr ((wr.alloc (.cells #[.string ⟨#[]⟩, .int .i64 0, .int .i64 0, .string ⟨#[]⟩] 43)).alloc (.cells #[.string ⟨#[]⟩, .int .i64 0, .int .i64 0, .string ⟨#[]⟩] 43)) noC noC) := TwoAt.start wr noC noC
      have hc1 : (i < A.length) ∨ (¬ i < A.length ∧ k < B.length) := by
        rcases hmore with h | h
        · exact .inl (hlenA h)
        · by_cases h' : i < A.length
          · exact .inl h'
          · exact .inr ⟨h', hlenB h⟩
      have hpr : pre.length < A.length + B.length := by
        have h1 := congrArg List.length HP.out
        have h2 := pairs_le A B
        rcases pairs_step _ _ hmore with ⟨_, a, A', _, e⟩ | ⟨_, a, A', b, B', _, _, e⟩ | ⟨_, b, B', _, e⟩ <;> rw [e] at h1 <;> simp at h1 <;> omega
      have HST : Hid (nextC (A.drop i) (B.drop k) = -1 ∧ (∃ a A', A.drop i = a :: A' ∧ pairsW (A.drop i) (B.drop k) = (a, noC) :: pairsW A' (B.drop k)) ∨ (nextC (A.drop i) (B.drop k) = 0 ∧ ∃ a A' b B', A.drop i = a :: A' ∧ B.drop k = b :: B' ∧ pairsW (A.drop i) (B.drop k) = (a, b) :: pairsW A' B') ∨ (nextC (A.drop i) (B.drop k) = 1 ∧ ∃ b B', B.drop k = b :: B' ∧ pairsW (A.drop i) (B.drop k) = (noC, b) :: pairsW (A.drop i) B')) := pairs_step _ _ hmore
      clear hmore hlenA hlenB
      rcases hc1 with hc1 | ⟨hc1, hc2⟩
      · have hc1i : (i : Int) < (A.length : Int) := by omega
        gi_wp2
        generalize (wr.alloc (.cells #[.string ⟨#[]⟩, .int .i64 0, .int .i64 0, .string ⟨#[]⟩] 43)).alloc (.cells #[.string ⟨#[]⟩, .int .i64 0, .int .i64 0, .string ⟨#[]⟩] 43) = w2 at *
        refine wpIn_wide.2 ?_
        have y1 := (HO0.out.1.cell (p := ⟨B1, 0, none⟩) z1).trans x1
        have y2 := (HO0.out.1.cell (p := ⟨B2, 0, none⟩) z2).trans x2
        have u1 : B1 < w2.heap.size := by have := HO0.out.1.size; omega
        have u2 : B2 < w2.heap.size := by have := HO0.out.1.size; omega
        have hne := Later.some w2
        have GC : Hid (∀ y : Later w2, Calls Tryz.prog 87 #[.slice a1 n1 k1, .slice a2 n2 k2] y.val fun e w'' => e = .returned (.int .i64 (nextC (A.drop i) (B.drop k))) ∧ ∃ z : Later w2, w'' = z.val) := fun y => Calls.later (compareNext_any _ _ _ _ y.val ((HVV.out.1.keep HO0.out.1).keep y.below) ((HVV.out.2.keep HO0.out.1).keep y.below))
        refine wp_region_later (by kernel_rfl) (by kernel_rfl) ?_
        repeat (go_big_quiet_step (first | (go_at_call 87; exact GC.out _)))
        refine wpQuiet_nil ?_
        rintro _ ⟨x, rfl⟩
        have HO3 : Hid (TwoAt wr x.val noC noC) := HO0.out.call x.below
        generalize x.val = w3 at *
        clear GC hne y1 y2 u1 u2
        rcases HST.out with ⟨ho, a, A', ea, ep⟩ | ⟨ho, a, A', b, B', ea, eb, ep⟩ | ⟨ho, b, B', eb, ep⟩
        · rw [ho]
          have hiA : i < A.length := by
            rcases Nat.lt_or_ge i A.length with h' | h'
            · exact h'
            · rw [List.drop_eq_nil_iff.2 h'] at ea; cases ea
          have hga : A[i]? = some a := by
            have := congrArg (fun l => l[0]?) ea
            simpa using this
          have htA : A.drop (i + 1) = A' := by
            have := congrArg List.tail ea
            simpa using this
          obtain ⟨_, _, e1, _, _, hcell⟩ := HA2.out.1
          cases e1
          obtain ⟨b0, o0, r1, r2, rfl, q0, q1, q2, q3⟩ := hcell i a hga
          have zb : b0 < wr.heap.size := by omega
          have d0 := (HO3.out.1.cell (p := ⟨b0, o0 + i * 4, none⟩) zb).trans q0
          have d1 := (HO3.out.1.cell (p := ⟨b0, o0 + i * 4 + 1, none⟩) zb).trans q1
          have d2 := (HO3.out.1.cell (p := ⟨b0, o0 + i * 4 + 2, none⟩) zb).trans q2
          have d3 := (HO3.out.1.cell (p := ⟨b0, o0 + i * 4 + 3, none⟩) zb).trans q3
          have hi0 : (0 : Int) ≤ (i : Int) := by omega
          have hi1 : (i : Int) < (A.length : Int) := by omega
          clear q0 q1 q2 q3 hcell
          obtain ⟨w4, hhw4⟩ : ∃ z, z = w3.setRow (wr.heap.size) #[.string a.f, .int .i64 a.what, .int .i64 a.num, .string a.v] := ⟨_, rfl⟩
          have HWw4 : Hid (w4 = w3.setRow (wr.heap.size) #[.string a.f, .int .i64 a.what, .int .i64 a.num, .string a.v]) := hhw4
          have HO4 : Hid (TwoAt wr w4 a noC) := by show TwoAt _ _ _ _; rw [hhw4]; exact HO3.out.setL a
          clear hhw4
          have ya3 : w3.cell? ⟨B1, 0, none⟩ = _ := (HO3.out.1.cell (p := ⟨B1, 0, none⟩) z1).trans x1
          have yb3 : w3.cell? ⟨B2, 0, none⟩ = _ := (HO3.out.1.cell (p := ⟨B2, 0, none⟩) z2).trans x2
          have ya4 : w4.cell? ⟨B1, 0, none⟩ = _ := (HO4.out.1.cell (p := ⟨B1, 0, none⟩) z1).trans x1
          have yb4 : w4.cell? ⟨B2, 0, none⟩ = _ := (HO4.out.1.cell (p := ⟨B2, 0, none⟩) z2).trans x2
          have p0 : w4.cell? ⟨wr.heap.size, 0, none⟩ = some (.string a.f) := (four_cells HO4.out.2.1).1
          have p1 : w4.cell? ⟨wr.heap.size, 1, none⟩ = some (.int .i64 a.what) := (four_cells HO4.out.2.1).2.1
          have p2 : w4.cell? ⟨wr.heap.size, 2, none⟩ = some (.int .i64 a.num) := (four_cells HO4.out.2.1).2.2.1
          have p3 : w4.cell? ⟨wr.heap.size, 3, none⟩ = some (.string a.v) := (four_cells HO4.out.2.1).2.2.2
          have s0 : w4.cell? ⟨wr.heap.size + 1, 0, none⟩ = some (.string ⟨#[]⟩) := (four_cells HO4.out.2.2).1
          have s1 : w4.cell? ⟨wr.heap.size + 1, 1, none⟩ = some (.int .i64 0) := (four_cells HO4.out.2.2).2.1
          have s2 : w4.cell? ⟨wr.heap.size + 1, 2, none⟩ = some (.int .i64 0) := (four_cells HO4.out.2.2).2.2.1
          have s3 : w4.cell? ⟨wr.heap.size + 1, 3, none⟩ = some (.string ⟨#[]⟩) := (four_cells HO4.out.2.2).2.2.2
          gi_wp2_with ((refine wpListIn_store_rowW rfl 43 _ _ rfl (wr.heap.size) #[.string a.f, .int .i64 a.what, .int .i64 a.num, .string a.v] rfl rfl 43 _ HO3.out.2.1 (by kernel_rfl) rfl (chg_one4 _ _ _ _) w4 HWw4.out ?_))
          refine uponIn_yield (HY.out pre ⟨(a, noC), noC_small⟩ _ (HJ.out pre wr _ HJr.out HO4.out.1) hpr) (fun h => by cases h) ?_
          rintro e W3 (⟨rfl, hJ3, hk3⟩ | ⟨rfl, hJx3⟩)
          · refine ⟨_, rfl, ?_⟩
            have HK3 : Hid (KeepR n₁ n₂ W W3) := HKr.out.trans ((KeepR.below HO4.out.1 hwr).trans hk3)
            have HJ3 : Hid (J (pre ++ [⟨(a, noC), noC_small⟩]) W3) := hJ3
            clear hJ3 hk3
            gi_wp2
            go_roundw
            case rel => exact ⟨i + 1, k, pre ++ [⟨(a, noC), noC_small⟩], by omega, by omega, by simp, by simp, (show _ = _ by rw [htA, List.map_append, List.append_assoc]; rw [ep] at HP; exact HP.out), HJ3.out, HK3⟩
            case measure => simp [intOf]; omega
          · refine ⟨_, rfl, ?_⟩
            gi_wp2
            exact bodyPost_ret (results_none rfl _ _ _) rfl ⟨⟨_, rfl⟩, .inr ⟨_, trivial, hJx3⟩⟩
        · rw [ho]
          have hiA : i < A.length := by
            rcases Nat.lt_or_ge i A.length with h' | h'
            · exact h'
            · rw [List.drop_eq_nil_iff.2 h'] at ea; cases ea
          have hga : A[i]? = some a := by
            have := congrArg (fun l => l[0]?) ea
            simpa using this
          have htA : A.drop (i + 1) = A' := by
            have := congrArg List.tail ea
            simpa using this
          obtain ⟨_, _, e1, _, _, hcell⟩ := HA2.out.1
          cases e1
          obtain ⟨b0, o0, r1, r2, rfl, q0, q1, q2, q3⟩ := hcell i a hga
          have zb : b0 < wr.heap.size := by omega
          have d0 := (HO3.out.1.cell (p := ⟨b0, o0 + i * 4, none⟩) zb).trans q0
          have d1 := (HO3.out.1.cell (p := ⟨b0, o0 + i * 4 + 1, none⟩) zb).trans q1
          have d2 := (HO3.out.1.cell (p := ⟨b0, o0 + i * 4 + 2, none⟩) zb).trans q2
          have d3 := (HO3.out.1.cell (p := ⟨b0, o0 + i * 4 + 3, none⟩) zb).trans q3
          have hi0 : (0 : Int) ≤ (i : Int) := by omega
          have hi1 : (i : Int) < (A.length : Int) := by omega
          clear q0 q1 q2 q3 hcell
          obtain ⟨w4, hhw4⟩ : ∃ z, z = w3.setRow (wr.heap.size) #[.string a.f, .int .i64 a.what, .int .i64 a.num, .string a.v] := ⟨_, rfl⟩
          have HWw4 : Hid (w4 = w3.setRow (wr.heap.size) #[.string a.f, .int .i64 a.what, .int .i64 a.num, .string a.v]) := hhw4
          have HO4 : Hid (TwoAt wr w4 a noC) := by show TwoAt _ _ _ _; rw [hhw4]; exact HO3.out.setL a
          clear hhw4
          obtain ⟨w5, hhw5⟩ : ∃ z, z = w4.setRow (wr.heap.size + 1) #[.string b.f, .int .i64 b.what, .int .i64 b.num, .string b.v] := ⟨_, rfl⟩
          have HWw5 : Hid (w5 = w4.setRow (wr.heap.size + 1) #[.string b.f, .int .i64 b.what, .int .i64 b.num, .string b.v]) := hhw5
          have HO5 : Hid (TwoAt wr w5 a b) := by show TwoAt _ _ _ _; rw [hhw5]; exact HO4.out.setR b
          clear hhw5
          have hkB : k < B.length := by
            rcases Nat.lt_or_ge k B.length with h' | h'
            · exact h'
            · rw [List.drop_eq_nil_iff.2 h'] at eb; cases eb
          have hgb : B[k]? = some b := by
            have := congrArg (fun l => l[0]?) eb
            simpa using this
          have htB : B.drop (k + 1) = B' := by
            have := congrArg List.tail eb
            simpa using this
          have hsb2 := hs b (List.mem_of_getElem? hgb)
          obtain ⟨_, _, e2, _, _, hcellB⟩ := HA2.out.2
          cases e2
          obtain ⟨b3, o3, r3, r4, rfl, q0, q1, q2, q3⟩ := hcellB k b hgb
          have zb3 : b3 < wr.heap.size := by omega
          have g0 := (HO4.out.1.cell (p := ⟨b3, o3 + k * 4, none⟩) zb3).trans q0
          have g1 := (HO4.out.1.cell (p := ⟨b3, o3 + k * 4 + 1, none⟩) zb3).trans q1
          have g2 := (HO4.out.1.cell (p := ⟨b3, o3 + k * 4 + 2, none⟩) zb3).trans q2
          have g3 := (HO4.out.1.cell (p := ⟨b3, o3 + k * 4 + 3, none⟩) zb3).trans q3
          have hk0 : (0 : Int) ≤ (k : Int) := by omega
          have hk1 : (k : Int) < (B.length : Int) := by omega
          clear q0 q1 q2 q3 hcellB
          have ya3 : w3.cell? ⟨B1, 0, none⟩ = _ := (HO3.out.1.cell (p := ⟨B1, 0, none⟩) z1).trans x1
          have yb3 : w3.cell? ⟨B2, 0, none⟩ = _ := (HO3.out.1.cell (p := ⟨B2, 0, none⟩) z2).trans x2
          have ya4 : w4.cell? ⟨B1, 0, none⟩ = _ := (HO4.out.1.cell (p := ⟨B1, 0, none⟩) z1).trans x1
          have yb4 : w4.cell? ⟨B2, 0, none⟩ = _ := (HO4.out.1.cell (p := ⟨B2, 0, none⟩) z2).trans x2
          have ya5 : w5.cell? ⟨B1, 0, none⟩ = _ := (HO5.out.1.cell (p := ⟨B1, 0, none⟩) z1).trans x1
          have yb5 : w5.cell? ⟨B2, 0, none⟩ = _ := (HO5.out.1.cell (p := ⟨B2, 0, none⟩) z2).trans x2
          have p0 : w5.cell? ⟨wr.heap.size, 0, none⟩ = some (.string a.f) := (four_cells HO5.out.2.1).1
          have p1 : w5.cell? ⟨wr.heap.size, 1, none⟩ = some (.int .i64 a.what) := (four_cells HO5.out.2.1).2.1
          have p2 : w5.cell? ⟨wr.heap.size, 2, none⟩ = some (.int .i64 a.num) := (four_cells HO5.out.2.1).2.2.1
          have p3 : w5.cell? ⟨wr.heap.size, 3, none⟩ = some (.string a.v) := (four_cells HO5.out.2.1).2.2.2
          have s0 : w5.cell? ⟨wr.heap.size + 1, 0, none⟩ = some (.string b.f) := (four_cells HO5.out.2.2).1
          have s1 : w5.cell? ⟨wr.heap.size + 1, 1, none⟩ = some (.int .i64 b.what) := (four_cells HO5.out.2.2).2.1
          have s2 : w5.cell? ⟨wr.heap.size + 1, 2, none⟩ = some (.int .i64 b.num) := (four_cells HO5.out.2.2).2.2.1
          have s3 : w5.cell? ⟨wr.heap.size + 1, 3, none⟩ = some (.string b.v) := (four_cells HO5.out.2.2).2.2.2
          gi_wp2_with (first | (refine wpListIn_store_rowW rfl 43 _ _ rfl (wr.heap.size) #[.string a.f, .int .i64 a.what, .int .i64 a.num, .string a.v] rfl rfl 43 _ HO3.out.2.1 (by kernel_rfl) rfl (chg_one4 _ _ _ _) w4 HWw4.out ?_) | (refine wpListIn_store_rowW rfl 43 _ _ rfl (wr.heap.size + 1) #[.string b.f, .int .i64 b.what, .int .i64 b.num, .string b.v] rfl rfl 43 _ HO4.out.2.2 (by kernel_rfl) rfl (chg_one4 _ _ _ _) w5 HWw5.out ?_))
          refine uponIn_yield (HY.out pre ⟨(a, b), hsb2⟩ _ (HJ.out pre wr _ HJr.out HO5.out.1) hpr) (fun h => by cases h) ?_
          rintro e W3 (⟨rfl, hJ3, hk3⟩ | ⟨rfl, hJx3⟩)
          · refine ⟨_, rfl, ?_⟩
            have HK3 : Hid (KeepR n₁ n₂ W W3) := HKr.out.trans ((KeepR.below HO5.out.1 hwr).trans hk3)
            have HJ3 : Hid (J (pre ++ [⟨(a, b), hsb2⟩]) W3) := hJ3
            clear hJ3 hk3
            gi_wp2
            go_roundw
            case rel => exact ⟨i + 1, k + 1, pre ++ [⟨(a, b), hsb2⟩], by omega, by omega, by simp, by simp, (show _ = _ by rw [htA, htB, List.map_append, List.append_assoc]; rw [ep] at HP; exact HP.out), HJ3.out, HK3⟩
            case measure => simp [intOf]; omega
          · refine ⟨_, rfl, ?_⟩
            gi_wp2
            exact bodyPost_ret (results_none rfl _ _ _) rfl ⟨⟨_, rfl⟩, .inr ⟨_, trivial, hJx3⟩⟩
        · rw [ho]
          have hkB : k < B.length := by
            rcases Nat.lt_or_ge k B.length with h' | h'
            · exact h'
            · rw [List.drop_eq_nil_iff.2 h'] at eb; cases eb
          have hgb : B[k]? = some b := by
            have := congrArg (fun l => l[0]?) eb
            simpa using this
          have htB : B.drop (k + 1) = B' := by
            have := congrArg List.tail eb
            simpa using this
          have hsb2 := hs b (List.mem_of_getElem? hgb)
          obtain ⟨_, _, e2, _, _, hcellB⟩ := HA2.out.2
          cases e2
          obtain ⟨b3, o3, r3, r4, rfl, q0, q1, q2, q3⟩ := hcellB k b hgb
          have zb3 : b3 < wr.heap.size := by omega
          have g0 := (HO3.out.1.cell (p := ⟨b3, o3 + k * 4, none⟩) zb3).trans q0
          have g1 := (HO3.out.1.cell (p := ⟨b3, o3 + k * 4 + 1, none⟩) zb3).trans q1
          have g2 := (HO3.out.1.cell (p := ⟨b3, o3 + k * 4 + 2, none⟩) zb3).trans q2
          have g3 := (HO3.out.1.cell (p := ⟨b3, o3 + k * 4 + 3, none⟩) zb3).trans q3
          have hk0 : (0 : Int) ≤ (k : Int) := by omega
          have hk1 : (k : Int) < (B.length : Int) := by omega
          clear q0 q1 q2 q3 hcellB
          obtain ⟨w4, hhw4⟩ : ∃ z, z = w3.setRow (wr.heap.size + 1) #[.string b.f, .int .i64 b.what, .int .i64 b.num, .string b.v] := ⟨_, rfl⟩
          have HWw4 : Hid (w4 = w3.setRow (wr.heap.size + 1) #[.string b.f, .int .i64 b.what, .int .i64 b.num, .string b.v]) := hhw4
          have HO4 : Hid (TwoAt wr w4 noC b) := by show TwoAt _ _ _ _; rw [hhw4]; exact HO3.out.setR b
          clear hhw4
          have ya3 : w3.cell? ⟨B1, 0, none⟩ = _ := (HO3.out.1.cell (p := ⟨B1, 0, none⟩) z1).trans x1
          have yb3 : w3.cell? ⟨B2, 0, none⟩ = _ := (HO3.out.1.cell (p := ⟨B2, 0, none⟩) z2).trans x2
          have ya4 : w4.cell? ⟨B1, 0, none⟩ = _ := (HO4.out.1.cell (p := ⟨B1, 0, none⟩) z1).trans x1
          have yb4 : w4.cell? ⟨B2, 0, none⟩ = _ := (HO4.out.1.cell (p := ⟨B2, 0, none⟩) z2).trans x2
          have p0 : w4.cell? ⟨wr.heap.size, 0, none⟩ = some (.string ⟨#[]⟩) := (four_cells HO4.out.2.1).1
          have p1 : w4.cell? ⟨wr.heap.size, 1, none⟩ = some (.int .i64 0) := (four_cells HO4.out.2.1).2.1
          have p2 : w4.cell? ⟨wr.heap.size, 2, none⟩ = some (.int .i64 0) := (four_cells HO4.out.2.1).2.2.1
          have p3 : w4.cell? ⟨wr.heap.size, 3, none⟩ = some (.string ⟨#[]⟩) := (four_cells HO4.out.2.1).2.2.2
          have s0 : w4.cell? ⟨wr.heap.size + 1, 0, none⟩ = some (.string b.f) := (four_cells HO4.out.2.2).1
          have s1 : w4.cell? ⟨wr.heap.size + 1, 1, none⟩ = some (.int .i64 b.what) := (four_cells HO4.out.2.2).2.1
          have s2 : w4.cell? ⟨wr.heap.size + 1, 2, none⟩ = some (.int .i64 b.num) := (four_cells HO4.out.2.2).2.2.1
          have s3 : w4.cell? ⟨wr.heap.size + 1, 3, none⟩ = some (.string b.v) := (four_cells HO4.out.2.2).2.2.2
          gi_wp2_with ((refine wpListIn_store_rowW rfl 43 _ _ rfl (wr.heap.size + 1) #[.string b.f, .int .i64 b.what, .int .i64 b.num, .string b.v] rfl rfl 43 _ HO3.out.2.2 (by kernel_rfl) rfl (chg_one4 _ _ _ _) w4 HWw4.out ?_))
          refine uponIn_yield (HY.out pre ⟨(noC, b), hsb2⟩ _ (HJ.out pre wr _ HJr.out HO4.out.1) hpr) (fun h => by cases h) ?_
          rintro e W3 (⟨rfl, hJ3, hk3⟩ | ⟨rfl, hJx3⟩)
          · refine ⟨_, rfl, ?_⟩
            have HK3 : Hid (KeepR n₁ n₂ W W3) := HKr.out.trans ((KeepR.below HO4.out.1 hwr).trans hk3)
            have HJ3 : Hid (J (pre ++ [⟨(noC, b), hsb2⟩]) W3) := hJ3
            clear hJ3 hk3
            gi_wp2
            go_roundw
            case rel => exact ⟨i, k + 1, pre ++ [⟨(noC, b), hsb2⟩], by omega, by omega, by simp, by simp, (show _ = _ by rw [htB, List.map_append, List.append_assoc]; rw [ep] at HP; exact HP.out), HJ3.out, HK3⟩
            case measure => simp [intOf]; omega
          · refine ⟨_, rfl, ?_⟩
            gi_wp2
            exact bodyPost_ret (results_none rfl _ _ _) rfl ⟨⟨_, rfl⟩, .inr ⟨_, trivial, hJx3⟩⟩
      · have hc1i : ¬ (i : Int) < (A.length : Int) := by omega
        have hc2i : (k : Int) < (B.length : Int) := by omega
        gi_wp2
        generalize (wr.alloc (.cells #[.string ⟨#[]⟩, .int .i64 0, .int .i64 0, .string ⟨#[]⟩] 43)).alloc (.cells #[.string ⟨#[]⟩, .int .i64 0, .int .i64 0, .string ⟨#[]⟩] 43) = w2 at *
        refine wpIn_wide.2 ?_
        have y1 := (HO0.out.1.cell (p := ⟨B1, 0, none⟩) z1).trans x1
        have y2 := (HO0.out.1.cell (p := ⟨B2, 0, none⟩) z2).trans x2
        have u1 : B1 < w2.heap.size := by have := HO0.out.1.size; omega
        have u2 : B2 < w2.heap.size := by have := HO0.out.1.size; omega
        have hne := Later.some w2
        have GC : Hid (∀ y : Later w2, Calls Tryz.prog 87 #[.slice a1 n1 k1, .slice a2 n2 k2] y.val fun e w'' => e = .returned (.int .i64 (nextC (A.drop i) (B.drop k))) ∧ ∃ z : Later w2, w'' = z.val) := fun y => Calls.later (compareNext_any _ _ _ _ y.val ((HVV.out.1.keep HO0.out.1).keep y.below) ((HVV.out.2.keep HO0.out.1).keep y.below))
        refine wp_region_later (by kernel_rfl) (by kernel_rfl) ?_
        repeat (go_big_quiet_step (first | (go_at_call 87; exact GC.out _)))
        refine wpQuiet_nil ?_
        rintro _ ⟨x, rfl⟩
        have HO3 : Hid (TwoAt wr x.val noC noC) := HO0.out.call x.below
        generalize x.val = w3 at *
        clear GC hne y1 y2 u1 u2
        rcases HST.out with ⟨ho, a, A', ea, ep⟩ | ⟨ho, a, A', b, B', ea, eb, ep⟩ | ⟨ho, b, B', eb, ep⟩
        · exact absurd ea (by rw [List.drop_eq_nil_iff.2 (by omega)]; simp)
        · exact absurd ea (by rw [List.drop_eq_nil_iff.2 (by omega)]; simp)
        · rw [ho]
          have hkB : k < B.length := by
            rcases Nat.lt_or_ge k B.length with h' | h'
            · exact h'
            · rw [List.drop_eq_nil_iff.2 h'] at eb; cases eb
          have hgb : B[k]? = some b := by
            have := congrArg (fun l => l[0]?) eb
            simpa using this
          have htB : B.drop (k + 1) = B' := by
            have := congrArg List.tail eb
            simpa using this
          have hsb2 := hs b (List.mem_of_getElem? hgb)
          obtain ⟨_, _, e2, _, _, hcellB⟩ := HA2.out.2
          cases e2
          obtain ⟨b3, o3, r3, r4, rfl, q0, q1, q2, q3⟩ := hcellB k b hgb
          have zb3 : b3 < wr.heap.size := by omega
          have g0 := (HO3.out.1.cell (p := ⟨b3, o3 + k * 4, none⟩) zb3).trans q0
          have g1 := (HO3.out.1.cell (p := ⟨b3, o3 + k * 4 + 1, none⟩) zb3).trans q1
          have g2 := (HO3.out.1.cell (p := ⟨b3, o3 + k * 4 + 2, none⟩) zb3).trans q2
          have g3 := (HO3.out.1.cell (p := ⟨b3, o3 + k * 4 + 3, none⟩) zb3).trans q3
          have hk0 : (0 : Int) ≤ (k : Int) := by omega
          have hk1 : (k : Int) < (B.length : Int) := by omega
          clear q0 q1 q2 q3 hcellB
          obtain ⟨w4, hhw4⟩ : ∃ z, z = w3.setRow (wr.heap.size + 1) #[.string b.f, .int .i64 b.what, .int .i64 b.num, .string b.v] := ⟨_, rfl⟩
          have HWw4 : Hid (w4 = w3.setRow (wr.heap.size + 1) #[.string b.f, .int .i64 b.what, .int .i64 b.num, .string b.v]) := hhw4
          have HO4 : Hid (TwoAt wr w4 noC b) := by show TwoAt _ _ _ _; rw [hhw4]; exact HO3.out.setR b
          clear hhw4
          have ya3 : w3.cell? ⟨B1, 0, none⟩ = _ := (HO3.out.1.cell (p := ⟨B1, 0, none⟩) z1).trans x1
          have yb3 : w3.cell? ⟨B2, 0, none⟩ = _ := (HO3.out.1.cell (p := ⟨B2, 0, none⟩) z2).trans x2
          have ya4 : w4.cell? ⟨B1, 0, none⟩ = _ := (HO4.out.1.cell (p := ⟨B1, 0, none⟩) z1).trans x1
          have yb4 : w4.cell? ⟨B2, 0, none⟩ = _ := (HO4.out.1.cell (p := ⟨B2, 0, none⟩) z2).trans x2
          have p0 : w4.cell? ⟨wr.heap.size, 0, none⟩ = some (.string ⟨#[]⟩) := (four_cells HO4.out.2.1).1
          have p1 : w4.cell? ⟨wr.heap.size, 1, none⟩ = some (.int .i64 0) := (four_cells HO4.out.2.1).2.1
          have p2 : w4.cell? ⟨wr.heap.size, 2, none⟩ = some (.int .i64 0) := (four_cells HO4.out.2.1).2.2.1
          have p3 : w4.cell? ⟨wr.heap.size, 3, none⟩ = some (.string ⟨#[]⟩) := (four_cells HO4.out.2.1).2.2.2
          have s0 : w4.cell? ⟨wr.heap.size + 1, 0, none⟩ = some (.string b.f) := (four_cells HO4.out.2.2).1
          have s1 : w4.cell? ⟨wr.heap.size + 1, 1, none⟩ = some (.int .i64 b.what) := (four_cells HO4.out.2.2).2.1
          have s2 : w4.cell? ⟨wr.heap.size + 1, 2, none⟩ = some (.int .i64 b.num) := (four_cells HO4.out.2.2).2.2.1
          have s3 : w4.cell? ⟨wr.heap.size + 1, 3, none⟩ = some (.string b.v) := (four_cells HO4.out.2.2).2.2.2
          gi_wp2_with ((refine wpListIn_store_rowW rfl 43 _ _ rfl (wr.heap.size + 1) #[.string b.f, .int .i64 b.what, .int .i64 b.num, .string b.v] rfl rfl 43 _ HO3.out.2.2 (by kernel_rfl) rfl (chg_one4 _ _ _ _) w4 HWw4.out ?_))
          refine uponIn_yield (HY.out pre ⟨(noC, b), hsb2⟩ _ (HJ.out pre wr _ HJr.out HO4.out.1) hpr) (fun h => by cases h) ?_
          rintro e W3 (⟨rfl, hJ3, hk3⟩ | ⟨rfl, hJx3⟩)
          · refine ⟨_, rfl, ?_⟩
            have HK3 : Hid (KeepR n₁ n₂ W W3) := HKr.out.trans ((KeepR.below HO4.out.1 hwr).trans hk3)
            have HJ3 : Hid (J (pre ++ [⟨(noC, b), hsb2⟩]) W3) := hJ3
            clear hJ3 hk3
            gi_wp2
            go_roundw
            case rel => exact ⟨i, k + 1, pre ++ [⟨(noC, b), hsb2⟩], by omega, by omega, by simp, by simp, (show _ = _ by rw [htB, List.map_append, List.append_assoc]; rw [ep] at HP; exact HP.out), HJ3.out, HK3⟩
            case measure => simp [intOf]; omega
          · refine ⟨_, rfl, ?_⟩
            gi_wp2
            exact bodyPost_ret (results_none rfl _ _ _) rfl ⟨⟨_, rfl⟩, .inr ⟨_, trivial, hJx3⟩⟩
    · have hAe : A.drop i = [] := Classical.byContradiction fun h => hmore (.inl h)
      have hBe : B.drop k = [] := Classical.byContradiction fun h => hmore (.inr h)
      have hA1 : ¬ (i : Int) < (A.length : Int) := by have := List.drop_eq_nil_iff.1 hAe; omega
      have hB1 : ¬ (k : Int) < (B.length : Int) := by have := List.drop_eq_nil_iff.1 hBe; omega
      have hfin : pre.map (·.1) = pairsW A B := by have := HP.out; rw [hAe, hBe] at this; simpa [pairsW] using this
      gi_wp2
      go_end0
      exact ⟨⟨_, rfl⟩, .inl ⟨pre, hfin, HJr.out⟩⟩
end Go.Proofs.YtfjblenkcfdbiaaGreat
