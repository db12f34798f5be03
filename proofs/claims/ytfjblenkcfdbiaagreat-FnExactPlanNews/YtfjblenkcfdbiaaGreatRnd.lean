
/-
  A region that draws its order, in the body of a range over a function.
-/
import Derived.Test.YtfjblenkcfdbiaaGreatNews3
import Derived.RangeFuncNested
import Derived.RangeFuncBound
import Derived.RangeFuncCalls
import Derived.RangeFuncLeaves
import Derived.OrdersIn
import Derived.OrdersHeld
import Derived.Deep.RegionHeld
import Derived.TacticsIn
import Derived.Laws.Tables
import Derived.Laws.CopyOwn
namespace Go.Proofs.YtfjblenkcfdbiaaGreat
open Go.RowKit

/-- The one way out. -/
def OnlyN (K : Act → World → Prop) : Exit → Act → World → Prop
  | .normal, a, w => K a w
  | _, _, _ => False
theorem onlyN_out (K : Act → World → Prop) : ¬ LetsOut (OnlyN K) := fun ⟨_, _, h⟩ => h

theorem wpOp_round {P : Program} {l n : Nat} {ops : Array Oper} {Q : Exit → Act → World → Prop} (hL : ¬ LetsOut Q) (hd : ∀ (j : Nat) (o : Oper), ops[j]? = some o → ∀ c, o.op ≠ .defer c)
    {i : Nat} {K K' : Act → World → Prop} (hK : ∀ a w, K a w → K' a w) {a : Act} {w : World} (h : wpOp P ops Q i K a w) : wpOpIn (Fence.wide.inRound l) n P ops Q i K' a w := by
  unfold wpOp at h
  unfold wpOpIn
  cases ho : ops[i]? with
  | none => simp only [ho] at h; exact hK _ _ h
  | some o =>
    simp only [ho] at h
    show if _ then _ else _
    split
    · rename_i hw
      simp only [hw, if_true] at h
      rcases h with h | ⟨_, h⟩
      · refine ⟨fun _ _ => trivial, ?_⟩
        rw [show (Fence.wide.inRound l).round = some l from rfl, Oper.semAt_eq _ _ _ (hd i o ho)]
        unfold Oper.wp at h
        generalize (execOp a.eval o).run P w = r at *
        cases r with
        | ok x w' =>
          cases x <;> simp only [Oper.upon] at h <;> simp only [Oper.uponIn]
          case value u => exact hK _ _ h
          case skip => exact hK _ _ h
          case defer d => exact hK _ _ h
          case enter f args =>
            refine ⟨(fun hh => by cases hh), CallsIn.inRound l (callsIn_wide.2 (Calls.mono h fun e w'' he => ?_))⟩
            cases e with
            | returned u => exact hK _ _ he
            | panicked c => exact he
            | outgrown => exact he
          case row row args => exact ⟨(fun hh => by cases hh), fun c cs _ => let ⟨v, w', r, s⟩ := h c cs; ⟨v, w', hK _ _ r, stepsIn_wide.2 s⟩⟩
        | halt x w' =>
          cases x <;> simp only [Oper.upon] at h <;> simp only [Oper.uponIn]
          case panic u => exact h
      · exact absurd h hL
    · rename_i hw
      simp only [hw] at h
      exact ⟨fun _ _ => trivial, hK _ _ h⟩

/-- An operation, in the widest fence. -/
theorem wpIn_of_wp {P : Program} {n : Nat} {o : Oper} {a : Act} {w : World} {K : Act → World → Prop} {Q : Exit → Act → World → Prop} (hd : ∀ c, o.op ≠ .defer c) (h : o.wp P a w K Q) : o.wpIn Fence.wide n P a w K Q := by
  refine ⟨fun _ _ => trivial, ?_⟩
  rw [Oper.semAt_eq _ _ _ hd]
  unfold Oper.wp at h
  generalize (execOp a.eval o).run P w = r at *
  cases r with
  | ok x w' =>
    cases x <;> simp only [Oper.upon] at h <;> simp only [Oper.uponIn]
    case value u => exact h
    case skip => exact h
    case defer d => exact h
    case enter f args => exact ⟨(fun hh => by cases hh), callsIn_wide.2 h⟩
    case row row args => exact ⟨(fun hh => by cases hh), fun c cs _ => let ⟨v, w', r, s⟩ := h c cs; ⟨v, w', r, stepsIn_wide.2 s⟩⟩
  | halt x w' =>
    cases x <;> simp only [Oper.upon] at h <;> simp only [Oper.uponIn]
    case panic u => exact h
/-- A struct is stored whole; the world behind it by its name. -/
theorem wpListIn_store_rowW {P : Program} {n : Nat} {ops : Array Oper} {rest : List Oper} {o : Oper} {a : Act} {w : World} {Q : Exit → Act → World → Prop} (hgd : o.guard = none) (ty : TypeId) (x y : Operand) (ho : o.op = .store ty x y)
    (g : Nat) (cells : Array Value) (hx : a.eval x = .pointer (some ⟨g, 0, none⟩)) (hy : a.eval y = .agg cells)
    (t : TypeId) (old : Array Value) (hg : w.heap[g]? = some (.cells old t (0, 0))) (hi : (P.info? ty).map (·.size) = some cells.size)
    (hold : old.size = cells.size) (h1 : cells.all (·.oneCell') = true) (w' : World) (hw' : w' = w.setRow g cells)
    (h : wpListIn Fence.wide n P ops Q rest (a.put o.dst undef) w') : wpListIn Fence.wide n P ops Q (o :: rest) a w :=
  wpListIn_plain hgd fun K hK => wpIn_of_wp (by rw [ho]; intro c e; cases e) (wp_store_row ty x y ho g cells hx hy t old hg hi hold h1 (hK _ _ (hw' ▸ h)))
theorem chg_one4 (f v : ByteArray) (a n : Int) : (#[.string f, .int .i64 a, .int .i64 n, .string v] : Array Value).all (·.oneCell') = true := by simp [Value.oneCell']
/-- Two boxes of changes ahead of all else. -/
def TwoAt (wr w : World) (L R : Chg) : Prop := Below wr.heap.size wr w ∧ w.heap[wr.heap.size]? = some (.cells #[.string L.f, .int .i64 L.what, .int .i64 L.num, .string L.v] 43 (0, 0)) ∧ w.heap[wr.heap.size + 1]? = some (.cells #[.string R.f, .int .i64 R.what, .int .i64 R.num, .string R.v] 43 (0, 0))
theorem TwoAt.start (wr : World) (L R : Chg) : TwoAt wr ((wr.alloc (.cells #[.string L.f, .int .i64 L.what, .int .i64 L.num, .string L.v] 43)).alloc (.cells #[.string R.f, .int .i64 R.what, .int .i64 R.num, .string R.v] 43)) L R := by
  have s1 : (wr.alloc (.cells #[.string L.f, .int .i64 L.what, .int .i64 L.num, .string L.v] 43)).heap.size = wr.heap.size + 1 := by simp
  refine ⟨((Below.refl _ _).alloc (Nat.le_refl _) _).alloc (by simp) _, (Below.heap_alloc _ _ _ (by omega)).trans (World.alloc_heap_new wr _), ?_⟩
  have := World.alloc_heap_new (wr.alloc (.cells #[.string L.f, .int .i64 L.what, .int .i64 L.num, .string L.v] 43)) (.cells #[.string R.f, .int .i64 R.what, .int .i64 R.num, .string R.v] 43)
  rwa [s1] at this
theorem TwoAt.call {wr w w' : World} {L R : Chg} (h : TwoAt wr w L R) (hb : Below w.heap.size w w') : TwoAt wr w' L R :=
  ⟨below_step h.1 hb, (hb.block _ (Array.getElem?_eq_some_iff.1 h.2.1).1).trans h.2.1, (hb.block _ (Array.getElem?_eq_some_iff.1 h.2.2).1).trans h.2.2⟩
theorem TwoAt.setL {wr w : World} {L R : Chg} (h : TwoAt wr w L R) (A : Chg) : TwoAt wr (w.setRow wr.heap.size #[.string A.f, .int .i64 A.what, .int .i64 A.num, .string A.v]) A R :=
  ⟨below_setRow h.1 (Nat.le_refl _) _, setRow_heap _ _ _ _ _ _ h.2.1, (setRow_other _ _ _ _ (by omega)).trans h.2.2⟩
theorem TwoAt.setR {wr w : World} {L R : Chg} (h : TwoAt wr w L R) (A : Chg) : TwoAt wr (w.setRow (wr.heap.size + 1) #[.string A.f, .int .i64 A.what, .int .i64 A.num, .string A.v]) L A :=
  ⟨below_setRow h.1 (by omega) _, (setRow_other _ _ _ _ (by omega)).trans h.2.1, setRow_heap _ _ _ _ _ _ h.2.2⟩
theorem four_cells {w : World} {b : Nat} {C : Chg} (h : w.heap[b]? = some (.cells #[.string C.f, .int .i64 C.what, .int .i64 C.num, .string C.v] 43 (0, 0))) : w.cell? ⟨b, 0, none⟩ = some (.string C.f) ∧ w.cell? ⟨b, 1, none⟩ = some (.int .i64 C.what) ∧ w.cell? ⟨b, 2, none⟩ = some (.int .i64 C.num) ∧ w.cell? ⟨b, 3, none⟩ = some (.string C.v) := by
  simp [World.cell?, h]

theorem wpAny_round {P : Program} {l n : Nat} {ops : Array Oper} {Q : Exit → Act → World → Prop} (hL : ¬ LetsOut Q) (hd : ∀ (j : Nat) (o : Oper), ops[j]? = some o → ∀ c, o.op ≠ .defer c) {md : Region.Mode} :
    ∀ (fuel : Nat) (listed : Array Bool) (a : Act) (w : World), wpAny P md ops Q fuel listed a w → wpAnyIn (Fence.wide.inRound l) n P md ops Q fuel listed a w
  | 0, _, _, _, h => h
  | fuel + 1, _, _, _, h => ⟨h.1, fun i hi => wpOp_round hL hd (fun a' w' h' => wpAny_round hL hd fuel _ a' w' h') (h.2 i hi)⟩

theorem wpIn_region_roundH {P : Program} {l n id : Nat} {ops : Array Oper} {S : World → Prop} {Q : Exit → Act → World → Prop} {a : Act} {w : World} (hm : P.follows .mixedOrders = true) (hd : (ops.toList.all fun o => match o.op with | .defer _ => false | _ => true) = true) (hS : S w.drew)
    (h : S w.drew → wpAnyH P .any ops (OnlyN (Q .normal)) S ops.size (Array.replicate ops.size false) a w.drew) : (Code.region id ops true).wpIn (Fence.wide.inRound l) n P Q a w := by
  refine wpIn_mono (Q := OnlyN (Q .normal)) ?_ (fun e a w hh => by cases e <;> first | exact hh | exact hh.elim)
  refine wpIn_region_any hm (wpAny_round (onlyN_out _) ?_ _ _ _ _ (wpAny_of_held _ _ _ _ (h hS)))
  intro j o ho c e
  have h1 := List.all_eq_true.1 hd o (by rw [← Array.getElem?_toList] at ho; exact List.mem_of_getElem? ho)
  rw [e] at h1
  cases h1
end Go.Proofs.YtfjblenkcfdbiaaGreat
