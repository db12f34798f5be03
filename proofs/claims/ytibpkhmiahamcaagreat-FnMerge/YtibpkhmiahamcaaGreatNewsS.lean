import Derived.Test.YtibpkhmiahamcaaGreatPut1
import Derived.Test.YtibpkhmiahamcaaGreatShelf
import Derived.Test.YtibpkhmiahamcaaGreatBook7

namespace Go.Proofs.YtibpkhmiahamcaaGreat
open Go.RowKit
attribute [local go_sem] Later.cell Later.frozen
theorem cmp_lt : ∀ a b : List UInt8, Lib.compareBytes a b = if Op.bytesLess a b then -1 else if a = b then 0 else 1
 | [], [] => rfl
 | [], _ :: _ => rfl
 | _ :: _, [] => rfl
 | a :: x, b :: y => by
  rw [Lib.compareBytes, cmp_lt x y]
  by_cases h : a < b
  ·simp [Op.bytesLess, h]
  ·by_cases k : b < a
   ·have hne : ¬ a = b := fun e => by rw [e] at k; exact UInt8.lt_irrefl b k
    simp [Op.bytesLess, h, k, hne]
   ·have e : a = b := UInt8.le_antisymm (UInt8.not_lt.1 k) (UInt8.not_lt.1 h)
    subst e
    simp [Op.bytesLess, h]
def cmpS (a b : ByteArray) : Int := if blS a b then -1 else if a = b then 0 else 1
def cmpN (a b : Int) : Int := if a < b then -1 else if b < a then 1 else 0
def cmpK (a b : Chg) : Int := if cmpS a.f b.f ≠ 0 then cmpS a.f b.f else cmpN a.what b.what
theorem cmpS_eq (a b : ByteArray) : Lib.compareBytes a.data.toList b.data.toList = cmpS a b := by
 rw [cmp_lt]; unfold cmpS blS
 rw [ByteArray.toList_eq, ByteArray.toList_eq]
 have : (a.data.toList = b.data.toList) ↔ a = b := ⟨fun h => bytes_inj h, fun h => by rw [h]⟩
 simp only [this]
theorem cmpK_eq (a b : Chg) : cmpK a b = if keyLt a b then -1 else if keyEq a b then 0 else 1 := by
 unfold cmpK cmpS cmpN keyLt keyEq
 by_cases h : blS a.f b.f = true
 ·simp [h]
 ·by_cases e : a.f = b.f
  ·simp only [e, if_true]
   rw [e] at h
   by_cases h1 : a.what < b.what
   ·simp [h, h1]
   ·by_cases h2 : b.what < a.what
    ·have : ¬ a.what = b.what := by omega
     simp [h, h1, h2, this]
    ·have : a.what = b.what := by omega
     simp [h, this]
  ·simp [h, e]
theorem strCompare_any (a b : ByteArray) (w : World) : Calls Tryz.prog 100 #[.string a, .string b] w fun e w' => e = .returned (.int .i64 (cmpS a b)) ∧ w' = w := by
 have := Tryz.strings_Compare a b w
 rw [cmpS_eq] at this; exact this
theorem isNaN_any (a : Int) (w : World) : Calls Tryz.prog 105 #[.int .i64 a] w fun e w' => e = .returned (.bool false) ∧ w' = w := by
 have h : (a != a) = false := by simp
 go_enter Tryz.func105, Tryz.ntmps105
 go_wp2
 go_ret
 exact ⟨rfl, rfl⟩
set_option maxHeartbeats 800000 in
theorem cmpCompare_any (a b : Int) (w : World) : Calls Tryz.prog 101 #[.int .i64 a, .int .i64 b] w fun e w' => e = .returned (.int .i64 (cmpN a b)) ∧ w' = w := by
 by_cases h1 : a < b
 ·have e : cmpN a b = -1 := if_pos h1
  rw [e]; clear e
  go_enter Tryz.func101, Tryz.ntmps101
  go_wp2_with (go_at_call 105; refine (isNaN_any _ _).mono ?_; rintro e w' ⟨rfl, rfl⟩)
  go_ret
  exact ⟨rfl, rfl⟩
 ·by_cases h2 : b < a
  ·have e : cmpN a b = 1 := by unfold cmpN; rw [if_neg h1, if_pos h2]
   rw [e]; clear e
   go_enter Tryz.func101, Tryz.ntmps101
   go_wp2_with (go_at_call 105; refine (isNaN_any _ _).mono ?_; rintro e w' ⟨rfl, rfl⟩)
   go_ret
   exact ⟨rfl, rfl⟩
  ·have e : cmpN a b = 0 := by unfold cmpN; rw [if_neg h1, if_neg h2]
   rw [e]; clear e
   go_enter Tryz.func101, Tryz.ntmps101
   go_wp2_with (go_at_call 105; refine (isNaN_any _ _).mono ?_; rintro e w' ⟨rfl, rfl⟩)
   go_ret
   exact ⟨rfl, rfl⟩
def orI (a b : Int) : Int := if a ≠ 0 then a else b
set_option maxHeartbeats 1600000 in
theorem cmpOr_any (B : Nat) (a b : Int) (w : World) (h0 : w.cell? ⟨B, 0, none⟩ = some (.int .i64 a)) (h1 : w.cell? ⟨B, 1, none⟩ = some (.int .i64 b)) :
  Calls Tryz.prog 99 #[.slice (some ⟨B, 0, none⟩) 2 2] w fun e w' => e = .returned (.int .i64 (orI a b)) ∧ w' = w := by
 go_enter Tryz.func99, Tryz.ntmps99
 go_wp2
 go_loopw [5, 8] (fun _ i wr => wr = w ∧ (i = .int .i64 0 ∨ (i = .int .i64 1 ∧ a = 0) ∨ (i = .int .i64 2 ∧ a = 0 ∧ b = 0))) (fun _ i _ => 2 - (intOf i).toNat)
 case atStart => exact ⟨rfl, .inl rfl⟩
 case round =>
  obtain ⟨rfl, rfl | ⟨rfl, ha⟩ | ⟨rfl, ha, hb⟩⟩ := hrel
  ·by_cases hz : a = 0
   ·have hq : (a != 0) = false := by simp [hz]
    have HZ : Hid (a = 0) := hz
    clear hz
    go_wp2
    exact ⟨⟨by trivial, .inr (.inl ⟨by go_num, HZ.out⟩)⟩, by simp [intOf]⟩
   ·have hq : (a != 0) = true := by simp [hz]
    have HZ : Hid (¬ a = 0) := hz
    clear hz
    go_wp2
    go_ret
    exact ⟨ret_int (by unfold orI; rw [if_pos HZ.out]), rfl⟩
  ·have HA : Hid (a = 0) := ha
   clear ha
   by_cases hz : b = 0
   ·have hq : (b != 0) = false := by simp [hz]
    have HZ : Hid (b = 0) := hz
    clear hz
    go_wp2
    exact ⟨⟨by trivial, .inr (.inr ⟨by go_num, HA.out, HZ.out⟩)⟩, by simp [intOf]⟩
   ·have hq : (b != 0) = true := by simp [hz]
    have HZ : Hid (¬ b = 0) := hz
    clear hz
    go_wp2
    go_ret
    exact ⟨ret_int (by unfold orI; rw [if_neg (by simp [HA.out])]), rfl⟩
  ·have HA : Hid (a = 0 ∧ b = 0) := ⟨ha, hb⟩
   clear ha hb
   go_wp2
   go_ret
   exact ⟨ret_int (by unfold orI; rw [if_neg (by simp [HA.out.1]), HA.out.2]), rfl⟩
theorem gt_bl (a b : ByteArray) : (!Op.bytesLess a.toList b.toList && !a.toList == b.toList) = blS b a := by
 unfold blS
 cases h : Op.bytesLess b.toList a.toList with
 | true =>
  have h1 : Op.bytesLess a.toList b.toList = false := by
   cases h1 : Op.bytesLess a.toList b.toList with
   | false => rfl
   | true => have := bl_trans _ _ _ h h1; rw [bl_irrefl] at this; cases this
  have h2 : (a.toList == b.toList) = false := by
   rw [beq_eq_false_iff_ne]
   intro e; rw [e, bl_irrefl] at h; cases h
  rw [h1, h2]; rfl
 | false =>
  cases h1 : Op.bytesLess a.toList b.toList with
  | true => rfl
  | false =>
   have e := bl_total _ _ h1 h
   rw [e]; simp
theorem keyOf_any (c : Chg) (w : World) : Calls Tryz.prog 58 #[.agg #[.string c.f, .int .i64 c.what, .int .i64 c.num, .string c.v]] w fun e w' => e = .returned (.agg #[.string c.f, .int .i64 c.what]) ∧ Below w.heap.size w w' := by
 go_enter Tryz.func58, Tryz.ntmps58
 go_wp2
 exact bodyPost_ret (v := .agg #[.string c.f, .int .i64 c.what]) (by simp [results, Tryz.results58, go_sem]) rfl ⟨rfl, ((Below.refl _ _).alloc (Nat.le_refl _) _).alloc (by simp) _⟩
theorem fieldOf_any (c : Chg) (w : World) : Calls Tryz.prog 45 #[.agg #[.string c.f, .int .i64 c.what, .int .i64 c.num, .string c.v]] w fun e w' => e = .returned (.agg #[.int .i64 c.what, .int .i64 c.num, .string c.v]) ∧ Below w.heap.size w w' := by
 go_enter Tryz.func45, Tryz.ntmps45
 go_wp2
 exact bodyPost_ret (v := .agg #[.int .i64 c.what, .int .i64 c.num, .string c.v]) (by simp [results, Tryz.results45, go_sem]) rfl ⟨rfl, ((Below.refl _ _).alloc (Nat.le_refl _) _).alloc (by simp) _⟩
set_option maxHeartbeats 800000 in
theorem later_any (x y : Chg) (w : World) : Calls Tryz.prog 46 #[.agg #[.int .i64 x.what, .int .i64 x.num, .string x.v], .agg #[.int .i64 y.what, .int .i64 y.num, .string y.v]] w fun e w' => e = .returned (.bool (latC x y)) ∧ Below w.heap.size w w' := by
 have HB : Hid (∀ o o' : Obj, Below w.heap.size w ((w.alloc o).alloc o')) := fun o o' => ((Below.refl _ _).alloc (Nat.le_refl _) _).alloc (by simp) _
 by_cases h : x.num = y.num
 ·have e : latC x y = blS y.v x.v := by unfold latC; rw [if_pos h]
  have hq : (x.num != y.num) = false := by simp [h]
  rw [e]; clear e h
  go_enter Tryz.func46, Tryz.ntmps46
  go_wp2
  go_ret
  exact ⟨ret_bool (gt_bl _ _), HB.out _ _⟩
 ·have e : latC x y = decide (y.num < x.num) := by unfold latC; rw [if_neg h]
  have hq : (x.num != y.num) = true := by simp [h]
  rw [e]; clear e h
  go_enter Tryz.func46, Tryz.ntmps46
  go_wp2
  go_ret
  exact ⟨rfl, HB.out _ _⟩
set_option maxHeartbeats 800000 in
theorem l3Later_any (x y : Chg) (w : World) : Calls Tryz.prog 78 #[.agg #[.int .i64 x.what, .int .i64 x.num, .string x.v], .agg #[.int .i64 y.what, .int .i64 y.num, .string y.v]] w fun e w' => e = .returned (.bool (latC x y)) ∧ Below w.heap.size w w' := by
 have HB : Hid (∀ o o' : Obj, Below w.heap.size w ((w.alloc o).alloc o')) := fun o o' => ((Below.refl _ _).alloc (Nat.le_refl _) _).alloc (by simp) _
 by_cases h : x.num = y.num
 ·have e : latC x y = blS y.v x.v := by unfold latC; rw [if_pos h]
  have hq : (x.num != y.num) = false := by simp [h]
  rw [e]; clear e h
  go_enter Tryz.func78, Tryz.ntmps78
  go_wp2
  go_ret
  exact ⟨ret_bool (gt_bl _ _), HB.out _ _⟩
 ·have e : latC x y = decide (y.num < x.num) := by unfold latC; rw [if_neg h]
  have hq : (x.num != y.num) = true := by simp [h]
  rw [e]; clear e h
  go_enter Tryz.func78, Tryz.ntmps78
  go_wp2
  go_ret
  exact ⟨rfl, HB.out _ _⟩
theorem clone_any (s : ByteArray) (w : World) (hs : s.size ≤ 1048576) :
  Calls Tryz.prog 77 #[.string s] w fun e w' => e = .returned (.string s) ∧ Below w.heap.size w w' := by
 go_enter Tryz.func77, Tryz.ntmps77
 go_wp2_with fail
 refine (Tryz.stringslite_Clone s _ (by omega)).mono ?_
 rintro e w' ⟨rfl, hb⟩
 go_wp2
 go_ret
 exact ⟨rfl, hb⟩
set_option maxHeartbeats 1600000 in
theorem compareKeys_any (a b : Chg) (w : World) : Calls Tryz.prog 94 #[.agg #[.string a.f, .int .i64 a.what], .agg #[.string b.f, .int .i64 b.what]] w fun e w' => e = .returned (.int .i64 (cmpK a b)) ∧ Below w.heap.size w w' := by
 have HK : Hid (cmpK a b = orI (cmpS a.f b.f) (cmpN a.what b.what)) := rfl
 have HX0 : Hid (OwnAt w ((w.alloc (.cells #[.string a.f, .int .i64 a.what] 100)).alloc (.cells #[.string b.f, .int .i64 b.what] 100)) [[.string a.f, .int .i64 a.what], [.string b.f, .int .i64 b.what]]) := ((OwnAt.start w).push rfl _ _).push (by simp) _ _
 go_enter Tryz.func94, Tryz.ntmps94
 go_wp2
 generalize (w.alloc (.cells #[.string a.f, .int .i64 a.what] 100)).alloc (.cells #[.string b.f, .int .i64 b.what] 100) = w1 at *
 go_region_held3 (fun w' => (w'.cell? ⟨w.heap.size, 0, none⟩ = some (.string a.f) ∧ w'.cell? ⟨w.heap.size, 1, none⟩ = some (.int .i64 a.what) ∧ w'.cell? ⟨w.heap.size + 1, 0, none⟩ = some (.string b.f) ∧ w'.cell? ⟨w.heap.size + 1, 1, none⟩ = some (.int .i64 b.what)) ∧ OwnAt w w' [[.string a.f, .int .i64 a.what], [.string b.f, .int .i64 b.what]])
  (first | (have ha := HX0.out.call (Below.refl _ w1).drew; exact ⟨⟨(ha.has 0 _ rfl 0 _ rfl).1, (ha.has 0 _ rfl 1 _ rfl).1, (ha.has 1 _ rfl 0 _ rfl).1, (ha.has 1 _ rfl 1 _ rfl).1⟩, ha⟩) | (have ha := HX0.out.call ((Below.refl _ w1).alloc (Nat.le_refl _) (.cells #[.int .i64 (cmpS a.f b.f), .int .i64 (cmpN a.what b.what)] 3)).drew; exact ⟨⟨(ha.has 0 _ rfl 0 _ rfl).1, (ha.has 0 _ rfl 1 _ rfl).1, (ha.has 1 _ rfl 0 _ rfl).1, (ha.has 1 _ rfl 1 _ rfl).1⟩, ha⟩) | (exact ‹_ ∧ OwnAt w _ _›))
  (first | (go_at_call 100; refine (strCompare_any _ _ _).mono ?_; rintro e w3 ⟨rfl, rfl⟩) | (go_at_call 101; refine (cmpCompare_any _ _ _).mono ?_; rintro e w3 ⟨rfl, rfl⟩) | (go_at_call 99; refine (cmpOr_any w1.heap.size (cmpS a.f b.f) (cmpN a.what b.what) _ (by simp [go_sem]) (by simp [go_sem])).mono ?_; rintro e w3 ⟨rfl, rfl⟩))
 all_goals go_wp2
 all_goals go_ret
 all_goals exact ⟨ret_int HK.out.symm, (‹_ ∧ OwnAt w _ _›).2.below⟩
def nextC : List Chg → List Chg → Int
 | [], _ => 1
 | _ :: _, [] => -1
 | a :: _, b :: _ => cmpK a b
set_option maxHeartbeats 1600000 in
theorem compareNext_any (v u : Value) (A B : List Chg) (w : World) (hv : ChgsAt w v A) (hu : ChgsAt w u B) :
  Calls Tryz.prog 76 #[v, u] w fun e w' => e = .returned (.int .i64 (nextC A B)) ∧ Below w.heap.size w w' := by
 obtain ⟨av, cv, rfl, hlc, hcm, hc⟩ := hv
 obtain ⟨au, cu, rfl, hlc', hcm', hc'⟩ := hu
 unfold maxLen at hcm hcm'
 cases A with
 | nil =>
  have e : nextC [] B = 1 := by cases B <;> rfl
  rw [e]; clear e
  go_enter Tryz.func76, Tryz.ntmps76
  go_wp2
  go_ret
  exact ⟨rfl, Below.refl _ _⟩
 | cons a A =>
  have hz : ((((a :: A).length : Nat) : Int) == 0) = false := by rw [beq_eq_false_iff_ne, List.length_cons]; omega
  have hz1 : (0 : Int) < (((a :: A).length : Nat) : Int) := by rw [List.length_cons]; omega
  have hz2 : 0 < (a :: A).length := by simp
  obtain ⟨b0, o0, rfl, d0, d1, d2, d3⟩ := hc 0 a rfl
  simp only [Nat.zero_mul, Nat.add_zero] at d0 d1 d2 d3
  generalize hla : (a :: A).length = la at *
  clear hla hc
  cases B with
  | nil =>
   have e : nextC (a :: A) [] = -1 := rfl
   rw [e]; clear e
   go_enter Tryz.func76, Tryz.ntmps76
   go_wp2
   go_ret
   exact ⟨rfl, Below.refl _ _⟩
  | cons b B =>
   have hy : ((((b :: B).length : Nat) : Int) == 0) = false := by rw [beq_eq_false_iff_ne, List.length_cons]; omega
   have hy1 : (0 : Int) < (((b :: B).length : Nat) : Int) := by rw [List.length_cons]; omega
   have hy2 : 0 < (b :: B).length := by simp
   have e : nextC (a :: A) (b :: B) = cmpK a b := rfl
   rw [e]; clear e
   obtain ⟨b1, o1, rfl, e0, e1, e2, e3⟩ := hc' 0 b rfl
   simp only [Nat.zero_mul, Nat.add_zero] at e0 e1 e2 e3
   generalize hlb : (b :: B).length = lb at *
   clear hlb hc'
   have z0 : b0 < w.heap.size := lt_of_cell d0
   have z1 : b1 < w.heap.size := lt_of_cell e0
   have hne := Later.some w
   have GK : Hid (∀ (c : Chg) (y : Later w), Calls Tryz.prog 58 #[.agg #[.string c.f, .int .i64 c.what, .int .i64 c.num, .string c.v]] y.val fun e w'' => e = .returned (.agg #[.string c.f, .int .i64 c.what]) ∧ ∃ z : Later w, w'' = z.val) := fun c y => Calls.later (keyOf_any c y.val)
   have GC : Hid (∀ (y : Later w), Calls Tryz.prog 94 #[.agg #[.string a.f, .int .i64 a.what], .agg #[.string b.f, .int .i64 b.what]] y.val fun e w'' => e = .returned (.int .i64 (cmpK a b)) ∧ ∃ z : Later w, w'' = z.val) := fun y => Calls.later (compareKeys_any a b y.val)
   go_enter Tryz.func76, Tryz.ntmps76
   go_wp2
   refine wp_region_later (by kernel_rfl) (by kernel_rfl) ?_
   repeat (go_big_quiet_step (first | (go_at_call 58; exact GK.out _ _) | (go_at_call 94; exact GC.out _)))
   refine wpQuiet_nil ?_
   rintro _ ⟨x, rfl⟩
   go_wp2
   go_ret
   exact ⟨rfl, x.below⟩
end Go.Proofs.YtibpkhmiahamcaaGreat
namespace Go.Proofs.YtibpkhmiahamcaaGreat
open Go.RowKit
set_option maxHeartbeats 1600000 in
theorem copyChange_any (c : Chg) (w : World) (hf : c.f.size ≤ 1048576) (hv : c.v.size ≤ 1048576) :
  Calls Tryz.prog 47 #[.agg #[.string c.f, .int .i64 c.what, .int .i64 c.num, .string c.v]] w fun e w' => e = .returned (.agg #[.string c.f, .int .i64 c.what, .int .i64 c.num, .string c.v]) ∧ Below w.heap.size w w' := by
 obtain ⟨f, what, num, v⟩ := c
 dsimp only at *
 have HO0 : Hid (OwnAt w ((w.alloc (.cells #[.string f, .int .i64 what, .int .i64 num, .string v] 31)).alloc (.cells #[.string ⟨#[]⟩, .int .i64 0, .int .i64 0, .string ⟨#[]⟩] 31)) [[.string f, .int .i64 what, .int .i64 num, .string v], [.string ⟨#[]⟩, .int .i64 0, .int .i64 0, .string ⟨#[]⟩]]) := ((OwnAt.start w).push rfl _ _).push (by simp) _ _
 go_enter Tryz.func47, Tryz.ntmps47
 go_wp2_with fail
 refine (clone_any f _ hf).mono ?_
 rintro e w1 ⟨rfl, hb1⟩
 have HO1 : Hid (OwnAt w w1 [[.string f, .int .i64 what, .int .i64 num, .string v], [.string ⟨#[]⟩, .int .i64 0, .int .i64 0, .string ⟨#[]⟩]]) := HO0.out.call hb1
 have HO2 : Hid (OwnAt w (w1.setCell ⟨w.heap.size, 0, none⟩ (.string f)) [[.string f, .int .i64 what, .int .i64 num, .string v], [.string ⟨#[]⟩, .int .i64 0, .int .i64 0, .string ⟨#[]⟩]]) := HO1.out.set (i := 0) (j := 0) rfl (by simp) _
 have c0 : w1.cell? ⟨w.heap.size, 0, none⟩ = some (.string f) := (HO1.out.has 0 _ rfl 0 _ rfl).1
 have c1 : w1.cell? ⟨w.heap.size, 1, none⟩ = some (.int .i64 what) := (HO1.out.has 0 _ rfl 1 _ rfl).1
 have c2 : w1.cell? ⟨w.heap.size, 2, none⟩ = some (.int .i64 num) := (HO1.out.has 0 _ rfl 2 _ rfl).1
 have c3 : w1.cell? ⟨w.heap.size, 3, none⟩ = some (.string v) := (HO1.out.has 0 _ rfl 3 _ rfl).1
 have f0 : w1.frozen? ⟨w.heap.size, 0, none⟩ = false := (HO1.out.has 0 _ rfl 0 _ rfl).2
 clear HO0 hb1
 go_wp2_with fail
 refine (clone_any v _ hv).mono ?_
 rintro e w2 ⟨rfl, hb2⟩
 have HO3 : Hid (OwnAt w w2 [[.string f, .int .i64 what, .int .i64 num, .string v], [.string ⟨#[]⟩, .int .i64 0, .int .i64 0, .string ⟨#[]⟩]]) := HO2.out.call hb2
 clear HO1 HO2 hb2 c0 c1 c2 c3 f0
 have c0 : w2.cell? ⟨w.heap.size, 0, none⟩ = some (.string f) := (HO3.out.has 0 _ rfl 0 _ rfl).1
 have c1 : w2.cell? ⟨w.heap.size, 1, none⟩ = some (.int .i64 what) := (HO3.out.has 0 _ rfl 1 _ rfl).1
 have c2 : w2.cell? ⟨w.heap.size, 2, none⟩ = some (.int .i64 num) := (HO3.out.has 0 _ rfl 2 _ rfl).1
 have c3 : w2.cell? ⟨w.heap.size, 3, none⟩ = some (.string v) := (HO3.out.has 0 _ rfl 3 _ rfl).1
 have f3 : w2.frozen? ⟨w.heap.size, 3, none⟩ = false := (HO3.out.has 0 _ rfl 3 _ rfl).2
 have r0 : w2.cell? ⟨w.heap.size + 1, 0, none⟩ = some (.string ⟨#[]⟩) := (HO3.out.has 1 _ rfl 0 _ rfl).1
 have r1 : w2.cell? ⟨w.heap.size + 1, 1, none⟩ = some (.int .i64 0) := (HO3.out.has 1 _ rfl 1 _ rfl).1
 have r2 : w2.cell? ⟨w.heap.size + 1, 2, none⟩ = some (.int .i64 0) := (HO3.out.has 1 _ rfl 2 _ rfl).1
 have r3 : w2.cell? ⟨w.heap.size + 1, 3, none⟩ = some (.string ⟨#[]⟩) := (HO3.out.has 1 _ rfl 3 _ rfl).1
 have g0 : w2.frozen? ⟨w.heap.size + 1, 0, none⟩ = false := (HO3.out.has 1 _ rfl 0 _ rfl).2
 have g1 : w2.frozen? ⟨w.heap.size + 1, 1, none⟩ = false := (HO3.out.has 1 _ rfl 1 _ rfl).2
 have g2 : w2.frozen? ⟨w.heap.size + 1, 2, none⟩ = false := (HO3.out.has 1 _ rfl 2 _ rfl).2
 have g3 : w2.frozen? ⟨w.heap.size + 1, 3, none⟩ = false := (HO3.out.has 1 _ rfl 3 _ rfl).2
 go_wp2
 refine bodyPost_ret (v := .agg #[.string f, .int .i64 what, .int .i64 num, .string v]) (by simp [results, Tryz.results47, go_sem, *]) rfl ⟨rfl, ?_⟩
 exact below_set (below_set (below_set (below_set (below_set HO3.out.below _ _ (by omega) _) _ _ (by omega) _) _ _ (by omega) _) _ _ (by omega) _) _ _ (by omega) _
theorem sideBySide_any (a b : Value) (w : World) (ha : ∃ x n c, a = .slice x n c) (hb : ∃ x n c, b = .slice x n c) :
  Calls Tryz.prog 44 #[a, b] w fun e w' => e = .returned (.func (.func 75) #[] #[.pointer (some ⟨w.heap.size, 0, none⟩), .pointer (some ⟨w.heap.size + 1, 0, none⟩)]) ∧ w' = (w.alloc (.cells #[a] 49)).alloc (.cells #[b] 49) := by
 obtain ⟨x, n, c, rfl⟩ := ha
 obtain ⟨x', n', c', rfl⟩ := hb
 go_enter Tryz.func44, Tryz.ntmps44
 go_wp2
 go_ret
 exact ⟨rfl, rfl⟩
open Go.RowKit
attribute [local go_sem] Later.cell Later.frozen
theorem find_at {α : Type} {p : α → Bool} {l : List α} {k : Nat} {x : α} (hk : l[k]? = some x) (hp : p x = true) (hn : ∀ (j : Nat) (y : α), j < k → l[j]? = some y → p y = false) : l.find? p = some x := by
 obtain ⟨hlt, rfl⟩ := List.getElem?_eq_some_iff.1 hk
 rw [List.find?_eq_some_iff_getElem]
 exact ⟨hp, k, hlt, rfl, fun j hj => by simp [hn j _ hj (List.getElem?_eq_getElem (by omega))]⟩
theorem find_no {α : Type} {p : α → Bool} {l : List α} (hn : ∀ (j : Nat) (y : α), l[j]? = some y → p y = false) : l.find? p = none := by
 rw [List.find?_eq_none]
 intro x hx
 obtain ⟨i, hi, rfl⟩ := List.getElem_of_mem hx
 simp [hn i _ (List.getElem?_eq_getElem hi)]
set_option maxHeartbeats 1600000 in
theorem l3At_any (vk vp ve : Value) (es : List Ent) (n : ByteArray) (w : World) (he : EntsAt w ve es) :
  Calls Tryz.prog 30 #[.agg #[vk, vp, ve], .string n] w fun e w' => ∃ r : Int, e = .returned (.int .i64 r) ∧ ((r = -1 ∧ es.find? (fun e => decide (e.name = n)) = none) ∨ ∃ k : Nat, k < es.length ∧ r = (k : Int) ∧ es.find? (fun e => decide (e.name = n)) = some (eat es k)) ∧ Below w.heap.size w w' := by
 obtain ⟨ae, ce, rfl, hlc, hcm, hc⟩ := he
 unfold maxLen at hcm
 have HC : Hid (∀ i f, es[i]? = some f → ∃ b off, ae = some ⟨b, off, none⟩ ∧ EntAt w b (off + i * 2) f) := hc
 clear hc
 have HX0 : Hid (OwnAt w (w.alloc (.cells #[vk, vp, .slice ae es.length ce] 29)) [[vk, vp, .slice ae es.length ce]]) := (OwnAt.start w).push rfl _ _
 have y0 : (w.alloc (.cells #[vk, vp, .slice ae es.length ce] 29)).cell? ⟨w.heap.size, 0, none⟩ = some vk := by simp
 have y1 : (w.alloc (.cells #[vk, vp, .slice ae es.length ce] 29)).cell? ⟨w.heap.size, 1, none⟩ = some vp := by simp
 have y2 : (w.alloc (.cells #[vk, vp, .slice ae es.length ce] 29)).cell? ⟨w.heap.size, 2, none⟩ = some (.slice ae es.length ce) := by simp
 go_enter Tryz.func30, Tryz.ntmps30
 go_wp2
 generalize w.alloc (.cells #[vk, vp, .slice ae es.length ce] 29) = w1 at *
 go_loopw [5] (fun i wr => wr = w1 ∧ ∃ k : Nat, k ≤ es.length ∧ i = .int .i64 k ∧ Hid (∀ j y, j < k → es[j]? = some y → decide (y.name = n) = false)) (fun i _ => es.length - (intOf i).toNat)
 case atStart => exact ⟨rfl, 0, Nat.zero_le _, rfl, fun j y hj => absurd hj (Nat.not_lt_zero _)⟩
 case round =>
  obtain ⟨rfl, k, hk, rfl, HA⟩ := hrel
  by_cases hlt : k < es.length
  ·obtain ⟨b, off, rfl, hc⟩ := HC.out k _ (eat_get hlt)
   obtain ⟨fv, d0, d1, hfl⟩ := hc.keep HX0.out.below
   obtain ⟨fa, fc, rfl, -, -, -⟩ := hfl
   have hk0 : (0 : Int) ≤ (k : Int) := by omega
   have hk1 : (k : Int) < (es.length : Int) := by omega
   have HG : Hid (es[k]? = some (eat es k)) := eat_get hlt
   by_cases hx : (eat es k).name = n
   ·have h1 : ((eat es k).name.toList == n.toList) = true := str_eq hx
    have HX : Hid ((eat es k).name = n) := hx
    clear hx hc
    go_wp2
    go_ret
    exact ⟨_, rfl, .inr ⟨k, hlt, rfl, find_at HG.out (by simp [HX.out]) HA.out⟩, HX0.out.below⟩
   ·have h1 : ((eat es k).name.toList == n.toList) = false := str_ne hx
    have HX : Hid (¬ (eat es k).name = n) := hx
    clear hx hc
    go_wp2
    exact ⟨⟨by trivial, k + 1, by omega, by go_num, fun j y hj hy => if e : j = k then by subst e; rw [HG.out] at hy; cases hy; simp [HX.out] else HA.out j y (by omega) hy⟩, by simp [intOf]; omega⟩
  ·go_wp2
   go_ret
   exact ⟨_, rfl, .inl ⟨rfl, find_no fun j y hy => HA.out j y (by have := (List.getElem?_eq_some_iff.1 hy).1; omega) hy⟩, HX0.out.below⟩
set_option maxHeartbeats 3200000 in
theorem l4Has_any (vk vp ve : Value) (es : List Ent) (n : ByteArray) (f : Fld) (w : World) (he : EntsAt w ve es) :
  Calls Tryz.prog 48 #[.agg #[vk, vp, ve], .string n, .agg #[.int .i64 f.what, .int .i64 f.num, .string f.v]] w fun e w' => e = .returned (.bool (hasS es (chgOf n f))) ∧ Below w.heap.size w w' := by
 have HEN : Hid (EntsAt w ve es) := he
 obtain ⟨ae, ce, rfl, hlc, hcm, hc⟩ := he
 unfold maxLen at hcm
 have HC : Hid (∀ i f, es[i]? = some f → ∃ b off, ae = some ⟨b, off, none⟩ ∧ EntAt w b (off + i * 2) f) := hc
 clear hc
 have HX0 : Hid (OwnAt w ((w.alloc (.cells #[vk, vp, .slice ae es.length ce] 29)).alloc (.cells #[.int .i64 f.what, .int .i64 f.num, .string f.v] 42)) [[vk, vp, .slice ae es.length ce], [.int .i64 f.what, .int .i64 f.num, .string f.v]]) := ((OwnAt.start w).push rfl _ _).push (by simp) _ _
 have HH : Hid (hasS es (chgOf n f) = match es.find? fun e => decide (e.name = n) with
   | none => false
   | some e => match e.fs.find? fun g => decide (g.what = f.what) with
    | none => false
    | some g => !latC (chgOf n f) (chgOf e.name g)) := rfl
 go_enter Tryz.func48, Tryz.ntmps48
 go_wp2_with fail
 refine (l3At_any _ _ _ es n _ (HEN.out.keep HX0.out.below)).mono ?_
 rintro e w1 ⟨r, rfl, hr, hb1⟩
 have HX1 : Hid (OwnAt w w1 [[vk, vp, .slice ae es.length ce], [.int .i64 f.what, .int .i64 f.num, .string f.v]]) := HX0.out.call hb1
 clear HX0 hb1
 have y0 : w1.cell? ⟨w.heap.size, 0, none⟩ = some vk := (HX1.out.has 0 _ rfl 0 _ rfl).1
 have y1 : w1.cell? ⟨w.heap.size, 1, none⟩ = some vp := (HX1.out.has 0 _ rfl 1 _ rfl).1
 have y2 : w1.cell? ⟨w.heap.size, 2, none⟩ = some (.slice ae es.length ce) := (HX1.out.has 0 _ rfl 2 _ rfl).1
 rcases hr with ⟨rfl, hf⟩ | ⟨k0, hk0, rfl, hf⟩
 ·have HF : Hid (hasS es (chgOf n f) = false) := by show _ = _; rw [HH.out, hf]
  clear hf HH
  go_wp2
  go_loopw [8, 9] (fun _ _ wr => wr = w1) (fun _ _ _ => 0)
  case atStart => rfl
  case round =>
   obtain rfl := hrel
   go_wp2
   go_ret
   exact ⟨ret_bool HF.out.symm, HX1.out.below⟩
 ·obtain ⟨b, off, rfl, hc⟩ := HC.out k0 _ (eat_get hk0)
  obtain ⟨fv, d0, d1, hfl⟩ := hc.keep HX1.out.below
  obtain ⟨fa, fc, rfl, hfc, hfm, hfe⟩ := hfl
  unfold maxLen at hfm
  have HFE : Hid (∀ i g, (eat es k0).fs[i]? = some g → ∃ b off, fa = some ⟨b, off, none⟩ ∧ FldAt w1 b (off + i * 3) g) := hfe
  have HF : Hid (hasS es (chgOf n f) = match (eat es k0).fs.find? fun g => decide (g.what = f.what) with
    | none => false
    | some g => !latC (chgOf n f) (chgOf (eat es k0).name g)) := by show _ = _; rw [HH.out, hf]
  clear hf HH hfe hc
  have hk1 : (0 : Int) ≤ (k0 : Int) := by omega
  have hk2 : (k0 : Int) < (es.length : Int) := by omega
  generalize eat es k0 = t at *
  obtain ⟨nm, fs⟩ := t
  dsimp only at *
  have HD : Hid (w1.cell? ⟨b, off + k0 * 2, none⟩ = some (.string nm) ∧ w1.cell? ⟨b, off + k0 * 2 + 1, none⟩ = some (.slice fa fs.length fc)) := ⟨d0, d1⟩
  clear d0 d1 y0 y1 y2
  go_wp2
  go_loopw [8, 9] (fun i _ wr => ∃ k : Nat, k ≤ fs.length ∧ i = .int .i64 k ∧ Below w1.heap.size w1 wr ∧ Hid (∀ (j : Nat) (y : Fld), j < k → fs[j]? = some y → decide (y.what = f.what) = false)) (fun i _ _ => fs.length - (intOf i).toNat)
  case atStart => exact ⟨0, Nat.zero_le _, rfl, Below.refl _ _, fun j y hj => absurd hj (Nat.not_lt_zero _)⟩
  case round =>
   obtain ⟨k, hk, rfl, hbr, HA⟩ := hrel
   have HXr : Hid (OwnAt w wr [[vk, vp, .slice (some ⟨b, off, none⟩) es.length ce], [.int .i64 f.what, .int .i64 f.num, .string f.v]]) := HX1.out.call hbr
   have y0 : wr.cell? ⟨w.heap.size, 0, none⟩ = some vk := (HXr.out.has 0 _ rfl 0 _ rfl).1
   have y1 : wr.cell? ⟨w.heap.size, 1, none⟩ = some vp := (HXr.out.has 0 _ rfl 1 _ rfl).1
   have y2 : wr.cell? ⟨w.heap.size, 2, none⟩ = some (.slice (some ⟨b, off, none⟩) es.length ce) := (HXr.out.has 0 _ rfl 2 _ rfl).1
   have z0 : wr.cell? ⟨w.heap.size + 1, 0, none⟩ = some (.int .i64 f.what) := (HXr.out.has 1 _ rfl 0 _ rfl).1
   have z1 : wr.cell? ⟨w.heap.size + 1, 1, none⟩ = some (.int .i64 f.num) := (HXr.out.has 1 _ rfl 1 _ rfl).1
   have z2 : wr.cell? ⟨w.heap.size + 1, 2, none⟩ = some (.string f.v) := (HXr.out.has 1 _ rfl 2 _ rfl).1
   have d0 := cell_keep hbr (Nat.le_refl _) HD.out.1
   have d1 := cell_keep hbr (Nat.le_refl _) HD.out.2
   have zz : w.heap.size + 1 < wr.heap.size := lt_of_cell z0
   by_cases hlt : k < fs.length
   ·obtain ⟨gb, go, rfl, hg⟩ := HFE.out k _ (fat_get hlt)
    obtain ⟨g0, g1, g2⟩ := hg.keep hbr (Nat.le_refl _)
    have HG : Hid (fs[k]? = some (fat fs k)) := fat_get hlt
    have hk3 : (0 : Int) ≤ (k : Int) := by omega
    have hk4 : (k : Int) < (fs.length : Int) := by omega
    by_cases hx : (fat fs k).what = f.what
    ·have hq : ((fat fs k).what == f.what) = true := by simp [hx]
     have HX : Hid ((fat fs k).what = f.what) := hx
     have HBN : Hid (Below wr.heap.size wr (wr.alloc (.cells #[.int .i64 (fat fs k).what, .int .i64 (fat fs k).num, .string (fat fs k).v] 42))) := (Below.refl _ _).alloc (Nat.le_refl _) _
     clear hx hg
     go_wp2_with fail
     refine (l3Later_any (chgOf n f) (chgOf nm (fat fs k)) _).mono ?_
     rintro e w2 ⟨rfl, hb2⟩
     have HRES : Hid ((!latC (chgOf n f) (chgOf nm (fat fs k))) = hasS es (chgOf n f)) := by
      show _ = _
      rw [HF.out, find_at HG.out (by simp [HX.out]) HA.out]
     go_wp2
     go_ret
     exact ⟨ret_bool HRES.out, below_step (below_step HXr.out.below HBN.out) hb2⟩
    ·have hq : ((fat fs k).what == f.what) = false := by simp [hx]
     have HX : Hid (¬ (fat fs k).what = f.what) := hx
     have HBN : Hid (Below wr.heap.size wr (wr.alloc (.cells #[.int .i64 (fat fs k).what, .int .i64 (fat fs k).num, .string (fat fs k).v] 42))) := (Below.refl _ _).alloc (Nat.le_refl _) _
     clear hx hg
     go_wp2
     exact ⟨⟨k + 1, by omega, by go_num, below_step hbr HBN.out, fun j y hj hy => if e : j = k then by subst e; rw [HG.out] at hy; cases hy; simp [HX.out] else HA.out j y (by omega) hy⟩, by simp [intOf]; omega⟩
   ·have HRES : Hid (hasS es (chgOf n f) = false) := by
     show _ = _
     rw [HF.out, find_no fun j y hy => HA.out j y (by have := (List.getElem?_eq_some_iff.1 hy).1; omega) hy]
    go_wp2
    go_ret
    exact ⟨ret_bool HRES.out.symm, HXr.out.below⟩
end Go.Proofs.YtibpkhmiahamcaaGreat
