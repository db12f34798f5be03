
/-
  impl: PlanRead, where there are fewer than five parts, and where there are five.
-/
import Derived.Test.YtfjblenkcfdbiaaDoorRead1
import Derived.Laws.CopyOwn
namespace Go.Proofs.YtfjblenkcfdbiaaDoor
open Go.RowKit
set_option linter.unusedSimpArgs false
set_option maxRecDepth 20000

/-- A change as a value. -/
def chgV (c : Chg) : Value := .agg #[.string c.f, .int .i64 c.what, .int .i64 c.num, .string c.v]
def noChg : Chg := ⟨⟨#[]⟩, 0, 0, ⟨#[]⟩⟩
/-- What reading answers. -/
def readV (b : Bool) (c : Chg) : Value := .tuple #[bif b then chgV c else chgV noChg, .bool b]
/-- The shelf's greatest length lies in w. -/
def MaxIn (w : World) : Prop := ∃ m : Int, w.cell? ⟨1, 0, none⟩ = some (.int .i64 m)
theorem MaxIn.keep {w w' : World} (h : MaxIn w) (hb : Below w.heap.size w w') : MaxIn w' := by
  obtain ⟨m, h⟩ := h
  exact ⟨m, cell_keep hb (Nat.le_refl _) h⟩

theorem chg_one (f v : ByteArray) (a n : Int) : (#[.string f, .int .i64 a, .int .i64 n, .string v] : Array Value).all (·.oneCell') = true := by simp [Value.oneCell']

theorem splitN_any (s : ByteArray) (w : World) (hs : s.size ≤ 1048576) (hm : MaxIn w) :
    Calls Tryd.prog 24 #[.string s, .string ⟨#[32]⟩, .int .i64 5] w fun e w' =>
      e = .returned (.slice (some ⟨w.heap.size, 0, none⟩) (Lib.splitB spS 0 (min 5 (s.size + 1) - 1) s).length (min 5 (s.size + 1))) ∧ w' = w.alloc (.cells (Lib.cellsOf (Lib.splitB spS 0 (min 5 (s.size + 1) - 1) s) (min 5 (s.size + 1))) 9) := by
  obtain ⟨m, hm⟩ := hm
  exact Tryd.strings_SplitN s spS 5 m w (by omega) hm (by decide) (by decide) (by decide)

set_option maxHeartbeats 800000 in
theorem planRead_short (s : ByteArray) (w : World) (hs : s.size ≤ 1048576) (hm : MaxIn w) (h5 : (cutA [] (bytes s)).length < 5) :
    Calls Tryd.prog 10 #[.string s] w fun e w' => e = .returned (readV false noChg) ∧ Below w.heap.size w w' := by
  have hlen : (Lib.splitB spS 0 (min 5 (s.size + 1) - 1) s).length < 5 := Nat.lt_of_le_of_lt (split_le _ s) h5
  have HM : Hid (MaxIn w) := hm
  clear hm h5
  go_enter Tryd.func10, Tryd.ntmps10
  go_wp2_with fail
  refine (splitN_any s _ hs (HM.out.keep ((Below.refl _ _).alloc (Nat.le_refl _) _))).mono ?_
  rintro e w1 ⟨rfl, hw1⟩
  have hb1 : Below w.heap.size w w1 := by rw [hw1]; exact ((Below.refl _ _).alloc (Nat.le_refl _) _).alloc (by simp) _
  generalize (Lib.splitB spS 0 (min 5 (s.size + 1) - 1) s).length = n at hlen
  have h1 : (((n : Nat) : Int) == 5) = false := by simp; omega
  go_wp2
  refine bodyPost_ret (v := readV false noChg) (by simp [results, Tryd.results10, go_sem, readV, chgV, noChg]) rfl ⟨rfl, ((Below.refl _ _).alloc (Nat.le_refl _) _).alloc (by simp) _⟩

theorem cells_five (a b c d e : ByteArray) : Lib.cellsOf [a, b, c, d, e] 5 = #[.string a, .string b, .string c, .string d, .string e] := rfl
theorem okR_set {a0 a1 a2 a3 r : List UInt8} (h : ¬ a0 = setL) : okR a0 a1 a2 a3 r = false := by simp [okR, h]

set_option maxHeartbeats 1600000 in
theorem planRead_five (s : ByteArray) (w : World) (hs : s.size ≤ 1048576) (hm : MaxIn w) (hsaid : SaidIn w) {a0 a1 a2 a3 r : List UInt8} (h5 : bytes s = a0 ++ 32 :: (a1 ++ 32 :: (a2 ++ 32 :: (a3 ++ 32 :: r)))) (h0 : NoSp a0) (h1 : NoSp a1) (h2 : NoSp a2) (h3 : NoSp a3) :
    Calls Tryd.prog 10 #[.string s] w fun e w' => e = .returned (readV (okR a0 a1 a2 a3 r) ⟨mkS a1, whatI (mkS a2), numR (mkS a3), mkS r⟩) ∧ Below w.heap.size w w' := by
  have hL := split_five s h5 h0 h1 h2 h3
  have hz := congrArg List.length h5
  rw [bytes_length] at hz
  simp at hz
  have z0 : a0.length ≤ 1048576 := by omega
  have z1 : (mkS a1).size ≤ 1048576 := by rw [mkS_size]; omega
  have z2 : (mkS a2).size ≤ 1048576 := by rw [mkS_size]; omega
  have z3 : (mkS a3).size ≤ maxLen := by rw [mkS_size]; unfold maxLen; omega
  have z4 : (mkS r).size ≤ 1048576 := by rw [mkS_size]; omega
  have z1m : (mkS a1).size ≤ maxLen := by unfold maxLen; omega
  have hmin : min 5 (s.size + 1) = 5 := by omega
  have HM : Hid (MaxIn w) := hm
  have HS : Hid (SaidIn w) := hsaid
  have HR : Hid (okR a0 a1 a2 a3 r = (decide (a0 = setL) && (inB (whatI (mkS a2)) 1 5 && (nameB (mkS a1) && (inB (numR (mkS a3)) 1 1000000 && valB (mkS r)))))) := rfl
  clear hm hsaid h5 h0 h1 h2 h3 hz
  have HW0 : Hid (a0 = setL ↔ mkS a0 = mkS setL) := ⟨fun e => congrArg mkS e, fun e => by simpa [bytes_mkS] using congrArg bytes e⟩
  generalize mkS a0 = s0 at *
  generalize mkS a1 = s1 at *
  generalize mkS a2 = s2 at *
  generalize mkS a3 = s3 at *
  generalize mkS r = s4 at *
  have hSp := splitN_any s
  rw [hL, hmin] at hSp
  have HSP : Hid (∀ (w : World), s.size ≤ 1048576 → MaxIn w → Calls Tryd.prog 24 #[.string s, .string ⟨#[32]⟩, .int .i64 5] w fun e w' => e = .returned (.slice (some ⟨w.heap.size, 0, none⟩) 5 5) ∧ w' = w.alloc (.cells #[.string s0, .string s1, .string s2, .string s3, .string s4] 9)) := hSp
  clear hSp hL hmin
  go_enter Tryd.func10, Tryd.ntmps10
  go_wp2_with fail
  refine (HSP.out _ hs (HM.out.keep ((Below.refl _ _).alloc (Nat.le_refl _) _))).mono ?_
  rintro e w1 ⟨rfl, rfl⟩
  by_cases hset : a0 = setL
  · have e0 : s0 = ⟨#[115, 101, 116]⟩ := HW0.out.1 hset
    have HE : Hid (decide (a0 = setL) = true) := decide_eq_true hset
    subst e0
    clear hset
    go_wp2_with fail
    refine (whatOf_any s2 _ (HS.out.keep (((Below.refl _ _).alloc (Nat.le_refl _) _).alloc (by simp) _))).mono ?_
    rintro e w1 ⟨rfl, hb1⟩
    have p0 : w1.cell? ⟨w.heap.size, 0, none⟩ = some (.string ⟨#[]⟩) := cell_keep hb1 (Nat.le_refl _) (by simp [go_sem])
    have p1 : w1.cell? ⟨w.heap.size, 1, none⟩ = some (.int .i64 0) := cell_keep hb1 (Nat.le_refl _) (by simp [go_sem])
    have p2 : w1.cell? ⟨w.heap.size, 2, none⟩ = some (.int .i64 0) := cell_keep hb1 (Nat.le_refl _) (by simp [go_sem])
    have p3 : w1.cell? ⟨w.heap.size, 3, none⟩ = some (.string ⟨#[]⟩) := cell_keep hb1 (Nat.le_refl _) (by simp [go_sem])
    have hrow : w1.heap[w.heap.size]? = some (.cells #[.string ⟨#[]⟩, .int .i64 0, .int .i64 0, .string ⟨#[]⟩] 26) := by
      rw [hb1.block _ (by simp; omega), Below.heap_alloc _ _ _ (by simp)]
      show (w.heap.push _)[w.heap.size]? = _
      simp
    have c1 : w1.cell? ⟨w.heap.size + 1, 1, none⟩ = some (.string s1) := cell_keep hb1 (Nat.le_refl _) (by simp [go_sem])
    have c3 : w1.cell? ⟨w.heap.size + 1, 3, none⟩ = some (.string s3) := cell_keep hb1 (Nat.le_refl _) (by simp [go_sem])
    have c4 : w1.cell? ⟨w.heap.size + 1, 4, none⟩ = some (.string s4) := cell_keep hb1 (Nat.le_refl _) (by simp [go_sem])
    have HB1 : Hid (Below w.heap.size w w1) := below_step (((Below.refl _ _).alloc (Nat.le_refl _) _).alloc (by simp) _) hb1
    clear hb1
    go_wp2_with fail
    refine (readDecimal_any s3 _ z3).mono ?_
    rintro e w2 ⟨rfl, hb2⟩
    have hrow2 : w2.heap[w.heap.size]? = some (.cells #[.string ⟨#[]⟩, .int .i64 0, .int .i64 0, .string ⟨#[]⟩] 26) := by rw [hb2.block _ (lt_of_cell p0)]; exact hrow
    have d1 := cell_keep hb2 (Nat.le_refl _) c1
    have d4 := cell_keep hb2 (Nat.le_refl _) c4
    have hgl : w.heap.size < w2.heap.size := Nat.lt_of_lt_of_le (lt_of_cell p0) hb2.size
    have HB2 : Hid (Below w.heap.size w w2) := below_step HB1.out hb2
    have HNR : Hid (numR s3 = bif decB s3 then (numTo s3 s3.size : Int) else -1) := rfl
    clear hb2 hrow p0 p1 p2 p3 c1 c3 c4 HB1
    cases hk : inB (whatI s2) 1 5
    · have HK : Hid (inB (whatI s2) 1 5 = false) := hk
      clear hk
      go_wp2_with (refine wpList_store_row rfl 26 _ _ rfl w.heap.size #[.string ⟨#[]⟩, .int .i64 0, .int .i64 0, .string ⟨#[]⟩] rfl rfl 26 _ hrow2 (by kernel_rfl) rfl (chg_one _ _ _ _) ?_)
      have e : okR a0 a1 a2 a3 r = false := by rw [HR.out, HK.out]; simp
      rw [e]
      exact bodyPost_ret (v := readV false noChg) (by simp [results, Tryd.results10, go_sem, readV, chgV, noChg, cell_setRow_same _ _ _ _ _ _ _ hrow2]) rfl ⟨rfl, below_setRow HB2.out (Nat.le_refl _) _⟩
    have HK : Hid (inB (whatI s2) 1 5 = true) := hk
    clear hk
    cases hd : decB s3
    · have HD : Hid (inB (numR s3) 1 1000000 = false) := by show inB (numR s3) 1 1000000 = false; rw [HNR.out, hd]; rfl
      clear hd
      simp only [cond_false]
      go_wp2_with (refine wpList_store_row rfl 26 _ _ rfl w.heap.size #[.string ⟨#[]⟩, .int .i64 0, .int .i64 0, .string ⟨#[]⟩] rfl rfl 26 _ hrow2 (by kernel_rfl) rfl (chg_one _ _ _ _) ?_)
      have e : okR a0 a1 a2 a3 r = false := by rw [HR.out, HD.out]; simp
      rw [e]
      exact bodyPost_ret (v := readV false noChg) (by simp [results, Tryd.results10, go_sem, readV, chgV, noChg, cell_setRow_same _ _ _ _ _ _ _ hrow2]) rfl ⟨rfl, below_setRow HB2.out (Nat.le_refl _) _⟩
    have HD : Hid (numR s3 = (numTo s3 s3.size : Int)) := by show numR s3 = _; rw [HNR.out, hd]; rfl
    clear hd
    simp only [cond_true]
    rw [HD.out] at HR
    generalize ((numTo s3 s3.size : Nat) : Int) = n at HR HD ⊢
    clear HNR
    go_wp2_with fail
    refine (nameOk_any s1 _ z1m).mono ?_
    rintro e w3 ⟨rfl, hb3⟩
    have hrow3 : w3.heap[w.heap.size]? = some (.cells #[.string ⟨#[]⟩, .int .i64 0, .int .i64 0, .string ⟨#[]⟩] 26) := by rw [hb3.block _ hgl]; exact hrow2
    have f1 := cell_keep hb3 (Nat.le_refl _) d1
    have f4 := cell_keep hb3 (Nat.le_refl _) d4
    have hgl3 : w.heap.size < w3.heap.size := Nat.lt_of_lt_of_le hgl hb3.size
    have HB3 : Hid (Below w.heap.size w w3) := below_step HB2.out hb3
    clear hb3 hrow2 d1 d4 HB2 hgl
    cases hn : nameB s1
    · have HN : Hid (nameB s1 = false) := hn
      clear hn
      go_wp2_with (refine wpList_store_row rfl 26 _ _ rfl w.heap.size #[.string ⟨#[]⟩, .int .i64 0, .int .i64 0, .string ⟨#[]⟩] rfl rfl 26 _ hrow3 (by kernel_rfl) rfl (chg_one _ _ _ _) ?_)
      have e : okR a0 a1 a2 a3 r = false := by rw [HR.out, HN.out]; simp
      rw [e]
      exact bodyPost_ret (v := readV false noChg) (by simp [results, Tryd.results10, go_sem, readV, chgV, noChg, cell_setRow_same _ _ _ _ _ _ _ hrow3]) rfl ⟨rfl, below_setRow HB3.out (Nat.le_refl _) _⟩
    have HN : Hid (nameB s1 = true) := hn
    clear hn
    go_wp2_with fail
    refine (numberOk_any _ _).mono ?_
    rintro e w4 ⟨rfl, rfl⟩
    cases hu : inB n 1 1000000
    · have HU : Hid (inB n 1 1000000 = false) := hu
      clear hu
      go_wp2_with (refine wpList_store_row rfl 26 _ _ rfl w.heap.size #[.string ⟨#[]⟩, .int .i64 0, .int .i64 0, .string ⟨#[]⟩] rfl rfl 26 _ hrow3 (by kernel_rfl) rfl (chg_one _ _ _ _) ?_)
      have e : okR a0 a1 a2 a3 r = false := by rw [HR.out, HU.out]; simp
      rw [e]
      exact bodyPost_ret (v := readV false noChg) (by simp [results, Tryd.results10, go_sem, readV, chgV, noChg, cell_setRow_same _ _ _ _ _ _ _ hrow3]) rfl ⟨rfl, below_setRow HB3.out (Nat.le_refl _) _⟩
    have HU : Hid (inB n 1 1000000 = true) := hu
    clear hu
    go_wp2_with fail
    refine (valueHasForm_any _ _).mono ?_
    rintro e w4 ⟨rfl, rfl⟩
    cases hv : valB s4
    · have HV : Hid (valB s4 = false) := hv
      clear hv
      go_wp2_with (refine wpList_store_row rfl 26 _ _ rfl w.heap.size #[.string ⟨#[]⟩, .int .i64 0, .int .i64 0, .string ⟨#[]⟩] rfl rfl 26 _ hrow3 (by kernel_rfl) rfl (chg_one _ _ _ _) ?_)
      have e : okR a0 a1 a2 a3 r = false := by rw [HR.out, HV.out]; simp
      rw [e]
      exact bodyPost_ret (v := readV false noChg) (by simp [results, Tryd.results10, go_sem, readV, chgV, noChg, cell_setRow_same _ _ _ _ _ _ _ hrow3]) rfl ⟨rfl, below_setRow HB3.out (Nat.le_refl _) _⟩
    have HV : Hid (valB s4 = true) := hv
    clear hv
    have e : okR a0 a1 a2 a3 r = true := by rw [HR.out, HE.out, HK.out, HN.out, HU.out, HV.out]; rfl
    have HOK : Hid (okR a0 a1 a2 a3 r = true) := e
    clear e HSP HS HM
    go_wp2
    refine wp_region_noPanic ?_
    refine wp_region_held_drew (S := fun w' => w'.cell? ⟨w.heap.size + 1, 1, none⟩ = some (.string s1) ∧ w'.cell? ⟨w.heap.size + 1, 4, none⟩ = some (.string s4) ∧ ∃ cs : Array Value, w'.heap[w.heap.size]? = some (.cells cs 26) ∧ cs.size = 4) (by kernel_rfl) ?_ (fun hHeld => ?_)
    · exact ⟨by simpa using f1, by simpa using f4, _, hrow3, rfl⟩
    refine wpAnyH_take (i := 0) (v := ?_) rfl (by kernel_rfl) (by kernel_rfl) (by kernel_rfl) (fun _ _ _ h => h) (Or.inl ⟨by rfl, ?_⟩) (by assumption) ?_
    rotate_left
    · intro w hSw; (try dsimp only at hSw); go_simp; try with_reducible rfl
    simp only [Act.put, List.setIfInBounds_toArray, List.set_cons_zero, List.set_cons_succ, List.getElem_toArray, List.getElem_cons_succ, List.getElem_cons_zero]
    refine wpAnyH_take (i := 1) (v := ?_) rfl (by kernel_rfl) (by kernel_rfl) (by kernel_rfl) (fun _ _ _ h => h) (Or.inl ⟨by rfl, ?_⟩) (by assumption) ?_
    rotate_left
    · intro w hSw; (try dsimp only at hSw); go_simp; try with_reducible rfl
    simp only [Act.put, List.setIfInBounds_toArray, List.set_cons_zero, List.set_cons_succ, List.getElem_toArray, List.getElem_cons_succ, List.getElem_cons_zero]
    refine wpAnyH_take (i := 2) (v := ?_) rfl (by kernel_rfl) (by kernel_rfl) (by kernel_rfl) (fun _ _ _ h => h) (Or.inl ⟨by rfl, ?_⟩) (by assumption) ?_
    rotate_left
    · intro w hSw; (try dsimp only at hSw); go_simp; try with_reducible rfl
    simp only [Act.put, List.setIfInBounds_toArray, List.set_cons_zero, List.set_cons_succ, List.getElem_toArray, List.getElem_cons_succ, List.getElem_cons_zero]
    refine wpAnyH_take (i := 4) (v := ?_) rfl (by kernel_rfl) (by kernel_rfl) (by kernel_rfl) (fun _ _ _ h => h) (Or.inl ⟨by rfl, ?_⟩) (by assumption) ?_
    rotate_left
    · intro w hSw; (try dsimp only at hSw); go_simp; try with_reducible rfl
    simp only [Act.put, List.setIfInBounds_toArray, List.set_cons_zero, List.set_cons_succ, List.getElem_toArray, List.getElem_cons_succ, List.getElem_cons_zero]
    refine wpAnyH_take (i := 5) (v := ?_) rfl (by kernel_rfl) (by kernel_rfl) (by kernel_rfl) (fun _ _ _ h => h) (Or.inl ⟨by rfl, ?_⟩) (by assumption) ?_
    rotate_left
    · intro w hSw; (try dsimp only at hSw); go_simp; try with_reducible rfl
    simp only [Act.put, List.setIfInBounds_toArray, List.set_cons_zero, List.set_cons_succ, List.getElem_toArray, List.getElem_cons_succ, List.getElem_cons_zero]
    refine wpAnyH_take (i := 6) (v := ?_) rfl (by kernel_rfl) (by kernel_rfl) (by kernel_rfl) (fun _ _ _ h => h) (Or.inl ⟨by rfl, ?_⟩) (by assumption) ?_
    rotate_left
    · intro w hSw; (try dsimp only at hSw); go_simp; try with_reducible rfl
    simp only [Act.put, List.setIfInBounds_toArray, List.set_cons_zero, List.set_cons_succ, List.getElem_toArray, List.getElem_cons_succ, List.getElem_cons_zero]
    refine wpAnyH_take (i := 7) (v := ?_) rfl (by kernel_rfl) (by kernel_rfl) (by kernel_rfl) (fun _ _ _ h => h) (Or.inl ⟨by rfl, ?_⟩) (by assumption) ?_
    rotate_left
    · intro w hSw; (try dsimp only at hSw); go_simp; try with_reducible rfl
    simp only [Act.put, List.setIfInBounds_toArray, List.set_cons_zero, List.set_cons_succ, List.getElem_toArray, List.getElem_cons_succ, List.getElem_cons_zero]
    refine wpAnyH_take (i := 8) (v := ?_) rfl (by kernel_rfl) (by kernel_rfl) (by kernel_rfl) (fun _ _ _ h => h) (Or.inl ⟨by rfl, ?_⟩) (by assumption) ?_
    rotate_left
    · intro w hSw; (try dsimp only at hSw); go_simp; try with_reducible rfl
    simp only [Act.put, List.setIfInBounds_toArray, List.set_cons_zero, List.set_cons_succ, List.getElem_toArray, List.getElem_cons_succ, List.getElem_cons_zero]
    refine wpAnyH_ready (rs := [3]) (by kernel_rfl) (by simp) ?_
    refine AllReadyH.cons rfl (fun K hK => ?_) AllReadyH.nil
    go_simp
    refine (cloneR_any s1 _ z1).mono ?_
    rintro e w5 ⟨rfl, hb5⟩
    have hb45 : Below w4.heap.size w4 w5 := ⟨hb5.os, hb5.tape, hb5.output, hb5.size, hb5.block⟩
    have hrow5 : w5.heap[w.heap.size]? = some (.cells #[.string ⟨#[]⟩, .int .i64 0, .int .i64 0, .string ⟨#[]⟩] 26) := by rw [hb45.block _ hgl3]; exact hrow3
    have g1 := cell_keep hb45 (Nat.le_refl _) f1
    have g4 := cell_keep hb45 (Nat.le_refl _) f4
    have hgl5 : w.heap.size < w5.heap.size := Nat.lt_of_lt_of_le hgl3 hb45.size
    have HB5 : Hid (Below w.heap.size w w5) := below_step HB3.out hb45
    refine hK.out _ _ ⟨g1, g4, _, hrow5, rfl⟩ (fun hHeld5 => ?_)
    clear hK K hb5 hb45 hrow3 f1 f4 hgl3 HB3 hHeld
    refine wpAnyH_ready (rs := [9]) (by kernel_rfl) (by simp) ?_
    refine AllReadyH.cons rfl (fun K hK => ?_) AllReadyH.nil
    go_simp
    refine (cloneR_any s4 _ z4).mono ?_
    rintro e w6 ⟨rfl, hb6⟩
    have hrow6 : w6.heap[w.heap.size]? = some (.cells #[.string ⟨#[]⟩, .int .i64 0, .int .i64 0, .string ⟨#[]⟩] 26) := by rw [hb6.block _ hgl5]; exact hrow5
    have k1 := cell_keep hb6 (Nat.le_refl _) g1
    have k4 := cell_keep hb6 (Nat.le_refl _) g4
    have HB6 : Hid (Below w.heap.size w w6) := below_step HB5.out hb6
    refine hK.out _ _ ⟨k1, k4, _, hrow6, rfl⟩ (fun hHeld6 => ?_)
    clear hK K hb6 hrow5 g1 g4 HB5 hHeld5
    refine wpAnyH_take (i := 10) (v := ?_) rfl (by kernel_rfl) (by kernel_rfl) (by kernel_rfl) (fun _ _ _ h => h) (Or.inl ⟨by rfl, ?_⟩) (by assumption) ?_
    rotate_left
    · intro w hSw; (try dsimp only at hSw); go_simp; try with_reducible rfl
    simp only [Act.put, List.setIfInBounds_toArray, List.set_cons_zero, List.set_cons_succ, List.getElem_toArray, List.getElem_cons_succ, List.getElem_cons_zero]
    refine wpAnyH_ready (rs := [11]) (by kernel_rfl) (by simp) ?_
    refine AllReadyH.cons rfl (fun K hK => ?_) AllReadyH.nil
    refine wp_store_row 26 _ _ rfl w.heap.size #[.string s1, .int .i64 (whatI s2), .int .i64 n, .string s4] rfl rfl 26 _ hrow6 (by kernel_rfl) rfl (chg_one _ _ _ _) ?_
    have hrow7 := setRow_heap _ _ _ #[.string s1, .int .i64 (whatI s2), .int .i64 n, .string s4] _ _ hrow6
    refine hK.out _ _ ⟨by rw [cell_setRow_other _ _ _ _ (by simp)]; exact k1, by rw [cell_setRow_other _ _ _ _ (by simp)]; exact k4, _, hrow7, rfl⟩ (fun hHeld7 => ?_)
    clear hK K
    refine wpAnyH_take (i := 12) (v := ?_) rfl (by kernel_rfl) (by kernel_rfl) (by kernel_rfl) (fun _ _ _ h => h) (Or.inl ⟨by rfl, ?_⟩) (by assumption) ?_
    rotate_left
    · intro w hSw; (try dsimp only at hSw); go_simp; try with_reducible rfl
    simp only [Act.put, List.setIfInBounds_toArray, List.set_cons_zero, List.set_cons_succ, List.getElem_toArray, List.getElem_cons_succ, List.getElem_cons_zero]
    refine wpAnyH_done (by kernel_rfl) ?_ _
    refine NoPanic.normal ?_
    go_wp2
    rw [HOK.out, HD.out]
    exact bodyPost_ret (v := readV true ⟨s1, whatI s2, n, s4⟩) (by simp [results, Tryd.results10, go_sem, readV, chgV, cell_setRow_same _ _ _ _ _ _ _ hrow6]) rfl ⟨rfl, below_setRow HB6.out (Nat.le_refl _) _⟩
  · have hne : ¬ s0 = mkS setL := fun e => hset (HW0.out.2 e)
    have hneq := strR_ne hne
    have HE : Hid (decide (a0 = setL) = false) := decide_eq_false hset
    have e1 : (mkS setL).toList = [115, 101, 116] := by rw [ByteArray.toList_eq]; rfl
    rw [e1] at hneq
    clear hset hne e1
    go_wp2
    rw [HR.out, HE.out]
    refine bodyPost_ret (v := readV false noChg) (by simp [results, Tryd.results10, go_sem, readV, chgV, noChg]) rfl ⟨rfl, ((Below.refl _ _).alloc (Nat.le_refl _) _).alloc (by simp) _⟩
end Go.Proofs.YtfjblenkcfdbiaaDoor
