/-
  For the proof of take_holds: part 7 (FitsB, Fits1, Fits2, Fits3, Fits4, Book5).
-/
import Derived.Deep.RegionHeld3
import Derived.Test.YtfjblenkcfdbiaaGreatRowTakeJ6
/-
  Plain facts: what fits.
-/
namespace Go.Proofs.YtfjblenkcfdbiaaGreat
open Go.RowKit

theorem str_eq {a b : ByteArray} (h : a = b) : (a.toList == b.toList) = true := by subst h; simp
theorem str_ne {a b : ByteArray} (h : ¬ a = b) : (a.toList == b.toList) = false := by
  rw [ByteArray.toList_eq, ByteArray.toList_eq]
  simp only [beq_eq_false_iff_ne, ne_eq]
  exact fun e => h (bytes_inj e)

/-- One of the list has this name. -/
def memB (l : List Tri) (v : ByteArray) : Bool := !allB l.length fun i => !decide ((at' l i).s = v)
theorem memB_true {l : List Tri} {v : ByteArray} {k : Nat} (hk : k < l.length) (h : (at' l k).s = v) : memB l v = true := by
  unfold memB; rw [allB_false hk (by simp [h])]; rfl
theorem memB_false {l : List Tri} {v : ByteArray} (h : ∀ j, j < l.length → ¬ (at' l j).s = v) : memB l v = false := by
  unfold memB; rw [allB_true fun j hj => by simp [h j hj]]; rfl

/-- The place of the first that does not come ahead of this name; behind the last, if there is none. -/
def plc (l : List Tri) (v : ByteArray) : Nat := l.findIdx fun t => geB t.s v
/-- It has this name. -/
def hasB (l : List Tri) (v : ByteArray) : Bool := decide (plc l v < l.length) && decide ((at' l (plc l v)).s = v)
theorem plc_some {l : List Tri} {v : ByteArray} {k : Nat} (hk : k < l.length) (h : geB (at' l k).s v = true) (hn : ∀ j, j < k → geB (at' l j).s v = false) : plc l v = k := by
  have e : ∀ j (hj : j < l.length), at' l j = l[j] := fun j hj => by simp [at', hj]
  unfold plc
  rw [List.findIdx_eq hk]
  exact ⟨by rw [← e k hk]; exact h, fun j hj => by rw [← e j (by omega)]; exact hn j hj⟩
theorem plc_none {l : List Tri} {v : ByteArray} (h : ∀ j, j < l.length → geB (at' l j).s v = false) : plc l v = l.length := by
  unfold plc
  rw [List.findIdx_eq_length]
  intro t ht
  obtain ⟨j, hj, rfl⟩ := List.getElem_of_mem ht
  have := h j hj
  simpa [at', hj] using this
theorem hasB_at {l : List Tri} {v : ByteArray} {k : Nat} (hk : k < l.length) (h : geB (at' l k).s v = true) (hn : ∀ j, j < k → geB (at' l j).s v = false) : hasB l v = decide ((at' l k).s = v) := by
  unfold hasB; rw [plc_some hk h hn]; simp [hk]
theorem hasB_end {l : List Tri} {v : ByteArray} (h : ∀ j, j < l.length → geB (at' l j).s v = false) : hasB l v = false := by
  unfold hasB; rw [plc_none h]; simp
theorem geB_bl (a b : ByteArray) : geB a b = !blS a b := rfl
theorem asc_lt {l : List Tri} (h : ∀ i, i < l.length → ascB l i = true) : ∀ i j, i < j → j < l.length → blS (at' l i).s (at' l j).s = true := by
  have one : ∀ i, i + 1 < l.length → blS (at' l i).s (at' l (i + 1)).s = true := fun i hi => by
    have := h (i + 1) hi
    unfold ascB at this
    rw [geB_bl] at this
    simpa using this
  intro i j hij
  induction j with
  | zero => omega
  | succ j ih =>
    intro hj
    by_cases e : i = j
    · subst e; exact one i hj
    · exact blS_trans (ih (by omega) (by omega)) (one j hj)
/-- In a list that is ascending both say the same. -/
theorem has_mem {l : List Tri} {v : ByteArray} (h : ∀ i, i < l.length → ascB l i = true) : hasB l v = memB l v := by
  by_cases hm : ∃ k, k < l.length ∧ (at' l k).s = v
  · obtain ⟨k, hk, he⟩ := hm
    rw [memB_true hk he, hasB_at hk (by rw [he, geB_bl, blS_irrefl]; rfl) fun j hj => by rw [← he, geB_bl, asc_lt h j k hj hk]; rfl]
    simp [he]
  · rw [memB_false fun j hj he => hm ⟨j, hj, he⟩]
    unfold hasB
    rw [Bool.and_eq_false_iff]
    by_cases hp : plc l v < l.length
    · right; exact decide_eq_false fun he => hm ⟨_, hp, he⟩
    · left; exact decide_eq_false hp
theorem names_asc {l : List Tri} {m : Nat} (h : namesB l m = true) : ∀ i, i < l.length → ascB l i = true := fun i hi => by
  unfold namesB at h
  rw [Bool.and_eq_true] at h
  have := allB_get h.2 i hi
  rw [Bool.and_eq_true] at this
  exact this.2
theorem kinds_asc {l : List Tri} (h : kindsB l = true) : ∀ i, i < l.length → ascB l i = true := by
  unfold kindsB at h; rw [Bool.and_eq_true] at h; exact names_asc h.1
theorem points_asc {l : List Tri} (h : pointsB l = true) : ∀ i, i < l.length → ascB l i = true := by
  unfold pointsB at h; rw [Bool.and_eq_true] at h; exact names_asc h.1

/-- The word at a place. -/
def wat (ws : List ByteArray) (i : Nat) : ByteArray := ws.getD i ⟨#[]⟩
theorem wat_get {ws : List ByteArray} {i : Nat} (h : i < ws.length) : ws[i]? = some (wat ws i) := by simp [wat, h]
def numV (s : ByteArray) : Nat := numTo s s.size
def timeB (ws : List ByteArray) : Bool := decide (ws.length = 2) && (decB (wat ws 0) && (decB (wat ws 1) && (decide (numV (wat ws 0) ≤ numV (wat ws 1)) && decide (numV (wat ws 1) ≤ 10000))))
def levelB (s : ByteArray) : Bool := decB s && inB (numV s) 1 6
def stepB (ps : List Tri) (ws : List ByteArray) (i : Nat) : Bool := hasB ps (wat ws i) && !(decide (0 < i) && decide (wat ws (i - 1) = wat ws i))
def routeB (ps : List Tri) (ws : List ByteArray) : Bool := inB ws.length 2 8 && allB ws.length (stepB ps ws)
def openS : ByteArray := ⟨#[111, 112, 101, 110]⟩
def closedS : ByteArray := ⟨#[99, 108, 111, 115, 101, 100]⟩
def stateB (s : ByteArray) : Bool := decide (s = openS) || decide (s = closedS)
/-- What fits, in a base that is ok. -/
def valB2 (ks ps : List Tri) (what : Int) (s : ByteArray) : Bool :=
  if what = 1 then hasB ks s else if what = 2 then timeB (cutW s) else if what = 3 then levelB s else if what = 4 then routeB ps (cutW s) else if what = 5 then stateB s else false
def baseB (ks ps : List Tri) : Bool := kindsB ks && pointsB ps
def fitB (ks ps : List Tri) (c : Chg) : Bool := nameB c.f && (inB c.num 1 1000000 && valB2 ks ps c.what c.v)

theorem cutA_sizes : ∀ (r cur : List UInt8) (x : List UInt8), x ∈ cutA cur r → x.length ≤ cur.length + r.length
  | [], cur, x, h => by simp [cutA] at h; subst h; simp
  | c :: r, cur, x, h => by
    rw [cutA] at h
    split at h
    · rcases List.mem_cons.1 h with rfl | h
      · simp
      · have := cutA_sizes r [] x h; simp at this ⊢; omega
    · have := cutA_sizes r (cur ++ [c]) x h; simp at this ⊢; omega
theorem cutW_size (s : ByteArray) : ∀ x ∈ cutW s, x.size ≤ s.size := fun x hx => by
  unfold cutW at hx
  obtain ⟨l, hl, rfl⟩ := List.mem_map.1 hx
  have := cutA_sizes _ _ _ hl
  rw [bytes_length, List.length_nil, Nat.zero_add] at this
  exact this
theorem wat_size {s : ByteArray} {i : Nat} (h : i < (cutW s).length) : (wat (cutW s) i).size ≤ s.size := cutW_size s _ (List.mem_of_getElem? (wat_get h))
end Go.Proofs.YtfjblenkcfdbiaaGreat

/-
  impl: the rules of what fits.
-/
namespace Go.Proofs.YtfjblenkcfdbiaaGreat
open Go.RowKit

set_option maxHeartbeats 1600000 in
theorem placeKind_any (v : Value) (l : List Tri) (s : ByteArray) (w : World) (hv : TrisAt w v l) :
    Calls Tryz.prog 165 #[v, .string s, .func (.func 116) #[] #[]] w fun e w' => e = .returned (.tuple #[.int .i64 (plc l s : Nat), .bool (hasB l s)]) ∧ Below w.heap.size w w' := by
  obtain ⟨a, cap, rfl, hlc, hcm, hc⟩ := hv
  unfold maxLen at hcm
  have HC : Hid (∀ i t, l[i]? = some t → ∃ b off, a = some ⟨b, off, none⟩ ∧ TriAt w b (off + i * 3) t) := hc
  clear hc
  go_enter Tryz.func165, Tryz.ntmps165
  go_wp2
  go_loopw [7, 8, 12] (fun _ _ i wr => ∃ k : Nat, k ≤ l.length ∧ i = .int .i64 k ∧ Below w.heap.size w wr ∧ Hid (∀ j, j < k → geB (at' l j).s s = false)) (fun _ _ i _ => l.length - (intOf i).toNat)
  case atStart => exact ⟨0, Nat.zero_le _, rfl, Below.refl _ _, fun j hj => absurd hj (Nat.not_lt_zero _)⟩
  case round =>
    obtain ⟨k, hk, rfl, hb, HA⟩ := hrel
    by_cases hlt : k < l.length
    · obtain ⟨b, off, rfl, hc⟩ := HC.out k _ (at_get hlt)
      obtain ⟨d0, d1, d2⟩ := hc.keep hb (Nat.le_refl _)
      have hk0 : (0 : Int) ≤ (k : Int) := by omega
      have hk1 : (k : Int) < (l.length : Int) := by omega
      go_wp2_with fail
      refine (kindName_any (at' l k) _).mono ?_
      rintro e w1 ⟨rfl, hb1⟩
      have tn : TriAt w1 wr.heap.size 0 (at' l k) := TriAt.keep (w := wr.alloc (.cells #[.string (at' l k).s, .int .i64 (at' l k).x, .int .i64 (at' l k).y] 116)) ⟨by simp, by simp, by simp⟩ hb1 (Nat.le_refl _)
      have HBW : Hid (Below w.heap.size w w1) := below_step (hb.alloc hb.size _) hb1
      obtain ⟨n0, n1, n2⟩ := tn
      clear hb1 d0 d1 d2 hc
      cases hg : geB (at' l k).s s
      · have hg' : Op.bytesLess (at' l k).s.toList s.toList = true := by unfold geB at hg; simpa using hg
        have HG : Hid (geB (at' l k).s s = false) := hg
        clear hg
        go_wp2
        exact ⟨⟨k + 1, by omega, by go_num, HBW.out, fun j hj => if e : j = k then by rw [e]; exact HG.out else HA.out j (by omega)⟩, by simp [intOf]; omega⟩
      · have hg' : Op.bytesLess (at' l k).s.toList s.toList = false := by unfold geB at hg; simpa using hg
        have HG : Hid (geB (at' l k).s s = true) := hg
        have HP : Hid (plc l s = k) := plc_some hlt hg HA.out
        have HH : Hid (hasB l s = decide ((at' l k).s = s)) := hasB_at hlt hg HA.out
        clear hg
        have hq : ((at' l k).s.toList == s.toList) = decide ((at' l k).s = s) := by
          by_cases hx : (at' l k).s = s
          · rw [str_eq hx]; simp [hx]
          · rw [str_ne hx]; simp [hx]
        go_wp2_with fail
        refine (kindName_any (at' l k) _).mono ?_
        rintro e w2 ⟨rfl, hb2⟩
        go_wp2
        go_ret2
        exact ⟨by rw [HP.out, HH.out]; rfl, below_step HBW.out hb2⟩
    · go_wp2
      go_ret2
      exact ⟨by rw [plc_none fun j hj => HA.out j (by omega), hasB_end fun j hj => HA.out j (by omega)]; rfl, hb⟩
set_option maxHeartbeats 1600000 in
theorem placePoint_any (v : Value) (l : List Tri) (s : ByteArray) (w : World) (hv : TrisAt w v l) :
    Calls Tryz.prog 173 #[v, .string s, .func (.func 119) #[] #[]] w fun e w' => e = .returned (.tuple #[.int .i64 (plc l s : Nat), .bool (hasB l s)]) ∧ Below w.heap.size w w' := by
  obtain ⟨a, cap, rfl, hlc, hcm, hc⟩ := hv
  unfold maxLen at hcm
  have HC : Hid (∀ i t, l[i]? = some t → ∃ b off, a = some ⟨b, off, none⟩ ∧ TriAt w b (off + i * 3) t) := hc
  clear hc
  go_enter Tryz.func173, Tryz.ntmps173
  go_wp2
  go_loopw [7, 8, 12] (fun _ _ i wr => ∃ k : Nat, k ≤ l.length ∧ i = .int .i64 k ∧ Below w.heap.size w wr ∧ Hid (∀ j, j < k → geB (at' l j).s s = false)) (fun _ _ i _ => l.length - (intOf i).toNat)
  case atStart => exact ⟨0, Nat.zero_le _, rfl, Below.refl _ _, fun j hj => absurd hj (Nat.not_lt_zero _)⟩
  case round =>
    obtain ⟨k, hk, rfl, hb, HA⟩ := hrel
    by_cases hlt : k < l.length
    · obtain ⟨b, off, rfl, hc⟩ := HC.out k _ (at_get hlt)
      obtain ⟨d0, d1, d2⟩ := hc.keep hb (Nat.le_refl _)
      have hk0 : (0 : Int) ≤ (k : Int) := by omega
      have hk1 : (k : Int) < (l.length : Int) := by omega
      go_wp2_with fail
      refine (pointName_any (at' l k) _).mono ?_
      rintro e w1 ⟨rfl, hb1⟩
      have tn : TriAt w1 wr.heap.size 0 (at' l k) := TriAt.keep (w := wr.alloc (.cells #[.string (at' l k).s, .int .i64 (at' l k).x, .int .i64 (at' l k).y] 118)) ⟨by simp, by simp, by simp⟩ hb1 (Nat.le_refl _)
      have HBW : Hid (Below w.heap.size w w1) := below_step (hb.alloc hb.size _) hb1
      obtain ⟨n0, n1, n2⟩ := tn
      clear hb1 d0 d1 d2 hc
      cases hg : geB (at' l k).s s
      · have hg' : Op.bytesLess (at' l k).s.toList s.toList = true := by unfold geB at hg; simpa using hg
        have HG : Hid (geB (at' l k).s s = false) := hg
        clear hg
        go_wp2
        exact ⟨⟨k + 1, by omega, by go_num, HBW.out, fun j hj => if e : j = k then by rw [e]; exact HG.out else HA.out j (by omega)⟩, by simp [intOf]; omega⟩
      · have hg' : Op.bytesLess (at' l k).s.toList s.toList = false := by unfold geB at hg; simpa using hg
        have HG : Hid (geB (at' l k).s s = true) := hg
        have HP : Hid (plc l s = k) := plc_some hlt hg HA.out
        have HH : Hid (hasB l s = decide ((at' l k).s = s)) := hasB_at hlt hg HA.out
        clear hg
        have hq : ((at' l k).s.toList == s.toList) = decide ((at' l k).s = s) := by
          by_cases hx : (at' l k).s = s
          · rw [str_eq hx]; simp [hx]
          · rw [str_ne hx]; simp [hx]
        go_wp2_with fail
        refine (pointName_any (at' l k) _).mono ?_
        rintro e w2 ⟨rfl, hb2⟩
        go_wp2
        go_ret2
        exact ⟨by rw [HP.out, HH.out]; rfl, below_step HBW.out hb2⟩
    · go_wp2
      go_ret2
      exact ⟨by rw [plc_none fun j hj => HA.out j (by omega), hasB_end fun j hj => HA.out j (by omega)]; rfl, hb⟩

set_option maxHeartbeats 800000 in
theorem kindRule_any (vk vp : Value) (l : List Tri) (s : ByteArray) (w : World) (hv : TrisAt w vk l) :
    Calls Tryz.prog 164 #[.agg #[], .agg #[vk, vp], .string s] w fun e w' => e = .returned (.bool (hasB l s)) ∧ Below w.heap.size w w' := by
  have HV : Hid (TrisAt w vk l) := hv
  obtain ⟨a, cap, rfl, -, -, -⟩ := hv
  go_enter Tryz.func164, Tryz.ntmps164
  go_wp2_with fail
  refine (placeKind_any _ l s _ (HV.out.keep (((Below.refl _ _).alloc (Nat.le_refl _) _).alloc (by simp) _))).mono ?_
  rintro e w1 ⟨rfl, hb1⟩
  go_wp2
  go_ret
  exact ⟨rfl, below_step (((Below.refl _ _).alloc (Nat.le_refl _) _).alloc (by simp) _) hb1⟩

theorem open_list : openS.toList = [111, 112, 101, 110] := by rw [ByteArray.toList_eq]; rfl
theorem closed_list : closedS.toList = [99, 108, 111, 115, 101, 100] := by rw [ByteArray.toList_eq]; rfl

set_option maxHeartbeats 800000 in
theorem stateRule_any (vk vp : Value) (s : ByteArray) (w : World) :
    Calls Tryz.prog 174 #[.agg #[], .agg #[vk, vp], .string s] w fun e w' => e = .returned (.bool (stateB s)) ∧ Below w.heap.size w w' := by
  by_cases h1 : s = openS
  · have e : stateB s = true := by simp [stateB, h1]
    have g1 : (s.toList == [111, 112, 101, 110]) = true := open_list ▸ str_eq h1
    rw [e]; clear e h1
    go_enter Tryz.func174, Tryz.ntmps174
    go_wp2
    go_ret
    exact ⟨rfl, ((Below.refl _ _).alloc (Nat.le_refl _) _).alloc (by simp) _⟩
  · have g1 : (s.toList == [111, 112, 101, 110]) = false := open_list ▸ str_ne h1
    by_cases h2 : s = closedS
    · have e : stateB s = true := by simp [stateB, h2]
      have g2 : (s.toList == [99, 108, 111, 115, 101, 100]) = true := closed_list ▸ str_eq h2
      rw [e]; clear e h1 h2
      go_enter Tryz.func174, Tryz.ntmps174
      go_wp2
      go_ret
      exact ⟨rfl, ((Below.refl _ _).alloc (Nat.le_refl _) _).alloc (by simp) _⟩
    · have e : stateB s = false := by simp [stateB, h1, h2]
      have g2 : (s.toList == [99, 108, 111, 115, 101, 100]) = false := closed_list ▸ str_ne h2
      rw [e]; clear e h1 h2
      go_enter Tryz.func174, Tryz.ntmps174
      go_wp2
      go_ret
      exact ⟨rfl, ((Below.refl _ _).alloc (Nat.le_refl _) _).alloc (by simp) _⟩

set_option maxHeartbeats 800000 in
theorem levelRule_any (vk vp : Value) (s : ByteArray) (w : World) (hs : s.size ≤ 1048576) :
    Calls Tryz.prog 170 #[.agg #[], .agg #[vk, vp], .string s] w fun e w' => e = .returned (.bool (levelB s)) ∧ Below w.heap.size w w' := by
  have HRD : Hid (∀ wx : World, Calls Tryz.prog 169 #[.string s] wx fun e w' => e = .returned (.tuple #[.int .i64 (bif decB s then (numV s : Int) else 0), .bool (decB s)]) ∧ Below wx.heap.size wx w') := fun wx => readDecimal_any s wx (by unfold maxLen; omega)
  cases hd : decB s
  · have e : levelB s = false := by simp [levelB, hd]
    have HD : Hid (decB s = false) := hd
    rw [e]; clear e hd
    go_enter Tryz.func170, Tryz.ntmps170
    go_wp2_with fail
    refine (HRD.out _).mono ?_
    rw [HD.out]
    rintro e w1 ⟨rfl, hb1⟩
    go_wp2
    go_ret
    exact ⟨rfl, below_step (((Below.refl _ _).alloc (Nat.le_refl _) _).alloc (by simp) _) hb1⟩
  · have e : levelB s = inB (numV s) 1 6 := by simp [levelB, hd]
    have HD : Hid (decB s = true) := hd
    rw [e]; clear e hd
    generalize numV s = n at HRD
    by_cases h1 : 1 ≤ (n : Int)
    · by_cases h2 : (n : Int) ≤ 6
      · have e : inB n 1 6 = true := by simp [inB, h1, h2]
        rw [e]; clear e
        go_enter Tryz.func170, Tryz.ntmps170
        go_wp2_with fail
        refine (HRD.out _).mono ?_
        rw [HD.out, cond_true]
        rintro e w1 ⟨rfl, hb1⟩
        go_wp2
        go_ret
        exact ⟨rfl, below_step (((Below.refl _ _).alloc (Nat.le_refl _) _).alloc (by simp) _) hb1⟩
      · have e : inB n 1 6 = false := by simp [inB]; omega
        rw [e]; clear e
        go_enter Tryz.func170, Tryz.ntmps170
        go_wp2_with fail
        refine (HRD.out _).mono ?_
        rw [HD.out, cond_true]
        rintro e w1 ⟨rfl, hb1⟩
        go_wp2
        go_ret
        exact ⟨ret_bool (decide_eq_false (by omega)), below_step (((Below.refl _ _).alloc (Nat.le_refl _) _).alloc (by simp) _) hb1⟩
    · have e : inB n 1 6 = false := by simp [inB]; omega
      rw [e]; clear e
      go_enter Tryz.func170, Tryz.ntmps170
      go_wp2_with fail
      refine (HRD.out _).mono ?_
      rw [HD.out, cond_true]
      rintro e w1 ⟨rfl, hb1⟩
      go_wp2
      go_ret
      exact ⟨rfl, below_step (((Below.refl _ _).alloc (Nat.le_refl _) _).alloc (by simp) _) hb1⟩
end Go.Proofs.YtfjblenkcfdbiaaGreat

/-
  impl: the rules of times and routes.
-/
namespace Go.Proofs.YtfjblenkcfdbiaaGreat
open Go.RowKit
set_option linter.unusedSimpArgs false
set_option linter.unusedVariables false
attribute [local go_sem] Later.cell Later.frozen

theorem StrsAt.cell {w : World} {g off n cap : Nat} {ws : List ByteArray} (h : StrsAt w (.slice (some ⟨g, off, none⟩) n cap) ws) (i : Nat) (hi : i < ws.length) : w.cell? ⟨g, off + i, none⟩ = some (.string (wat ws i)) := by
  obtain ⟨g', off', cap', e, _, _, hc⟩ := h
  cases e
  exact hc i _ (wat_get hi)

def rdN (x : ByteArray) : Int := bif decB x then (numV x : Int) else 0
def tmF (ws : List ByteArray) : Int := bif decide (ws.length = 2) then rdN (wat ws 0) else 0
def tmY (ws : List ByteArray) : Int := bif decide (ws.length = 2) then rdN (wat ws 1) else 0
def tmO (ws : List ByteArray) : Bool := decide (ws.length = 2) && (decB (wat ws 0) && decB (wat ws 1))
theorem timeB_tm (ws : List ByteArray) : timeB ws = (tmO ws && (decide (tmF ws ≤ tmY ws) && decide (tmY ws ≤ 10000))) := by
  unfold timeB tmO tmF tmY rdN
  by_cases h : ws.length = 2
  · have e1 : decide (((numV (wat ws 0) : Nat) : Int) ≤ ((numV (wat ws 1) : Nat) : Int)) = decide (numV (wat ws 0) ≤ numV (wat ws 1)) := by rw [Bool.eq_iff_iff]; simp
    have e2 : decide (((numV (wat ws 1) : Nat) : Int) ≤ 10000) = decide (numV (wat ws 1) ≤ 10000) := by rw [Bool.eq_iff_iff]; simp; omega
    simp only [h, decide_true, Bool.true_and, cond_true]
    cases decB (wat ws 0) <;> cases decB (wat ws 1) <;> simp only [cond_true, cond_false, e1, e2, Bool.true_and, Bool.false_and, Bool.and_false]
  · simp [h]

set_option maxHeartbeats 1600000 in
theorem readTimes_any (s : ByteArray) (w : World) (hs : s.size ≤ 1048576) :
    Calls Tryz.prog 167 #[.string s] w fun e w' => e = .returned (.tuple #[.int .i64 (tmF (cutW s)), .int .i64 (tmY (cutW s)), .bool (tmO (cutW s))]) ∧ Below w.heap.size w w' := by
  have HRD : Hid (∀ (x : ByteArray) (wx : World), x.size ≤ s.size → Calls Tryz.prog 169 #[.string x] wx fun e w' => e = .returned (.tuple #[.int .i64 (rdN x), .bool (decB x)]) ∧ Below wx.heap.size wx w') := fun x wx hx => readDecimal_any x wx (by unfold maxLen; omega)
  have HSZ : Hid (∀ i, i < (cutW s).length → (wat (cutW s) i).size ≤ s.size) := fun i hi => wat_size hi
  have HWD : Hid (∀ wx : World, Calls Tryz.prog 168 #[.string s] wx fun e w' => ∃ v, e = .returned v ∧ StrsAt w' v (cutW s) ∧ Below wx.heap.size wx w') := fun wx => wordsOf_any s wx hs
  generalize cutW s = ws at *
  go_enter Tryz.func167, Tryz.ntmps167
  go_wp2_with fail
  refine (HWD.out _).mono ?_
  rintro e w1 ⟨v, rfl, hst, hb1⟩
  have HST : Hid (StrsAt w1 v ws) := hst
  obtain ⟨g, off, cap, rfl, hlc, hcm, -⟩ := hst
  have HB1 : Hid (Below w.heap.size w w1) := hb1
  clear hb1
  by_cases h2 : ws.length = 2
  · have h2' : (((ws.length : Nat) : Int) == 2) = true := by simp [h2]
    have h2i : (1 : Int) < ((ws.length : Nat) : Int) := by omega
    have h2j : 1 < ws.length := by omega
    have h2k : 0 < ws.length := by omega
    have c0 : w1.cell? ⟨g, off + 0, none⟩ = some (.string (wat ws 0)) := HST.out.cell 0 (by omega)
    have c1 : w1.cell? ⟨g, off + 1, none⟩ = some (.string (wat ws 1)) := HST.out.cell 1 (by omega)
    simp only [Nat.add_zero] at c0
    have HF : Hid (tmF ws = rdN (wat ws 0)) := by show tmF ws = _; unfold tmF; simp [h2]
    have HY : Hid (tmY ws = rdN (wat ws 1)) := by show tmY ws = _; unfold tmY; simp [h2]
    have HO : Hid (tmO ws = (decB (wat ws 0) && decB (wat ws 1))) := by show tmO ws = _; unfold tmO; simp [h2]
    have Z0 : Hid ((wat ws 0).size ≤ s.size) := HSZ.out 0 (by omega)
    have Z1 : Hid ((wat ws 1).size ≤ s.size) := HSZ.out 1 (by omega)
    clear HST HSZ h2 HWD
    generalize wat ws 0 = x0 at *
    generalize wat ws 1 = x1 at *
    go_wp2_with fail
    refine (HRD.out x0 _ Z0.out).mono ?_
    rintro e w2 ⟨rfl, hb2⟩
    have d1 := cell_keep hb2 (Nat.le_refl _) c1
    go_wp2_with fail
    refine (HRD.out x1 _ Z1.out).mono ?_
    rintro e w3 ⟨rfl, hb3⟩
    have HB : Hid (Below w.heap.size w w3) := below_step (below_step HB1.out hb2) hb3
    clear hb2 hb3 HRD c0 c1 d1
    generalize decB x0 = b0 at *
    generalize decB x1 = b1 at *
    cases b0
    · go_wp2
      exact bodyPost_ret (v := .tuple #[.int .i64 (rdN x0), .int .i64 (rdN x1), .bool false]) (by simp [results, Tryz.results167, go_sem]) rfl ⟨by rw [HF.out, HY.out, HO.out]; rfl, HB.out⟩
    · cases b1
      · go_wp2
        exact bodyPost_ret (v := .tuple #[.int .i64 (rdN x0), .int .i64 (rdN x1), .bool false]) (by simp [results, Tryz.results167, go_sem]) rfl ⟨by rw [HF.out, HY.out, HO.out]; rfl, HB.out⟩
      · go_wp2
        exact bodyPost_ret (v := .tuple #[.int .i64 (rdN x0), .int .i64 (rdN x1), .bool true]) (by simp [results, Tryz.results167, go_sem]) rfl ⟨by rw [HF.out, HY.out, HO.out]; rfl, HB.out⟩
  · have h2' : (((ws.length : Nat) : Int) == 2) = false := by simp; omega
    have HF : Hid (tmF ws = 0) := by show tmF ws = _; unfold tmF; simp [h2]
    have HY : Hid (tmY ws = 0) := by show tmY ws = _; unfold tmY; simp [h2]
    have HO : Hid (tmO ws = false) := by show tmO ws = _; unfold tmO; simp [h2]
    go_wp2
    exact bodyPost_ret (v := .tuple #[.int .i64 (0), .int .i64 (0), .bool false]) (by simp [results, Tryz.results167, go_sem]) rfl ⟨by rw [HF.out, HY.out, HO.out], HB1.out⟩

set_option maxHeartbeats 1600000 in
theorem timeRule_any (vk vp : Value) (s : ByteArray) (w : World) (hs : s.size ≤ 1048576) :
    Calls Tryz.prog 166 #[.agg #[], .agg #[vk, vp], .string s] w fun e w' => e = .returned (.bool (timeB (cutW s))) ∧ Below w.heap.size w w' := by
  have HRT := fun wx => readTimes_any s wx hs
  have HE : Hid (timeB (cutW s) = (tmO (cutW s) && (decide (tmF (cutW s) ≤ tmY (cutW s)) && decide (tmY (cutW s) ≤ 10000)))) := timeB_tm _
  have HR : Hid (∀ wx : World, Calls Tryz.prog 167 #[.string s] wx fun e w' => e = .returned (.tuple #[.int .i64 (tmF (cutW s)), .int .i64 (tmY (cutW s)), .bool (tmO (cutW s))]) ∧ Below wx.heap.size wx w') := HRT
  clear HRT
  generalize timeB (cutW s) = r at *
  generalize tmO (cutW s) = o at *
  generalize tmF (cutW s) = n0 at *
  generalize tmY (cutW s) = n1 at *
  go_enter Tryz.func166, Tryz.ntmps166
  go_wp2_with fail
  refine (HR.out _).mono ?_
  rintro e w1 ⟨rfl, hb1⟩
  have HB : Hid (Below w.heap.size w w1) := below_step (((Below.refl _ _).alloc (Nat.le_refl _) _).alloc (by simp) _) hb1
  clear hb1
  cases o
  · go_wp2
    go_ret
    exact ⟨ret_bool (by rw [HE.out]; rfl), HB.out⟩
  · by_cases h3 : n0 ≤ n1
    · by_cases h4 : n1 ≤ 10000
      · go_wp2
        go_ret
        exact ⟨ret_bool (by rw [HE.out]; simp; omega), HB.out⟩
      · go_wp2
        go_ret
        exact ⟨ret_bool (by rw [HE.out]; simp; omega), HB.out⟩
    · go_wp2
      go_ret
      exact ⟨ret_bool (by rw [HE.out]; simp; omega), HB.out⟩

theorem routeB_no {ps : List Tri} {ws : List ByteArray} (h : inB ws.length 2 8 = false) : routeB ps ws = false := by unfold routeB; rw [h]; rfl
theorem routeB_yes {ps : List Tri} {ws : List ByteArray} (h : inB ws.length 2 8 = true) : routeB ps ws = allB ws.length (stepB ps ws) := by unfold routeB; rw [h]; rfl

set_option maxHeartbeats 1600000 in
theorem routeFits_any (vk vp v : Value) (ps : List Tri) (ws : List ByteArray) (w : World) (hp : TrisAt w vp ps) (hst0 : StrsAt w v ws) :
    Calls Tryz.prog 172 #[.agg #[vk, vp], v] w fun e w' => e = .returned (.bool (routeB ps ws)) ∧ Below w.heap.size w w' := by
  have HHP : Hid (∀ (x : ByteArray) (wx : World), Below w.heap.size w wx → Calls Tryz.prog 173 #[vp, .string x, .func (.func 119) #[] #[]] wx fun e w' => e = .returned (.tuple #[.int .i64 (plc ps x : Nat), .bool (hasB ps x)]) ∧ Below wx.heap.size wx w') := fun x wx hx => placePoint_any vp ps x wx (hp.keep hx)
  clear hp
  have HB1 : Hid (Below w.heap.size w (w.alloc (.cells #[vk, vp] 36))) := (Below.refl _ _).alloc (Nat.le_refl _) _
  have hst := hst0.keep HB1.out
  have HST : Hid (StrsAt (w.alloc (.cells #[vk, vp] 36)) v ws) := hst
  clear hst0
  obtain ⟨g, off, cap, rfl, hlc, hcm, -⟩ := hst
  have p0 : (w.alloc (.cells #[vk, vp] 36)).cell? ⟨w.heap.size, 0, none⟩ = some vk := by simp [go_sem]
  have p1 : (w.alloc (.cells #[vk, vp] 36)).cell? ⟨w.heap.size, 1, none⟩ = some vp := by simp [go_sem]
  unfold maxLen at hcm
  go_enter Tryz.func172, Tryz.ntmps172
  by_cases h1 : (ws.length : Int) < 2
  · have HE : Hid (routeB ps ws = false) := routeB_no (by simp [inB]; omega)
    go_wp2
    go_ret
    exact ⟨ret_bool HE.out.symm, HB1.out⟩
  by_cases h2 : (8 : Int) < (ws.length : Int)
  · have HE : Hid (routeB ps ws = false) := routeB_no (by simp [inB]; omega)
    go_wp2
    go_ret
    exact ⟨ret_bool HE.out.symm, HB1.out⟩
  have HE : Hid (routeB ps ws = allB ws.length (stepB ps ws)) := routeB_yes (by simp [inB]; omega)
  have Q0 : Hid ((w.alloc (.cells #[vk, vp] 36)).cell? ⟨w.heap.size, 0, none⟩ = some vk ∧ (w.alloc (.cells #[vk, vp] 36)).cell? ⟨w.heap.size, 1, none⟩ = some vp) := ⟨p0, p1⟩
  clear p0 p1
  go_wp2_with fail
  generalize (w.alloc (.cells #[vk, vp] 36)) = w1 at *
  go_loopw [5, 6, 19] (fun _ _ i wr => ∃ k : Nat, k ≤ ws.length ∧ i = .int .i64 k ∧ Below w1.heap.size w1 wr ∧ Hid (∀ j, j < k → stepB ps ws j = true)) (fun _ _ i _ => ws.length - (intOf i).toNat)
  case atStart => exact ⟨0, Nat.zero_le _, rfl, Below.refl _ _, fun j hj => absurd hj (Nat.not_lt_zero _)⟩
  case round =>
    obtain ⟨k, hk, rfl, hb, HA⟩ := hrel
    by_cases hlt : k < ws.length
    · have c0 : wr.cell? ⟨g, off + k, none⟩ = some (.string (wat ws k)) := (HST.out.keep hb).cell k hlt
      have p0 := cell_keep hb (Nat.le_refl _) Q0.out.1
      have p1 := cell_keep hb (Nat.le_refl _) Q0.out.2
      have hk0 : (0 : Int) ≤ (k : Int) := by omega
      have hk1 : (k : Int) < (ws.length : Int) := by omega
      cases hh : hasB ps (wat ws k)
      · have HH : Hid (hasB ps (wat ws k) = false) := hh
        clear hh
        go_wp2_with fail
        refine (HHP.out (wat ws k) _ (below_step HB1.out hb)).mono ?_
        rw [HH.out]
        rintro e w2 ⟨rfl, hb2⟩
        go_wp2
        go_ret
        exact ⟨ret_bool (by rw [HE.out]; exact (allB_false hlt (by unfold stepB; rw [HH.out]; rfl)).symm), below_step (below_step HB1.out hb) hb2⟩
      · have HH : Hid (hasB ps (wat ws k) = true) := hh
        clear hh
        by_cases hz : 0 < k
        · have c1 : wr.cell? ⟨g, off + (k - 1), none⟩ = some (.string (wat ws (k - 1))) := (HST.out.keep hb).cell (k - 1) (by omega)
          by_cases hx : wat ws (k - 1) = wat ws k
          · have hq : ((wat ws (k - 1)).toList == (wat ws k).toList) = true := str_eq hx
            have HX : Hid (stepB ps ws k = false) := by show stepB ps ws k = false; unfold stepB; simp [hx, hz]
            clear hx
            go_wp2_with fail
            refine (HHP.out (wat ws k) _ (below_step HB1.out hb)).mono ?_
            rw [HH.out]
            rintro e w2 ⟨rfl, hb2⟩
            have c2 := cell_keep hb2 (Nat.le_refl _) c1
            go_wp2
            go_ret
            exact ⟨ret_bool (by rw [HE.out]; exact (allB_false hlt HX.out).symm), below_step (below_step HB1.out hb) hb2⟩
          · have hq : ((wat ws (k - 1)).toList == (wat ws k).toList) = false := str_ne hx
            have HX : Hid (stepB ps ws k = true) := by show stepB ps ws k = true; unfold stepB; rw [HH.out]; simp [hx]
            clear hx
            go_wp2_with fail
            refine (HHP.out (wat ws k) _ (below_step HB1.out hb)).mono ?_
            rw [HH.out]
            rintro e w2 ⟨rfl, hb2⟩
            have c2 := cell_keep hb2 (Nat.le_refl _) c1
            go_wp2
            exact ⟨⟨k + 1, by omega, by go_num, below_step hb hb2, fun j hj => if e : j = k then by rw [e]; exact HX.out else HA.out j (by omega)⟩, by simp [intOf]; omega⟩
        · have HX : Hid (stepB ps ws k = true) := by show stepB ps ws k = true; unfold stepB; rw [HH.out]; simp [hz]
          go_wp2_with fail
          refine (HHP.out (wat ws k) _ (below_step HB1.out hb)).mono ?_
          rw [HH.out]
          rintro e w2 ⟨rfl, hb2⟩
          go_wp2
          exact ⟨⟨k + 1, by omega, by go_num, below_step hb hb2, fun j hj => if e : j = k then by rw [e]; exact HX.out else HA.out j (by omega)⟩, by simp [intOf]; omega⟩
    · go_wp2
      go_ret
      exact ⟨ret_bool (by rw [HE.out]; exact (allB_true fun j hj => HA.out j (by omega)).symm), below_step HB1.out hb⟩
set_option maxHeartbeats 1600000 in
theorem routeRule_any (vk vp : Value) (ps : List Tri) (s : ByteArray) (w : World) (hs : s.size ≤ 1048576) (hp : TrisAt w vp ps) :
    Calls Tryz.prog 171 #[.agg #[], .agg #[vk, vp], .string s] w fun e w' => e = .returned (.bool (routeB ps (cutW s))) ∧ Below w.heap.size w w' := by
  have HWD : Hid (∀ wx : World, Calls Tryz.prog 168 #[.string s] wx fun e w' => ∃ v, e = .returned v ∧ StrsAt w' v (cutW s) ∧ Below wx.heap.size wx w') := fun wx => wordsOf_any s wx hs
  generalize cutW s = ws at *
  have HRF : Hid (∀ (v : Value) (wx : World), Below w.heap.size w wx → StrsAt wx v ws → Calls Tryz.prog 172 #[.agg #[vk, vp], v] wx fun e w' => e = .returned (.bool (routeB ps ws)) ∧ Below wx.heap.size wx w') := fun v wx hx hv => routeFits_any vk vp v ps ws wx (hp.keep hx) hv
  clear hp
  have HAL : Hid (Below w.heap.size w ((w.alloc (.cells #[] 165)).alloc (.cells #[vk, vp] 36))) := ((Below.refl _ _).alloc (Nat.le_refl _) _).alloc (by simp) _
  have p0 : ((w.alloc (.cells #[] 165)).alloc (.cells #[vk, vp] 36)).cell? ⟨w.heap.size + 1, 0, none⟩ = some vk := by simp [go_sem]
  have p1 : ((w.alloc (.cells #[] 165)).alloc (.cells #[vk, vp] 36)).cell? ⟨w.heap.size + 1, 1, none⟩ = some vp := by simp [go_sem]
  go_enter Tryz.func171, Tryz.ntmps171
  go_wp2_with fail
  generalize ((w.alloc (.cells #[] 165)).alloc (.cells #[vk, vp] 36)) = w1 at *
  refine wp_region_noPanic ?_
  refine wp_region_held_drew (S := fun w' => w'.cell? ⟨w.heap.size + 1, 0, none⟩ = some vk ∧ w'.cell? ⟨w.heap.size + 1, 1, none⟩ = some vp) (by kernel_rfl) ?_ (fun hHeld => ?_)
  · exact ⟨cell_keep (Below.refl _ _).drew (Nat.le_refl _) p0, cell_keep (Below.refl _ _).drew (Nat.le_refl _) p1⟩
  have HBW : Hid (Below w.heap.size w w1.drew) := below_step HAL.out (Below.refl _ _).drew
  have Q0 : Hid (∀ wx : World, Below w1.heap.size w1 wx → wx.cell? ⟨w.heap.size + 1, 0, none⟩ = some vk ∧ wx.cell? ⟨w.heap.size + 1, 1, none⟩ = some vp) := fun wx hx => ⟨cell_keep hx (Nat.le_refl _) p0, cell_keep hx (Nat.le_refl _) p1⟩
  have HB1 : Hid (Below w1.heap.size w1 w1.drew) := (Below.refl _ _).drew
  clear p0 p1
  refine wpAnyH_take (i := 0) (v := ?_) rfl (by kernel_rfl) (by kernel_rfl) (by kernel_rfl) (fun _ _ _ h => h) (Or.inl ⟨by rfl, ?_⟩) (by assumption) ?_
  rotate_left
  · intro w hSw; (try dsimp only at hSw); go_simp; try with_reducible rfl
  simp only [Act.put, List.setIfInBounds_toArray, List.set_cons_zero, List.set_cons_succ, List.getElem_toArray, List.getElem_cons_succ, List.getElem_cons_zero]
  refine wpAnyH_take (i := 1) (v := ?_) rfl (by kernel_rfl) (by kernel_rfl) (by kernel_rfl) (fun _ _ _ h => h) (Or.inl ⟨by rfl, ?_⟩) (by assumption) ?_
  rotate_left
  · intro w hSw; (try dsimp only at hSw); go_simp; try with_reducible rfl
  simp only [Act.put, List.setIfInBounds_toArray, List.set_cons_zero, List.set_cons_succ, List.getElem_toArray, List.getElem_cons_succ, List.getElem_cons_zero]
  clear hHeld
  refine wpAnyH_ready (rs := [2]) (by kernel_rfl) (by simp) ?_
  refine AllReadyH.cons rfl (fun K hK => ?_) AllReadyH.nil
  go_simp
  refine (HWD.out _).mono ?_
  rintro e w2 ⟨v, rfl, hst, hb2⟩
  have HB2 : Hid (Below w1.heap.size w1 w2) := below_step HB1.out hb2
  have HC2 : Hid (Below w.heap.size w w2) := below_step HBW.out hb2
  have HST : Hid (StrsAt w2 v ws) := hst
  obtain ⟨g, off, cap, rfl, hlc, hcm, -⟩ := hst
  refine hK.out _ _ (Q0.out _ HB2.out) (fun _ => ?_)
  clear hK K hb2 HBW HB1
  refine wpAnyH_ready (rs := [3]) (by kernel_rfl) (by simp) ?_
  refine AllReadyH.cons rfl (fun K hK => ?_) AllReadyH.nil
  go_simp
  refine (HRF.out _ _ HC2.out HST.out).mono ?_
  rintro e w3 ⟨rfl, hb3⟩
  have HB3 : Hid (Below w1.heap.size w1 w3) := below_step HB2.out hb3
  have HC3 : Hid (Below w.heap.size w w3) := below_step HC2.out hb3
  have hHeld := Q0.out _ HB3.out
  refine hK.out _ _ hHeld (fun _ => ?_)
  clear hK K
  refine wpAnyH_take (i := 4) (v := ?_) rfl (by kernel_rfl) (by kernel_rfl) (by kernel_rfl) (fun _ _ _ h => h) (Or.inl ⟨by rfl, ?_⟩) (by assumption) ?_
  rotate_left
  · intro w hSw; (try dsimp only at hSw); go_simp; try with_reducible rfl
  simp only [Act.put, List.setIfInBounds_toArray, List.set_cons_zero, List.set_cons_succ, List.getElem_toArray, List.getElem_cons_succ, List.getElem_cons_zero]
  clear hHeld
  refine wpAnyH_done (by kernel_rfl) ?_ _
  refine NoPanic.normal ?_
  go_wp2
  go_ret
  exact ⟨rfl, HC3.out⟩
end Go.Proofs.YtfjblenkcfdbiaaGreat

/-
  impl: which rule, and what fits.
-/
namespace Go.Proofs.YtfjblenkcfdbiaaGreat
open Go.RowKit
attribute [local go_sem] Later.cell Later.frozen

def ruleV (what : Int) : Value :=
  if what = 1 then .iface 162 (.agg #[]) else if what = 2 then .iface 163 (.agg #[]) else if what = 3 then .iface 164 (.agg #[]) else if what = 4 then .iface 165 (.agg #[]) else if what = 5 then .iface 166 (.agg #[]) else .nilIface

theorem ret_v {a b : Value} (h : a = b) : Ending.returned a = .returned b := by rw [h]

set_option maxHeartbeats 800000 in
theorem ruleOf_any (what : Int) (w : World) :
    Calls Tryz.prog 105 #[.int .i64 what] w fun e w' => e = .returned (ruleV what) ∧ w' = w := by
  have HR : Hid (ruleV what = ruleV what) := rfl
  by_cases h1 : what = 1
  · subst h1
    go_enter Tryz.func105, Tryz.ntmps105
    go_wp2
    go_ret
    exact ⟨rfl, rfl⟩
  by_cases h2 : what = 2
  · subst h2
    go_enter Tryz.func105, Tryz.ntmps105
    go_wp2
    go_ret
    exact ⟨rfl, rfl⟩
  by_cases h3 : what = 3
  · subst h3
    go_enter Tryz.func105, Tryz.ntmps105
    go_wp2
    go_ret
    exact ⟨rfl, rfl⟩
  by_cases h4 : what = 4
  · subst h4
    go_enter Tryz.func105, Tryz.ntmps105
    go_wp2
    go_ret
    exact ⟨rfl, rfl⟩
  by_cases h5 : what = 5
  · subst h5
    go_enter Tryz.func105, Tryz.ntmps105
    go_wp2
    go_ret
    exact ⟨rfl, rfl⟩
  have e : ruleV what = .nilIface := by simp [ruleV, h1, h2, h3, h4, h5]
  have g1 : (what == 1) = false := by simp [h1]
  have g2 : (what == 2) = false := by simp [h2]
  have g3 : (what == 3) = false := by simp [h3]
  have g4 : (what == 4) = false := by simp [h4]
  have g5 : (what == 5) = false := by simp [h5]
  rw [e]
  clear h1 h2 h3 h4 h5 e HR
  go_enter Tryz.func105, Tryz.ntmps105
  go_wp2
  go_ret
  exact ⟨rfl, rfl⟩

/-- Which function a rule is. -/
theorem meth1 : ∀ w : World, (method 318 162 (.agg #[]) "loop.example/lapplan/impl.fits").run Tryz.prog w = .ok (164, .agg #[]) w := fun _ => by kernel_rfl
theorem meth2 : ∀ w : World, (method 318 163 (.agg #[]) "loop.example/lapplan/impl.fits").run Tryz.prog w = .ok (166, .agg #[]) w := fun _ => by kernel_rfl
theorem meth3 : ∀ w : World, (method 318 164 (.agg #[]) "loop.example/lapplan/impl.fits").run Tryz.prog w = .ok (170, .agg #[]) w := fun _ => by kernel_rfl
theorem meth4 : ∀ w : World, (method 318 165 (.agg #[]) "loop.example/lapplan/impl.fits").run Tryz.prog w = .ok (171, .agg #[]) w := fun _ => by kernel_rfl
theorem meth5 : ∀ w : World, (method 318 166 (.agg #[]) "loop.example/lapplan/impl.fits").run Tryz.prog w = .ok (174, .agg #[]) w := fun _ => by kernel_rfl

set_option maxHeartbeats 1600000 in
theorem valueFits_any (vk vp : Value) (ks ps : List Tri) (what : Int) (s : ByteArray) (w : World) (hk : TrisAt w vk ks) (hp : TrisAt w vp ps) (hs : s.size ≤ 1048576) :
    Calls Tryz.prog 70 #[.agg #[vk, vp], .int .i64 what, .string s] w fun e w' => e = .returned (.bool (valB2 ks ps what s)) ∧ Below w.heap.size w w' := by
  have HK := hk; have HP := hp
  obtain ⟨ak, ck, rfl, -, -, -⟩ := hk
  obtain ⟨ap, cp, rfl, -, -, -⟩ := hp
  have HK1 : Hid (TrisAt w (.slice ak ks.length ck) ks) := HK
  have HP1 : Hid (TrisAt w (.slice ap ps.length cp) ps) := HP
  clear HK HP
  by_cases h1 : what = 1
  · subst h1
    have HE : Hid (valB2 ks ps 1 s = hasB ks s) := rfl
    have hm := meth1
    go_enter Tryz.func70, Tryz.ntmps70
    go_wp2_with fail
    refine (ruleOf_any _ _).mono ?_
    rintro e w1 ⟨rfl, rfl⟩
    have e1 : ruleV 1 = .iface 162 (.agg #[]) := rfl
    rw [e1]; clear e1
    go_wp2_with fail
    refine (kindRule_any _ _ ks s _ (HK1.out.alloc _)).mono ?_
    rintro e w2 ⟨rfl, hb2⟩
    go_wp2
    go_ret
    exact ⟨ret_bool HE.out.symm, below_step ((Below.refl _ _).alloc (Nat.le_refl _) _) hb2⟩
  by_cases h2 : what = 2
  · subst h2
    have HE : Hid (valB2 ks ps 2 s = timeB (cutW s)) := rfl
    have hm := meth2
    go_enter Tryz.func70, Tryz.ntmps70
    go_wp2_with fail
    refine (ruleOf_any _ _).mono ?_
    rintro e w1 ⟨rfl, rfl⟩
    have e1 : ruleV 2 = .iface 163 (.agg #[]) := rfl
    rw [e1]; clear e1
    go_wp2_with fail
    refine (timeRule_any _ _ s _ hs).mono ?_
    rintro e w2 ⟨rfl, hb2⟩
    go_wp2
    go_ret
    exact ⟨ret_bool HE.out.symm, below_step ((Below.refl _ _).alloc (Nat.le_refl _) _) hb2⟩
  by_cases h3 : what = 3
  · subst h3
    have HE : Hid (valB2 ks ps 3 s = levelB s) := rfl
    have hm := meth3
    go_enter Tryz.func70, Tryz.ntmps70
    go_wp2_with fail
    refine (ruleOf_any _ _).mono ?_
    rintro e w1 ⟨rfl, rfl⟩
    have e1 : ruleV 3 = .iface 164 (.agg #[]) := rfl
    rw [e1]; clear e1
    go_wp2_with fail
    refine (levelRule_any _ _ s _ hs).mono ?_
    rintro e w2 ⟨rfl, hb2⟩
    go_wp2
    go_ret
    exact ⟨ret_bool HE.out.symm, below_step ((Below.refl _ _).alloc (Nat.le_refl _) _) hb2⟩
  by_cases h4 : what = 4
  · subst h4
    have HE : Hid (valB2 ks ps 4 s = routeB ps (cutW s)) := rfl
    have hm := meth4
    go_enter Tryz.func70, Tryz.ntmps70
    go_wp2_with fail
    refine (ruleOf_any _ _).mono ?_
    rintro e w1 ⟨rfl, rfl⟩
    have e1 : ruleV 4 = .iface 165 (.agg #[]) := rfl
    rw [e1]; clear e1
    go_wp2_with fail
    refine (routeRule_any _ _ ps s _ hs (HP1.out.alloc _)).mono ?_
    rintro e w2 ⟨rfl, hb2⟩
    go_wp2
    go_ret
    exact ⟨ret_bool HE.out.symm, below_step ((Below.refl _ _).alloc (Nat.le_refl _) _) hb2⟩
  by_cases h5 : what = 5
  · subst h5
    have HE : Hid (valB2 ks ps 5 s = stateB s) := rfl
    have hm := meth5
    go_enter Tryz.func70, Tryz.ntmps70
    go_wp2_with fail
    refine (ruleOf_any _ _).mono ?_
    rintro e w1 ⟨rfl, rfl⟩
    have e1 : ruleV 5 = .iface 166 (.agg #[]) := rfl
    rw [e1]; clear e1
    go_wp2_with fail
    refine (stateRule_any _ _ s _).mono ?_
    rintro e w2 ⟨rfl, hb2⟩
    go_wp2
    go_ret
    exact ⟨ret_bool HE.out.symm, below_step ((Below.refl _ _).alloc (Nat.le_refl _) _) hb2⟩
  have HE : Hid (valB2 ks ps what s = false) := by show valB2 ks ps what s = false; simp [valB2, h1, h2, h3, h4, h5]
  have HR : Hid (ruleV what = .nilIface) := by show ruleV what = _; simp [ruleV, h1, h2, h3, h4, h5]
  clear h1 h2 h3 h4 h5
  go_enter Tryz.func70, Tryz.ntmps70
  go_wp2_with fail
  refine (ruleOf_any _ _).mono ?_
  rw [HR.out]
  rintro e w1 ⟨rfl, rfl⟩
  go_wp2
  go_ret
  exact ⟨ret_bool HE.out.symm, (Below.refl _ _).alloc (Nat.le_refl _) _⟩
end Go.Proofs.YtfjblenkcfdbiaaGreat

/-
  impl: a change that is ok.
-/
namespace Go.Proofs.YtfjblenkcfdbiaaGreat
open Go.RowKit
attribute [local go_sem] Later.cell Later.frozen

set_option maxHeartbeats 1600000 in
theorem changeFits_any (vk vp : Value) (ks ps : List Tri) (c : Chg) (w : World) (hk : TrisAt w vk ks) (hp : TrisAt w vp ps) (hf : c.f.size ≤ 1048576) (hs : c.v.size ≤ 1048576) :
    Calls Tryz.prog 33 #[.agg #[vk, vp], .agg #[.string c.f, .int .i64 c.what, .int .i64 c.num, .string c.v]] w fun e w' => e = .returned (.bool (fitB ks ps c)) ∧ Below w.heap.size w w' := by
  have HK := hk; have HP := hp
  obtain ⟨ak, ck, rfl, -, -, -⟩ := hk
  obtain ⟨ap, cp, rfl, -, -, -⟩ := hp
  have HK1 : Hid (TrisAt w (.slice ak ks.length ck) ks) := HK
  have HP1 : Hid (TrisAt w (.slice ap ps.length cp) ps) := HP
  clear HK HP
  obtain ⟨f, what, num, v⟩ := c
  dsimp only at *
  have HE : Hid (fitB ks ps ⟨f, what, num, v⟩ = (nameB f && (inB num 1 1000000 && valB2 ks ps what v))) := rfl
  generalize fitB ks ps ⟨f, what, num, v⟩ = res at HE ⊢
  go_enter Tryz.func33, Tryz.ntmps33
  go_wp2_with fail
  refine (nameOk_any f _ (by unfold maxLen; omega)).mono ?_
  rintro e w1 ⟨rfl, hb1⟩
  have k0 : w1.cell? ⟨w.heap.size, 0, none⟩ = some (.slice ak ks.length ck) := cell_keep hb1 (Nat.le_refl _) (by simp [go_sem])
  have k1 : w1.cell? ⟨w.heap.size, 1, none⟩ = some (.slice ap ps.length cp) := cell_keep hb1 (Nat.le_refl _) (by simp [go_sem])
  have c0 : w1.cell? ⟨w.heap.size + 1, 0, none⟩ = some (.string f) := cell_keep hb1 (Nat.le_refl _) (by simp [go_sem])
  have c1 : w1.cell? ⟨w.heap.size + 1, 1, none⟩ = some (.int .i64 what) := cell_keep hb1 (Nat.le_refl _) (by simp [go_sem])
  have c2 : w1.cell? ⟨w.heap.size + 1, 2, none⟩ = some (.int .i64 num) := cell_keep hb1 (Nat.le_refl _) (by simp [go_sem])
  have c3 : w1.cell? ⟨w.heap.size + 1, 3, none⟩ = some (.string v) := cell_keep hb1 (Nat.le_refl _) (by simp [go_sem])
  have HB1 : Hid (Below w.heap.size w w1) := below_step (((Below.refl _ _).alloc (Nat.le_refl _) _).alloc (by simp) _) hb1
  clear hb1
  generalize nameB f = b1 at *
  cases b1
  · go_wp2
    go_ret
    exact ⟨ret_bool (by rw [HE.out]; rfl), HB1.out⟩
  · go_wp2_with fail
    refine (numberOk_any _ _).mono ?_
    rintro e w2 ⟨rfl, hw2⟩
    subst hw2
    generalize inB num 1 1000000 = b2 at *
    cases b2
    · go_wp2
      go_ret
      exact ⟨ret_bool (by rw [HE.out]; rfl), HB1.out⟩
    · go_wp2_with fail
      refine (valueFits_any _ _ ks ps what v _ (HK1.out.keep HB1.out) (HP1.out.keep HB1.out) hs).mono ?_
      rintro e w3 ⟨rfl, hb3⟩
      go_wp2
      go_ret
      exact ⟨ret_bool (by rw [HE.out]; rfl), below_step HB1.out hb3⟩

end Go.Proofs.YtfjblenkcfdbiaaGreat

/-
  impl: a book that is ok.
-/
namespace Go.Proofs.YtfjblenkcfdbiaaGreat
open Go.RowKit
attribute [local go_sem] Later.cell Later.frozen

def ascE (l : List Ent) (i : Nat) : Bool := !(decide (0 < i) && geB (eat l (i - 1)).name (eat l i).name)
theorem ascE_zero (l : List Ent) : ascE l 0 = true := by simp [ascE]
theorem ascE_succ (l : List Ent) (m : Nat) : ascE l (m + 1) = !geB (eat l m).name (eat l (m + 1)).name := by simp [ascE]
def namesE (l : List Ent) : Bool := decide (l.length ≤ 12) && allB l.length fun i => nameB (eat l i).name && ascE l i
def chgOf (n : ByteArray) (f : Fld) : Chg := ⟨n, f.what, f.num, f.v⟩
def ascF (l : List Fld) (i : Nat) : Bool := !(decide (0 < i) && decide ((fat l i).what ≤ (fat l (i - 1)).what))
def fieldsB (ks ps : List Tri) (n : ByteArray) (l : List Fld) : Bool := (allB l.length fun i => ascF l i && fitB ks ps (chgOf n (fat l i))) && decide (0 < l.length)
def bookB (ks ps : List Tri) (es : List Ent) : Bool := baseB ks ps && (namesE es && allB es.length fun i => fieldsB ks ps (eat es i).name (eat es i).fs)

theorem entryName_any (n : ByteArray) (fv : Value) (w : World) :
    Calls Tryz.prog 65 #[.agg #[.string n, fv]] w fun e w' => e = .returned (.string n) ∧ Below w.heap.size w w' := by
  go_enter Tryz.func65, Tryz.ntmps65
  go_wp2
  go_ret
  exact ⟨rfl, (Below.refl _ _).alloc (Nat.le_refl _) _⟩

set_option maxHeartbeats 3200000 in
theorem namesEntry_any (v : Value) (l : List Ent) (w : World) (hv : EntsAt w v l) (hs : ENames l) :
    Calls Tryz.prog 64 #[v, .int .i64 12, .func (.func 65) #[] #[]] w fun e w' => e = .returned (.bool (namesE l)) ∧ Below w.heap.size w w' := by
  obtain ⟨a, cap, rfl, hlc, hcm, hc⟩ := hv
  unfold maxLen at hcm
  have HC : Hid (∀ i f, l[i]? = some f → ∃ b off, a = some ⟨b, off, none⟩ ∧ EntAt w b (off + i * 2) f) := hc
  have HS : Hid (ENames l) := hs
  clear hc hs
  by_cases hn : (12 : Int) < (l.length : Int)
  · have e : namesE l = false := by simp [namesE]; omega
    rw [e]; clear e
    go_enter Tryz.func64, Tryz.ntmps64
    go_wp2
    go_ret
    exact ⟨rfl, Below.refl _ _⟩
  · have e : namesE l = allB l.length fun i => nameB (eat l i).name && ascE l i := by
      have : l.length ≤ 12 := by omega
      simp [namesE, this]
    rw [e]; clear e
    go_enter Tryz.func64, Tryz.ntmps64
    go_wp2
    go_loopw [7, 8, 15] (fun _ _ i wr => ∃ k : Nat, k ≤ l.length ∧ i = .int .i64 k ∧ Below w.heap.size w wr ∧ Hid (∀ j, j < k → (nameB (eat l j).name && ascE l j) = true)) (fun _ _ i _ => l.length - (intOf i).toNat)
    case atStart => exact ⟨0, Nat.zero_le _, rfl, Below.refl _ _, fun j hj => absurd hj (Nat.not_lt_zero _)⟩
    case round =>
      obtain ⟨k, hk, rfl, hb, HA⟩ := hrel
      by_cases hlt : k < l.length
      · obtain ⟨b, off, rfl, hc⟩ := HC.out k _ (eat_get hlt)
        obtain ⟨fv, d0, d1, hfl⟩ := hc.keep hb
        obtain ⟨fa, fc, rfl, -, -, -⟩ := hfl
        have hsk : (eat l k).name.size ≤ maxLen := (HS.out _ (List.mem_of_getElem? (eat_get hlt))).1
        have BAD : Hid (nameB (eat l k).name = false → allB l.length (fun i => nameB (eat l i).name && ascE l i) = false) := fun h => allB_false hlt (by simp [h])
        have BAD' : Hid (ascE l k = false → allB l.length (fun i => nameB (eat l i).name && ascE l i) = false) := fun h => allB_false hlt (by simp [h])
        have hk0 : (0 : Int) ≤ (k : Int) := by omega
        have hk1 : (k : Int) < (l.length : Int) := by omega
        have HO0 : Hid (OwnAt wr (wr.alloc (.cells #[.string (eat l k).name, .slice fa (eat l k).fs.length fc] 73)) [[.string (eat l k).name, .slice fa (eat l k).fs.length fc]]) := (OwnAt.start wr).push rfl _ _
        generalize hnl : (eat l k).fs.length = nl at *
        clear hnl
        go_wp2_with fail
        refine (entryName_any (eat l k).name _ _).mono ?_
        rintro e w1 ⟨rfl, hb1⟩
        go_wp2_with fail
        refine (nameOk_any (eat l k).name _ hsk).mono ?_
        rintro e w2 ⟨rfl, hb2⟩
        have HO2 : Hid (OwnAt wr w2 _) := (HO0.out.call hb1).call hb2
        have HBW : Hid (Below w.heap.size w w2) := below_step hb HO2.out.below
        have n0 : w2.cell? ⟨wr.heap.size, 0, none⟩ = some (.string (eat l k).name) := (HO2.out.has 0 _ rfl 0 _ rfl).1
        have n1 : w2.cell? ⟨wr.heap.size, 1, none⟩ = some (.slice fa nl fc) := (HO2.out.has 0 _ rfl 1 _ rfl).1
        have nz : wr.heap.size < w2.heap.size := lt_of_cell n0
        clear d0 d1 hb1 hb2 HO0 HO2
        cases hnm : nameB (eat l k).name
        · have HN : Hid (nameB (eat l k).name = false) := hnm
          clear hnm
          go_wp2
          go_ret
          exact ⟨ret_bool (BAD.out HN.out).symm, HBW.out⟩
        · have HN : Hid (nameB (eat l k).name = true) := hnm
          clear hnm
          have hne := Later.some w2
          have GN : Hid (∀ (n : ByteArray) (u : Value) (y : Later w2), Calls Tryz.prog 65 #[.agg #[.string n, u]] y.val fun e w'' => e = .returned (.string n) ∧ ∃ z : Later w2, w'' = z.val) := fun n u y => Calls.later (entryName_any n u y.val)
          by_cases hkz : k = 0
          · subst hkz
            go_wp2
            refine wp_region_later (by kernel_rfl) (by kernel_rfl) ?_
            repeat (go_big_quiet_step (first | (go_at_call 65; exact GN.out _ _ _)))
            refine wpQuiet_nil ?_
            rintro _ ⟨x, rfl⟩
            go_wp2
            exact ⟨⟨1, by omega, by go_num, below_step HBW.out x.below, fun j hj => by
              obtain rfl : j = 0 := by omega
              rw [HN.out, ascE_zero]; rfl⟩, by simp [intOf]; omega⟩
          · obtain ⟨m, rfl⟩ : ∃ m, k = m + 1 := ⟨k - 1, by omega⟩
            obtain ⟨b', off', hbo, hcm'⟩ := HC.out m _ (eat_get (by omega))
            cases hbo
            obtain ⟨fv', m0, m1, hfl'⟩ := hcm'.keep HBW.out
            obtain ⟨fa', fc', rfl, -, -, -⟩ := hfl'
            have mz : b < w2.heap.size := lt_of_cell m0
            have HE : Hid (ascE l (m + 1) = !geB (eat l m).name (eat l (m + 1)).name) := ascE_succ l m
            have hi0 : (0 : Int) ≤ (m : Int) := by omega
            have hi1 : (m : Int) < (l.length : Int) := by omega
            have hi2 : (0 : Int) < (m : Int) + 1 := by omega
            have hw1 : IntKind.i64.wrap (m : Int) = (m : Int) := by rw [IntKind.wrap_i64]; omega
            have hw2 : IntKind.i64.wrap ((m : Int) + 1 - 1) = (m : Int) := by rw [IntKind.wrap_i64]; omega
            clear hc hcm'
            go_wp2
            refine wp_region_later (by kernel_rfl) (by kernel_rfl) ?_
            repeat (go_big_quiet_step (first | (go_at_call 65; exact GN.out _ _ _)))
            refine wpQuiet_nil ?_
            rintro _ ⟨x, rfl⟩
            go_wp2
            · rename_i h
              go_ret
              exact ⟨ret_bool (BAD'.out (by rw [HE.out]; unfold geB; rw [h]; rfl)).symm, below_step HBW.out x.below⟩
            · rename_i h
              exact ⟨⟨m + 1 + 1, by omega, by go_num, below_step HBW.out x.below, fun j hj => if e : j = m + 1 then by rw [e, HN.out, HE.out]; unfold geB; rw [h]; rfl else HA.out j (by omega)⟩, by simp [intOf]; omega⟩
      · go_wp2
        go_ret
        exact ⟨ret_bool (allB_true fun j hj => HA.out j (by omega)).symm, hb⟩
end Go.Proofs.YtfjblenkcfdbiaaGreat
