
/-
  Plain facts: what fits.
-/
import Derived.Test.YtfjblenkcfdbiaaDec
import Derived.Test.YtfjblenkcfdbiaaWords
import Derived.Test.YtfjblenkcfdbiaaBl
import Derived.Test.YtfjblenkcfdbiaaChg
namespace Go.Proofs.Ytfjblenkcfdbiaa
open Go.RowKit

theorem str_eq {a b : ByteArray} (h : a = b) : (a.toList == b.toList) = true := by subst h; simp
theorem str_ne {a b : ByteArray} (h : ¬ a = b) : (a.toList == b.toList) = false := by
  rw [ByteArray.toList_eq, ByteArray.toList_eq]
  simp only [beq_eq_false_iff_ne, ne_eq]
  exact fun e => h (bytes_inj e)

/-- One of the list has this name. -/
def memB (l : List Tri) (v : ByteArray) : Bool := !allB l.length fun i => !decide ((at' l i).s = v)
theorem memB_true {l : List Tri} {v : ByteArray} {k : Nat} (hk : k < l.length) (h : (at' l k).s = v) : memB l v = true := by
  unfold memB; rw [allB_false hk (by simp [h])]; rfl
theorem memB_false {l : List Tri} {v : ByteArray} (h : ∀ j, j < l.length → ¬ (at' l j).s = v) : memB l v = false := by
  unfold memB; rw [allB_true fun j hj => by simp [h j hj]]; rfl

/-- The place of the first that does not come ahead of this name; behind the last, if there is none. -/
def plc (l : List Tri) (v : ByteArray) : Nat := l.findIdx fun t => geB t.s v
/-- It has this name. -/
def hasB (l : List Tri) (v : ByteArray) : Bool := decide (plc l v < l.length) && decide ((at' l (plc l v)).s = v)
theorem plc_some {l : List Tri} {v : ByteArray} {k : Nat} (hk : k < l.length) (h : geB (at' l k).s v = true) (hn : ∀ j, j < k → geB (at' l j).s v = false) : plc l v = k := by
  have e : ∀ j (hj : j < l.length), at' l j = l[j] := fun j hj => by simp [at', hj]
  unfold plc
  rw [List.findIdx_eq hk]
  exact ⟨by rw [← e k hk]; exact h, fun j hj => by rw [← e j (by omega)]; exact hn j hj⟩
theorem plc_none {l : List Tri} {v : ByteArray} (h : ∀ j, j < l.length → geB (at' l j).s v = false) : plc l v = l.length := by
  unfold plc
  rw [List.findIdx_eq_length]
  intro t ht
  obtain ⟨j, hj, rfl⟩ := List.getElem_of_mem ht
  have := h j hj
  simpa [at', hj] using this
theorem hasB_at {l : List Tri} {v : ByteArray} {k : Nat} (hk : k < l.length) (h : geB (at' l k).s v = true) (hn : ∀ j, j < k → geB (at' l j).s v = false) : hasB l v = decide ((at' l k).s = v) := by
  unfold hasB; rw [plc_some hk h hn]; simp [hk]
theorem hasB_end {l : List Tri} {v : ByteArray} (h : ∀ j, j < l.length → geB (at' l j).s v = false) : hasB l v = false := by
  unfold hasB; rw [plc_none h]; simp
theorem geB_bl (a b : ByteArray) : geB a b = !blS a b := rfl
theorem asc_lt {l : List Tri} (h : ∀ i, i < l.length → ascB l i = true) : ∀ i j, i < j → j < l.length → blS (at' l i).s (at' l j).s = true := by
  have one : ∀ i, i + 1 < l.length → blS (at' l i).s (at' l (i + 1)).s = true := fun i hi => by
    have := h (i + 1) hi
    unfold ascB at this
    rw [geB_bl] at this
    simpa using this
  intro i j hij
  induction j with
  | zero => omega
  | succ j ih =>
    intro hj
    by_cases e : i = j
    · subst e; exact one i hj
    · exact blS_trans (ih (by omega) (by omega)) (one j hj)
/-- In a list that is ascending both say the same. -/
theorem has_mem {l : List Tri} {v : ByteArray} (h : ∀ i, i < l.length → ascB l i = true) : hasB l v = memB l v := by
  by_cases hm : ∃ k, k < l.length ∧ (at' l k).s = v
  · obtain ⟨k, hk, he⟩ := hm
    rw [memB_true hk he, hasB_at hk (by rw [he, geB_bl, blS_irrefl]; rfl) fun j hj => by rw [← he, geB_bl, asc_lt h j k hj hk]; rfl]
    simp [he]
  · rw [memB_false fun j hj he => hm ⟨j, hj, he⟩]
    unfold hasB
    rw [Bool.and_eq_false_iff]
    by_cases hp : plc l v < l.length
    · right; exact decide_eq_false fun he => hm ⟨_, hp, he⟩
    · left; exact decide_eq_false hp
theorem names_asc {l : List Tri} {m : Nat} (h : namesB l m = true) : ∀ i, i < l.length → ascB l i = true := fun i hi => by
  unfold namesB at h
  rw [Bool.and_eq_true] at h
  have := allB_get h.2 i hi
  rw [Bool.and_eq_true] at this
  exact this.2
theorem kinds_asc {l : List Tri} (h : kindsB l = true) : ∀ i, i < l.length → ascB l i = true := by
  unfold kindsB at h; rw [Bool.and_eq_true] at h; exact names_asc h.1
theorem points_asc {l : List Tri} (h : pointsB l = true) : ∀ i, i < l.length → ascB l i = true := by
  unfold pointsB at h; rw [Bool.and_eq_true] at h; exact names_asc h.1

/-- The word at a place. -/
def wat (ws : List ByteArray) (i : Nat) : ByteArray := ws.getD i ⟨#[]⟩
theorem wat_get {ws : List ByteArray} {i : Nat} (h : i < ws.length) : ws[i]? = some (wat ws i) := by simp [wat, h]
def numV (s : ByteArray) : Nat := numTo s s.size
def timeB (ws : List ByteArray) : Bool := decide (ws.length = 2) && (decB (wat ws 0) && (decB (wat ws 1) && (decide (numV (wat ws 0) ≤ numV (wat ws 1)) && decide (numV (wat ws 1) ≤ 10000))))
def levelB (s : ByteArray) : Bool := decB s && inB (numV s) 1 6
def stepB (ps : List Tri) (ws : List ByteArray) (i : Nat) : Bool := hasB ps (wat ws i) && !(decide (0 < i) && decide (wat ws (i - 1) = wat ws i))
def routeB (ps : List Tri) (ws : List ByteArray) : Bool := inB ws.length 2 8 && allB ws.length (stepB ps ws)
def openS : ByteArray := ⟨#[111, 112, 101, 110]⟩
def closedS : ByteArray := ⟨#[99, 108, 111, 115, 101, 100]⟩
def stateB (s : ByteArray) : Bool := decide (s = openS) || decide (s = closedS)
/-- What fits, in a base that is ok. -/
def valB2 (ks ps : List Tri) (what : Int) (s : ByteArray) : Bool :=
  if what = 1 then hasB ks s else if what = 2 then timeB (cutW s) else if what = 3 then levelB s else if what = 4 then routeB ps (cutW s) else if what = 5 then stateB s else false
def baseB (ks ps : List Tri) : Bool := kindsB ks && pointsB ps
def fitB (ks ps : List Tri) (c : Chg) : Bool := nameB c.f && (inB c.num 1 1000000 && valB2 ks ps c.what c.v)

theorem cutA_sizes : ∀ (r cur : List UInt8) (x : List UInt8), x ∈ cutA cur r → x.length ≤ cur.length + r.length
  | [], cur, x, h => by simp [cutA] at h; subst h; simp
  | c :: r, cur, x, h => by
    rw [cutA] at h
    split at h
    · rcases List.mem_cons.1 h with rfl | h
      · simp
      · have := cutA_sizes r [] x h; simp at this ⊢; omega
    · have := cutA_sizes r (cur ++ [c]) x h; simp at this ⊢; omega
theorem cutW_size (s : ByteArray) : ∀ x ∈ cutW s, x.size ≤ s.size := fun x hx => by
  unfold cutW at hx
  obtain ⟨l, hl, rfl⟩ := List.mem_map.1 hx
  have := cutA_sizes _ _ _ hl
  rw [bytes_length, List.length_nil, Nat.zero_add] at this
  exact this
theorem wat_size {s : ByteArray} {i : Nat} (h : i < (cutW s).length) : (wat (cutW s) i).size ≤ s.size := cutW_size s _ (List.mem_of_getElem? (wat_get h))
end Go.Proofs.Ytfjblenkcfdbiaa
