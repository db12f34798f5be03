/-
  Plain facts: what fits.
-/
import Derived.Test.YtbabikdfkfhdpabGreatDec
import Derived.Test.YtbabikdfkfhdpabGreatWords
import Derived.Test.YtbabikdfkfhdpabGreatChg
namespace Go.Proofs.YtbabikdfkfhdpabGreat
open Go.RowKit

theorem str_eq {a b : ByteArray} (h : a = b) : (a.toList == b.toList) = true := by subst h; simp
theorem str_ne {a b : ByteArray} (h : ¬ a = b) : (a.toList == b.toList) = false := by
  rw [ByteArray.toList_eq, ByteArray.toList_eq]
  simp only [beq_eq_false_iff_ne, ne_eq]
  exact fun e => h (bytes_inj e)

/-- One of the list has this name. -/
def hasB (l : List Tri) (v : ByteArray) : Bool := !allB l.length fun i => !decide ((at' l i).s = v)
theorem hasB_true {l : List Tri} {v : ByteArray} {k : Nat} (hk : k < l.length) (h : (at' l k).s = v) : hasB l v = true := by
  unfold hasB; rw [allB_false hk (by simp [h])]; rfl
theorem hasB_false {l : List Tri} {v : ByteArray} (h : ∀ j, j < l.length → ¬ (at' l j).s = v) : hasB l v = false := by
  unfold hasB; rw [allB_true fun j hj => by simp [h j hj]]; rfl

/-- The word at a place. -/
def wat (ws : List ByteArray) (i : Nat) : ByteArray := ws.getD i ⟨#[]⟩
theorem wat_get {ws : List ByteArray} {i : Nat} (h : i < ws.length) : ws[i]? = some (wat ws i) := by simp [wat, h]
def numV (s : ByteArray) : Nat := numTo s s.size
def timeB (ws : List ByteArray) : Bool := decide (ws.length = 2) && (decB (wat ws 0) && (decB (wat ws 1) && (decide (numV (wat ws 0) ≤ numV (wat ws 1)) && decide (numV (wat ws 1) ≤ 10000))))
def levelB (s : ByteArray) : Bool := decB s && inB (numV s) 1 6
def stepB (ps : List Tri) (ws : List ByteArray) (i : Nat) : Bool := hasB ps (wat ws i) && !(decide (0 < i) && decide (wat ws (i - 1) = wat ws i))
def routeB (ps : List Tri) (ws : List ByteArray) : Bool := inB ws.length 2 8 && allB ws.length (stepB ps ws)
def openS : ByteArray := ⟨#[111, 112, 101, 110]⟩
def closedS : ByteArray := ⟨#[99, 108, 111, 115, 101, 100]⟩
def stateB (s : ByteArray) : Bool := decide (s = openS) || decide (s = closedS)
/-- What fits, in a base that is ok. -/
def valB2 (ks ps : List Tri) (what : Int) (s : ByteArray) : Bool :=
  if what = 1 then hasB ks s else if what = 2 then timeB (cutW s) else if what = 3 then levelB s else if what = 4 then routeB ps (cutW s) else if what = 5 then stateB s else false
def baseB (ks ps : List Tri) : Bool := kindsB ks && pointsB ps
def fitB (ks ps : List Tri) (c : Chg) : Bool := nameB c.f && (inB c.num 1 1000000 && valB2 ks ps c.what c.v)

theorem cutA_sizes : ∀ (r cur : List UInt8) (x : List UInt8), x ∈ cutA cur r → x.length ≤ cur.length + r.length
  | [], cur, x, h => by simp [cutA] at h; subst h; simp
  | c :: r, cur, x, h => by
    rw [cutA] at h
    split at h
    · rcases List.mem_cons.1 h with rfl | h
      · simp
      · have := cutA_sizes r [] x h; simp at this ⊢; omega
    · have := cutA_sizes r (cur ++ [c]) x h; simp at this ⊢; omega
theorem cutW_size (s : ByteArray) : ∀ x ∈ cutW s, x.size ≤ s.size := fun x hx => by
  unfold cutW at hx
  obtain ⟨l, hl, rfl⟩ := List.mem_map.1 hx
  have := cutA_sizes _ _ _ hl
  rw [bytes_length, List.length_nil, Nat.zero_add] at this
  exact this
theorem wat_size {s : ByteArray} {i : Nat} (h : i < (cutW s).length) : (wat (cutW s) i).size ≤ s.size := cutW_size s _ (List.mem_of_getElem? (wat_get h))
end Go.Proofs.YtbabikdfkfhdpabGreat
