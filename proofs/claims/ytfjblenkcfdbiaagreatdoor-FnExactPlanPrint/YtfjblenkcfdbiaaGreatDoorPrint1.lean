
/-
  impl: a line of a kind or a point; lines as a text.
-/
import Derived.Test.YtfjblenkcfdbiaaGreatDoorForm6
import Derived.Test.YtfjblenkcfdbiaaGreatDoorNews1
import Derived.Test.YtfjblenkcfdbiaaGreatDoorShelf3
import Derived.Test.YtfjblenkcfdbiaaGreatDoorBuild0
import Derived.Deep.AppendLies
namespace Go.Proofs.YtfjblenkcfdbiaaGreatDoor
open Go.RowKit
attribute [local go_sem] Later.cell Later.frozen
set_option linter.unusedSimpArgs false
set_option linter.unusedVariables false

def wPoint : ByteArray := ⟨#[112, 111, 105, 110, 116]⟩
def sNl : ByteArray := ⟨#[10]⟩
/-- The line of a kind or a point. -/
def namedS (word : ByteArray) (t : Tri) : ByteArray := cat (cat (cat (cat (cat (cat word sSp) t.s) sSp) (decS t.x.toNat)) sSp) (decS t.y.toNat)
structure Smalls2 (word : ByteArray) (t : Tri) : Prop where
  a0 : Small word
  a1 : Small sSp
  a2 : Small (cat word sSp)
  a3 : Small t.s
  a4 : Small (cat (cat word sSp) t.s)
  a5 : Small (cat (cat (cat word sSp) t.s) sSp)
  a6 : Small (decS t.x.toNat)
  a7 : Small (cat (cat (cat (cat word sSp) t.s) sSp) (decS t.x.toNat))
  a8 : Small (cat (cat (cat (cat (cat word sSp) t.s) sSp) (decS t.x.toNat)) sSp)
  a9 : Small (decS t.y.toNat)
theorem named_size {word : ByteArray} {t : Tri} (hw : word.size ≤ 5) (hx : t.x.toNat < 10000000) (hy : t.y.toNat < 10000000) : (namedS word t).size ≤ t.s.size + 22 := by
  have h2 : sSp.size = 1 := rfl
  have h3 := decS_size t.x.toNat hx
  have h4 := decS_size t.y.toNat hy
  unfold namedS
  simp only [cat_size]
  omega
theorem Smalls2.of {word : ByteArray} {t : Tri} (hw : word.size ≤ 5) (hs : t.s.size ≤ 1048576) (hx : t.x.toNat < 10000000) (hy : t.y.toNat < 10000000) : Smalls2 word t := by
  have h2 : sSp.size = 1 := rfl
  have h3 := decS_size t.x.toNat hx
  have h4 := decS_size t.y.toNat hy
  constructor <;> unfold Small <;> (try simp only [cat_size]) <;> omega

set_option maxRecDepth 100000 in
set_option maxHeartbeats 1600000 in
theorem namedLine_any (word : ByteArray) (t : Tri) (w : World) (hw : word.size ≤ 5) (hs : t.s.size ≤ 1048576) (hx0 : 0 ≤ t.x) (hy0 : 0 ≤ t.y) (hx : t.x < 10000000) (hy : t.y < 10000000) (ht : Lib.TabIs Tryz.prog w "internal/strconv.uint64pow10" .u64 Lib.pow10Tab) :
    Calls Tryz.prog 24 #[.string word, .string t.s, .int .i64 t.x, .int .i64 t.y] w fun e w' => e = .returned (.string (namedS word t)) ∧ Below w.heap.size w w' := by
  have SM := Smalls2.of (word := word) (t := t) hw hs (by omega) (by omega)
  have HT : Hid (Lib.TabIs Tryz.prog w "internal/strconv.uint64pow10" .u64 Lib.pow10Tab) := ht
  clear ht
  have hadd := add_small Tryz.prog
  obtain ⟨s0, s1, s2, s3, s4, s5, s6, s7, s8, s9⟩ := SM
  have HF : Hid (namedS word t = cat (cat (cat (cat (cat (cat word sSp) t.s) sSp) (decS t.x.toNat)) sSp) (decS t.y.toNat)) := rfl
  simp only [sSp] at s1 s2 s4 s5 s7 s8
  go_enter Tryz.func24, Tryz.ntmps24
  go_wp2_with fail
  refine (itoa_any t.x hx0 (by omega) _ HT.out).mono ?_
  rintro e w1 ⟨rfl, hb1⟩
  have HB1 : Hid (Below w.heap.size w w1) := hb1
  clear hb1
  go_wp2_with fail
  refine (itoa_any t.y hy0 (by omega) _ (tab_keep HT.out HB1.out)).mono ?_
  rintro e w2 ⟨rfl, hb2⟩
  have HB2 : Hid (Below w.heap.size w w2) := below_step HB1.out hb2
  clear hb2
  go_wp2
  go_ret
  exact ⟨rfl, HB2.out⟩

/-- Texts that lie in a slice, which may be nil. -/
def TextsAt (w : World) (v : Value) (l : List ByteArray) : Prop :=
  ∃ a cap, v = .slice a l.length cap ∧ l.length ≤ cap ∧ cap ≤ maxLen ∧ ∀ i s, l[i]? = some s → ∃ g off, a = some ⟨g, off, none⟩ ∧ w.cell? ⟨g, off + i, none⟩ = some (.string s)
theorem TextsAt.keep {w w' : World} {v : Value} {l : List ByteArray} (h : TextsAt w v l) (hb : Below w.heap.size w w') : TextsAt w' v l := by
  obtain ⟨a, cap, rfl, h1, h2, h3⟩ := h
  refine ⟨a, cap, rfl, h1, h2, fun i s hs => ?_⟩
  obtain ⟨g, off, ha, hc⟩ := h3 i s hs
  exact ⟨g, off, ha, cell_keep hb (Nat.le_refl _) hc⟩
theorem texts_of_own {w : World} {base : Nat} {e : TypeId} {v : Value} {ws : List ByteArray} (h : w.ownsRow base e 1 v ws.length (ws.map Value.string)) : TextsAt w v ws := by
  by_cases hne : ws = []
  · subst hne
    rcases h.2 with ⟨rfl, h0⟩ | ⟨g, cap, cur, rfl, _, hb, hn, hc, _, ht⟩
    · exact ⟨none, 0, rfl, Nat.le_refl _, Nat.zero_le _, fun i s hs => by simp at hs⟩
    · exact ⟨_, cap, rfl, hn, hc, fun i s hs => by simp at hs⟩
  · obtain ⟨g, off, cap, rfl, h1, h2, h3⟩ := strs_of_own h hne
    exact ⟨_, cap, rfl, h1, h2, fun i s hs => ⟨g, off, rfl, h3 i s hs⟩⟩
/-- Lines as a text: a newline behind each. -/
def joinL : List ByteArray → List UInt8
  | [] => []
  | s :: r => (bytes s ++ [10]) ++ joinL r
theorem joinL_append (a b : List ByteArray) : joinL (a ++ b) = joinL a ++ joinL b := by
  induction a with
  | nil => rfl
  | cons x a ih => simp only [List.cons_append, joinL, ih, List.append_assoc]
theorem joinL_take {l : List ByteArray} {k : Nat} (h : k < l.length) : joinL (l.take (k + 1)) = joinL (l.take k) ++ (bytes (wat l k) ++ [10]) := by
  rw [List.take_succ_eq_append_getElem h, joinL_append]
  have : wat l k = l[k] := by simp [wat, h]
  rw [this]
  simp [joinL]
theorem joinL_le (l : List ByteArray) (k : Nat) : (joinL (l.take k)).length ≤ (joinL l).length := by
  conv => rhs; rw [← List.take_append_drop k l, joinL_append, List.length_append]
  omega

set_option maxHeartbeats 1600000 in
theorem textOf_any (v : Value) (l : List ByteArray) (w : World) (hv : TextsAt w v l) (hl : (joinL l).length ≤ 70368744177664) :
    Calls Tryz.prog 27 #[v] w fun e w' => e = .returned (.string ⟨(joinL l).toArray⟩) ∧ Below w.heap.size w w' := by
  have HV : Hid (TextsAt w v l) := hv
  obtain ⟨a, cap, rfl, hlc, hcm, -⟩ := hv
  unfold maxLen at hcm
  have HI0 : Hid (Lib.IsBuilder 107 5 w.heap.size w.heap.size [] (w.alloc (.cells #[.pointer none, .slice none 0 0] 107))) := Lib.fresh_isBuilder _ _ w
  go_enter Tryz.func27, Tryz.ntmps27
  go_wp2
  go_loopw [8] (fun i wr => ∃ k : Nat, k ≤ l.length ∧ i = .int .i64 k ∧ Below w.heap.size w wr ∧ Hid (Lib.IsBuilder 107 5 w.heap.size w.heap.size (Lib.byteCells (joinL (l.take k))) wr)) (fun i _ => l.length - (intOf i).toNat)
  case atStart => exact ⟨0, Nat.zero_le _, rfl, (Below.refl _ _).alloc (Nat.le_refl _) _, HI0.out⟩
  case round =>
    obtain ⟨k, hk, rfl, hb, HI⟩ := hrel
    by_cases hlt : k < l.length
    · obtain ⟨_, _, hsl, _, _, hc⟩ := HV.out.keep hb
      cases hsl
      obtain ⟨g, off, rfl, d0⟩ := hc k _ (wat_get hlt)
      have hk0 : (0 : Int) ≤ (k : Int) := by omega
      have hk1 : (k : Int) < (l.length : Int) := by omega
      have hj1 : (joinL (l.take (k + 1))).length ≤ (joinL l).length := joinL_le l _
      rw [joinL_take hlt, List.length_append, List.length_append, List.length_singleton] at hj1
      rw [bytes_length] at hj1
      have HN : Hid (joinL (l.take (k + 1)) = joinL (l.take k) ++ (bytes (wat l k) ++ [10])) := joinL_take hlt
      generalize wat l k = s at *
      generalize joinL (l.take k) = J at *
      clear hc
      go_wp2_with fail
      refine (writeString_any w.heap.size w.heap.size (Lib.byteCells J) s _ HI.out (by rw [Lib.byteCells_length]; omega) hb.size).mono ?_
      rintro e w1 ⟨rfl, h1, b1⟩
      have hb1 : Below w.heap.size w w1 := hb.trans b1
      go_wp2_with fail
      refine (writeString_any w.heap.size w.heap.size _ sNl _ (Or.inr h1) (by rw [List.length_append, Lib.byteCells_length, Lib.strCells_length]; have : sNl.size = 1 := rfl; omega) hb1.size).mono ?_
      rintro e w2 ⟨rfl, h2, b2⟩
      have HI2 : Hid (Lib.IsBuilder 107 5 w.heap.size w.heap.size (Lib.byteCells (joinL (l.take (k + 1)))) w2) := by
        rw [HN.out, Lib.byteCells_append, Lib.byteCells_append]
        rw [Lib.strCells_eq, Lib.strCells_eq, List.append_assoc] at h2
        exact Or.inr h2
      go_wp2
      exact ⟨⟨k + 1, by omega, by go_num, hb1.trans b2, HI2.out⟩, by simp [intOf]; omega⟩
    · have HI2 : Hid (Lib.IsBuilder 107 5 w.heap.size w.heap.size (Lib.byteCells (joinL l)) wr) := by
        have := HI.out
        rw [List.take_of_length_le (by omega)] at this
        exact this
      go_wp2_with fail
      refine (Tryz.Builder_String_any w.heap.size w.heap.size (joinL l) _ HI2.out hb.size).mono ?_
      rintro e w1 ⟨rfl, b1⟩
      go_wp2
      go_ret
      exact ⟨rfl, hb.trans b1⟩
end Go.Proofs.YtfjblenkcfdbiaaGreatDoor
