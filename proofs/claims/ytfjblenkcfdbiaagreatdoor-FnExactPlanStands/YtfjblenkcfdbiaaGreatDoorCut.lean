
/-
  A text cut at each space: the specification's l2Cut.
-/
import Derived.Test.YtfjblenkcfdbiaaGreatDoorLeaf
namespace Go.Proofs.YtfjblenkcfdbiaaGreatDoor
open Go.RowKit

/-- v is a slice of texts, in w. -/
def StrsAt (w : World) (v : Value) (ws : List ByteArray) : Prop :=
  ∃ g off cap, v = .slice (some ⟨g, off, none⟩) ws.length cap ∧ ws.length ≤ cap ∧ cap ≤ maxLen ∧ ∀ i x, ws[i]? = some x → w.cell? ⟨g, off + i, none⟩ = some (.string x)
theorem StrsAt.keep {w w' : World} {v : Value} {ws : List ByteArray} (h : StrsAt w v ws) (hb : Below w.heap.size w w') : StrsAt w' v ws := by
  obtain ⟨g, off, cap, rfl, h1, h2, h3⟩ := h
  exact ⟨g, off, cap, rfl, h1, h2, fun i x hx => cell_keep hb (Nat.le_refl _) (h3 i x hx)⟩

/-- Pieces of bytes, cut at each space; cur is the piece at hand. -/
def cutA (cur : List UInt8) : List UInt8 → List (List UInt8)
  | [] => [cur]
  | c :: r => if c = 32 then cur :: cutA [] r else cutA (cur ++ [c]) r

def bytes (s : ByteArray) : List UInt8 := s.data.toList
theorem bytes_inj {a b : ByteArray} (h : bytes a = bytes b) : a = b := ByteArray.ext (Array.toList_inj.1 h)
theorem bytes_length (s : ByteArray) : (bytes s).length = s.size := by simp [bytes]
theorem bytes_extract (s : ByteArray) (a b : Nat) : bytes (s.extract a b) = ((bytes s).drop a).take (b - a) := by
  simp [bytes]

theorem drop_cons (s : ByteArray) (k : Nat) (h : k < s.size) : (bytes s).drop k = s[k] :: (bytes s).drop (k + 1) := by
  have hl : k < (bytes s).length := by rw [bytes_length]; exact h
  rw [List.drop_eq_getElem_cons hl]
  rfl
theorem piece_snoc (s : ByteArray) (a k : Nat) (ha : a ≤ k) (h : k < s.size) : bytes (s.extract a (k + 1)) = bytes (s.extract a k) ++ [s[k]] := by
  rw [bytes_extract, bytes_extract]
  have hl : k - a < ((bytes s).drop a).length := by rw [List.length_drop, bytes_length]; omega
  rw [show k + 1 - a = k - a + 1 by omega, List.take_succ_eq_append_getElem hl]
  congr 2
  simp only [List.getElem_drop]
  have : a + (k - a) = k := by omega
  simp only [this]
  rfl

/-- What is cut so far, the piece at hand, and the rest come to the whole. -/
def CutInv (s : ByteArray) (fr k : Nat) (P : List ByteArray) : Prop := P.map bytes ++ cutA (bytes (s.extract fr k)) ((bytes s).drop k) = cutA [] (bytes s)
theorem CutInv.start (s : ByteArray) : CutInv s 0 0 [] := by
  unfold CutInv
  rw [bytes_extract]
  simp
theorem CutInv.space {s : ByteArray} {fr k : Nat} {P : List ByteArray} (h : CutInv s fr k P) (hk : k < s.size) (hc : s[k] = 32) : CutInv s (k + 1) (k + 1) (P ++ [s.extract fr k]) := by
  unfold CutInv at h ⊢
  rw [drop_cons s k hk, cutA, if_pos hc] at h
  rw [← h, bytes_extract s (k + 1) (k + 1)]
  simp
theorem CutInv.other {s : ByteArray} {fr k : Nat} {P : List ByteArray} (h : CutInv s fr k P) (ha : fr ≤ k) (hk : k < s.size) (hc : ¬ s[k] = 32) : CutInv s fr (k + 1) P := by
  unfold CutInv at h ⊢
  rw [drop_cons s k hk, cutA, if_neg hc] at h
  rw [← h, piece_snoc s fr k ha hk]
theorem CutInv.fin {s : ByteArray} {fr : Nat} {P : List ByteArray} (h : CutInv s fr s.size P) : (P ++ [s.extract fr s.size]).map bytes = cutA [] (bytes s) := by
  unfold CutInv at h
  rw [List.drop_of_length_le (by rw [bytes_length]; omega), cutA] at h
  rw [← h]; simp

theorem u8_space (c : UInt8) : (((c.toNat : Nat) : Int) == 32) = (c == 32) := by
  rw [Bool.eq_iff_iff]
  simp only [beq_iff_eq]
  constructor
  · intro h
    apply UInt8.toNat_inj.1
    have : c.toNat = 32 := by omega
    simpa using this
  · rintro rfl; rfl

theorem own_ge {w : World} {base : Nat} {e : TypeId} {size : Nat} {v : Value} {n : Nat} {xs : List Value} (h : w.ownsRow base e size v n xs) : ∀ k, v.ownBlock = some k → base ≤ k := by
  intro k hk
  rcases h.2 with ⟨rfl, _⟩ | ⟨g, cap, cur, rfl, hg, _⟩
  · cases hk
  · cases hk; exact hg
theorem strs_of_own {w : World} {base : Nat} {e : TypeId} {v : Value} {ws : List ByteArray} (h : w.ownsRow base e 1 v ws.length (ws.map Value.string)) (hne : ws ≠ []) : StrsAt w v ws := by
  rcases h.2 with ⟨_, h0⟩ | ⟨g, cap, cur, rfl, _, hb, hn, hc, _, ht⟩
  · exact absurd (List.length_eq_zero_iff.1 h0) hne
  · refine ⟨g, 0, cap, rfl, hn, hc, fun i x hx => ?_⟩
    have hi : i < ws.length := (List.getElem?_eq_some_iff.1 hx).1
    have h1 : cur.toList[i]? = some (.string x) := by
      have h2 : (cur.toList.take (ws.length * 1))[i]? = some (.string x) := by rw [ht]; simp [hx]
      rw [List.getElem?_take] at h2
      simpa [hi] using h2
    simp only [Nat.zero_add, World.cell?, hb]
    simpa using h1

theorem infoStr : (Tryz.prog.info? 9).map (fun i => (i.zero, i.size, i.bytes)) = some (some (.string ByteArray.empty), 1, 16) := by kernel_rfl

set_option maxHeartbeats 1600000 in
theorem l2Cut_any (s : ByteArray) (w : World) (hs : s.size ≤ 1048576) :
    Calls Tryz.prog 68 #[.string s, .int .u8 32] w fun e w' => ∃ v ws, e = .returned v ∧ StrsAt w' v ws ∧ ws.map bytes = cutA [] (bytes s) ∧ Below w.heap.size w w' := by
  obtain ⟨i0, hi, hz0, hz1, hz2⟩ := info_parts infoStr
  go_enter Tryz.func68, Tryz.ntmps68
  go_wp2
  go_loopw [5, 6, 7] (fun o f i wr => ∃ (k fr : Nat) (P : List ByteArray), fr ≤ k ∧ k ≤ s.size ∧ i = .int .i64 k ∧ f = .int .i64 fr ∧ P.length ≤ k ∧ wr.ownsRow w.heap.size 9 1 o P.length (P.map Value.string) ∧ Below w.heap.size w wr ∧ Hid (CutInv s fr k P)) (fun _ _ i _ => s.size - (intOf i).toNat)
  case atStart => exact ⟨0, 0, [], Nat.le_refl _, Nat.zero_le _, rfl, rfl, Nat.le_refl _, World.ownsRow_made w #[] 0 (Nat.le_refl _) (Nat.zero_le _) rfl, (Below.refl _ _).alloc (Nat.le_refl _) _, CutInv.start s⟩
  case round =>
    obtain ⟨k, fr, P, hfk, hk, rfl, rfl, hpl, hown, hb, HI⟩ := hrel
    by_cases hlt : k < s.size
    · by_cases hc : s[k] = 32
      · have h1 : (((s[k].toNat : Nat) : Int) == 32) = true := by rw [u8_space]; simpa using hc
        have HC : Hid (s[k] = 32) := hc
        clear hc
        go_wp2_with (at_builtin; refine wpList_append_own _ rfl _ _ 43 rfl w.heap.size 9 i0 (.string ByteArray.empty) 1 16 Tryz.underlying43 hi hz0 hz1 hz2 rfl (by decide) _ _ _ rfl (hown.alloc _) ⟨wr.heap.size, 0, none⟩ 1 1 [.string (s.extract fr k)] rfl rfl (cell_one_new _ _ _) (fun x hx => by simp at hx; subst hx; rfl) (by unfold maxLen; omega) (by omega) (by have := hb.size; simp; omega) ?_; intro v' w3 hown' hgrow3 hnil3)
        refine ⟨⟨k + 1, k + 1, P ++ [s.extract fr k], Nat.le_refl _, by omega, by go_num, by go_num, by simp; omega, ?_, (hb.alloc hb.size _).grown hgrow3 (by have := hb.size; simp; omega) (own_ge hown), HI.out.space hlt HC.out⟩, by simp [intOf]; omega⟩
        simpa using hown'
      · have h1 : (((s[k].toNat : Nat) : Int) == 32) = false := by rw [u8_space]; simpa using hc
        have HC : Hid (¬ s[k] = 32) := hc
        clear hc
        go_wp2
        exact ⟨⟨k + 1, fr, P, by omega, by omega, by go_num, rfl, by omega, hown, hb, HI.out.other hfk hlt HC.out⟩, by simp [intOf]; omega⟩
    · have HK : Hid (k = s.size) := by show k = s.size; omega
      go_wp2_with (at_builtin; refine wpList_append_own _ rfl _ _ 43 rfl w.heap.size 9 i0 (.string ByteArray.empty) 1 16 Tryz.underlying43 hi hz0 hz1 hz2 rfl (by decide) _ _ _ rfl (hown.alloc _) ⟨wr.heap.size, 0, none⟩ 1 1 [.string (s.extract fr s.size)] rfl rfl (cell_one_new _ _ _) (fun x hx => by simp at hx; subst hx; rfl) (by unfold maxLen; omega) (by omega) (by have := hb.size; simp; omega) ?_; intro v' w3 hown' hgrow3 hnil3)
      go_ret
      refine ⟨v', P ++ [s.extract fr s.size], rfl, strs_of_own (base := w.heap.size) (e := 9) (by simpa using hown') (by simp), ?_, (hb.alloc hb.size _).grown hgrow3 (by have := hb.size; simp; omega) (own_ge hown)⟩
      have := HI.out
      rw [HK.out] at this
      exact this.fin
end Go.Proofs.YtfjblenkcfdbiaaGreatDoor
