
/-
  Plain: what fits has a form; a change taken into a book that says nothing.
-/
import Derived.Test.YtibpkhmiahamcaaGreatDoorRt
import Derived.Test.YtibpkhmiahamcaaGreatDoorTake1
namespace Go.Proofs.YtibpkhmiahamcaaGreatDoor
open Go.RowKit
set_option linter.unusedSimpArgs false
set_option linter.unusedVariables false

theorem cut_byte : ∀ (l cur : List UInt8) (c : UInt8), (c ∈ cur ∨ c ∈ l) → c ≠ 32 → ∃ x ∈ cutA cur l, c ∈ x
  | [], cur, c, h, _ => by
    rcases h with h | h
    · exact ⟨cur, by simp [cutA], h⟩
    · cases h
  | d :: l, cur, c, h, hc => by
    rw [cutA]
    split
    · rename_i hd
      rcases h with h | h
      · exact ⟨cur, List.mem_cons_self .., h⟩
      · rcases List.mem_cons.1 h with e | h
        · exact absurd (e.trans (by simpa using hd)) hc
        · obtain ⟨x, hx, hcx⟩ := cut_byte l [] c (.inr h) hc
          exact ⟨x, List.mem_cons_of_mem _ hx, hcx⟩
    · refine cut_byte l _ c ?_ hc
      rcases h with h | h
      · exact .inl (List.mem_append_left _ h)
      · rcases List.mem_cons.1 h with e | h
        · exact .inl (List.mem_append_right _ (by simp [e]))
        · exact .inr h
theorem word_byte {s : ByteArray} {c : UInt8} (h : c ∈ bytes s) (hc : c ≠ 32) : ∃ x ∈ cutW s, c ∈ bytes x := by
  obtain ⟨x, hx, hcx⟩ := cut_byte (bytes s) [] c (.inr h) hc
  exact ⟨⟨⟨x⟩⟩, List.mem_map.2 ⟨x, hx, rfl⟩, hcx⟩
theorem name_no10 {s : ByteArray} (h : nameB s = true) : 1 ≤ s.size ∧ ∀ c ∈ bytes s, c ≠ 10 := by
  unfold nameB at h
  rw [Bool.and_eq_true] at h
  refine ⟨by have := h.1; simp [inB] at this; omega, fun c hc e => ?_⟩
  have h2 := List.all_eq_true.1 h.2 c hc
  rw [e] at h2
  revert h2
  decide
theorem dec_no10 {s : ByteArray} (h : decB s = true) : 1 ≤ s.size ∧ ∀ c ∈ bytes s, c ≠ 10 := by
  unfold decB at h
  rw [Bool.and_eq_true, Bool.and_eq_true] at h
  refine ⟨by have := h.1; simp [inB] at this; omega, fun c hc e => ?_⟩
  have h2 := List.all_eq_true.1 h.2.2 c hc
  rw [e] at h2
  revert h2
  decide
theorem has_name {l : List Tri} {m : Nat} {v : ByteArray} (hn : namesB l m = true) (h : hasB l v = true) : nameB v = true := by
  unfold hasB at h
  rw [Bool.and_eq_true] at h
  have h1 := of_decide_eq_true h.1
  have h2 := of_decide_eq_true h.2
  unfold namesB at hn
  rw [Bool.and_eq_true] at hn
  have h3 := allB_get hn.2 _ h1
  rw [Bool.and_eq_true] at h3
  rw [← h2]
  exact h3.1
theorem val_of {s : ByteArray} (h0 : 1 ≤ s.size) (h : ∀ c ∈ bytes s, c ≠ 10) : valB s = true := by
  unfold valB
  rw [Bool.and_eq_true, Bool.not_eq_true', Bool.not_eq_true']
  refine ⟨?_, ?_⟩
  · cases hl : s.toList with
    | nil =>
      have h1 : s.toList.length = s.size := by rw [ByteArray.toList_eq]; exact bytes_length s
      rw [hl] at h1
      rw [← h1] at h0
      cases h0
    | cons a l => rfl
  · unfold oddB
    rw [List.any_eq_false]
    intro c hc
    simpa using h c hc
theorem words_no10 {s : ByteArray} (hl : 2 ≤ (cutW s).length) (h : ∀ x ∈ cutW s, ∀ c ∈ bytes x, c ≠ 10) : valB s = true := by
  refine val_of ?_ (fun c hc e => ?_)
  · rcases Nat.eq_zero_or_pos s.size with e | e
    · have h1 : bytes s = [] := List.length_eq_zero_iff.1 (by rw [bytes_length]; exact e)
      unfold cutW at hl
      rw [h1] at hl
      simp [cutA] at hl
    · exact e
  · obtain ⟨x, hx, hcx⟩ := word_byte hc (by rw [e]; decide)
    exact h x hx c hcx e
theorem wat_mem {ws : List ByteArray} {x : ByteArray} (h : x ∈ ws) : ∃ i, i < ws.length ∧ wat ws i = x := by
  obtain ⟨i, hi, e⟩ := List.getElem_of_mem h
  exact ⟨i, hi, by simp [wat, hi, e]⟩
theorem fit_form {ks ps : List Tri} {c : Chg} (hb : baseB ks ps = true) (h : fitB ks ps c = true) : formB c = true := by
  unfold baseB kindsB pointsB at hb
  simp only [Bool.and_eq_true] at hb
  obtain ⟨⟨hk, -⟩, hp, -⟩ := hb
  unfold fitB at h
  rw [Bool.and_eq_true, Bool.and_eq_true] at h
  obtain ⟨hf, hn, hv⟩ := h
  have key : inB c.what 1 5 = true ∧ valB c.v = true := by
    unfold valB2 at hv
    split at hv
    · rename_i e
      obtain ⟨h0, h1⟩ := name_no10 (has_name hk hv)
      exact ⟨by rw [e]; rfl, val_of h0 h1⟩
    split at hv
    · rename_i e
      unfold timeB at hv
      simp only [Bool.and_eq_true, decide_eq_true_eq] at hv
      obtain ⟨hl, h0, h1, -⟩ := hv
      refine ⟨by rw [e]; rfl, words_no10 (by omega) (fun x hx => ?_)⟩
      obtain ⟨i, hi, rfl⟩ := wat_mem hx
      rcases (show i = 0 ∨ i = 1 by omega) with rfl | rfl
      · exact (dec_no10 h0).2
      · exact (dec_no10 h1).2
    split at hv
    · rename_i e
      unfold levelB at hv
      rw [Bool.and_eq_true] at hv
      obtain ⟨h0, h1⟩ := dec_no10 hv.1
      exact ⟨by rw [e]; rfl, val_of h0 h1⟩
    split at hv
    · rename_i e
      unfold routeB at hv
      rw [Bool.and_eq_true] at hv
      have hl : 2 ≤ (cutW c.v).length := by have := hv.1; simp [inB] at this; omega
      refine ⟨by rw [e]; rfl, words_no10 hl (fun x hx => ?_)⟩
      obtain ⟨i, hi, rfl⟩ := wat_mem hx
      have h2 := allB_get hv.2 i hi
      unfold stepB at h2
      rw [Bool.and_eq_true] at h2
      exact (name_no10 (has_name hp h2.1)).2
    split at hv
    · rename_i e
      unfold stateB at hv
      rw [Bool.or_eq_true] at hv
      refine ⟨by rw [e]; rfl, ?_⟩
      rcases hv with h | h <;> (rw [of_decide_eq_true h]; exact val_of (by decide) (by decide))
    · cases hv
  unfold formB
  rw [key.1, hf, hn, key.2]
  rfl
theorem takeC_none (ks ps : List Tri) (c : Chg) : (takeC ks ps [] c = 0) = ((baseB ks ps && fitB ks ps c) = true) := by
  unfold takeC
  have h1 : bookB ks ps [] = baseB ks ps := by
    unfold bookB
    rw [show (namesE [] && allB ([] : List Ent).length fun i => fieldsB ks ps (eat [] i).name (eat [] i).fs) = true from rfl, Bool.and_true]
  rw [h1]
  cases baseB ks ps <;> cases fitB ks ps c <;> simp [putE]
end Go.Proofs.YtibpkhmiahamcaaGreatDoor
