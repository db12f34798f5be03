/-
  For the proof of take_holds: part 15 (Fill1, Cbase).
-/
import Derived.Laws.Tables
import Derived.Laws.CopyOwn
import Derived.Test.YtfjblenkcfdbiaaGreatRowTakeJ14
/-
  impl: a book is made, whatever makes its entries.
-/
namespace Go.Proofs.YtfjblenkcfdbiaaGreat
open Go.RowKit
set_option linter.unusedSimpArgs false
set_option linter.unusedVariables false

theorem toHidF {P : Prop} (h : P) : Hid P := h
theorem putAll_sorted {S : List Chg} (L : List Chg) (hS : SortedC S) : SortedC (L.foldl putC S) := by
  induction L generalizing S with
  | nil => exact hS
  | cons c L ih => exact ih (putC_sorted c hS)
theorem fill_step {L : List Chg} {j : Nat} (hj : j < L.length) (S : List Chg) : (L.take (j + 1)).foldl putC S = putC ((L.take j).foldl putC S) (cat' L j) := by
  have : L[j] = cat' L j := by simp [cat', hj]
  rw [List.take_succ_eq_append_getElem hj, List.foldl_append, this]; rfl
def lat' (Ls : List (List Chg)) (k : Nat) : List Chg := Ls.getD k []
theorem lat_some {Ls : List (List Chg)} {k : Nat} (h : k < Ls.length) : Ls[k]? = some (lat' Ls k) := by simp [lat', h]
theorem flat_step {Ls : List (List Chg)} {k : Nat} (h : k < Ls.length) : (Ls.take (k + 1)).flatten = (Ls.take k).flatten ++ lat' Ls k := by
  have : Ls[k] = lat' Ls k := by simp [lat', h]
  rw [List.take_succ_eq_append_getElem h, List.flatten_append, this]; simp
theorem flat_take (Ls : List (List Chg)) (k : Nat) : (Ls.take k).flatten.length ≤ Ls.flatten.length := by
  have h := congrArg List.length (congrArg List.flatten (List.take_append_drop k Ls))
  rw [List.flatten_append, List.length_append] at h
  omega

set_option maxRecDepth 100000 in
set_option maxHeartbeats 6400000 in
theorem bookOf_any (vk vp vl : Value) (Ls : List (List Chg)) (w : World) (hvk : ∃ a n c, vk = .slice a n c) (hvp : ∃ a n c, vp = .slice a n c) (hL : ListsAt w vl Ls) (hlen : Ls.flatten.length ≤ 4194304) (hLl : Ls.length ≤ 1048576) (hLe : ∀ L ∈ Ls, L.length ≤ 2097152) (hfit : ∀ L ∈ Ls, ∀ c ∈ L, KeyFit c ∧ 1 ≤ c.num)
    (R : Value → Value → Value → World → Prop)
    (GR : ∀ wx n, n ≤ Ls.flatten.length → FillAt w wx #[vk, vp] n (Ls.flatten.foldl putC []) → Calls Tryz.prog 72 #[.agg #[vk, vp]] wx fun e w1 => ∃ a1 n1 c1 a2 n2 c2, e = .returned (.agg #[.slice a1 n1 c1, .slice a2 n2 c2]) ∧ Calls Tryz.prog 73 #[.map (some (w.heap.size + 2))] w1 fun e w2 => ∃ a3 n3 c3, e = .returned (.slice a3 n3 c3) ∧ w2.heap[w.heap.size + 1]? = some (.cells #[.slice none 0 0, .slice none 0 0, .slice none 0 0] 39 (0, 0)) ∧ R (.slice a1 n1 c1) (.slice a2 n2 c2) (.slice a3 n3 c3) w2) :
    Calls Tryz.prog 34 #[.agg #[vk, vp], vl] w fun e w' => ∃ x y z w2, e = .returned (.agg #[x, y, z]) ∧ R x y z w2 ∧ w' = w2.setRow (w.heap.size + 1) #[x, y, z] := by
  obtain ⟨ak, nk, ck, rfl⟩ := hvk
  obtain ⟨ap, np, cp, rfl⟩ := hvp
  have HGR := toHidF GR
  clear GR
  have HF0 : Hid (FillAt w (((w.alloc (.cells #[.slice ak nk ck, .slice ap np cp] 36)).alloc (.cells #[.slice none 0 0, .slice none 0 0, .slice none 0 0] 39)).alloc (.map #[] 0)) #[.slice ak nk ck, .slice ap np cp] 0 []) := FillAt.start w _
  obtain ⟨al, cl, rfl, hlc, hcm, hc⟩ := hL
  unfold maxLen at hcm
  have HC : Hid (∀ (i : Nat) (L : List Chg), Ls[i]? = some L → ∃ b off u, al = some ⟨b, off, none⟩ ∧ w.cell? ⟨b, off + i, none⟩ = some u ∧ ChgsAt w u L) := hc
  have HFT : Hid (∀ L ∈ Ls, L.length ≤ 2097152 ∧ ∀ c ∈ L, KeyFit c ∧ 1 ≤ c.num) := fun L h => ⟨hLe L h, hfit L h⟩
  have HLN : Hid (∀ k, (Ls.take k).flatten.length ≤ 4194304) := fun k => Nat.le_trans (flat_take Ls k) hlen
  clear hc hfit hLe
  have hmm := @run_makeMap Tryz.prog
  go_enter Tryz.func34, Tryz.ntmps34
  go_wp2
  go_loopw [7, 9, 10, 14] (fun _ _ _ i wr => ∃ k n : Nat, k ≤ Ls.length ∧ i = .int .i64 k ∧ n ≤ (Ls.take k).flatten.length ∧ FillAt w wr #[.slice ak nk ck, .slice ap np cp] n ((Ls.take k).flatten.foldl putC [])) (fun _ _ _ i _ => Ls.length - (intOf i).toNat)
  case atStart => exact ⟨0, 0, Nat.zero_le _, rfl, Nat.zero_le _, HF0.out⟩
  case round =>
    clear HF0
    obtain ⟨k, n, hk, rfl, hn, hF⟩ := hrel
    have HF : Hid (FillAt w wr #[.slice ak nk ck, .slice ap np cp] n ((Ls.take k).flatten.foldl putC [])) := hF
    clear hF
    by_cases hlt : k < Ls.length
    · obtain ⟨b, off, u, rfl, d0', hu⟩ := HC.out k _ (lat_some hlt)
      have d0 := cell_keep HF.out.below (Nat.le_refl _) d0'
      have HFK := HFT.out (lat' Ls k) (List.mem_of_getElem? (lat_some hlt))
      have HFL : Hid (∀ c ∈ lat' Ls k, KeyFit c ∧ 1 ≤ c.num) := HFK.2
      have hll := HFK.1
      have HST : Hid ((Ls.take (k + 1)).flatten = (Ls.take k).flatten ++ lat' Ls k ∧ (Ls.take (k + 1)).flatten.length ≤ 4194304) := ⟨flat_step hlt, HLN.out (k + 1)⟩
      have HSO : Hid (SortedC ((Ls.take k).flatten.foldl putC [])) := putAll_sorted _ List.Pairwise.nil
      have hn2 : n + (lat' Ls k).length ≤ 4194304 := by
        have h1 := HST.out.2
        rw [HST.out.1, List.length_append] at h1
        omega
      clear HFK d0'
      obtain ⟨ua, uc, rfl, hu1, hu2, hu3⟩ := hu
      unfold maxLen at hu2
      have HU : Hid (∀ (i : Nat) (c : Chg), (lat' Ls k)[i]? = some c → ∃ b off, ua = some ⟨b, off, none⟩ ∧ ChgAt w b (off + i * 4) c) := hu3
      clear hu3
      have hk0 : (0 : Int) ≤ (k : Int) := by omega
      have hk1 : (k : Int) < (Ls.length : Int) := by omega
      generalize hLk : lat' Ls k = L at *
      generalize hS0 : (Ls.take k).flatten.foldl putC [] = S0 at *
      go_wp2
      go_loopw [9, 10, 20] (fun _ _ i wx => ∃ j m : Nat, j ≤ L.length ∧ i = .int .i64 j ∧ m ≤ n + j ∧ FillAt w wx #[.slice ak nk ck, .slice ap np cp] m ((L.take j).foldl putC S0)) (fun _ _ i _ => L.length - (intOf i).toNat)
      case atStart => exact ⟨0, n, Nat.zero_le _, rfl, Nat.le_refl _, HF.out⟩
      case round =>
        clear HF d0
        obtain ⟨j, m, hj, rfl, hm, hF⟩ := hrel
        have HF : Hid (FillAt w wr #[.slice ak nk ck, .slice ap np cp] m ((L.take j).foldl putC S0)) := hF
        clear hF
        by_cases hjl : j < L.length
        · obtain ⟨cb, co, rfl, hcc⟩ := HU.out j _ (cat_get hjl)
          obtain ⟨g0, g1, g2, g3⟩ := hcc.keep HF.out.below (Nat.le_refl _)
          have HQ : Hid (KeyFit (cat' L j) ∧ 1 ≤ (cat' L j).num) := HFL.out _ (List.mem_of_getElem? (cat_get hjl))
          have HPS : Hid ((L.take (j + 1)).foldl putC S0 = putC ((L.take j).foldl putC S0) (cat' L j)) := fill_step hjl S0
          have HSJ : Hid (SortedC ((L.take j).foldl putC S0)) := putAll_sorted _ HSO.out
          clear hcc
          generalize cat' L j = c at *
          generalize (L.take j).foldl putC S0 = S at *
          have hj0 : (0 : Int) ≤ (j : Int) := by omega
          have hj1 : (j : Int) < (L.length : Int) := by omega
          go_wp2_with fail
          refine (fieldOf_any c _).mono ?_
          rintro e w2 ⟨rfl, hb2⟩
          have BA : Hid (Below wr.heap.size wr (wr.alloc (.cells #[.string c.f, .int .i64 c.what, .int .i64 c.num, .string c.v] 43))) := (Below.refl _ _).alloc (Nat.le_refl _) _
          have B3 : Hid (Below w2.heap.size w2 (w2.alloc (.cells #[.int .i64 c.what, .int .i64 c.num, .string c.v] 62))) := (Below.refl _ _).alloc (Nat.le_refl _) _
          have F3 : Hid (FillAt w (w2.alloc (.cells #[.int .i64 c.what, .int .i64 c.num, .string c.v] 62)) #[.slice ak nk ck, .slice ap np cp] m S) := ((HF.out.call BA.out).call hb2).call B3.out
          have X2 : w2.heap[wr.heap.size]? = some (.cells #[.string c.f, .int .i64 c.what, .int .i64 c.num, .string c.v] 43) := (hb2.block _ (by simp)).trans (heap_newF wr _)
          have hz2 : wr.heap.size < w2.heap.size := (Array.getElem?_eq_some_iff.1 X2).1
          have X3 : Hid ((w2.alloc (.cells #[.int .i64 c.what, .int .i64 c.num, .string c.v] 62)).heap[wr.heap.size]? = some (.cells #[.string c.f, .int .i64 c.what, .int .i64 c.num, .string c.v] 43) ∧ (w2.alloc (.cells #[.int .i64 c.what, .int .i64 c.num, .string c.v] 62)).heap[w2.heap.size]? = some (.cells #[.int .i64 c.what, .int .i64 c.num, .string c.v] 62)) := ⟨(B3.out.block _ hz2).trans X2, heap_newF w2 _⟩
          obtain ⟨p0, p1, p2, p3⟩ : (w2.cell? ⟨wr.heap.size, 0, none⟩ = some (.string c.f) ∧ w2.cell? ⟨wr.heap.size, 1, none⟩ = some (.int .i64 c.what) ∧ w2.cell? ⟨wr.heap.size, 2, none⟩ = some (.int .i64 c.num) ∧ w2.cell? ⟨wr.heap.size, 3, none⟩ = some (.string c.v)) := by simp [World.cell?, X2]
          have hzr := HF.out.z
          clear HF BA hb2 g0 g1 g2 g3 X2
          go_wp2
          generalize (w2.alloc (.cells #[.int .i64 c.what, .int .i64 c.num, .string c.v] 62)) = w3 at *
          clear p0 p1 p2 p3
          have HS3 : Hid ((w3.cell? ⟨wr.heap.size, 0, none⟩ = some (.string c.f) ∧ w3.cell? ⟨wr.heap.size, 1, none⟩ = some (.int .i64 c.what) ∧ w3.cell? ⟨wr.heap.size, 2, none⟩ = some (.int .i64 c.num) ∧ w3.cell? ⟨wr.heap.size, 3, none⟩ = some (.string c.v)) ∧ (w3.cell? ⟨w2.heap.size, 0, none⟩ = some (.int .i64 c.what) ∧ w3.cell? ⟨w2.heap.size, 1, none⟩ = some (.int .i64 c.num) ∧ w3.cell? ⟨w2.heap.size, 2, none⟩ = some (.string c.v))) := by
            refine ⟨?_, ?_⟩
            · simp [World.cell?, X3.out.1]
            · simp [World.cell?, X3.out.2]
          refine wp_region_noPanic ?_
          refine wp_region_held_drew (S := fun w' => (w'.cell? ⟨wr.heap.size, 0, none⟩ = some (.string c.f) ∧ w'.cell? ⟨wr.heap.size, 1, none⟩ = some (.int .i64 c.what) ∧ w'.cell? ⟨wr.heap.size, 2, none⟩ = some (.int .i64 c.num) ∧ w'.cell? ⟨wr.heap.size, 3, none⟩ = some (.string c.v)) ∧ (w'.cell? ⟨w2.heap.size, 0, none⟩ = some (.int .i64 c.what) ∧ w'.cell? ⟨w2.heap.size, 1, none⟩ = some (.int .i64 c.num) ∧ w'.cell? ⟨w2.heap.size, 2, none⟩ = some (.string c.v))) (by kernel_rfl) ?_ (fun hHeld => ?_)
          · exact HS3.out
          refine wpAnyH_take (i := 0) (v := ?_) rfl (by kernel_rfl) (by kernel_rfl) (by kernel_rfl) (fun _ _ _ h => h) (Or.inl ⟨by rfl, ?_⟩) (by assumption) ?_
          rotate_left
          · intro w hSw; (try dsimp only at hSw); go_simp; try with_reducible rfl
          simp only [Act.put, List.setIfInBounds_toArray, List.set_cons_zero, List.set_cons_succ, List.getElem_toArray, List.getElem_cons_succ, List.getElem_cons_zero]
          refine wpAnyH_take (i := 1) (v := ?_) rfl (by kernel_rfl) (by kernel_rfl) (by kernel_rfl) (fun _ _ _ h => h) (Or.inl ⟨by rfl, ?_⟩) (by assumption) ?_
          rotate_left
          · intro w hSw; (try dsimp only at hSw); go_simp; try with_reducible rfl
          simp only [Act.put, List.setIfInBounds_toArray, List.set_cons_zero, List.set_cons_succ, List.getElem_toArray, List.getElem_cons_succ, List.getElem_cons_zero]
          refine wpAnyH_take (i := 2) (v := ?_) rfl (by kernel_rfl) (by kernel_rfl) (by kernel_rfl) (fun _ _ _ h => h) (Or.inl ⟨by rfl, ?_⟩) (by assumption) ?_
          rotate_left
          · intro w hSw; (try dsimp only at hSw); go_simp; try with_reducible rfl
          simp only [Act.put, List.setIfInBounds_toArray, List.set_cons_zero, List.set_cons_succ, List.getElem_toArray, List.getElem_cons_succ, List.getElem_cons_zero]
          refine wpAnyH_ready (rs := [3]) (by kernel_rfl) (by simp) ?_
          refine AllReadyH.cons rfl (fun K hK => ?_) AllReadyH.nil
          go_simp
          refine (keyOf_any c _).mono ?_
          rintro e w4 ⟨rfl, hb4'⟩
          have hb4 : Below w3.heap.size w3 w4 := ⟨hb4'.os, hb4'.tape, hb4'.output, hb4'.size, hb4'.block⟩
          have F4 : Hid (FillAt w w4 #[.slice ak nk ck, .slice ap np cp] m S) := F3.out.call hb4
          have X4 : Hid (w4.heap[wr.heap.size]? = some (.cells #[.string c.f, .int .i64 c.what, .int .i64 c.num, .string c.v] 43) ∧ w4.heap[w2.heap.size]? = some (.cells #[.int .i64 c.what, .int .i64 c.num, .string c.v] 62)) := ⟨(hb4.block _ (Array.getElem?_eq_some_iff.1 X3.out.1).1).trans X3.out.1, (hb4.block _ (Array.getElem?_eq_some_iff.1 X3.out.2).1).trans X3.out.2⟩
          have HS4 : (w4.cell? ⟨wr.heap.size, 0, none⟩ = some (.string c.f) ∧ w4.cell? ⟨wr.heap.size, 1, none⟩ = some (.int .i64 c.what) ∧ w4.cell? ⟨wr.heap.size, 2, none⟩ = some (.int .i64 c.num) ∧ w4.cell? ⟨wr.heap.size, 3, none⟩ = some (.string c.v)) ∧ (w4.cell? ⟨w2.heap.size, 0, none⟩ = some (.int .i64 c.what) ∧ w4.cell? ⟨w2.heap.size, 1, none⟩ = some (.int .i64 c.num) ∧ w4.cell? ⟨w2.heap.size, 2, none⟩ = some (.string c.v)) := by
            refine ⟨?_, ?_⟩
            · simp [World.cell?, X4.out.1]
            · simp [World.cell?, X4.out.2]
          refine hK.out _ _ HS4 (fun hHeld4 => ?_)
          clear hK K hHeld hb4 hb4' F3 X3 HS3 HS4 B3
          have hlk : (Instr.lookup 104 (.map (some (w.heap.size + 1 + 1))) (.agg #[.string c.f, .int .i64 c.what]) false).run Tryz.prog w4 = .ok (.agg #[.int .i64 (getF S c).what, .int .i64 (getF S c).num, .string (getF S c).v]) w4 := F4.out.m.lookup c HQ.out.1
          refine wpAnyH_ready (rs := [4]) (by kernel_rfl) (by simp) ?_
          refine AllReadyH.cons rfl (fun K hK => ?_) AllReadyH.nil
          go_simp
          refine hK.out _ _ hHeld4 (fun hHeld4' => ?_)
          clear hK K hlk
          refine wpAnyH_ready (rs := [5]) (by kernel_rfl) (by simp) ?_
          refine AllReadyH.cons rfl (fun K hK => ?_) AllReadyH.nil
          go_simp
          refine (later_any c (chgOf ⟨#[]⟩ (getF S c)) _).mono ?_
          rintro e w5 ⟨rfl, hb5⟩
          rw [lat_get HQ.out.2]
          have F5 : Hid (FillAt w w5 #[.slice ak nk ck, .slice ap np cp] m S) := F4.out.call hb5
          have X5 : Hid (w5.heap[wr.heap.size]? = some (.cells #[.string c.f, .int .i64 c.what, .int .i64 c.num, .string c.v] 43) ∧ w5.heap[w2.heap.size]? = some (.cells #[.int .i64 c.what, .int .i64 c.num, .string c.v] 62)) := ⟨(hb5.block _ (Array.getElem?_eq_some_iff.1 X4.out.1).1).trans X4.out.1, (hb5.block _ (Array.getElem?_eq_some_iff.1 X4.out.2).1).trans X4.out.2⟩
          have HS5 : Hid ((w5.cell? ⟨wr.heap.size, 0, none⟩ = some (.string c.f) ∧ w5.cell? ⟨wr.heap.size, 1, none⟩ = some (.int .i64 c.what) ∧ w5.cell? ⟨wr.heap.size, 2, none⟩ = some (.int .i64 c.num) ∧ w5.cell? ⟨wr.heap.size, 3, none⟩ = some (.string c.v)) ∧ (w5.cell? ⟨w2.heap.size, 0, none⟩ = some (.int .i64 c.what) ∧ w5.cell? ⟨w2.heap.size, 1, none⟩ = some (.int .i64 c.num) ∧ w5.cell? ⟨w2.heap.size, 2, none⟩ = some (.string c.v))) := by
            refine ⟨?_, ?_⟩
            · simp [World.cell?, X5.out.1]
            · simp [World.cell?, X5.out.2]
          refine hK.out _ _ HS5.out (fun hHeld5 => ?_)
          clear hK K hHeld4 hHeld4' hHeld5 hb5 F4 X4
          refine wpAnyH_done (by kernel_rfl) ?_ _
          refine NoPanic.normal ?_
          cases hnew : newB S c
          · have HFI : Hid (FillAt w w5 #[.slice ak nk ck, .slice ap np cp] m ((L.take (j + 1)).foldl putC S0)) := by
              show FillAt _ _ _ _ _
              rw [HPS.out, putC_old HSJ.out hnew]; exact F5.out
            clear hnew F5 HS5 X5
            go_wp2
            exact ⟨⟨j + 1, m, by omega, by go_num, by omega, HFI.out⟩, by simp [intOf]; omega⟩
          · have HNW : Hid (newB S c = true) := hnew
            clear hnew
            go_wp2
            refine wp_region_noPanic ?_
            refine wp_region_held_drew (S := fun w' => (w'.cell? ⟨wr.heap.size, 0, none⟩ = some (.string c.f) ∧ w'.cell? ⟨wr.heap.size, 1, none⟩ = some (.int .i64 c.what) ∧ w'.cell? ⟨wr.heap.size, 2, none⟩ = some (.int .i64 c.num) ∧ w'.cell? ⟨wr.heap.size, 3, none⟩ = some (.string c.v)) ∧ (w'.cell? ⟨w2.heap.size, 0, none⟩ = some (.int .i64 c.what) ∧ w'.cell? ⟨w2.heap.size, 1, none⟩ = some (.int .i64 c.num) ∧ w'.cell? ⟨w2.heap.size, 2, none⟩ = some (.string c.v))) (by kernel_rfl) ?_ (fun hHeld => ?_)
            · exact HS5.out
            refine wpAnyH_take (i := 0) (v := ?_) rfl (by kernel_rfl) (by kernel_rfl) (by kernel_rfl) (fun _ _ _ h => h) (Or.inl ⟨by rfl, ?_⟩) (by assumption) ?_
            rotate_left
            · intro w hSw; (try dsimp only at hSw); go_simp; try with_reducible rfl
            simp only [Act.put, List.setIfInBounds_toArray, List.set_cons_zero, List.set_cons_succ, List.getElem_toArray, List.getElem_cons_succ, List.getElem_cons_zero]
            refine wpAnyH_take (i := 1) (v := ?_) rfl (by kernel_rfl) (by kernel_rfl) (by kernel_rfl) (fun _ _ _ h => h) (Or.inl ⟨by rfl, ?_⟩) (by assumption) ?_
            rotate_left
            · intro w hSw; (try dsimp only at hSw); go_simp; try with_reducible rfl
            simp only [Act.put, List.setIfInBounds_toArray, List.set_cons_zero, List.set_cons_succ, List.getElem_toArray, List.getElem_cons_succ, List.getElem_cons_zero]
            refine wpAnyH_take (i := 3) (v := ?_) rfl (by kernel_rfl) (by kernel_rfl) (by kernel_rfl) (fun _ _ _ h => h) (Or.inl ⟨by rfl, ?_⟩) (by assumption) ?_
            rotate_left
            · intro w hSw; (try dsimp only at hSw); go_simp; try with_reducible rfl
            simp only [Act.put, List.setIfInBounds_toArray, List.set_cons_zero, List.set_cons_succ, List.getElem_toArray, List.getElem_cons_succ, List.getElem_cons_zero]
            refine wpAnyH_ready (rs := [2]) (by kernel_rfl) (by simp) ?_
            refine AllReadyH.cons rfl (fun K hK => ?_) AllReadyH.nil
            go_simp
            refine (keyOf_any c _).mono ?_
            rintro e w6 ⟨rfl, hb6'⟩
            have hb6 : Below w5.heap.size w5 w6 := ⟨hb6'.os, hb6'.tape, hb6'.output, hb6'.size, hb6'.block⟩
            have F6 : Hid (FillAt w w6 #[.slice ak nk ck, .slice ap np cp] m S) := F5.out.call hb6
            have X6 : Hid (w6.heap[wr.heap.size]? = some (.cells #[.string c.f, .int .i64 c.what, .int .i64 c.num, .string c.v] 43) ∧ w6.heap[w2.heap.size]? = some (.cells #[.int .i64 c.what, .int .i64 c.num, .string c.v] 62)) := ⟨(hb6.block _ (Array.getElem?_eq_some_iff.1 X5.out.1).1).trans X5.out.1, (hb6.block _ (Array.getElem?_eq_some_iff.1 X5.out.2).1).trans X5.out.2⟩
            have HS6 : (w6.cell? ⟨wr.heap.size, 0, none⟩ = some (.string c.f) ∧ w6.cell? ⟨wr.heap.size, 1, none⟩ = some (.int .i64 c.what) ∧ w6.cell? ⟨wr.heap.size, 2, none⟩ = some (.int .i64 c.num) ∧ w6.cell? ⟨wr.heap.size, 3, none⟩ = some (.string c.v)) ∧ (w6.cell? ⟨w2.heap.size, 0, none⟩ = some (.int .i64 c.what) ∧ w6.cell? ⟨w2.heap.size, 1, none⟩ = some (.int .i64 c.num) ∧ w6.cell? ⟨w2.heap.size, 2, none⟩ = some (.string c.v)) := by
              refine ⟨?_, ?_⟩
              · simp [World.cell?, X6.out.1]
              · simp [World.cell?, X6.out.2]
            refine hK.out _ _ HS6 (fun hHeld6 => ?_)
            clear hK K hHeld hb6 hb6' F5 X5 HS5 HS6
            obtain ⟨w7, hr7, hm7, hg7⟩ := F6.out.m.update c HQ.out.1 HSJ.out (by unfold maxLen; omega) HNW.out
            have hr7' : (Instr.mapUpdate 104 (.map (some (w.heap.size + 1 + 1))) (.agg #[.string c.f, .int .i64 c.what]) (.agg #[.int .i64 c.what, .int .i64 c.num, .string c.v])).run Tryz.prog w6 = .ok () w7 := hr7
            have HFI : Hid (FillAt w w7 #[.slice ak nk ck, .slice ap np cp] (m + 1) ((L.take (j + 1)).foldl putC S0)) := by
              show FillAt _ _ _ _ _
              rw [HPS.out]; exact F6.out.put hg7 hm7
            have X7 : Hid (w7.heap[wr.heap.size]? = some (.cells #[.string c.f, .int .i64 c.what, .int .i64 c.num, .string c.v] 43) ∧ w7.heap[w2.heap.size]? = some (.cells #[.int .i64 c.what, .int .i64 c.num, .string c.v] 62)) := ⟨(hg7.block _ (Array.getElem?_eq_some_iff.1 X6.out.1).1 (fun e => by injection e; omega)).trans X6.out.1, (hg7.block _ (Array.getElem?_eq_some_iff.1 X6.out.2).1 (fun e => by injection e; omega)).trans X6.out.2⟩
            have HS7 : Hid ((w7.cell? ⟨wr.heap.size, 0, none⟩ = some (.string c.f) ∧ w7.cell? ⟨wr.heap.size, 1, none⟩ = some (.int .i64 c.what) ∧ w7.cell? ⟨wr.heap.size, 2, none⟩ = some (.int .i64 c.num) ∧ w7.cell? ⟨wr.heap.size, 3, none⟩ = some (.string c.v)) ∧ (w7.cell? ⟨w2.heap.size, 0, none⟩ = some (.int .i64 c.what) ∧ w7.cell? ⟨w2.heap.size, 1, none⟩ = some (.int .i64 c.num) ∧ w7.cell? ⟨w2.heap.size, 2, none⟩ = some (.string c.v))) := by
              refine ⟨?_, ?_⟩
              · simp [World.cell?, X7.out.1]
              · simp [World.cell?, X7.out.2]
            clear hr7 hm7 hg7
            refine wpAnyH_ready (rs := [4]) (by kernel_rfl) (by simp) ?_
            refine AllReadyH.cons rfl (fun K hK => ?_) AllReadyH.nil
            go_simp
            refine hK.out _ _ HS7.out (fun hHeld7 => ?_)
            clear hK K hHeld6 hHeld7 hr7' F6 X6
            refine wpAnyH_done (by kernel_rfl) ?_ _
            refine NoPanic.normal ?_
            go_wp2
            exact ⟨⟨j + 1, m + 1, by omega, by go_num, by omega, HFI.out⟩, by simp [intOf]; omega⟩
        · have HFI : Hid (FillAt w wr #[.slice ak nk ck, .slice ap np cp] m ((Ls.take (k + 1)).flatten.foldl putC [])) := by
            show FillAt _ _ _ _ _
            have h := HF.out
            rw [List.take_of_length_le (by omega)] at h
            rw [HST.out.1, List.foldl_append, hS0]
            exact h
          have hmm2 : m ≤ (Ls.take (k + 1)).flatten.length := by
            rw [HST.out.1, List.length_append]; omega
          clear HF
          go_wp2
          exact ⟨⟨k + 1, m, by omega, by go_num, hmm2, HFI.out⟩, by simp [intOf]; omega⟩
    · have HFE : Hid (FillAt w wr #[.slice ak nk ck, .slice ap np cp] n (Ls.flatten.foldl putC [])) := by
        show FillAt _ _ _ _ _
        have h := HF.out
        rw [List.take_of_length_le (by omega)] at h
        exact h
      have q0 : wr.cell? ⟨w.heap.size, 0, none⟩ = some (.slice ak nk ck) := by simp [World.cell?, HFE.out.a]
      have q1 : wr.cell? ⟨w.heap.size, 1, none⟩ = some (.slice ap np cp) := by simp [World.cell?, HFE.out.a]
      clear HF
      go_wp2_with fail
      refine (HGR.out wr n (by rw [List.take_of_length_le (by omega)] at hn; exact hn) HFE.out).mono ?_
      rintro e w1 ⟨a1, n1, c1, a2, n2, c2, rfl, hE⟩
      go_wp2_with fail
      refine hE.mono ?_
      rintro e w2 ⟨a3, n3, c3, rfl, hbox, hR⟩
      clear hE
      go_wp2_with (refine wpList_store_row rfl 39 _ _ rfl (w.heap.size + 1) #[.slice a1 n1 c1, .slice a2 n2 c2, .slice a3 n3 c3] rfl rfl 39 _ hbox (by kernel_rfl) rfl (by simp [Value.oneCell']) ?_)
      exact bodyPost_ret (v := .agg #[.slice a1 n1 c1, .slice a2 n2 c2, .slice a3 n3 c3]) (by simp [results, Tryz.results34, go_sem, cell_setRow_same _ _ _ _ _ _ _ hbox]) rfl ⟨_, _, _, w2, rfl, hR, rfl⟩
end Go.Proofs.YtfjblenkcfdbiaaGreat

/-
  impl: a base is copied.
-/
namespace Go.Proofs.YtfjblenkcfdbiaaGreat
open Go.RowKit
set_option linter.unusedSimpArgs false
set_option linter.unusedVariables false

def triRows (l : List Tri) : List Value := l.flatMap triRow
theorem triRows_snoc (l : List Tri) (t : Tri) : triRows (l ++ [t]) = triRows l ++ triRow t := by simp [triRows]
theorem infoKindC : (Tryz.prog.info? 116).map (fun i => (i.zero, i.size, i.bytes)) = some (some (.agg #[.string ByteArray.empty, .int .i64 0, .int .i64 0]), 3, 32) := by kernel_rfl
theorem infoPointC : (Tryz.prog.info? 118).map (fun i => (i.zero, i.size, i.bytes)) = some (some (.agg #[.string ByteArray.empty, .int .i64 0, .int .i64 0]), 3, 32) := by kernel_rfl
/-- While a base is copied. -/
structure CB (w wr : World) (A : Array Value) (v u : Value) (l m : List Tri) : Prop where
  below : Below w.heap.size w wr
  a : wr.heap[w.heap.size]? = some (.cells A 36 (0, 0))
  r : wr.heap[w.heap.size + 1]? = some (.cells #[.slice none 0 0, .slice none 0 0] 36 (0, 0))
  c : wr.heap[w.heap.size + 1 + 1]? = some (.cells #[v, u] 36 (0, 0))
  k : wr.ownsRow (w.heap.size + 3) 116 3 v l.length (triRows l)
  p : wr.ownsRow (w.heap.size + 3) 118 3 u m.length (triRows m)
theorem CB.z {w wr : World} {A : Array Value} {v u : Value} {l m : List Tri} (h : CB w wr A v u l m) : w.heap.size + 2 < wr.heap.size := (Array.getElem?_eq_some_iff.1 h.c).1
theorem CB.call {w wr wy : World} {A : Array Value} {v u : Value} {l m : List Tri} (h : CB w wr A v u l m) (hb : Below wr.heap.size wr wy) : CB w wy A v u l m := by
  have hz := h.z
  exact ⟨below_step h.below hb, (hb.block _ (by omega)).trans h.a, (hb.block _ (by omega)).trans h.r, (hb.block _ (by omega)).trans h.c, ownsRow_keep h.k hb, ownsRow_keep h.p hb⟩
theorem CB.start (w : World) (A : Array Value) : CB w (((w.alloc (.cells A 36)).alloc (.cells #[.slice none 0 0, .slice none 0 0] 36)).alloc (.cells #[.slice none 0 0, .slice none 0 0] 36)) A (.slice none 0 0) (.slice none 0 0) [] [] := by
  have s1 : (w.alloc (.cells A 36)).heap.size = w.heap.size + 1 := by simp
  have s2 : ((w.alloc (.cells A 36)).alloc (.cells #[.slice none 0 0, .slice none 0 0] 36)).heap.size = w.heap.size + 1 + 1 := by simp
  have h1 := heap_newF w (.cells A 36)
  have h2 := heap_newF (w.alloc (.cells A 36)) (.cells #[.slice none 0 0, .slice none 0 0] 36)
  have h3 := heap_newF ((w.alloc (.cells A 36)).alloc (.cells #[.slice none 0 0, .slice none 0 0] 36)) (.cells #[.slice none 0 0, .slice none 0 0] 36)
  rw [s1] at h2
  rw [s2] at h3
  refine ⟨(((Below.refl _ _).alloc (Nat.le_refl _) _).alloc (by simp) _).alloc (by simp; omega) _, ?_, ?_, h3, ⟨rfl, .inl ⟨rfl, rfl⟩⟩, ⟨rfl, .inl ⟨rfl, rfl⟩⟩⟩
  · exact (Below.heap_alloc _ _ _ (by omega)).trans ((Below.heap_alloc _ _ _ (by omega)).trans h1)
  · exact (Below.heap_alloc _ _ _ (by omega)).trans h2
theorem grown_setF (w : World) (b o : Nat) (v : Value) : w.grownBy (w.setCell ⟨b, o, none⟩ v) (some b) := ⟨rfl, rfl, rfl, by simp, fun k _ hk => Below.heap_setCell w ⟨b, o, none⟩ v k (fun e => hk (by rw [e]))⟩
theorem ownsRow_farF {W W' : World} {row : Option Nat} {base : Nat} {e : TypeId} {size : Nat} {v : Value} {n : Nat} {xs : List Value} (h : W.ownsRow base e size v n xs) (hg : W.grownBy W' row) (hr : ∀ k, v.ownBlock = some k → some k ≠ row) : W'.ownsRow base e size v n xs := by
  refine ⟨h.1, ?_⟩
  rcases h.2 with h2 | ⟨g, cap, cur, hv, hb, hc, rest⟩
  · exact .inl h2
  · refine .inr ⟨g, cap, cur, hv, hb, ?_, rest⟩
    exact (hg.block g (Array.getElem?_eq_some_iff.1 hc).1 (hr g (by rw [hv]; rfl))).trans hc
/-- Rows of two types are two. -/
theorem own_apart {W : World} {b1 b2 : Nat} {e1 e2 : TypeId} {s1 s2 : Nat} {v u : Value} {n1 n2 : Nat} {xs ys : List Value} (h : W.ownsRow b1 e1 s1 v n1 xs) (k : W.ownsRow b2 e2 s2 u n2 ys) (hne : e1 ≠ e2) : ∀ j, u.ownBlock = some j → some j ≠ v.ownBlock := by
  intro j hj
  rcases k.2 with ⟨rfl, _⟩ | ⟨g, cap, cur, rfl, _, hc, _⟩
  · cases hj
  · cases hj; exact own_other h hc hne
theorem cell_three_new (w : World) (a b c : Value) (t : TypeId) : ∀ j u, [a, b, c][j]? = some u → (w.alloc (.cells #[a, b, c] t)).cell? ((⟨w.heap.size, 0, none⟩ : Addr).add j) = some u := by
  intro j u h
  match j, h with
  | 0, h => simp at h; subst h; simp [Addr.add]
  | 1, h => simp at h; subst h; simp [Addr.add]
  | 2, h => simp at h; subst h; simp [Addr.add]
  | n + 3, h => simp at h
theorem CB.moreK {w w2 w3 : World} {A : Array Value} {v u v' : Value} {l m : List Tri} {t : Tri} {o : Obj} (h : CB w w2 A v u l m) (hown : w3.ownsRow (w.heap.size + 3) 116 3 v' (l.length + 1) (triRows l ++ triRow t)) (hg : (w2.alloc o).grownBy w3 v.ownBlock) : CB w (w3.setCell ⟨w.heap.size + 1 + 1, 0, none⟩ v') A v' u (l ++ [t]) m := by
  have hz := h.z
  have al : ∀ k, k < w2.heap.size → some k ≠ v.ownBlock → w3.heap[k]? = w2.heap[k]? := fun k hk hne => (hg.block k (by simp; omega) hne).trans (Below.heap_alloc _ _ _ hk)
  have gs := grown_setF w3 (w.heap.size + 1 + 1) 0 v'
  have ss : ∀ k, k ≠ w.heap.size + 1 + 1 → (w3.setCell ⟨w.heap.size + 1 + 1, 0, none⟩ v').heap[k]? = w3.heap[k]? := fun k hk => Below.heap_setCell w3 ⟨w.heap.size + 1 + 1, 0, none⟩ v' k hk
  have hc3 := (al _ (by omega) (own_other h.k h.c (by decide))).trans h.c
  refine ⟨?_, (ss _ (by omega)).trans ((al _ (by omega) (own_other h.k h.a (by decide))).trans h.a), (ss _ (by omega)).trans ((al _ (by omega) (own_other h.k h.r (by decide))).trans h.r), ?_, ?_, ?_⟩
  · exact ((h.below.alloc h.below.size o).grown hg (by simp; have := h.below.size; omega) (fun k e => by have := own_ge h.k k e; omega)).setCell (p := ⟨w.heap.size + 1 + 1, 0, none⟩) (by show _ ≤ _; simp; omega) _
  · rw [setCell_eq_setRow _ _ _ _ _ _ _ hc3]; exact setRow_heap _ _ _ _ _ _ hc3
  · rw [triRows_snoc, List.length_append]
    exact ownsRow_farF hown gs (fun k hk e => by have := own_ge hown k hk; injection e; omega)
  · refine ownsRow_farF (ownsRow_farF (ownsRow_keep h.p ((Below.refl _ _).alloc (Nat.le_refl _) o)) hg (own_apart h.k h.p (by decide))) gs (fun k hk e => by have := own_ge h.p k hk; injection e; omega)
theorem CB.moreP {w w2 w3 : World} {A : Array Value} {v u u' : Value} {l m : List Tri} {t : Tri} {o : Obj} (h : CB w w2 A v u l m) (hown : w3.ownsRow (w.heap.size + 3) 118 3 u' (m.length + 1) (triRows m ++ triRow t)) (hg : (w2.alloc o).grownBy w3 u.ownBlock) : CB w (w3.setCell ⟨w.heap.size + 1 + 1, 1, none⟩ u') A v u' l (m ++ [t]) := by
  have hz := h.z
  have al : ∀ k, k < w2.heap.size → some k ≠ u.ownBlock → w3.heap[k]? = w2.heap[k]? := fun k hk hne => (hg.block k (by simp; omega) hne).trans (Below.heap_alloc _ _ _ hk)
  have gs := grown_setF w3 (w.heap.size + 1 + 1) 1 u'
  have ss : ∀ k, k ≠ w.heap.size + 1 + 1 → (w3.setCell ⟨w.heap.size + 1 + 1, 1, none⟩ u').heap[k]? = w3.heap[k]? := fun k hk => Below.heap_setCell w3 ⟨w.heap.size + 1 + 1, 1, none⟩ u' k hk
  have hc3 := (al _ (by omega) (own_other h.p h.c (by decide))).trans h.c
  refine ⟨?_, (ss _ (by omega)).trans ((al _ (by omega) (own_other h.p h.a (by decide))).trans h.a), (ss _ (by omega)).trans ((al _ (by omega) (own_other h.p h.r (by decide))).trans h.r), ?_, ?_, ?_⟩
  · exact ((h.below.alloc h.below.size o).grown hg (by simp; have := h.below.size; omega) (fun k e => by have := own_ge h.p k e; omega)).setCell (p := ⟨w.heap.size + 1 + 1, 1, none⟩) (by show _ ≤ _; simp; omega) _
  · rw [setCell_eq_setRow _ _ _ _ _ _ _ hc3]; exact setRow_heap _ _ _ _ _ _ hc3
  · refine ownsRow_farF (ownsRow_farF (ownsRow_keep h.k ((Below.refl _ _).alloc (Nat.le_refl _) o)) hg (own_apart h.p h.k (by decide))) gs (fun k hk e => by have := own_ge h.k k hk; injection e; omega)
  · rw [triRows_snoc, List.length_append]
    exact ownsRow_farF hown gs (fun k hk e => by have := own_ge hown k hk; injection e; omega)
end Go.Proofs.YtfjblenkcfdbiaaGreat
