/-
  For the proof of takeall_holds: part 8 (Fill1, Cbase, Keys, Sort0, Sort1, Keys2).
-/
import Derived.Laws.Tables
import Derived.Laws.CopyOwn
import Derived.Maps.RangeWalk
import Derived.Deep.AppendLies
import Derived.WalkKit
import Derived.Shelf.SlSortCmp.WholeK
import Derived.Shelf.Lay
import Derived.Ground.SlsfProg
import Derived.Test.YteffdgjoahkdaabGreatRowTakeAllJ7
/-
  impl: a book is made, whatever makes its entries.
-/
namespace Go.Proofs.YteffdgjoahkdaabGreat
open Go.RowKit
set_option linter.unusedSimpArgs false
set_option linter.unusedVariables false

theorem toHidF {P : Prop} (h : P) : Hid P := h
theorem putAll_sorted {S : List Chg} (L : List Chg) (hS : SortedC S) : SortedC (L.foldl putC S) := by
  induction L generalizing S with
  | nil => exact hS
  | cons c L ih => exact ih (putC_sorted c hS)
theorem fill_step {L : List Chg} {j : Nat} (hj : j < L.length) (S : List Chg) : (L.take (j + 1)).foldl putC S = putC ((L.take j).foldl putC S) (cat' L j) := by
  have : L[j] = cat' L j := by simp [cat', hj]
  rw [List.take_succ_eq_append_getElem hj, List.foldl_append, this]; rfl
def lat' (Ls : List (List Chg)) (k : Nat) : List Chg := Ls.getD k []
theorem lat_some {Ls : List (List Chg)} {k : Nat} (h : k < Ls.length) : Ls[k]? = some (lat' Ls k) := by simp [lat', h]
theorem flat_step {Ls : List (List Chg)} {k : Nat} (h : k < Ls.length) : (Ls.take (k + 1)).flatten = (Ls.take k).flatten ++ lat' Ls k := by
  have : Ls[k] = lat' Ls k := by simp [lat', h]
  rw [List.take_succ_eq_append_getElem h, List.flatten_append, this]; simp
theorem flat_take (Ls : List (List Chg)) (k : Nat) : (Ls.take k).flatten.length ≤ Ls.flatten.length := by
  have h := congrArg List.length (congrArg List.flatten (List.take_append_drop k Ls))
  rw [List.flatten_append, List.length_append] at h
  omega

set_option maxRecDepth 100000 in
set_option maxHeartbeats 6400000 in
theorem bookOf_any (vk vp vl : Value) (Ls : List (List Chg)) (w : World) (hvk : ∃ a n c, vk = .slice a n c) (hvp : ∃ a n c, vp = .slice a n c) (hL : ListsAt w vl Ls) (hlen : Ls.flatten.length ≤ 4194304) (hLl : Ls.length ≤ 1048576) (hLe : ∀ L ∈ Ls, L.length ≤ 2097152) (hfit : ∀ L ∈ Ls, ∀ c ∈ L, KeyFit c ∧ 1 ≤ c.num)
    (R : Value → Value → Value → World → Prop)
    (GR : ∀ wx n, n ≤ Ls.flatten.length → FillAt w wx #[vk, vp] n (Ls.flatten.foldl putC []) → Calls Tryz.prog 80 #[.agg #[vk, vp]] wx fun e w1 => ∃ a1 n1 c1 a2 n2 c2, e = .returned (.agg #[.slice a1 n1 c1, .slice a2 n2 c2]) ∧ Calls Tryz.prog 81 #[.map (some (w.heap.size + 2))] w1 fun e w2 => ∃ a3 n3 c3, e = .returned (.slice a3 n3 c3) ∧ w2.heap[w.heap.size + 1]? = some (.cells #[.slice none 0 0, .slice none 0 0, .slice none 0 0] 39 (0, 0)) ∧ R (.slice a1 n1 c1) (.slice a2 n2 c2) (.slice a3 n3 c3) w2) :
    Calls Tryz.prog 42 #[.agg #[vk, vp], vl] w fun e w' => ∃ x y z w2, e = .returned (.agg #[x, y, z]) ∧ R x y z w2 ∧ w' = w2.setRow (w.heap.size + 1) #[x, y, z] := by
  obtain ⟨ak, nk, ck, rfl⟩ := hvk
  obtain ⟨ap, np, cp, rfl⟩ := hvp
  have HGR := toHidF GR
  clear GR
  have HF0 : Hid (FillAt w (((w.alloc (.cells #[.slice ak nk ck, .slice ap np cp] 36)).alloc (.cells #[.slice none 0 0, .slice none 0 0, .slice none 0 0] 39)).alloc (.map #[] 0)) #[.slice ak nk ck, .slice ap np cp] 0 []) := FillAt.start w _
  obtain ⟨al, cl, rfl, hlc, hcm, hc⟩ := hL
  unfold maxLen at hcm
  have HC : Hid (∀ (i : Nat) (L : List Chg), Ls[i]? = some L → ∃ b off u, al = some ⟨b, off, none⟩ ∧ w.cell? ⟨b, off + i, none⟩ = some u ∧ ChgsAt w u L) := hc
  have HFT : Hid (∀ L ∈ Ls, L.length ≤ 2097152 ∧ ∀ c ∈ L, KeyFit c ∧ 1 ≤ c.num) := fun L h => ⟨hLe L h, hfit L h⟩
  have HLN : Hid (∀ k, (Ls.take k).flatten.length ≤ 4194304) := fun k => Nat.le_trans (flat_take Ls k) hlen
  clear hc hfit hLe
  have hmm := @run_makeMap Tryz.prog
  go_enter Tryz.func42, Tryz.ntmps42
  go_wp2
  go_loopw [7, 9, 10, 14] (fun _ _ _ i wr => ∃ k n : Nat, k ≤ Ls.length ∧ i = .int .i64 k ∧ n ≤ (Ls.take k).flatten.length ∧ FillAt w wr #[.slice ak nk ck, .slice ap np cp] n ((Ls.take k).flatten.foldl putC [])) (fun _ _ _ i _ => Ls.length - (intOf i).toNat)
  case atStart => exact ⟨0, 0, Nat.zero_le _, rfl, Nat.zero_le _, HF0.out⟩
  case round =>
    clear HF0
    obtain ⟨k, n, hk, rfl, hn, hF⟩ := hrel
    have HF : Hid (FillAt w wr #[.slice ak nk ck, .slice ap np cp] n ((Ls.take k).flatten.foldl putC [])) := hF
    clear hF
    by_cases hlt : k < Ls.length
    · obtain ⟨b, off, u, rfl, d0', hu⟩ := HC.out k _ (lat_some hlt)
      have d0 := cell_keep HF.out.below (Nat.le_refl _) d0'
      have HFK := HFT.out (lat' Ls k) (List.mem_of_getElem? (lat_some hlt))
      have HFL : Hid (∀ c ∈ lat' Ls k, KeyFit c ∧ 1 ≤ c.num) := HFK.2
      have hll := HFK.1
      have HST : Hid ((Ls.take (k + 1)).flatten = (Ls.take k).flatten ++ lat' Ls k ∧ (Ls.take (k + 1)).flatten.length ≤ 4194304) := ⟨flat_step hlt, HLN.out (k + 1)⟩
      have HSO : Hid (SortedC ((Ls.take k).flatten.foldl putC [])) := putAll_sorted _ List.Pairwise.nil
      have hn2 : n + (lat' Ls k).length ≤ 4194304 := by
        have h1 := HST.out.2
        rw [HST.out.1, List.length_append] at h1
        omega
      clear HFK d0'
      obtain ⟨ua, uc, rfl, hu1, hu2, hu3⟩ := hu
      unfold maxLen at hu2
      have HU : Hid (∀ (i : Nat) (c : Chg), (lat' Ls k)[i]? = some c → ∃ b off, ua = some ⟨b, off, none⟩ ∧ ChgAt w b (off + i * 4) c) := hu3
      clear hu3
      have hk0 : (0 : Int) ≤ (k : Int) := by omega
      have hk1 : (k : Int) < (Ls.length : Int) := by omega
      generalize hLk : lat' Ls k = L at *
      generalize hS0 : (Ls.take k).flatten.foldl putC [] = S0 at *
      go_wp2
      go_loopw [9, 10, 20] (fun _ _ i wx => ∃ j m : Nat, j ≤ L.length ∧ i = .int .i64 j ∧ m ≤ n + j ∧ FillAt w wx #[.slice ak nk ck, .slice ap np cp] m ((L.take j).foldl putC S0)) (fun _ _ i _ => L.length - (intOf i).toNat)
      case atStart => exact ⟨0, n, Nat.zero_le _, rfl, Nat.le_refl _, HF.out⟩
      case round =>
        clear HF d0
        obtain ⟨j, m, hj, rfl, hm, hF⟩ := hrel
        have HF : Hid (FillAt w wr #[.slice ak nk ck, .slice ap np cp] m ((L.take j).foldl putC S0)) := hF
        clear hF
        by_cases hjl : j < L.length
        · obtain ⟨cb, co, rfl, hcc⟩ := HU.out j _ (cat_get hjl)
          obtain ⟨g0, g1, g2, g3⟩ := hcc.keep HF.out.below (Nat.le_refl _)
          have HQ : Hid (KeyFit (cat' L j) ∧ 1 ≤ (cat' L j).num) := HFL.out _ (List.mem_of_getElem? (cat_get hjl))
          have HPS : Hid ((L.take (j + 1)).foldl putC S0 = putC ((L.take j).foldl putC S0) (cat' L j)) := fill_step hjl S0
          have HSJ : Hid (SortedC ((L.take j).foldl putC S0)) := putAll_sorted _ HSO.out
          clear hcc
          generalize cat' L j = c at *
          generalize (L.take j).foldl putC S0 = S at *
          have hj0 : (0 : Int) ≤ (j : Int) := by omega
          have hj1 : (j : Int) < (L.length : Int) := by omega
          go_wp2_with fail
          refine (fieldOf_any c _).mono ?_
          rintro e w2 ⟨rfl, hb2⟩
          have BA : Hid (Below wr.heap.size wr (wr.alloc (.cells #[.string c.f, .int .i64 c.what, .int .i64 c.num, .string c.v] 43))) := (Below.refl _ _).alloc (Nat.le_refl _) _
          have B3 : Hid (Below w2.heap.size w2 (w2.alloc (.cells #[.int .i64 c.what, .int .i64 c.num, .string c.v] 71))) := (Below.refl _ _).alloc (Nat.le_refl _) _
          have F3 : Hid (FillAt w (w2.alloc (.cells #[.int .i64 c.what, .int .i64 c.num, .string c.v] 71)) #[.slice ak nk ck, .slice ap np cp] m S) := ((HF.out.call BA.out).call hb2).call B3.out
          have X2 : w2.heap[wr.heap.size]? = some (.cells #[.string c.f, .int .i64 c.what, .int .i64 c.num, .string c.v] 43) := (hb2.block _ (by simp)).trans (heap_newF wr _)
          have hz2 : wr.heap.size < w2.heap.size := (Array.getElem?_eq_some_iff.1 X2).1
          have X3 : Hid ((w2.alloc (.cells #[.int .i64 c.what, .int .i64 c.num, .string c.v] 71)).heap[wr.heap.size]? = some (.cells #[.string c.f, .int .i64 c.what, .int .i64 c.num, .string c.v] 43) ∧ (w2.alloc (.cells #[.int .i64 c.what, .int .i64 c.num, .string c.v] 71)).heap[w2.heap.size]? = some (.cells #[.int .i64 c.what, .int .i64 c.num, .string c.v] 71)) := ⟨(B3.out.block _ hz2).trans X2, heap_newF w2 _⟩
          obtain ⟨p0, p1, p2, p3⟩ : (w2.cell? ⟨wr.heap.size, 0, none⟩ = some (.string c.f) ∧ w2.cell? ⟨wr.heap.size, 1, none⟩ = some (.int .i64 c.what) ∧ w2.cell? ⟨wr.heap.size, 2, none⟩ = some (.int .i64 c.num) ∧ w2.cell? ⟨wr.heap.size, 3, none⟩ = some (.string c.v)) := by simp [World.cell?, X2]
          have hzr := HF.out.z
          clear HF BA hb2 g0 g1 g2 g3 X2
          go_wp2
          generalize (w2.alloc (.cells #[.int .i64 c.what, .int .i64 c.num, .string c.v] 71)) = w3 at *
          clear p0 p1 p2 p3
          have HS3 : Hid ((w3.cell? ⟨wr.heap.size, 0, none⟩ = some (.string c.f) ∧ w3.cell? ⟨wr.heap.size, 1, none⟩ = some (.int .i64 c.what) ∧ w3.cell? ⟨wr.heap.size, 2, none⟩ = some (.int .i64 c.num) ∧ w3.cell? ⟨wr.heap.size, 3, none⟩ = some (.string c.v)) ∧ (w3.cell? ⟨w2.heap.size, 0, none⟩ = some (.int .i64 c.what) ∧ w3.cell? ⟨w2.heap.size, 1, none⟩ = some (.int .i64 c.num) ∧ w3.cell? ⟨w2.heap.size, 2, none⟩ = some (.string c.v))) := by
            refine ⟨?_, ?_⟩
            · simp [World.cell?, X3.out.1]
            · simp [World.cell?, X3.out.2]
          refine wp_region_noPanic ?_
          refine wp_region_held_drew (S := fun w' => (w'.cell? ⟨wr.heap.size, 0, none⟩ = some (.string c.f) ∧ w'.cell? ⟨wr.heap.size, 1, none⟩ = some (.int .i64 c.what) ∧ w'.cell? ⟨wr.heap.size, 2, none⟩ = some (.int .i64 c.num) ∧ w'.cell? ⟨wr.heap.size, 3, none⟩ = some (.string c.v)) ∧ (w'.cell? ⟨w2.heap.size, 0, none⟩ = some (.int .i64 c.what) ∧ w'.cell? ⟨w2.heap.size, 1, none⟩ = some (.int .i64 c.num) ∧ w'.cell? ⟨w2.heap.size, 2, none⟩ = some (.string c.v))) (by kernel_rfl) ?_ (fun hHeld => ?_)
          · exact HS3.out
          refine wpAnyH_take (i := 0) (v := ?_) rfl (by kernel_rfl) (by kernel_rfl) (by kernel_rfl) (fun _ _ _ h => h) (Or.inl ⟨by rfl, ?_⟩) (by assumption) ?_
          rotate_left
          · intro w hSw; (try dsimp only at hSw); go_simp; try with_reducible rfl
          simp only [Act.put, List.setIfInBounds_toArray, List.set_cons_zero, List.set_cons_succ, List.getElem_toArray, List.getElem_cons_succ, List.getElem_cons_zero]
          refine wpAnyH_take (i := 1) (v := ?_) rfl (by kernel_rfl) (by kernel_rfl) (by kernel_rfl) (fun _ _ _ h => h) (Or.inl ⟨by rfl, ?_⟩) (by assumption) ?_
          rotate_left
          · intro w hSw; (try dsimp only at hSw); go_simp; try with_reducible rfl
          simp only [Act.put, List.setIfInBounds_toArray, List.set_cons_zero, List.set_cons_succ, List.getElem_toArray, List.getElem_cons_succ, List.getElem_cons_zero]
          refine wpAnyH_take (i := 2) (v := ?_) rfl (by kernel_rfl) (by kernel_rfl) (by kernel_rfl) (fun _ _ _ h => h) (Or.inl ⟨by rfl, ?_⟩) (by assumption) ?_
          rotate_left
          · intro w hSw; (try dsimp only at hSw); go_simp; try with_reducible rfl
          simp only [Act.put, List.setIfInBounds_toArray, List.set_cons_zero, List.set_cons_succ, List.getElem_toArray, List.getElem_cons_succ, List.getElem_cons_zero]
          refine wpAnyH_ready (rs := [3]) (by kernel_rfl) (by simp) ?_
          refine AllReadyH.cons rfl (fun K hK => ?_) AllReadyH.nil
          go_simp
          refine (keyOf_any c _).mono ?_
          rintro e w4 ⟨rfl, hb4'⟩
          have hb4 : Below w3.heap.size w3 w4 := ⟨hb4'.os, hb4'.tape, hb4'.output, hb4'.size, hb4'.block⟩
          have F4 : Hid (FillAt w w4 #[.slice ak nk ck, .slice ap np cp] m S) := F3.out.call hb4
          have X4 : Hid (w4.heap[wr.heap.size]? = some (.cells #[.string c.f, .int .i64 c.what, .int .i64 c.num, .string c.v] 43) ∧ w4.heap[w2.heap.size]? = some (.cells #[.int .i64 c.what, .int .i64 c.num, .string c.v] 71)) := ⟨(hb4.block _ (Array.getElem?_eq_some_iff.1 X3.out.1).1).trans X3.out.1, (hb4.block _ (Array.getElem?_eq_some_iff.1 X3.out.2).1).trans X3.out.2⟩
          have HS4 : (w4.cell? ⟨wr.heap.size, 0, none⟩ = some (.string c.f) ∧ w4.cell? ⟨wr.heap.size, 1, none⟩ = some (.int .i64 c.what) ∧ w4.cell? ⟨wr.heap.size, 2, none⟩ = some (.int .i64 c.num) ∧ w4.cell? ⟨wr.heap.size, 3, none⟩ = some (.string c.v)) ∧ (w4.cell? ⟨w2.heap.size, 0, none⟩ = some (.int .i64 c.what) ∧ w4.cell? ⟨w2.heap.size, 1, none⟩ = some (.int .i64 c.num) ∧ w4.cell? ⟨w2.heap.size, 2, none⟩ = some (.string c.v)) := by
            refine ⟨?_, ?_⟩
            · simp [World.cell?, X4.out.1]
            · simp [World.cell?, X4.out.2]
          refine hK.out _ _ HS4 (fun hHeld4 => ?_)
          clear hK K hHeld hb4 hb4' F3 X3 HS3 HS4 B3
          have hlk : (Instr.lookup 113 (.map (some (w.heap.size + 1 + 1))) (.agg #[.string c.f, .int .i64 c.what]) false).run Tryz.prog w4 = .ok (.agg #[.int .i64 (getF S c).what, .int .i64 (getF S c).num, .string (getF S c).v]) w4 := F4.out.m.lookup c HQ.out.1
          refine wpAnyH_ready (rs := [4]) (by kernel_rfl) (by simp) ?_
          refine AllReadyH.cons rfl (fun K hK => ?_) AllReadyH.nil
          go_simp
          refine hK.out _ _ hHeld4 (fun hHeld4' => ?_)
          clear hK K hlk
          refine wpAnyH_ready (rs := [5]) (by kernel_rfl) (by simp) ?_
          refine AllReadyH.cons rfl (fun K hK => ?_) AllReadyH.nil
          go_simp
          refine (later_any c (chgOf ⟨#[]⟩ (getF S c)) _).mono ?_
          rintro e w5 ⟨rfl, hb5⟩
          rw [lat_get HQ.out.2]
          have F5 : Hid (FillAt w w5 #[.slice ak nk ck, .slice ap np cp] m S) := F4.out.call hb5
          have X5 : Hid (w5.heap[wr.heap.size]? = some (.cells #[.string c.f, .int .i64 c.what, .int .i64 c.num, .string c.v] 43) ∧ w5.heap[w2.heap.size]? = some (.cells #[.int .i64 c.what, .int .i64 c.num, .string c.v] 71)) := ⟨(hb5.block _ (Array.getElem?_eq_some_iff.1 X4.out.1).1).trans X4.out.1, (hb5.block _ (Array.getElem?_eq_some_iff.1 X4.out.2).1).trans X4.out.2⟩
          have HS5 : Hid ((w5.cell? ⟨wr.heap.size, 0, none⟩ = some (.string c.f) ∧ w5.cell? ⟨wr.heap.size, 1, none⟩ = some (.int .i64 c.what) ∧ w5.cell? ⟨wr.heap.size, 2, none⟩ = some (.int .i64 c.num) ∧ w5.cell? ⟨wr.heap.size, 3, none⟩ = some (.string c.v)) ∧ (w5.cell? ⟨w2.heap.size, 0, none⟩ = some (.int .i64 c.what) ∧ w5.cell? ⟨w2.heap.size, 1, none⟩ = some (.int .i64 c.num) ∧ w5.cell? ⟨w2.heap.size, 2, none⟩ = some (.string c.v))) := by
            refine ⟨?_, ?_⟩
            · simp [World.cell?, X5.out.1]
            · simp [World.cell?, X5.out.2]
          refine hK.out _ _ HS5.out (fun hHeld5 => ?_)
          clear hK K hHeld4 hHeld4' hHeld5 hb5 F4 X4
          refine wpAnyH_done (by kernel_rfl) ?_ _
          refine NoPanic.normal ?_
          cases hnew : newB S c
          · have HFI : Hid (FillAt w w5 #[.slice ak nk ck, .slice ap np cp] m ((L.take (j + 1)).foldl putC S0)) := by
              show FillAt _ _ _ _ _
              rw [HPS.out, putC_old HSJ.out hnew]; exact F5.out
            clear hnew F5 HS5 X5
            go_wp2
            exact ⟨⟨j + 1, m, by omega, by go_num, by omega, HFI.out⟩, by simp [intOf]; omega⟩
          · have HNW : Hid (newB S c = true) := hnew
            clear hnew
            go_wp2
            refine wp_region_noPanic ?_
            refine wp_region_held_drew (S := fun w' => (w'.cell? ⟨wr.heap.size, 0, none⟩ = some (.string c.f) ∧ w'.cell? ⟨wr.heap.size, 1, none⟩ = some (.int .i64 c.what) ∧ w'.cell? ⟨wr.heap.size, 2, none⟩ = some (.int .i64 c.num) ∧ w'.cell? ⟨wr.heap.size, 3, none⟩ = some (.string c.v)) ∧ (w'.cell? ⟨w2.heap.size, 0, none⟩ = some (.int .i64 c.what) ∧ w'.cell? ⟨w2.heap.size, 1, none⟩ = some (.int .i64 c.num) ∧ w'.cell? ⟨w2.heap.size, 2, none⟩ = some (.string c.v))) (by kernel_rfl) ?_ (fun hHeld => ?_)
            · exact HS5.out
            refine wpAnyH_take (i := 0) (v := ?_) rfl (by kernel_rfl) (by kernel_rfl) (by kernel_rfl) (fun _ _ _ h => h) (Or.inl ⟨by rfl, ?_⟩) (by assumption) ?_
            rotate_left
            · intro w hSw; (try dsimp only at hSw); go_simp; try with_reducible rfl
            simp only [Act.put, List.setIfInBounds_toArray, List.set_cons_zero, List.set_cons_succ, List.getElem_toArray, List.getElem_cons_succ, List.getElem_cons_zero]
            refine wpAnyH_take (i := 1) (v := ?_) rfl (by kernel_rfl) (by kernel_rfl) (by kernel_rfl) (fun _ _ _ h => h) (Or.inl ⟨by rfl, ?_⟩) (by assumption) ?_
            rotate_left
            · intro w hSw; (try dsimp only at hSw); go_simp; try with_reducible rfl
            simp only [Act.put, List.setIfInBounds_toArray, List.set_cons_zero, List.set_cons_succ, List.getElem_toArray, List.getElem_cons_succ, List.getElem_cons_zero]
            refine wpAnyH_take (i := 3) (v := ?_) rfl (by kernel_rfl) (by kernel_rfl) (by kernel_rfl) (fun _ _ _ h => h) (Or.inl ⟨by rfl, ?_⟩) (by assumption) ?_
            rotate_left
            · intro w hSw; (try dsimp only at hSw); go_simp; try with_reducible rfl
            simp only [Act.put, List.setIfInBounds_toArray, List.set_cons_zero, List.set_cons_succ, List.getElem_toArray, List.getElem_cons_succ, List.getElem_cons_zero]
            refine wpAnyH_ready (rs := [2]) (by kernel_rfl) (by simp) ?_
            refine AllReadyH.cons rfl (fun K hK => ?_) AllReadyH.nil
            go_simp
            refine (keyOf_any c _).mono ?_
            rintro e w6 ⟨rfl, hb6'⟩
            have hb6 : Below w5.heap.size w5 w6 := ⟨hb6'.os, hb6'.tape, hb6'.output, hb6'.size, hb6'.block⟩
            have F6 : Hid (FillAt w w6 #[.slice ak nk ck, .slice ap np cp] m S) := F5.out.call hb6
            have X6 : Hid (w6.heap[wr.heap.size]? = some (.cells #[.string c.f, .int .i64 c.what, .int .i64 c.num, .string c.v] 43) ∧ w6.heap[w2.heap.size]? = some (.cells #[.int .i64 c.what, .int .i64 c.num, .string c.v] 71)) := ⟨(hb6.block _ (Array.getElem?_eq_some_iff.1 X5.out.1).1).trans X5.out.1, (hb6.block _ (Array.getElem?_eq_some_iff.1 X5.out.2).1).trans X5.out.2⟩
            have HS6 : (w6.cell? ⟨wr.heap.size, 0, none⟩ = some (.string c.f) ∧ w6.cell? ⟨wr.heap.size, 1, none⟩ = some (.int .i64 c.what) ∧ w6.cell? ⟨wr.heap.size, 2, none⟩ = some (.int .i64 c.num) ∧ w6.cell? ⟨wr.heap.size, 3, none⟩ = some (.string c.v)) ∧ (w6.cell? ⟨w2.heap.size, 0, none⟩ = some (.int .i64 c.what) ∧ w6.cell? ⟨w2.heap.size, 1, none⟩ = some (.int .i64 c.num) ∧ w6.cell? ⟨w2.heap.size, 2, none⟩ = some (.string c.v)) := by
              refine ⟨?_, ?_⟩
              · simp [World.cell?, X6.out.1]
              · simp [World.cell?, X6.out.2]
            refine hK.out _ _ HS6 (fun hHeld6 => ?_)
            clear hK K hHeld hb6 hb6' F5 X5 HS5 HS6
            obtain ⟨w7, hr7, hm7, hg7⟩ := F6.out.m.update c HQ.out.1 HSJ.out (by unfold maxLen; omega) HNW.out
            have hr7' : (Instr.mapUpdate 113 (.map (some (w.heap.size + 1 + 1))) (.agg #[.string c.f, .int .i64 c.what]) (.agg #[.int .i64 c.what, .int .i64 c.num, .string c.v])).run Tryz.prog w6 = .ok () w7 := hr7
            have HFI : Hid (FillAt w w7 #[.slice ak nk ck, .slice ap np cp] (m + 1) ((L.take (j + 1)).foldl putC S0)) := by
              show FillAt _ _ _ _ _
              rw [HPS.out]; exact F6.out.put hg7 hm7
            have X7 : Hid (w7.heap[wr.heap.size]? = some (.cells #[.string c.f, .int .i64 c.what, .int .i64 c.num, .string c.v] 43) ∧ w7.heap[w2.heap.size]? = some (.cells #[.int .i64 c.what, .int .i64 c.num, .string c.v] 71)) := ⟨(hg7.block _ (Array.getElem?_eq_some_iff.1 X6.out.1).1 (fun e => by injection e; omega)).trans X6.out.1, (hg7.block _ (Array.getElem?_eq_some_iff.1 X6.out.2).1 (fun e => by injection e; omega)).trans X6.out.2⟩
            have HS7 : Hid ((w7.cell? ⟨wr.heap.size, 0, none⟩ = some (.string c.f) ∧ w7.cell? ⟨wr.heap.size, 1, none⟩ = some (.int .i64 c.what) ∧ w7.cell? ⟨wr.heap.size, 2, none⟩ = some (.int .i64 c.num) ∧ w7.cell? ⟨wr.heap.size, 3, none⟩ = some (.string c.v)) ∧ (w7.cell? ⟨w2.heap.size, 0, none⟩ = some (.int .i64 c.what) ∧ w7.cell? ⟨w2.heap.size, 1, none⟩ = some (.int .i64 c.num) ∧ w7.cell? ⟨w2.heap.size, 2, none⟩ = some (.string c.v))) := by
              refine ⟨?_, ?_⟩
              · simp [World.cell?, X7.out.1]
              · simp [World.cell?, X7.out.2]
            clear hr7 hm7 hg7
            refine wpAnyH_ready (rs := [4]) (by kernel_rfl) (by simp) ?_
            refine AllReadyH.cons rfl (fun K hK => ?_) AllReadyH.nil
            go_simp
            refine hK.out _ _ HS7.out (fun hHeld7 => ?_)
            clear hK K hHeld6 hHeld7 hr7' F6 X6
            refine wpAnyH_done (by kernel_rfl) ?_ _
            refine NoPanic.normal ?_
            go_wp2
            exact ⟨⟨j + 1, m + 1, by omega, by go_num, by omega, HFI.out⟩, by simp [intOf]; omega⟩
        · have HFI : Hid (FillAt w wr #[.slice ak nk ck, .slice ap np cp] m ((Ls.take (k + 1)).flatten.foldl putC [])) := by
            show FillAt _ _ _ _ _
            have h := HF.out
            rw [List.take_of_length_le (by omega)] at h
            rw [HST.out.1, List.foldl_append, hS0]
            exact h
          have hmm2 : m ≤ (Ls.take (k + 1)).flatten.length := by
            rw [HST.out.1, List.length_append]; omega
          clear HF
          go_wp2
          exact ⟨⟨k + 1, m, by omega, by go_num, hmm2, HFI.out⟩, by simp [intOf]; omega⟩
    · have HFE : Hid (FillAt w wr #[.slice ak nk ck, .slice ap np cp] n (Ls.flatten.foldl putC [])) := by
        show FillAt _ _ _ _ _
        have h := HF.out
        rw [List.take_of_length_le (by omega)] at h
        exact h
      have q0 : wr.cell? ⟨w.heap.size, 0, none⟩ = some (.slice ak nk ck) := by simp [World.cell?, HFE.out.a]
      have q1 : wr.cell? ⟨w.heap.size, 1, none⟩ = some (.slice ap np cp) := by simp [World.cell?, HFE.out.a]
      clear HF
      go_wp2_with fail
      refine (HGR.out wr n (by rw [List.take_of_length_le (by omega)] at hn; exact hn) HFE.out).mono ?_
      rintro e w1 ⟨a1, n1, c1, a2, n2, c2, rfl, hE⟩
      go_wp2_with fail
      refine hE.mono ?_
      rintro e w2 ⟨a3, n3, c3, rfl, hbox, hR⟩
      clear hE
      go_wp2_with (refine wpList_store_row rfl 39 _ _ rfl (w.heap.size + 1) #[.slice a1 n1 c1, .slice a2 n2 c2, .slice a3 n3 c3] rfl rfl 39 _ hbox (by kernel_rfl) rfl (by simp [Value.oneCell']) ?_)
      exact bodyPost_ret (v := .agg #[.slice a1 n1 c1, .slice a2 n2 c2, .slice a3 n3 c3]) (by simp [results, Tryz.results42, go_sem, cell_setRow_same _ _ _ _ _ _ _ hbox]) rfl ⟨_, _, _, w2, rfl, hR, rfl⟩
end Go.Proofs.YteffdgjoahkdaabGreat

/-
  impl: a base is copied.
-/
namespace Go.Proofs.YteffdgjoahkdaabGreat
open Go.RowKit
set_option linter.unusedSimpArgs false
set_option linter.unusedVariables false

def triRows (l : List Tri) : List Value := l.flatMap triRow
theorem triRows_snoc (l : List Tri) (t : Tri) : triRows (l ++ [t]) = triRows l ++ triRow t := by simp [triRows]
theorem infoKindC : (Tryz.prog.info? 125).map (fun i => (i.zero, i.size, i.bytes)) = some (some (.agg #[.string ByteArray.empty, .int .i64 0, .int .i64 0]), 3, 32) := by kernel_rfl
theorem infoPointC : (Tryz.prog.info? 127).map (fun i => (i.zero, i.size, i.bytes)) = some (some (.agg #[.string ByteArray.empty, .int .i64 0, .int .i64 0]), 3, 32) := by kernel_rfl
/-- While a base is copied. -/
structure CB (w wr : World) (A : Array Value) (v u : Value) (l m : List Tri) : Prop where
  below : Below w.heap.size w wr
  a : wr.heap[w.heap.size]? = some (.cells A 36 (0, 0))
  r : wr.heap[w.heap.size + 1]? = some (.cells #[.slice none 0 0, .slice none 0 0] 36 (0, 0))
  c : wr.heap[w.heap.size + 1 + 1]? = some (.cells #[v, u] 36 (0, 0))
  k : wr.ownsRow (w.heap.size + 3) 125 3 v l.length (triRows l)
  p : wr.ownsRow (w.heap.size + 3) 127 3 u m.length (triRows m)
theorem CB.z {w wr : World} {A : Array Value} {v u : Value} {l m : List Tri} (h : CB w wr A v u l m) : w.heap.size + 2 < wr.heap.size := (Array.getElem?_eq_some_iff.1 h.c).1
theorem CB.call {w wr wy : World} {A : Array Value} {v u : Value} {l m : List Tri} (h : CB w wr A v u l m) (hb : Below wr.heap.size wr wy) : CB w wy A v u l m := by
  have hz := h.z
  exact ⟨below_step h.below hb, (hb.block _ (by omega)).trans h.a, (hb.block _ (by omega)).trans h.r, (hb.block _ (by omega)).trans h.c, ownsRow_keep h.k hb, ownsRow_keep h.p hb⟩
theorem CB.start (w : World) (A : Array Value) : CB w (((w.alloc (.cells A 36)).alloc (.cells #[.slice none 0 0, .slice none 0 0] 36)).alloc (.cells #[.slice none 0 0, .slice none 0 0] 36)) A (.slice none 0 0) (.slice none 0 0) [] [] := by
  have s1 : (w.alloc (.cells A 36)).heap.size = w.heap.size + 1 := by simp
  have s2 : ((w.alloc (.cells A 36)).alloc (.cells #[.slice none 0 0, .slice none 0 0] 36)).heap.size = w.heap.size + 1 + 1 := by simp
  have h1 := heap_newF w (.cells A 36)
  have h2 := heap_newF (w.alloc (.cells A 36)) (.cells #[.slice none 0 0, .slice none 0 0] 36)
  have h3 := heap_newF ((w.alloc (.cells A 36)).alloc (.cells #[.slice none 0 0, .slice none 0 0] 36)) (.cells #[.slice none 0 0, .slice none 0 0] 36)
  rw [s1] at h2
  rw [s2] at h3
  refine ⟨(((Below.refl _ _).alloc (Nat.le_refl _) _).alloc (by simp) _).alloc (by simp; omega) _, ?_, ?_, h3, ⟨rfl, .inl ⟨rfl, rfl⟩⟩, ⟨rfl, .inl ⟨rfl, rfl⟩⟩⟩
  · exact (Below.heap_alloc _ _ _ (by omega)).trans ((Below.heap_alloc _ _ _ (by omega)).trans h1)
  · exact (Below.heap_alloc _ _ _ (by omega)).trans h2
theorem grown_setF (w : World) (b o : Nat) (v : Value) : w.grownBy (w.setCell ⟨b, o, none⟩ v) (some b) := ⟨rfl, rfl, rfl, by simp, fun k _ hk => Below.heap_setCell w ⟨b, o, none⟩ v k (fun e => hk (by rw [e]))⟩
theorem ownsRow_farF {W W' : World} {row : Option Nat} {base : Nat} {e : TypeId} {size : Nat} {v : Value} {n : Nat} {xs : List Value} (h : W.ownsRow base e size v n xs) (hg : W.grownBy W' row) (hr : ∀ k, v.ownBlock = some k → some k ≠ row) : W'.ownsRow base e size v n xs := by
  refine ⟨h.1, ?_⟩
  rcases h.2 with h2 | ⟨g, cap, cur, hv, hb, hc, rest⟩
  · exact .inl h2
  · refine .inr ⟨g, cap, cur, hv, hb, ?_, rest⟩
    exact (hg.block g (Array.getElem?_eq_some_iff.1 hc).1 (hr g (by rw [hv]; rfl))).trans hc
/-- Rows of two types are two. -/
theorem own_apart {W : World} {b1 b2 : Nat} {e1 e2 : TypeId} {s1 s2 : Nat} {v u : Value} {n1 n2 : Nat} {xs ys : List Value} (h : W.ownsRow b1 e1 s1 v n1 xs) (k : W.ownsRow b2 e2 s2 u n2 ys) (hne : e1 ≠ e2) : ∀ j, u.ownBlock = some j → some j ≠ v.ownBlock := by
  intro j hj
  rcases k.2 with ⟨rfl, _⟩ | ⟨g, cap, cur, rfl, _, hc, _⟩
  · cases hj
  · cases hj; exact own_other h hc hne
theorem cell_three_new (w : World) (a b c : Value) (t : TypeId) : ∀ j u, [a, b, c][j]? = some u → (w.alloc (.cells #[a, b, c] t)).cell? ((⟨w.heap.size, 0, none⟩ : Addr).add j) = some u := by
  intro j u h
  match j, h with
  | 0, h => simp at h; subst h; simp [Addr.add]
  | 1, h => simp at h; subst h; simp [Addr.add]
  | 2, h => simp at h; subst h; simp [Addr.add]
  | n + 3, h => simp at h
theorem CB.moreK {w w2 w3 : World} {A : Array Value} {v u v' : Value} {l m : List Tri} {t : Tri} {o : Obj} (h : CB w w2 A v u l m) (hown : w3.ownsRow (w.heap.size + 3) 125 3 v' (l.length + 1) (triRows l ++ triRow t)) (hg : (w2.alloc o).grownBy w3 v.ownBlock) : CB w (w3.setCell ⟨w.heap.size + 1 + 1, 0, none⟩ v') A v' u (l ++ [t]) m := by
  have hz := h.z
  have al : ∀ k, k < w2.heap.size → some k ≠ v.ownBlock → w3.heap[k]? = w2.heap[k]? := fun k hk hne => (hg.block k (by simp; omega) hne).trans (Below.heap_alloc _ _ _ hk)
  have gs := grown_setF w3 (w.heap.size + 1 + 1) 0 v'
  have ss : ∀ k, k ≠ w.heap.size + 1 + 1 → (w3.setCell ⟨w.heap.size + 1 + 1, 0, none⟩ v').heap[k]? = w3.heap[k]? := fun k hk => Below.heap_setCell w3 ⟨w.heap.size + 1 + 1, 0, none⟩ v' k hk
  have hc3 := (al _ (by omega) (own_other h.k h.c (by decide))).trans h.c
  refine ⟨?_, (ss _ (by omega)).trans ((al _ (by omega) (own_other h.k h.a (by decide))).trans h.a), (ss _ (by omega)).trans ((al _ (by omega) (own_other h.k h.r (by decide))).trans h.r), ?_, ?_, ?_⟩
  · exact ((h.below.alloc h.below.size o).grown hg (by simp; have := h.below.size; omega) (fun k e => by have := own_ge h.k k e; omega)).setCell (p := ⟨w.heap.size + 1 + 1, 0, none⟩) (by show _ ≤ _; simp; omega) _
  · rw [setCell_eq_setRow _ _ _ _ _ _ _ hc3]; exact setRow_heap _ _ _ _ _ _ hc3
  · rw [triRows_snoc, List.length_append]
    exact ownsRow_farF hown gs (fun k hk e => by have := own_ge hown k hk; injection e; omega)
  · refine ownsRow_farF (ownsRow_farF (ownsRow_keep h.p ((Below.refl _ _).alloc (Nat.le_refl _) o)) hg (own_apart h.k h.p (by decide))) gs (fun k hk e => by have := own_ge h.p k hk; injection e; omega)
theorem CB.moreP {w w2 w3 : World} {A : Array Value} {v u u' : Value} {l m : List Tri} {t : Tri} {o : Obj} (h : CB w w2 A v u l m) (hown : w3.ownsRow (w.heap.size + 3) 127 3 u' (m.length + 1) (triRows m ++ triRow t)) (hg : (w2.alloc o).grownBy w3 u.ownBlock) : CB w (w3.setCell ⟨w.heap.size + 1 + 1, 1, none⟩ u') A v u' l (m ++ [t]) := by
  have hz := h.z
  have al : ∀ k, k < w2.heap.size → some k ≠ u.ownBlock → w3.heap[k]? = w2.heap[k]? := fun k hk hne => (hg.block k (by simp; omega) hne).trans (Below.heap_alloc _ _ _ hk)
  have gs := grown_setF w3 (w.heap.size + 1 + 1) 1 u'
  have ss : ∀ k, k ≠ w.heap.size + 1 + 1 → (w3.setCell ⟨w.heap.size + 1 + 1, 1, none⟩ u').heap[k]? = w3.heap[k]? := fun k hk => Below.heap_setCell w3 ⟨w.heap.size + 1 + 1, 1, none⟩ u' k hk
  have hc3 := (al _ (by omega) (own_other h.p h.c (by decide))).trans h.c
  refine ⟨?_, (ss _ (by omega)).trans ((al _ (by omega) (own_other h.p h.a (by decide))).trans h.a), (ss _ (by omega)).trans ((al _ (by omega) (own_other h.p h.r (by decide))).trans h.r), ?_, ?_, ?_⟩
  · exact ((h.below.alloc h.below.size o).grown hg (by simp; have := h.below.size; omega) (fun k e => by have := own_ge h.p k e; omega)).setCell (p := ⟨w.heap.size + 1 + 1, 1, none⟩) (by show _ ≤ _; simp; omega) _
  · rw [setCell_eq_setRow _ _ _ _ _ _ _ hc3]; exact setRow_heap _ _ _ _ _ _ hc3
  · refine ownsRow_farF (ownsRow_farF (ownsRow_keep h.k ((Below.refl _ _).alloc (Nat.le_refl _) o)) hg (own_apart h.p h.k (by decide))) gs (fun k hk e => by have := own_ge h.k k hk; injection e; omega)
  · rw [triRows_snoc, List.length_append]
    exact ownsRow_farF hown gs (fun k hk e => by have := own_ge hown k hk; injection e; omega)
end Go.Proofs.YteffdgjoahkdaabGreat

/-
  impl: the keys of the map, sorted, given the sort.
-/
namespace Go.Proofs.YteffdgjoahkdaabGreat
open Go.RowKit
set_option linter.unusedSimpArgs false
set_option linter.unusedVariables false

abbrev KeyP := ByteArray × Int
def keyV (p : KeyP) : Value := .agg #[.string p.1, .int .i64 p.2]
def keyRow (p : KeyP) : List Value := [.string p.1, .int .i64 p.2]
def keyRows (l : List KeyP) : List Value := l.flatMap keyRow
theorem keyRows_snoc (l : List KeyP) (t : KeyP) : keyRows (l ++ [t]) = keyRows l ++ keyRow t := by simp [keyRows]
theorem infoKey : (Tryz.prog.info? 115).map (fun i => (i.zero, i.size, i.bytes)) = some (some (.agg #[.string ByteArray.empty, .int .i64 0]), 2, 24) := by kernel_rfl
def FitP (p : KeyP) : Prop := p.1.size ≤ maxLen ∧ (Lit.int .i64 p.2).wf = true
/-- The keys that have come. -/
def CollK (D : DataW Unit) (left : Lit → Bool) (ss : List KeyP) : Prop := ss.Nodup ∧ (∀ p ∈ ss, FitP p) ∧ ∀ p : KeyP, FitP p → (p ∈ ss ↔ (Maps.has D (klK p.1 p.2) = true ∧ left (klK p.1 p.2) = false))
theorem CollK.start (D : DataW Unit) : CollK D (Maps.has D) [] := ⟨List.nodup_nil, (fun p h => by cases h), (fun p _ => by cases Maps.has D (klK p.1 p.2) <;> simp)⟩
theorem kl_same {p q : KeyP} (hp : FitP p) (hq : FitP q) : (klK p.1 p.2).sameKey (klK q.1 q.2) = decide (p = q) := by
  by_cases h : p = q
  · subst h
    rw [WideAt.sameKey_self (keyedK.key (keyOf_K hp.1 hp.2))]; simp
  · have hne : klK p.1 p.2 ≠ klK q.1 q.2 := fun e => h (by
      obtain ⟨e1, e2⟩ := klK_inj hp.1 hp.2 hq.1 hq.2 e
      exact Prod.ext e1 e2)
    rw [Maps.sameKey_ne hne]; simp [h]
theorem CollK.step {D : DataW Unit} {left : Lit → Bool} {ss : List KeyP} (h : CollK D left ss) {p : KeyP} (hp : FitP p) (hl : left (klK p.1 p.2) = true) (hh : Maps.has D (klK p.1 p.2) = true) : CollK D (fun z => left z && !z.sameKey (klK p.1 p.2)) (ss ++ [p]) := by
  obtain ⟨h1, h2, h3⟩ := h
  have hno : p ∉ ss := fun hm => by have := ((h3 p hp).1 hm).2; rw [hl] at this; cases this
  refine ⟨?_, ?_, fun q hq => ?_⟩
  · rw [List.nodup_append]; exact ⟨h1, by simp, fun a ha b hb => by simp at hb; subst hb; exact fun e => hno (e ▸ ha)⟩
  · intro q hq
    rcases List.mem_append.1 hq with hq | hq
    · exact h2 q hq
    · simp at hq; subst hq; exact hp
  · rw [List.mem_append, h3 q hq]
    show _ ↔ _ ∧ (left (klK q.1 q.2) && !(klK q.1 q.2).sameKey (klK p.1 p.2)) = false
    rw [kl_same hq hp]
    by_cases e : q = p
    · subst e; simp [hh]
    · simp [e]
theorem RF_shape (v : Value) (y : DataW Unit × List MemPlace) (h : RF v = some y) : ∃ f : Fld, v = .agg #[.int .i64 f.what, .int .i64 f.num, .string f.v] := by
  cases v
  case agg cs =>
    have h' : RFL cs.toList = some y := h
    unfold RFL at h'
    split at h'
    · rename_i a b s e
      exact ⟨⟨a, b, s⟩, by rw [← Array.toArray_toList (xs := cs), e]⟩
    · cases h'
  all_goals cases h
theorem size_le {w : World} {b n : Nat} {D : DataW Unit} (h : w.ownsMap Tryz.prog 115 RF b n D) : Maps.size D ≤ n := by
  obtain ⟨es, clock, _, _, hs, rfl⟩ := h
  rw [Maps.size_eq, length_sorted]
  simpa using hs
theorem cell_two_new (w : World) (a b : Value) (t : TypeId) : ∀ j u, [a, b][j]? = some u → (w.alloc (.cells #[a, b] t)).cell? ((⟨w.heap.size, 0, none⟩ : Addr).add j) = some u := by
  intro j u h
  match j, h with
  | 0, h => simp at h; subst h; simp [Addr.add]
  | 1, h => simp at h; subst h; simp [Addr.add]
  | n + 2, h => simp at h
theorem ranges_row {w : World} {b r n cnt : Nat} {D : DataW Unit} {left : Lit → Bool} {base : Nat} {e : TypeId} {size : Nat} {v : Value} {m : Nat} {xs : List Value} (h : w.ranges Tryz.prog 115 RF b r n D left cnt) (ho : w.ownsRow base e size v m xs) : ∀ k, v.ownBlock = some k → some k ≠ some r ∧ some k ≠ some b := by
  obtain ⟨es, clock, since, seen, c0, hb, _, _, _, hr, _⟩ := h
  intro k hk
  rcases ho.2 with ⟨rfl, _⟩ | ⟨g, cap, cur, rfl, _, hc, _⟩
  · cases hk
  · cases hk
    refine ⟨fun e => ?_, fun e => ?_⟩
    · injection e with e; subst e; rw [hc] at hr; cases hr
    · injection e with e; subst e; rw [hc] at hb; cases hb
end Go.Proofs.YteffdgjoahkdaabGreat

/-
  impl: slices.SortFunc at keys, by compareKeys: what the row holds behind it.
-/
namespace Go.Proofs.YteffdgjoahkdaabGreat
open Go.RowKit Go.Shelf Go.Lib Go.Sort
set_option linter.unusedSimpArgs false
set_option linter.unusedVariables false

def mkC (p : KeyP) : Chg := ⟨p.1, p.2, 0, ⟨#[]⟩⟩
def cfP (p q : KeyP) : Int := cmpK (mkC p) (mkC q)
def ltP (p q : KeyP) : Bool := keyLt (mkC p) (mkC q)
theorem keyEq_self (a : Chg) : keyEq a a = true := keyEq_iff.2 ⟨rfl, rfl⟩
theorem ltP_irrefl (p : KeyP) : ltP p p = false := by
  cases h : ltP p p with
  | false => rfl
  | true => have := keyLt_ne h; rw [keyEq_self] at this; cases this
theorem lt_cf (p q : KeyP) : ltOf cfP p q = ltP p q := by
  unfold ltOf cfP ltP
  rw [cmpK_eq]
  cases keyLt (mkC p) (mkC q) <;> cases keyEq (mkC p) (mkC q) <;> simp
theorem ltP_trans {p q r : KeyP} (h : ltP p q = true) (k : ltP q r = true) : ltP p r = true := keyLt_trans h k
theorem ltP_total {p q : KeyP} (h : ltP p q = false) (k : ltP q p = false) : p = q := by
  cases he : keyEq (mkC p) (mkC q) with
  | true => obtain ⟨h1, h2⟩ := keyEq_iff.1 he; exact Prod.ext h1 h2
  | false => have := keyGt h he; unfold ltP at k; rw [k] at this; cases this
theorem swoP : SWO (ltOf cfP) where
  irrefl x := by rw [lt_cf]; exact ltP_irrefl x
  trans x y z h1 h2 := by rw [lt_cf] at *; exact ltP_trans h1 h2
  ntrans x y z h1 h2 := by
    rw [lt_cf] at *
    cases h : ltP x z with
    | false => rfl
    | true =>
      cases h3 : ltP y x with
      | true => rw [ltP_trans h3 h] at h2; cases h2
      | false => rw [ltP_total h1 h3] at h; rw [h] at h2; cases h2
/-- Two lists of the same keys, both in order, are one. -/
theorem sorted_one {a b : List KeyP} (hp : a.Perm b) (ha : a.Pairwise fun p q => ltP q p = false) (hb : b.Pairwise fun p q => ltP q p = false) : a = b :=
  hp.eq_of_pairwise (fun x y _ _ h1 h2 => ltP_total h2 h1) ha hb

theorem grow_of {w w' : World} (h : Below w.heap.size w w') (hd : w.drawn ≤ w'.drawn) : ∃ q os', w' = grow (w.drewN q) os' := by
  obtain ⟨hp, tp, dr, os, out⟩ := w
  obtain ⟨hp', tp', dr', os', out'⟩ := w'
  obtain ⟨h1, h2, h3, h4, h5⟩ := h
  dsimp only at h1 h2 h3 h4 h5 hd
  subst h1 h2 h3
  refine ⟨dr' - dr, hp'.extract hp.size hp'.size, ?_⟩
  simp only [grow, World.drewN, World.mk.injEq]
  refine ⟨?_, by first | rfl | trivial, by omega, by first | rfl | trivial, by first | rfl | trivial⟩
  apply Array.ext
  · simp; omega
  · intro i h6 h7
    by_cases hi : i < hp.size
    · have := h5 i hi
      rw [Array.getElem?_eq_getElem h6, Array.getElem?_eq_getElem hi] at this
      rw [Array.getElem_append_left hi]
      exact Option.some.inj this
    · rw [Array.getElem_append_right (by omega), Array.getElem_extract]
      congr 1
      omega

set_option maxHeartbeats 1600000 in
theorem compareKeys_grow (a b : Chg) (w : World) : Calls Tryz.prog 118 #[.agg #[.string a.f, .int .i64 a.what], .agg #[.string b.f, .int .i64 b.what]] w fun e w' => e = .returned (.int .i64 (cmpK a b)) ∧ ∃ q os', w' = grow (w.drewN q) os' := by
  have HK : Hid (cmpK a b = orI (cmpS a.f b.f) (cmpN a.what b.what)) := rfl
  have HX0 : Hid (OwnAt w ((w.alloc (.cells #[.string a.f, .int .i64 a.what] 115)).alloc (.cells #[.string b.f, .int .i64 b.what] 115)) [[.string a.f, .int .i64 a.what], [.string b.f, .int .i64 b.what]]) := ((OwnAt.start w).push rfl _ _).push (by simp) _ _
  have HD0 : Hid (w.drawn ≤ ((w.alloc (.cells #[.string a.f, .int .i64 a.what] 115)).alloc (.cells #[.string b.f, .int .i64 b.what] 115)).drawn) := Nat.le_refl w.drawn
  go_enter Tryz.func118, Tryz.ntmps118
  go_wp2
  generalize (w.alloc (.cells #[.string a.f, .int .i64 a.what] 115)).alloc (.cells #[.string b.f, .int .i64 b.what] 115) = w1 at *
  go_region_held3 (fun w' => (w'.cell? ⟨w.heap.size, 0, none⟩ = some (.string a.f) ∧ w'.cell? ⟨w.heap.size, 1, none⟩ = some (.int .i64 a.what) ∧ w'.cell? ⟨w.heap.size + 1, 0, none⟩ = some (.string b.f) ∧ w'.cell? ⟨w.heap.size + 1, 1, none⟩ = some (.int .i64 b.what)) ∧ (OwnAt w w' [[.string a.f, .int .i64 a.what], [.string b.f, .int .i64 b.what]] ∧ w.drawn ≤ w'.drawn))
    (first | (have ha := HX0.out.call (Below.refl _ w1).drew; exact ⟨⟨(ha.has 0 _ rfl 0 _ rfl).1, (ha.has 0 _ rfl 1 _ rfl).1, (ha.has 1 _ rfl 0 _ rfl).1, (ha.has 1 _ rfl 1 _ rfl).1⟩, ha, Nat.le_succ_of_le HD0.out⟩) | (have ha := HX0.out.call ((Below.refl _ w1).alloc (Nat.le_refl _) (.cells #[.int .i64 (cmpS a.f b.f), .int .i64 (cmpN a.what b.what)] 3)).drew; exact ⟨⟨(ha.has 0 _ rfl 0 _ rfl).1, (ha.has 0 _ rfl 1 _ rfl).1, (ha.has 1 _ rfl 0 _ rfl).1, (ha.has 1 _ rfl 1 _ rfl).1⟩, ha, Nat.le_succ_of_le HD0.out⟩) | (exact ‹_ ∧ (OwnAt w _ _ ∧ _)›))
    (first | (go_at_call 133; refine (strCompare_any _ _ _).mono ?_; rintro e w3 ⟨rfl, rfl⟩) | (go_at_call 134; refine (cmpCompare_any _ _ _).mono ?_; rintro e w3 ⟨rfl, rfl⟩) | (go_at_call 132; refine (cmpOr_any w1.heap.size (cmpS a.f b.f) (cmpN a.what b.what) _ (by simp [go_sem]) (by simp [go_sem])).mono ?_; rintro e w3 ⟨rfl, rfl⟩))
  all_goals go_wp2
  all_goals go_ret
  all_goals exact ⟨ret_int HK.out.symm, grow_of (‹_ ∧ (OwnAt w _ _ ∧ _)›).2.1.below (‹_ ∧ (OwnAt w _ _ ∧ _)›).2.2⟩

shelf_lay_g SlLaysF0.n6 Slsf 6 at Tryz 130 as Tryz.sortKeys
theorem keyRow_length (p : KeyP) : (keyRow p).length = 2 := rfl
theorem cmpLaysK (blk off size : Nat) (w : World) : CmpLays Tryz.prog 118 #[] keyRow 2 cfP blk off size w := fun m os dk _ x y => compareKeys_grow (mkC x) (mkC y) (sortWorldK keyRow 2 w blk off m dk os)
end Go.Proofs.YteffdgjoahkdaabGreat

/-
  impl: slices.SortFunc at keys: a row of one's own, sorted.
-/
namespace Go.Proofs.YteffdgjoahkdaabGreat
open Go.RowKit Go.Shelf Go.Lib Go.Sort
set_option linter.unusedSimpArgs false
set_option linter.unusedVariables false

theorem keyRows_get : ∀ (ss : List KeyP) (t : Nat), (keyRows ss)[t]? = (ss[t / 2]?).bind fun p => (keyRow p)[t % 2]?
  | [], t => by simp [keyRows]
  | p :: l, 0 => rfl
  | p :: l, 1 => rfl
  | p :: l, t + 2 => by
    have h1 : (t + 2) / 2 = t / 2 + 1 := by omega
    have h2 : (t + 2) % 2 = t % 2 := by omega
    rw [h1, h2]
    have := keyRows_get l t
    simpa [keyRows, keyRow] using this
theorem keyRows_length (ss : List KeyP) : (keyRows ss).length = ss.length * 2 := by
  induction ss with
  | nil => rfl
  | cons a l ih => simp only [keyRows, List.flatMap_cons, List.length_append] at ih ⊢; rw [ih]; simp [keyRow]; omega
theorem flat_get (ss : List KeyP) (t : Nat) (h : t < ss.length * 2) : (keyRows ss)[t]? = some ((flatK keyRow 2 ss.toArray)[t]!) := by
  rw [keyRows_get, get_flatK keyRow 2 ss.toArray t (by simpa using h)]
  have h1 : t / 2 < ss.length := by omega
  have h2 : t % 2 < (keyRow (ss[t / 2])).length := by rw [keyRow_length]; omega
  rw [List.getElem?_eq_getElem h1, Option.bind_some, List.getElem?_eq_getElem h2]
  congr 1
  have e : ss.toArray[t / 2]! = ss[t / 2] := by simp [h1]
  rw [e, getElem!_pos (keyRow (ss[t / 2])) (t % 2) h2]
theorem holds_row {w : World} {g : Nat} {cur : Array Value} {e : TypeId} {ss : List KeyP} (hb : w.heap[g]? = some (.cells cur e (0, 0))) (ht : cur.toList.take (ss.length * 2) = keyRows ss) : HoldsK keyRow 2 w g 0 ss.toArray := by
  intro t hs
  have hs' : t < ss.length * 2 := by simpa using hs
  have h1 := flat_get ss t hs'
  rw [← ht, List.getElem?_take, if_pos hs'] at h1
  refine ⟨?_, ?_⟩
  · simp only [Nat.zero_add, World.cell?, hb, Option.isSome_none, Bool.false_eq_true, if_false, id]
    simpa using h1
  · exact Lib.frozen_of_heap hb _
theorem putRow_take (cur : Array Value) (ss : List KeyP) (h : ss.length * 2 ≤ cur.size) : (putCells id 0 (flatK keyRow 2 ss.toArray) cur).toList.take (ss.length * 2) = keyRows ss := by
  apply List.ext_getElem?
  intro t
  rw [List.getElem?_take]
  by_cases ht : t < ss.length * 2
  · rw [if_pos ht, flat_get ss t ht]
    have hc : t < cur.size := by omega
    simp only [putCells, Array.getElem?_toList, Array.getElem?_mapIdx]
    rw [Array.getElem?_eq_getElem hc, Option.map_some, if_pos ⟨Nat.zero_le _, by simp; omega⟩]
    rfl
  · rw [if_neg ht, List.getElem?_eq_none (by rw [keyRows_length]; omega)]

theorem bitsLen0 (w : World) : Calls Tryz.prog 137 #[.int .u64 0] w fun e w' => e = .returned (.int .i64 0) ∧ w' = w := by
  have h := Any.bits_Len (SlLaysF0.n15.bits (P := Tryz.prog) { Tryz.sortKeys with }) (0 : Int) w (by omega) (by omega)
  exact h
set_option maxHeartbeats 1600000 in
theorem insertion_nil (w : World) (f : Value) : Calls Tryz.prog 140 #[.slice none 0 0, .int .i64 0, .int .i64 0, f] w fun e w' => e = .returned (.tuple #[]) ∧ w' = w := by
  go_enter Tryz.func140, Tryz.ntmps140
  go_wp2
  go_loopw [8] (fun i wr => i = .int .i64 1 ∧ wr = w) (fun _ _ => 0)
  case atStart => exact ⟨rfl, rfl⟩
  case round =>
    obtain ⟨rfl, rfl⟩ := hrel
    go_wp2
    go_end0
    exact ⟨rfl, rfl⟩
set_option maxHeartbeats 1600000 in
theorem pdq_nil (w : World) (f : Value) : Calls Tryz.prog 136 #[.slice none 0 0, .int .i64 0, .int .i64 0, .int .i64 0, f] w fun e w' => e = .returned (.tuple #[]) ∧ w' = w := by
  go_enter Tryz.func136, Tryz.ntmps136
  go_wp2
  go_loopw [1, 2] (fun a b wr => a = .int .i64 0 ∧ b = .int .i64 0 ∧ wr = w) (fun _ _ _ => 0)
  case atStart => exact ⟨rfl, rfl, rfl⟩
  case round =>
    obtain ⟨rfl, rfl, rfl⟩ := hrel
    go_wp2_with fail
    refine (insertion_nil _ _).mono ?_
    rintro e w1 ⟨rfl, rfl⟩
    go_wp2
    exact bodyPost_ret (v := .tuple #[]) (by simp [results, Tryz.results136, go_sem]) rfl ⟨rfl, rfl⟩
set_option maxHeartbeats 1600000 in
theorem sort_nil (w : World) (f : Value) : Calls Tryz.prog 130 #[.slice none 0 0, f] w fun e w' => e = .returned (.tuple #[]) ∧ w' = w := by
  go_enter Tryz.func130, Tryz.ntmps130
  go_wp2_with fail
  refine (bitsLen0 w).mono ?_
  rintro e w1 ⟨rfl, rfl⟩
  go_wp2_with fail
  refine (pdq_nil w1 f).mono ?_
  rintro e w2 ⟨rfl, rfl⟩
  go_wp2
  go_end0
  exact ⟨rfl, rfl⟩

set_option maxHeartbeats 1600000 in
theorem sortKeys_any (ss : List KeyP) (v : Value) (B : Nat) (w : World) (ho : w.ownsRow B 115 2 v ss.length (keyRows ss)) (hlen : ss.length ≤ 4194304) :
    Calls Tryz.prog 130 #[v, .func (.func 118) #[] #[]] w fun e w' => e = .returned (.tuple #[]) ∧ ∃ ss' : List KeyP, ss'.Perm ss ∧ (ss'.Pairwise fun p q => ltP q p = false) ∧ w'.ownsRow B 115 2 v ss'.length (keyRows ss') ∧ w.grownBy w' v.ownBlock := by
  have ho' := ho
  obtain ⟨hl, h⟩ := ho
  rcases h with ⟨rfl, h0⟩ | ⟨g, cap, cur, rfl, hB, hb, hn, hc, hsz, ht⟩
  · refine (sort_nil w _).mono ?_
    rintro e w' ⟨rfl, rfl⟩
    have : ss = [] := List.length_eq_zero_iff.1 h0
    subst this
    exact ⟨rfl, [], List.Perm.nil, List.Pairwise.nil, ho', World.grownBy.refl _ _⟩
  · have eg : ∀ args w, (callFunc 118 args).run Tryz.prog w = .ok (.enter 118 args) w := enters_of Tryz.func118 (by kernel_rfl) rfl
    have hlt : g < w.heap.size := (Array.getElem?_eq_some_iff.1 hb).1
    have hcon := AnyQ.slices_SortFunc Tryz.sortKeys 2 Tryz.isAgg115 Tryz.sizeOf115 keyRow keyRow_length (fun x u hu => by simp [keyRow] at hu; rcases hu with rfl | rfl <;> rfl) cfP swoP 118 #[] g 0 cap ss.toArray w eg (cmpLaysK g 0 _ w) (holds_row hb ht) hlt (by simp; omega)
    change Calls Tryz.prog 130 _ _ _ at hcon
    have e0 : ss.toArray.size = ss.length := by simp
    rw [e0] at hcon
    refine hcon.mono ?_
    rintro e w' ⟨rfl, d', n, os, ⟨hs', _, hp⟩, hso, rfl⟩
    have hsz' : d'.toList.length = ss.length := by simpa using hs'
    have hd : d' = d'.toList.toArray := by simp
    have hx1 : (d'.extract 0 ss.length).toList = d'.toList := by rw [show ss.length = d'.size by simpa using hs'.symm]; simp
    have hx2 : (ss.toArray.extract 0 ss.length).toList = ss := by simp
    rw [hx1, hx2] at hp
    refine ⟨rfl, d'.toList, hp, ?_, ?_, ?_⟩
    · rw [List.pairwise_iff_getElem]
      intro i j hi hj hij
      have := hso i j (Nat.zero_le _) hij (by rw [← hsz']; exact hj)
      rw [lt_cf] at this
      have e1 : d'[j]! = d'.toList[j] := by rw [getElem!_pos d' j (by simpa using hj)]; simp
      have e2 : d'[i]! = d'.toList[i] := by rw [getElem!_pos d' i (by simpa using hi)]; simp
      rw [e1, e2] at this
      exact this
    · refine ⟨keyRows_length _, .inr ⟨g, cap, putCells id 0 (flatK keyRow 2 d'.toList.toArray) cur, by rw [hsz'], hB, ?_, by omega, hc, by simp [putCells, hsz], ?_⟩⟩
      · rw [← hd]
        simp only [sortWorldK, grow, putRowK, putRow, mapBlock, Sort.ahead]
        rw [Array.getElem?_append_left (by simpa using hlt), Array.getElem?_modify, if_pos rfl, hb]
        rfl
      · exact putRow_take cur d'.toList (by rw [hsz', hsz]; exact Nat.mul_le_mul_right 2 hn)
    · refine ⟨rfl, rfl, rfl, by simp [sortWorldK, grow, putRowK, putRow, mapBlock, Sort.ahead], fun k hk hne => ?_⟩
      simp only [sortWorldK, grow, putRowK, putRow, mapBlock, Sort.ahead]
      have hne' : ¬ g = k := fun e => hne (by rw [e]; rfl)
      rw [Array.getElem?_append_left (by simpa using hk), Array.getElem?_modify, if_neg hne']
end Go.Proofs.YteffdgjoahkdaabGreat

/-
  impl: the keys of the map, sorted.
-/
namespace Go.Proofs.YteffdgjoahkdaabGreat
open Go.RowKit
set_option linter.unusedSimpArgs false
set_option linter.unusedVariables false

def kyOf (c : Chg) : KeyP := (c.f, c.what)
theorem perm_of_mem : ∀ (a b : List KeyP), a.Nodup → b.Nodup → (∀ p, p ∈ a ↔ p ∈ b) → a.Perm b
  | [], b, _, _, h => by
    have : b = [] := List.eq_nil_iff_forall_not_mem.2 fun p hp => by have := (h p).2 hp; simp at this
    rw [this]
  | x :: a, b, ha, hb, h => by
    have hx : x ∈ b := (h x).1 (by simp)
    rw [List.nodup_cons] at ha
    obtain ⟨s, t, rfl⟩ := List.append_of_mem hx
    have hb' : (x :: (s ++ t)).Nodup := (List.perm_middle.nodup_iff).1 hb
    rw [List.nodup_cons] at hb'
    refine List.Perm.trans (List.Perm.cons x (perm_of_mem a (s ++ t) ha.2 hb'.2 fun p => ?_)) List.perm_middle.symm
    have hp := h p
    simp only [List.mem_cons, List.mem_append] at hp ⊢
    by_cases e : p = x
    · subst e
      simp only [List.mem_append] at hb'
      exact ⟨fun h1 => absurd h1 ha.1, fun h1 => absurd h1 hb'.1⟩
    · simp only [e, false_or] at hp
      exact hp
theorem keys_sorted {S : List Chg} (h : SortedC S) : (S.map kyOf).Pairwise fun p q => ltP q p = false := by
  rw [List.pairwise_map]
  refine List.Pairwise.imp ?_ h
  intro a b hab
  cases hq : ltP (kyOf b) (kyOf a) with
  | false => rfl
  | true =>
    have h1 : ltP (kyOf a) (kyOf b) = true := hab
    have := ltP_trans h1 hq
    rw [ltP_irrefl] at this; cases this
theorem keys_nodup {S : List Chg} (h : SortedC S) : (S.map kyOf).Nodup := by
  unfold List.Nodup
  rw [List.pairwise_map]
  refine List.Pairwise.imp ?_ h
  intro a b hab e
  have h1 : ltP (kyOf a) (kyOf b) = true := hab
  rw [e, ltP_irrefl] at h1; cases h1

set_option maxRecDepth 100000 in
set_option maxHeartbeats 3200000 in
theorem sortedKeys_any (b n : Nat) (S : List Chg) (w : World) (h : MapIs w b n S) (hS : SortedC S) (hfit : ∀ c ∈ S, KeyFit c) (hn : n ≤ 4194304) :
    Calls Tryz.prog 114 #[.map (some b)] w fun e w' => ∃ v, e = .returned v ∧ w'.ownsRow w.heap.size 115 2 v S.length (keyRows (S.map kyOf)) ∧ Below w.heap.size w w' := by
  obtain ⟨i0, hi, hz0, hz1, hz2⟩ := info_parts infoKey
  obtain ⟨D, hown, hD, hat⟩ := h
  have HH : Hid (∀ k : Chg, KeyFit k → Maps.has D (klK k.f k.what) = S.any fun a => keyEq a k) := fun k hk => MapIs.has hat k hk
  clear hat
  go_enter Tryz.func114, Tryz.ntmps114
  go_wp2_with (first
    | (at_range; refine wpList_range_own _ rfl _ 113 rfl 115 71 keyedK Tryz.underlying113 _ b n _ rfl hown ?_; intro w0 hrg0 hg0 hs0)
    | go_in)
  go_frame
  go_loopw [3, 4] (fun o _ wr => ∃ (ss : List KeyP) (left : Lit → Bool) (cnt : Nat), wr.ranges Tryz.prog 115 RF b w.heap.size n D left cnt ∧ wr.ownsRow w.heap.size 115 2 o ss.length (keyRows ss) ∧ Below w.heap.size w wr ∧ CollK D left ss ∧ ss.length + cnt ≤ n) (fun _ _ wr => wr.rangeLeft b w.heap.size)
  case atStart => exact ⟨[], _, _, hrg0, ⟨rfl, .inl ⟨rfl, rfl⟩⟩, ⟨hg0.os, hg0.tape, hg0.output, hg0.size, fun k hk => hg0.block k hk (by simp)⟩, CollK.start D, by simpa using size_le hown⟩
  case round =>
    obtain ⟨ss, left, cnt, hrg, ho, hbl, hcoll, hcn⟩ := hrel
    go_wp2_with (first
      | (at_next; refine wpList_next_ranges _ rfl _ rfl 115 keyedK RF keyV (fun f : Fld => Value.agg #[.int .i64 f.what, .int .i64 f.num, .string f.v]) (fun key kl hk => by obtain ⟨f, n, rfl, _⟩ := keyOf_inv hk; exact ⟨(f, n), rfl⟩) RF_shape b w.heap.size n _ _ _ rfl hrg ?_ ?_)
      | go_in)
    · intro _ hl0
      have HC : Hid (∀ p : KeyP, FitP p → (p ∈ ss ↔ ∃ c ∈ S, c.f = p.1 ∧ c.what = p.2)) := fun p hp => by
        rw [hcoll.2.2 p hp, hl0, HH.out ⟨p.1, p.2, 0, ⟨#[]⟩⟩ hp]
        simp [keyEq]
      have HO : Hid (ss.Nodup ∧ (∀ p ∈ ss, FitP p) ∧ wr.ownsRow w.heap.size 115 2 u3 ss.length (keyRows ss) ∧ Below w.heap.size w wr) := ⟨hcoll.1, hcoll.2.1, ho, hbl⟩
      clear hrg ho hbl hcoll hrg0 hown hl0 hg0
      have HP : Hid (ss.Perm (S.map kyOf)) := perm_of_mem _ _ HO.out.1 (keys_nodup hS) fun p => ⟨fun hp => by
          obtain ⟨c, hc, h1, h2⟩ := (HC.out p (HO.out.2.1 p hp)).1 hp
          exact List.mem_map.2 ⟨c, hc, Prod.ext h1 h2⟩, fun hp => by
          obtain ⟨c, hc, rfl⟩ := List.mem_map.1 hp
          exact (HC.out (kyOf c) (show FitP (kyOf c) from hfit c hc)).2 ⟨c, hc, rfl, rfl⟩⟩
      have hlen : ss.length ≤ 4194304 := by omega
      go_wp2_with fail
      refine (sortKeys_any ss u3 w.heap.size wr HO.out.2.2.1 hlen).mono ?_
      rintro e w1 ⟨rfl, ss', hp', hs', ho', hg'⟩
      have HE : Hid (ss' = S.map kyOf) := sorted_one (hp'.trans HP.out) hs' (keys_sorted hS)
      have HF : Hid (w1.ownsRow w.heap.size 115 2 u3 S.length (keyRows (S.map kyOf)) ∧ Below w.heap.size w w1) := by
        have h1 := ho'
        rw [HE.out, List.length_map] at h1
        exact ⟨h1, HO.out.2.2.2.grown hg' HO.out.2.2.2.size (own_ge HO.out.2.2.1)⟩
      clear hp' hs' ho' hg'
      go_wp2
      go_ret
      exact ⟨_, rfl, HF.out.1, HF.out.2⟩
    · intro pf pn f kl y1 y2 w1 cnt1 hkey hlk hv hat hrg1 hlt hg1 hs1 hen
      obtain ⟨f', n', hpe, hp1, hp2, rfl⟩ := keyOf_inv hkey
      simp only [keyV, Value.agg.injEq, Array.mk.injEq, List.cons.injEq, Value.string.injEq, Value.int.injEq, and_true, true_and] at hpe
      obtain ⟨rfl, rfl⟩ := hpe
      dsimp only [keyV] at *
      have hfp : FitP (pf, pn) := ⟨hp1, hp2⟩
      have HCO : Hid (CollK D (fun z => left z && !z.sameKey (klK pf pn)) (ss ++ [(pf, pn)])) := CollK.step (p := (pf, pn)) hcoll hfp hlk (Maps.has_true_of_atKey (y := y1) hat)
      have ho1 : w1.ownsRow w.heap.size 115 2 u3 ss.length (keyRows ss) := ownsRow_farF ho hg1 (fun k hk => (ranges_row hrg ho k hk).1)
      have hbl1 : Below w.heap.size w w1 := hbl.grown hg1 hbl.size (fun k e => by cases e; exact Nat.le_refl _)
      have HRG : Hid (w1.ranges Tryz.prog 115 RF b w.heap.size n D (fun z => left z && !z.sameKey (klK pf pn)) cnt1) := hrg1
      have hms : wr.rangeLeft b w.heap.size = cnt := hrg.left_eq
      have HRB : Hid (∀ k, u3.ownBlock = some k → w.heap.size < k ∧ k ≠ b) := fun k hk => by
        have h1 := ranges_row hrg ho k hk
        have h2 := own_ge ho k hk
        refine ⟨?_, fun e => h1.2 (by rw [e])⟩
        have h3 : k ≠ w.heap.size := fun e => h1.1 (by rw [e])
        omega
      have hsz1 := hbl1.size
      clear hrg hrg1 hcoll ho hbl hg1 hat hv hkey hlk hrg0 hg0 hown
      clear hs1
      have hcn1 : ss.length + 1 + cnt1 ≤ n := by omega
      have hl4 : ss.length ≤ 4194304 := by omega
      have HBD : Hid (∀ k, u3.ownBlock = some k → w.heap.size < k ∧ k ≠ b) := HRB.out
      have HNW : Hid (∀ (j : Nat) (u : Value), (keyRow (pf, pn))[j]? = some u → ((w1.alloc (.cells #[.string pf, .int .i64 pn] 115)).alloc (.cells #[.string pf, .int .i64 pn] 115)).cell? ((⟨w1.heap.size + 1, 0, none⟩ : Addr).add j) = some u) := by
        have h := cell_two_new (w1.alloc (.cells #[.string pf, .int .i64 pn] 115)) (.string pf) (.int .i64 pn) 115
        rw [World.size_alloc] at h
        exact h
      go_wp2_with (at_builtin; refine wpList_append_own _ rfl _ _ 155 rfl w.heap.size 115 i0 (.agg #[.string ByteArray.empty, .int .i64 0]) 2 24 Tryz.underlying155 hi hz0 hz1 hz2 rfl (by decide) _ _ _ rfl ((ho1.alloc _).alloc _) ⟨w1.heap.size + 1, 0, none⟩ 1 1 (keyRow (pf, pn)) rfl rfl HNW.out (fun x hx => by simp [keyRow] at hx; rcases hx with rfl | rfl <;> rfl) (by unfold maxLen; omega) (by omega) (by simp; omega) ?_; intro v' w3 hown' hgrow3 hnil3)
      have hgr : ((w1.alloc (.cells #[.string pf, .int .i64 pn] 115)).alloc (.cells #[.string pf, .int .i64 pn] 115)).grownBy w3 u3.ownBlock := hgrow3
      have hrg3 := ((HRG.out.alloc (.cells #[.string pf, .int .i64 pn] 115)).alloc (.cells #[.string pf, .int .i64 pn] 115)).kept hgr (fun e => (HBD.out b e.symm).2 rfl) (fun e => Nat.lt_irrefl _ (HBD.out _ e.symm).1)
      refine ⟨⟨ss ++ [(pf, pn)], _, cnt1, hrg3, ?_, ?_, HCO.out, by simp; omega⟩, by rw [hrg3.left_eq, hms]; exact hlt⟩
      · rw [keyRows_snoc, List.length_append]
        exact hown'
      · exact ((hbl1.alloc hsz1 _).alloc (by simp; omega) _).grown hgr (by simp; omega) (fun k hk => Nat.le_of_lt (HBD.out k hk).1)
end Go.Proofs.YteffdgjoahkdaabGreat
