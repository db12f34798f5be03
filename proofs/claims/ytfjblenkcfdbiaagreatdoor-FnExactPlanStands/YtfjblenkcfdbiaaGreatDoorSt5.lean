/-
  Joined: St4, St5.
-/
import Derived.Test.YtfjblenkcfdbiaaGreatDoorSt3
set_option linter.unusedSimpArgs false
set_option linter.unusedVariables false

namespace Go.Proofs.YtfjblenkcfdbiaaGreatDoor.Sd
open Go.RowKit Go.Proofs.YtfjblenkcfdbiaaGreatDoor

/-- Parts in a row of one's own, out of these fields. -/
def PartsNew (w : World) (B : Nat) (v : Value) (ks : List Tri) (fs : List Fld) : Prop :=
  ∃ us : List Value, us.length = fs.length ∧ w.ownsRow B 156 1 v fs.length (List.zipWith (pv ks) fs us) ∧ ∀ (i : Nat) (f : Fld) (u : Value), fs[i]? = some f → us[i]? = some u → f.what = 4 → SNew w B u (cutW f.v)
theorem PartsNew.keep {w w' : World} {B : Nat} {v : Value} {ks : List Tri} {fs : List Fld} (h : PartsNew w B v ks fs) (hb : Below w.heap.size w w') : PartsNew w' B v ks fs := by
  obtain ⟨us, h1, h2, h3⟩ := h
  exact ⟨us, h1, Lv.own_keep h2 hb, fun i f u hf hu h4 => Lv.own_keep (h3 i f u hf hu h4) hb⟩
theorem PartsNew.slice {w : World} {B : Nat} {v : Value} {ks : List Tri} {fs : List Fld} (h : PartsNew w B v ks fs) : ∃ a c, v = .slice a fs.length c := by
  obtain ⟨us, h1, h2, h3⟩ := h
  exact Lv.own_slice h2
theorem grown_rowS (w : World) (g : Nat) (cs : Array Value) : w.grownBy (w.setRow g cs) (some g) := ⟨rfl, rfl, rfl, by simp, fun k _ hk => setRow_other _ _ _ _ (fun e => hk (by rw [e]))⟩
theorem zip_snoc (ks : List Tri) : ∀ (fs : List Fld) (us : List Value) (f : Fld) (u : Value), us.length = fs.length → List.zipWith (pv ks) (fs ++ [f]) (us ++ [u]) = List.zipWith (pv ks) fs us ++ [pv ks f u]
  | [], [], f, u, _ => rfl
  | [], _ :: _, f, u, h => by simp at h
  | _ :: _, [], f, u, h => by simp at h
  | a :: fs, b :: us, f, u, h => by simp [zip_snoc ks fs us f u (by simpa using h)]
theorem SNew.mono {w : World} {B B' : Nat} {v : Value} {l : List ByteArray} (h : SNew w B v l) (hb : B' ≤ B) : SNew w B' v l := by
  refine ⟨h.1, ?_⟩
  rcases h.2 with h2 | ⟨g, cap, cur, hv, hg, rest⟩
  · exact .inl h2
  · exact .inr ⟨g, cap, cur, hv, by omega, rest⟩
/-- One part more. -/
theorem PartsNew.snoc {w w' : World} {B D : Nat} {v v' : Value} {ks : List Tri} {fs : List Fld} {f : Fld} {u : Value} {us : List Value} (h1 : us.length = fs.length)
    (h3 : ∀ (i : Nat) (f : Fld) (u : Value), fs[i]? = some f → us[i]? = some u → f.what = 4 → SNew w B u (cutW f.v)) (hu : f.what = 4 → SNew w B u (cutW f.v))
    (hD : w.heap[D]? = some (.cells #[v, .string ⟨#[]⟩] 124 (0, 0)) ∨ ∃ nm, w.heap[D]? = some (.cells #[v, nm] 124 (0, 0))) (hown : w.ownsRow B 156 1 v fs.length (List.zipWith (pv ks) fs us))
    (hk : KeptS w w' (fun j => j = D ∨ some j = v.ownBlock)) (hn : w'.ownsRow B 156 1 v' (fs.length + 1) (List.zipWith (pv ks) fs us ++ [pv ks f u])) : PartsNew w' B v' ks (fs ++ [f]) := by
  have hDD : ∃ nm, w.heap[D]? = some (.cells #[v, nm] 124 (0, 0)) := by
    rcases hD with h | h
    · exact ⟨_, h⟩
    · exact h
  obtain ⟨nm, hDD⟩ := hDD
  have far : ∀ (x : Value) (l : List ByteArray), SNew w B x l → SNew w' B x l := fun x l hx => by
    refine own_keptS hx hk (fun k hk' hs => ?_)
    rcases hs with rfl | hs
    · exact own_type hx hDD (by decide) hk'.symm
    · rcases hx.2 with ⟨rfl, _⟩ | ⟨g, cap, cur, rfl, hg, hc, _⟩
      · cases hk'
      · simp only [Value.ownBlock, Option.some.injEq] at hk'
        subst hk'
        exact own_type hown hc (by decide) hs
  refine ⟨us ++ [u], by simp [h1], ?_, fun i f' u' hf hu' h4 => ?_⟩
  · rw [zip_snoc ks fs us f u h1, List.length_append]
    exact hn
  · by_cases hi : i < fs.length
    · rw [List.getElem?_append_left hi] at hf
      rw [List.getElem?_append_left (by omega)] at hu'
      exact far _ _ (h3 i f' u' hf hu' h4)
    · rw [List.getElem?_append_right (by omega)] at hf
      rw [List.getElem?_append_right (by omega), h1] at hu'
      have hi0 : i - fs.length = 0 := by
        have := (List.getElem?_eq_some_iff.1 hf).1
        simp at this; omega
      rw [hi0] at hf hu'
      simp at hf hu'
      subst hf hu'
      exact far _ _ (hu h4)
set_option maxRecDepth 100000 in
set_option maxHeartbeats 6400000 in
theorem draftOf_any (vk vp fv : Value) (ks ps : List Tri) (nm : ByteArray) (fs : List Fld) (w : World) (hk : TrisAt w vk ks) (hf : FldsAt w fv fs) (hfit : ∀ f ∈ fs, valB2 ks ps f.what f.v = true ∧ f.v.size ≤ 1048576) (hn : ∀ t ∈ ks, t.s.size ≤ 1048576) (hl : fs.length ≤ 1048576) :
    Calls Tryz.prog 71 #[.agg #[vk, vp], .agg #[.string nm, fv]] w fun e w' => ∃ v, e = .returned (.agg #[v, .string nm]) ∧ PartsNew w' w.heap.size v ks fs ∧ Below w.heap.size w w' := by
  have HK : Hid (∀ wx : World, Below w.heap.size w wx → TrisAt wx vk ks) := fun wx hx => hk.keep hx
  have HF : Hid (∀ wx : World, Below w.heap.size w wx → FldsAt wx fv fs) := fun wx hx => hf.keep hx
  have HFT : Hid (∀ f ∈ fs, valB2 ks ps f.what f.v = true ∧ f.v.size ≤ 1048576) := hfit
  have HNK : Hid (∀ t ∈ ks, t.s.size ≤ 1048576) := hn
  obtain ⟨af, cf, rfl, hf1, hf2, -⟩ := hf
  unfold maxLen at hf2
  have HB : Hid (Below w.heap.size w ((((w.alloc (.cells #[vk, vp] 34)).alloc (.cells #[.string nm, .slice af fs.length cf] 60)).alloc (.cells #[.slice none 0 0, .string ⟨#[]⟩] 124)).alloc (.cells #[.slice none 0 0, .string nm] 124))) := ((((Below.refl _ _).alloc (Nat.le_refl _) _).alloc (by simp) _).alloc (by simp; omega) _).alloc (by simp; omega) _
  have HZ : Hid (((((w.alloc (.cells #[vk, vp] 34)).alloc (.cells #[.string nm, .slice af fs.length cf] 60)).alloc (.cells #[.slice none 0 0, .string ⟨#[]⟩] 124)).alloc (.cells #[.slice none 0 0, .string nm] 124)).heap.size = w.heap.size + 4) := by show _ = _; simp
  have HD : Hid (((((w.alloc (.cells #[vk, vp] 34)).alloc (.cells #[.string nm, .slice af fs.length cf] 60)).alloc (.cells #[.slice none 0 0, .string ⟨#[]⟩] 124)).alloc (.cells #[.slice none 0 0, .string nm] 124)).heap[w.heap.size + 3]? = some (.cells #[.slice none 0 0, .string nm] 124 (0, 0))) := by
    have h := Lv.heap_newF (((w.alloc (.cells #[vk, vp] 34)).alloc (.cells #[.string nm, .slice af fs.length cf] 60)).alloc (.cells #[.slice none 0 0, .string ⟨#[]⟩] 124)) (.cells #[.slice none 0 0, .string nm] 124)
    rw [show (((w.alloc (.cells #[vk, vp] 34)).alloc (.cells #[.string nm, .slice af fs.length cf] 60)).alloc (.cells #[.slice none 0 0, .string ⟨#[]⟩] 124)).heap.size = w.heap.size + 3 by simp] at h
    exact h
  have HR : Hid (((((w.alloc (.cells #[vk, vp] 34)).alloc (.cells #[.string nm, .slice af fs.length cf] 60)).alloc (.cells #[.slice none 0 0, .string ⟨#[]⟩] 124)).alloc (.cells #[.slice none 0 0, .string nm] 124)).heap[w.heap.size + 2]? = some (.cells #[.slice none 0 0, .string ⟨#[]⟩] 124 (0, 0))) := by
    have h := Lv.heap_newF ((w.alloc (.cells #[vk, vp] 34)).alloc (.cells #[.string nm, .slice af fs.length cf] 60)) (.cells #[.slice none 0 0, .string ⟨#[]⟩] 124)
    rw [show ((w.alloc (.cells #[vk, vp] 34)).alloc (.cells #[.string nm, .slice af fs.length cf] 60)).heap.size = w.heap.size + 2 by simp] at h
    exact below_block ((Below.refl _ _).alloc (Nat.le_refl _) _) h
  have Q0 : Hid (((((w.alloc (.cells #[vk, vp] 34)).alloc (.cells #[.string nm, .slice af fs.length cf] 60)).alloc (.cells #[.slice none 0 0, .string ⟨#[]⟩] 124)).alloc (.cells #[.slice none 0 0, .string nm] 124)).cell? ⟨w.heap.size, 0, none⟩ = some vk ∧ ((((w.alloc (.cells #[vk, vp] 34)).alloc (.cells #[.string nm, .slice af fs.length cf] 60)).alloc (.cells #[.slice none 0 0, .string ⟨#[]⟩] 124)).alloc (.cells #[.slice none 0 0, .string nm] 124)).cell? ⟨w.heap.size, 1, none⟩ = some vp) := ⟨by simp [go_sem], by simp [go_sem]⟩
  have q2 : ((((w.alloc (.cells #[vk, vp] 34)).alloc (.cells #[.string nm, .slice af fs.length cf] 60)).alloc (.cells #[.slice none 0 0, .string ⟨#[]⟩] 124)).alloc (.cells #[.slice none 0 0, .string nm] 124)).cell? ⟨w.heap.size + 1, 0, none⟩ = some (.string nm) := by simp [go_sem]
  have q3 : ((((w.alloc (.cells #[vk, vp] 34)).alloc (.cells #[.string nm, .slice af fs.length cf] 60)).alloc (.cells #[.slice none 0 0, .string ⟨#[]⟩] 124)).alloc (.cells #[.slice none 0 0, .string nm] 124)).cell? ⟨w.heap.size + 1, 1, none⟩ = some (.slice af fs.length cf) := by simp [go_sem]
  clear hk hfit hn
  go_enter Tryz.func71, Tryz.ntmps71
  go_wp2_with fail
  generalize ((((w.alloc (.cells #[vk, vp] 34)).alloc (.cells #[.string nm, .slice af fs.length cf] 60)).alloc (.cells #[.slice none 0 0, .string ⟨#[]⟩] 124)).alloc (.cells #[.slice none 0 0, .string nm] 124)) = w1 at *
  clear q2 q3
  go_loopw [14] (fun i wr => ∃ (k : Nat) (v : Value), k ≤ fs.length ∧ i = .int .i64 k ∧ Hid (wr.heap[w.heap.size + 3]? = some (.cells #[v, .string nm] 124 (0, 0)) ∧ PartsNew wr (w.heap.size + 4) v ks (fs.take k) ∧ Below (w.heap.size + 3) w1 wr ∧ w.heap.size + 4 ≤ wr.heap.size)) (fun i _ => fs.length - (intOf i).toNat)
  case atStart => exact ⟨0, _, Nat.zero_le _, rfl, HD.out, ⟨[], rfl, ⟨rfl, .inl ⟨rfl, rfl⟩⟩, fun i f u hf => by simp at hf⟩, Below.refl _ _, by have := HZ.out; omega⟩
  case round =>
    obtain ⟨k, v, hk, rfl, HI⟩ := hrel
    have BW : Hid (Below w.heap.size w wr) := HB.out.trans (HI.out.2.2.1.mono (by omega))
    by_cases hlt : k < fs.length
    · obtain ⟨af', cf', he, -, -, hfc⟩ := HF.out _ BW.out
      obtain ⟨b, off, hap, d0, d1, d2⟩ := hfc k _ (fat_get hlt)
      cases he
      subst hap
      clear hfc
      have hft := HFT.out _ (List.mem_of_getElem? (fat_get hlt))
      have HTS : Hid (fs.take (k + 1) = fs.take k ++ [fat fs k]) := by
        show _ = _
        rw [List.take_succ_eq_append_getElem hlt]
        simp [fat, hlt]
      have HTL : Hid ((fs.take k).length = k) := by show _ = _; rw [List.length_take]; omega
      generalize fat fs k = f at *
      obtain ⟨hft1, hft2⟩ := hft
      have hk0 : (0 : Int) ≤ (k : Int) := by omega
      have hk1 : (k : Int) < (fs.length : Int) := by omega
      have AL : Hid (Below wr.heap.size wr (wr.alloc (.cells #[.int .i64 f.what, .int .i64 f.num, .string f.v] 62))) := (Below.refl _ _).alloc (Nat.le_refl _) _
      have I1 : Hid ((wr.alloc (.cells #[.int .i64 f.what, .int .i64 f.num, .string f.v] 62)).heap[w.heap.size + 3]? = some (.cells #[v, .string nm] 124 (0, 0)) ∧ PartsNew (wr.alloc (.cells #[.int .i64 f.what, .int .i64 f.num, .string f.v] 62)) (w.heap.size + 4) v ks (fs.take k) ∧ Below (w.heap.size + 3) w1 (wr.alloc (.cells #[.int .i64 f.what, .int .i64 f.num, .string f.v] 62)) ∧ w.heap.size + 4 ≤ (wr.alloc (.cells #[.int .i64 f.what, .int .i64 f.num, .string f.v] 62)).heap.size) := ⟨below_block AL.out HI.out.1, HI.out.2.1.keep AL.out, HI.out.2.2.1.trans (AL.out.mono (by have := HI.out.2.2.2; omega)), Nat.le_trans HI.out.2.2.2 AL.out.size⟩
      have p0 : (wr.alloc (.cells #[.int .i64 f.what, .int .i64 f.num, .string f.v] 62)).cell? ⟨w.heap.size, 0, none⟩ = some vk := (I1.out.2.2.1.cell (p := ⟨w.heap.size, 0, none⟩) (by show w.heap.size < _; omega)).trans Q0.out.1
      have p1 : (wr.alloc (.cells #[.int .i64 f.what, .int .i64 f.num, .string f.v] 62)).cell? ⟨w.heap.size, 1, none⟩ = some vp := (I1.out.2.2.1.cell (p := ⟨w.heap.size, 1, none⟩) (by show w.heap.size < _; omega)).trans Q0.out.2
      clear HI
      go_wp2_with fail
      refine (partOf_any vk vp ks ps f _ (HK.out _ (below_step BW.out AL.out)) hft1 HNK.out hft2).mono ?_
      rintro e w2 ⟨u, rfl, hu, hb2⟩
      have I2 : Hid (w2.heap[w.heap.size + 3]? = some (.cells #[v, .string nm] 124 (0, 0)) ∧ PartsNew w2 (w.heap.size + 4) v ks (fs.take k) ∧ Below (w.heap.size + 3) w1 w2 ∧ w.heap.size + 4 ≤ w2.heap.size) := ⟨below_block hb2 I1.out.1, I1.out.2.1.keep hb2, I1.out.2.2.1.trans (hb2.mono (by have := I1.out.2.2.2; omega)), Nat.le_trans I1.out.2.2.2 hb2.size⟩
      have HU : Hid (f.what = 4 → SNew w2 (w.heap.size + 4) u (cutW f.v)) := fun h4 => SNew.mono (hu h4) I1.out.2.2.2
      obtain ⟨T, q, hTq⟩ := pv_iface ks f u
      have HTQ : Hid (pv ks f u = .iface T q) := hTq
      rw [hTq]
      clear hTq hu hb2 I1 p0 p1 d0 d1 d2 AL
      obtain ⟨us, hus, hown, hstr⟩ := I2.out.2.1
      have HOW : Hid (w2.ownsRow (w.heap.size + 4) 156 1 v (fs.take k).length (List.zipWith (pv ks) (fs.take k) us)) := hown
      have HSTR : Hid (∀ (i : Nat) (f : Fld) (u : Value), (fs.take k)[i]? = some f → us[i]? = some u → f.what = 4 → SNew w2 (w.heap.size + 4) u (cutW f.v)) := hstr
      clear hown hstr
      go_wp2_with fail
      refine (add_any (w.heap.size + 3) (w.heap.size + 4) (fs.take k).length v (.string nm) q T _ w2 I2.out.1 HOW.out (by rw [HTL.out]; omega) I2.out.2.2.2).mono ?_
      rintro e w3 ⟨rfl, v', hD', hown', hK, -⟩
      have HN : Hid (w3.heap[w.heap.size + 3]? = some (.cells #[v', .string nm] 124 (0, 0)) ∧ PartsNew w3 (w.heap.size + 4) v' ks (fs.take (k + 1)) ∧ Below (w.heap.size + 3) w1 w3 ∧ w.heap.size + 4 ≤ w3.heap.size) := by
        refine ⟨hD', ?_, KeptS.below I2.out.2.2.1 hK (by have := I2.out.2.2.2; omega) (fun j hj => ?_), Nat.le_trans I2.out.2.2.2 hK.size⟩
        · rw [HTS.out]
          exact PartsNew.snoc hus HSTR.out HU.out (.inr ⟨_, I2.out.1⟩) HOW.out hK (by rw [HTQ.out]; exact hown')
        · rcases hj with rfl | hj
          · exact Nat.le_refl _
          · have := Lv.own_ge HOW.out j hj.symm
            omega
      clear hD' hown' hK I2 HOW HSTR HU
      go_wp2_with fail
      exact ⟨⟨k + 1, v', by omega, by go_num, HN⟩, by simp [intOf]; omega⟩
    · have HF2 : Hid (fs.take k = fs) := List.take_of_length_le (by omega)
      obtain ⟨e0, e1⟩ := cell_two HI.out.1
      have hR : wr.heap[w.heap.size + 2]? = some (.cells #[.slice none 0 0, .string ⟨#[]⟩] 124 (0, 0)) := (HI.out.2.2.1.block _ (by omega)).trans HR.out
      obtain ⟨av, cv, hav⟩ := HI.out.2.1.slice
      rw [show (fs.take k).length = k by rw [List.length_take]; omega] at hav
      subst hav
      go_wp2_with (refine wpList_store_row rfl 124 _ _ rfl (w.heap.size + 2) #[.slice av k cv, .string nm] rfl rfl 124 _ hR (by kernel_rfl) rfl (by simp [Value.oneCell']) ?_)
      refine bodyPost_ret (v := .agg #[.slice av k cv, .string nm]) (by simp [results, Tryz.results71, go_sem, cell_setRow_same _ _ _ _ _ _ _ hR]) rfl ⟨_, rfl, ?_, below_setRow BW.out (by omega) _⟩
      have h := HI.out.2.1
      rw [HF2.out] at h
      obtain ⟨us, h1, h2, h3⟩ := h
      have far : ∀ {e : TypeId} {x : Value} {n : Nat} {xs : List Value}, wr.ownsRow (w.heap.size + 4) e 1 x n xs → (wr.setRow (w.heap.size + 2) #[.slice av k cv, .string nm]).ownsRow w.heap.size e 1 x n xs := fun {e x n xs} hx => by
        have hx2 := Lv.own_far hx (grown_rowS wr (w.heap.size + 2) #[.slice av k cv, .string nm]) (fun q hq e => by have := Lv.own_ge hx q hq; injection e; omega)
        refine ⟨hx2.1, ?_⟩
        rcases hx2.2 with h2 | ⟨g, cap, cur, hv, hg, rest⟩
        · exact .inl h2
        · exact .inr ⟨g, cap, cur, hv, by omega, rest⟩
      exact ⟨us, h1, far h2, fun i f u hf hu h4 => far (h3 i f u hf hu h4)⟩
end Go.Proofs.YtfjblenkcfdbiaaGreatDoor.Sd

namespace Go.Proofs.YtfjblenkcfdbiaaGreatDoor.Sd
open Go.RowKit Go.Proofs.YtfjblenkcfdbiaaGreatDoor

theorem PartsNew.cells {w : World} {B : Nat} {v : Value} {ks : List Tri} {fs : List Fld} (h : PartsNew w B v ks fs) : ∃ a c, v = .slice a fs.length c ∧ fs.length ≤ c ∧ c ≤ maxLen ∧ ∀ i, i < fs.length → ∃ g u, a = some ⟨g, 0, none⟩ ∧ w.cell? ⟨g, i, none⟩ = some (pv ks (fat fs i) u) ∧ ((fat fs i).what = 4 → SNew w B u (cutW (fat fs i).v)) := by
  obtain ⟨us, h1, ⟨h2, h3⟩, h4⟩ := h
  rcases h3 with ⟨rfl, h0⟩ | ⟨g, cap, cur, rfl, hB, hb, hn, hc, hs, ht⟩
  · exact ⟨none, 0, by rw [h0], by omega, Nat.zero_le _, fun i hi => by omega⟩
  · refine ⟨_, cap, rfl, hn, hc, fun i hi => ⟨g, us.getD i (.slice none 0 0), rfl, ?_, fun hw => ?_⟩⟩
    · have hu : us[i]? = some (us.getD i (.slice none 0 0)) := by simp [show i < us.length by omega]
      have hz : (List.zipWith (pv ks) fs us)[i]? = some (pv ks (fat fs i) (us.getD i (.slice none 0 0))) := by
        rw [List.getElem?_zipWith, fat_get hi, hu]
      rw [← ht, List.getElem?_take, if_pos (by omega)] at hz
      simp only [World.cell?, hb, Option.isSome_none, Bool.false_eq_true, if_false]
      simpa using hz
    · exact h4 i _ _ (fat_get hi) (by simp [show i < us.length by omega]) hw
/-- What is said, out of these fields. -/
def saidB (fs : List Fld) (what : Int) : Bool := !allB fs.length fun i => !decide ((fat fs i).what = what)
theorem saidB_true {fs : List Fld} {what : Int} {k : Nat} (hk : k < fs.length) (h : (fat fs k).what = what) : saidB fs what = true := by
  unfold saidB; rw [allB_false hk (by simp [h])]; rfl
theorem saidB_false {fs : List Fld} {what : Int} (h : ∀ j, j < fs.length → ¬ (fat fs j).what = what) : saidB fs what = false := by
  unfold saidB; rw [allB_true fun j hj => by simp [h j hj]]; rfl
theorem mw1 (a b c : Value) : ∀ w : World, (method 342 166 (.agg #[a, b, c]) "loop.example/lapplan/impl.what").run Tryz.prog w = .ok (163, .agg #[a, b, c]) w := fun _ => by kernel_rfl
theorem what1_any (a b c : Value) (w : World) : Calls Tryz.prog 163 #[.agg #[a, b, c]] w fun e w' => e = .returned (.int .i64 1) ∧ Below w.heap.size w w' := by
  have HB : Hid (Below w.heap.size w (w.alloc (.cells #[a, b, c] 166))) := (Below.refl _ _).alloc (Nat.le_refl _) _
  go_enter Tryz.func163, Tryz.ntmps163
  go_wp2
  go_ret
  exact ⟨rfl, HB.out⟩
theorem mw2 (a b : Value) : ∀ w : World, (method 342 169 (.agg #[a, b]) "loop.example/lapplan/impl.what").run Tryz.prog w = .ok (164, .agg #[a, b]) w := fun _ => by kernel_rfl
theorem what2_any (a b : Value) (w : World) : Calls Tryz.prog 164 #[.agg #[a, b]] w fun e w' => e = .returned (.int .i64 2) ∧ Below w.heap.size w w' := by
  have HB : Hid (Below w.heap.size w (w.alloc (.cells #[a, b] 169))) := (Below.refl _ _).alloc (Nat.le_refl _) _
  go_enter Tryz.func164, Tryz.ntmps164
  go_wp2
  go_ret
  exact ⟨rfl, HB.out⟩
theorem mw3 (a : Value) : ∀ w : World, (method 342 172 (.agg #[a]) "loop.example/lapplan/impl.what").run Tryz.prog w = .ok (165, .agg #[a]) w := fun _ => by kernel_rfl
theorem what3_any (a : Value) (w : World) : Calls Tryz.prog 165 #[.agg #[a]] w fun e w' => e = .returned (.int .i64 3) ∧ Below w.heap.size w w' := by
  have HB : Hid (Below w.heap.size w (w.alloc (.cells #[a] 172))) := (Below.refl _ _).alloc (Nat.le_refl _) _
  go_enter Tryz.func165, Tryz.ntmps165
  go_wp2
  go_ret
  exact ⟨rfl, HB.out⟩
theorem mw4 (a : Value) : ∀ w : World, (method 342 175 (.agg #[a]) "loop.example/lapplan/impl.what").run Tryz.prog w = .ok (166, .agg #[a]) w := fun _ => by kernel_rfl
theorem what4_any (a : Value) (w : World) : Calls Tryz.prog 166 #[.agg #[a]] w fun e w' => e = .returned (.int .i64 4) ∧ Below w.heap.size w w' := by
  have HB : Hid (Below w.heap.size w (w.alloc (.cells #[a] 175))) := (Below.refl _ _).alloc (Nat.le_refl _) _
  go_enter Tryz.func166, Tryz.ntmps166
  go_wp2
  go_ret
  exact ⟨rfl, HB.out⟩
theorem mw5 (a : Value) : ∀ w : World, (method 342 162 (.agg #[a]) "loop.example/lapplan/impl.what").run Tryz.prog w = .ok (162, .agg #[a]) w := fun _ => by kernel_rfl
theorem what5_any (a : Value) (w : World) : Calls Tryz.prog 162 #[.agg #[a]] w fun e w' => e = .returned (.int .i64 5) ∧ Below w.heap.size w w' := by
  have HB : Hid (Below w.heap.size w (w.alloc (.cells #[a] 162))) := (Below.refl _ _).alloc (Nat.le_refl _) _
  go_enter Tryz.func162, Tryz.ntmps162
  go_wp2
  go_ret
  exact ⟨rfl, HB.out⟩

set_option maxRecDepth 100000 in
set_option maxHeartbeats 6400000 in
theorem has_any (D B : Nat) (v nm : Value) (ks ps : List Tri) (fs : List Fld) (what : Int) (w : World) (hD : w.heap[D]? = some (.cells #[v, nm] 124 (0, 0))) (hP : PartsNew w B v ks fs) (hfit : ∀ f ∈ fs, valB2 ks ps f.what f.v = true) :
    Calls Tryz.prog 99 #[.pointer (some ⟨D, 0, none⟩), .int .i64 what] w fun e w' => e = .returned (.bool (saidB fs what)) ∧ Below w.heap.size w w' := by
  obtain ⟨a, c, rfl, hlc, hcm, hc⟩ := hP.cells
  unfold maxLen at hcm
  obtain ⟨d0, d1⟩ := cell_two hD
  have HC : Hid (∀ i, i < fs.length → ∃ g u, a = some ⟨g, 0, none⟩ ∧ w.cell? ⟨g, i, none⟩ = some (pv ks (fat fs i) u)) := fun i hi => by
    obtain ⟨g, u, h1, h2, _⟩ := hc i hi
    exact ⟨g, u, h1, h2⟩
  have HFT : Hid (∀ i, i < fs.length → (fat fs i).what = 1 ∨ (fat fs i).what = 2 ∨ (fat fs i).what = 3 ∨ (fat fs i).what = 4 ∨ (fat fs i).what = 5) := fun i hi => what_in (hfit _ (List.mem_of_getElem? (fat_get hi)))
  clear hc hP hfit hD
  go_enter Tryz.func99, Tryz.ntmps99
  go_wp2
  clear d0 d1
  go_loopw [12] (fun i wr => ∃ k : Nat, k ≤ fs.length ∧ i = .int .i64 k ∧ Hid (Below w.heap.size w wr ∧ ∀ j, j < k → ¬ (fat fs j).what = what)) (fun i _ => fs.length - (intOf i).toNat)
  case atStart => exact ⟨0, Nat.zero_le _, rfl, Below.refl _ _, fun j hj => absurd hj (Nat.not_lt_zero _)⟩
  case round =>
    obtain ⟨k, hk, rfl, HI⟩ := hrel
    by_cases hlt : k < fs.length
    · obtain ⟨g, u, rfl, e0⟩ := HC.out k hlt
      have c0 := cell_keep HI.out.1 (Nat.le_refl _) e0
      have hk0 : (0 : Int) ≤ (k : Int) := by omega
      have hk1 : (k : Int) < (fs.length : Int) := by omega
      obtain ⟨f, hf⟩ : ∃ f, fat fs k = f := ⟨_, rfl⟩
      have HFK : Hid (fat fs k = f) := hf
      have hw := HFT.out k hlt
      rw [hf] at c0 hw
      clear hf e0
      obtain ⟨wh, num, vl⟩ := f
      dsimp only at hw
      rcases hw with rfl | rfl | rfl | rfl | rfl
      · rw [pv1] at c0
        have hm := mw1
        by_cases hq : (1 : Int) = what
        · have hqb : ((1 : Int) == what) = true := by simp [hq]
          go_wp2_with fail
          refine (what1_any _ _ _ _).mono ?_
          rintro e w2 ⟨rfl, hb2⟩
          go_wp2
          go_ret
          exact ⟨ret_bool (saidB_true hlt (by rw [HFK.out]; exact hq)).symm, below_step HI.out.1 hb2⟩
        · have hqb : ((1 : Int) == what) = false := by simp [hq]
          have HN : Hid (∀ j, j < k + 1 → ¬ (fat fs j).what = what) := fun j hj => if e : j = k then by rw [e, HFK.out]; exact hq else HI.out.2 j (by omega)
          go_wp2_with fail
          refine (what1_any _ _ _ _).mono ?_
          rintro e w2 ⟨rfl, hb2⟩
          have HB2 : Hid (Below w.heap.size w w2) := below_step HI.out.1 hb2
          go_wp2
          exact ⟨⟨k + 1, by omega, by go_num, HB2.out, HN.out⟩, by simp [intOf]; omega⟩
      · rw [pv2] at c0
        have hm := mw2
        by_cases hq : (2 : Int) = what
        · have hqb : ((2 : Int) == what) = true := by simp [hq]
          go_wp2_with fail
          refine (what2_any _ _ _).mono ?_
          rintro e w2 ⟨rfl, hb2⟩
          go_wp2
          go_ret
          exact ⟨ret_bool (saidB_true hlt (by rw [HFK.out]; exact hq)).symm, below_step HI.out.1 hb2⟩
        · have hqb : ((2 : Int) == what) = false := by simp [hq]
          have HN : Hid (∀ j, j < k + 1 → ¬ (fat fs j).what = what) := fun j hj => if e : j = k then by rw [e, HFK.out]; exact hq else HI.out.2 j (by omega)
          go_wp2_with fail
          refine (what2_any _ _ _).mono ?_
          rintro e w2 ⟨rfl, hb2⟩
          have HB2 : Hid (Below w.heap.size w w2) := below_step HI.out.1 hb2
          go_wp2
          exact ⟨⟨k + 1, by omega, by go_num, HB2.out, HN.out⟩, by simp [intOf]; omega⟩
      · rw [pv3] at c0
        have hm := mw3
        by_cases hq : (3 : Int) = what
        · have hqb : ((3 : Int) == what) = true := by simp [hq]
          go_wp2_with fail
          refine (what3_any _ _).mono ?_
          rintro e w2 ⟨rfl, hb2⟩
          go_wp2
          go_ret
          exact ⟨ret_bool (saidB_true hlt (by rw [HFK.out]; exact hq)).symm, below_step HI.out.1 hb2⟩
        · have hqb : ((3 : Int) == what) = false := by simp [hq]
          have HN : Hid (∀ j, j < k + 1 → ¬ (fat fs j).what = what) := fun j hj => if e : j = k then by rw [e, HFK.out]; exact hq else HI.out.2 j (by omega)
          go_wp2_with fail
          refine (what3_any _ _).mono ?_
          rintro e w2 ⟨rfl, hb2⟩
          have HB2 : Hid (Below w.heap.size w w2) := below_step HI.out.1 hb2
          go_wp2
          exact ⟨⟨k + 1, by omega, by go_num, HB2.out, HN.out⟩, by simp [intOf]; omega⟩
      · rw [pv4] at c0
        have hm := mw4
        by_cases hq : (4 : Int) = what
        · have hqb : ((4 : Int) == what) = true := by simp [hq]
          go_wp2_with fail
          refine (what4_any _ _).mono ?_
          rintro e w2 ⟨rfl, hb2⟩
          go_wp2
          go_ret
          exact ⟨ret_bool (saidB_true hlt (by rw [HFK.out]; exact hq)).symm, below_step HI.out.1 hb2⟩
        · have hqb : ((4 : Int) == what) = false := by simp [hq]
          have HN : Hid (∀ j, j < k + 1 → ¬ (fat fs j).what = what) := fun j hj => if e : j = k then by rw [e, HFK.out]; exact hq else HI.out.2 j (by omega)
          go_wp2_with fail
          refine (what4_any _ _).mono ?_
          rintro e w2 ⟨rfl, hb2⟩
          have HB2 : Hid (Below w.heap.size w w2) := below_step HI.out.1 hb2
          go_wp2
          exact ⟨⟨k + 1, by omega, by go_num, HB2.out, HN.out⟩, by simp [intOf]; omega⟩
      · rw [pv5] at c0
        have hm := mw5
        by_cases hq : (5 : Int) = what
        · have hqb : ((5 : Int) == what) = true := by simp [hq]
          go_wp2_with fail
          refine (what5_any _ _).mono ?_
          rintro e w2 ⟨rfl, hb2⟩
          go_wp2
          go_ret
          exact ⟨ret_bool (saidB_true hlt (by rw [HFK.out]; exact hq)).symm, below_step HI.out.1 hb2⟩
        · have hqb : ((5 : Int) == what) = false := by simp [hq]
          have HN : Hid (∀ j, j < k + 1 → ¬ (fat fs j).what = what) := fun j hj => if e : j = k then by rw [e, HFK.out]; exact hq else HI.out.2 j (by omega)
          go_wp2_with fail
          refine (what5_any _ _).mono ?_
          rintro e w2 ⟨rfl, hb2⟩
          have HB2 : Hid (Below w.heap.size w w2) := below_step HI.out.1 hb2
          go_wp2
          exact ⟨⟨k + 1, by omega, by go_num, HB2.out, HN.out⟩, by simp [intOf]; omega⟩
    · go_wp2
      go_ret
      exact ⟨ret_bool (saidB_false fun j hj => HI.out.2 j (by omega)).symm, HI.out.1⟩
end Go.Proofs.YtfjblenkcfdbiaaGreatDoor.Sd
