/-
  Joined: St10, St11.
-/
import Derived.Test.YtfjblenkcfdbiaaGreatDoorSt9
import Derived.Test.YtfjblenkcfdbiaaGreatDoorBook6
set_option linter.unusedSimpArgs false
set_option linter.unusedVariables false

namespace Go.Proofs.YtfjblenkcfdbiaaGreatDoor.Sd
open Go.RowKit Go.Proofs.YtfjblenkcfdbiaaGreatDoor

def plcE (l : List Ent) (v : ByteArray) : Nat := l.findIdx fun e => geB e.name v
def hasE (l : List Ent) (v : ByteArray) : Bool := decide (plcE l v < l.length) && decide ((eat l (plcE l v)).name = v)
theorem plcE_some {l : List Ent} {v : ByteArray} {k : Nat} (hk : k < l.length) (h : geB (eat l k).name v = true) (hn : ∀ j, j < k → geB (eat l j).name v = false) : plcE l v = k := by
  have e : ∀ j (hj : j < l.length), eat l j = l[j] := fun j hj => by simp [eat, hj]
  unfold plcE
  rw [List.findIdx_eq hk]
  exact ⟨by rw [← e k hk]; exact h, fun j hj => by rw [← e j (by omega)]; exact hn j hj⟩
theorem plcE_none {l : List Ent} {v : ByteArray} (h : ∀ j, j < l.length → geB (eat l j).name v = false) : plcE l v = l.length := by
  unfold plcE
  rw [List.findIdx_eq_length]
  intro t ht
  obtain ⟨j, hj, rfl⟩ := List.getElem_of_mem ht
  have := h j hj
  simpa [eat, hj] using this
theorem hasE_at {l : List Ent} {v : ByteArray} {k : Nat} (hk : k < l.length) (h : geB (eat l k).name v = true) (hn : ∀ j, j < k → geB (eat l j).name v = false) : hasE l v = decide ((eat l k).name = v) := by
  unfold hasE; rw [plcE_some hk h hn]; simp [hk]
theorem hasE_end {l : List Ent} {v : ByteArray} (h : ∀ j, j < l.length → geB (eat l j).name v = false) : hasE l v = false := by
  unfold hasE; rw [plcE_none h]; simp
set_option maxHeartbeats 1600000 in
theorem placeEntry_any (v : Value) (l : List Ent) (s : ByteArray) (w : World) (hv : EntsAt w v l) :
    Calls Tryz.prog 32 #[v, .string s, .func (.func 33) #[] #[]] w fun e w' => e = .returned (.tuple #[.int .i64 (plcE l s : Nat), .bool (hasE l s)]) ∧ Below w.heap.size w w' := by
  obtain ⟨a, cap, rfl, hlc, hcm, hc⟩ := hv
  unfold maxLen at hcm
  have HC : Hid (∀ i t, l[i]? = some t → ∃ b off, a = some ⟨b, off, none⟩ ∧ EntAt w b (off + i * 2) t) := hc
  clear hc
  go_enter Tryz.func32, Tryz.ntmps32
  go_wp2
  go_loopw [7, 8, 12] (fun _ _ i wr => ∃ k : Nat, k ≤ l.length ∧ i = .int .i64 k ∧ Below w.heap.size w wr ∧ Hid (∀ j, j < k → geB (eat l j).name s = false)) (fun _ _ i _ => l.length - (intOf i).toNat)
  case atStart => exact ⟨0, Nat.zero_le _, rfl, Below.refl _ _, fun j hj => absurd hj (Nat.not_lt_zero _)⟩
  case round =>
    obtain ⟨k, hk, rfl, hb, HA⟩ := hrel
    by_cases hlt : k < l.length
    · obtain ⟨b, off, rfl, hc⟩ := HC.out k _ (eat_get hlt)
      obtain ⟨fv, d0, d1, hfl⟩ := hc.keep hb
      obtain ⟨af, cf, rfl, -, -, -⟩ := hfl
      have hk0 : (0 : Int) ≤ (k : Int) := by omega
      have hk1 : (k : Int) < (l.length : Int) := by omega
      have HX : Hid ((wr.alloc (.cells #[.string (eat l k).name, .slice af (eat l k).fs.length cf] 60)).heap[wr.heap.size]? = some (.cells #[.string (eat l k).name, .slice af (eat l k).fs.length cf] 60 (0, 0))) := Lv.heap_newF wr _
      have HBA : Hid (Below w.heap.size w (wr.alloc (.cells #[.string (eat l k).name, .slice af (eat l k).fs.length cf] 60))) := hb.alloc hb.size _
      go_wp2_with fail
      refine (entryName_any (eat l k).name _ _).mono ?_
      rintro e w1 ⟨rfl, hb1⟩
      obtain ⟨n0, n1⟩ := cell_two (below_block hb1 HX.out)
      have HBW : Hid (Below w.heap.size w w1) := below_step HBA.out hb1
      clear hb1 d0 d1 hc HX HBA
      cases hg : geB (eat l k).name s
      · have hg' : Op.bytesLess (eat l k).name.toList s.toList = true := by unfold geB at hg; simpa using hg
        have HG : Hid (geB (eat l k).name s = false) := hg
        clear hg
        go_wp2
        exact ⟨⟨k + 1, by omega, by go_num, HBW.out, fun j hj => if e : j = k then by rw [e]; exact HG.out else HA.out j (by omega)⟩, by simp [intOf]; omega⟩
      · have hg' : Op.bytesLess (eat l k).name.toList s.toList = false := by unfold geB at hg; simpa using hg
        have HP : Hid (plcE l s = k) := plcE_some hlt hg HA.out
        have HH : Hid (hasE l s = decide ((eat l k).name = s)) := hasE_at hlt hg HA.out
        clear hg
        have hq : ((eat l k).name.toList == s.toList) = decide ((eat l k).name = s) := by
          by_cases hx : (eat l k).name = s
          · rw [str_eq hx]; simp [hx]
          · rw [str_ne hx]; simp [hx]
        go_wp2_with fail
        refine (entryName_any (eat l k).name _ _).mono ?_
        rintro e w2 ⟨rfl, hb2⟩
        go_wp2
        go_ret2
        exact ⟨by rw [HP.out, HH.out]; rfl, below_step HBW.out hb2⟩
    · have HE1 : Hid (plcE l s = l.length) := plcE_none fun j hj => HA.out j (by omega)
      have HE2 : Hid (hasE l s = false) := hasE_end fun j hj => HA.out j (by omega)
      go_wp2
      go_ret2
      exact ⟨by rw [HE1.out, HE2.out]; rfl, hb⟩
/-- The entry of this name. -/
theorem find_has {l : List Ent} {v : ByteArray} (h : ∀ i, i < l.length → ascE l i = true) : (hasE l v = true → plcE l v < l.length ∧ l.find? (fun e => decide (e.name = v)) = some (eat l (plcE l v))) ∧ (hasE l v = false → l.find? (fun e => decide (e.name = v)) = none) := by
  have lt : ∀ i j, i < j → j < l.length → blS (eat l i).name (eat l j).name = true := by
    have one : ∀ i, i + 1 < l.length → blS (eat l i).name (eat l (i + 1)).name = true := fun i hi => by
      have := h (i + 1) hi
      rw [ascE_succ, geB_bl] at this
      simpa using this
    intro i j hij
    induction j with
    | zero => omega
    | succ j ih =>
      intro hj
      by_cases e : i = j
      · subst e; exact one i hj
      · exact blS_trans (ih (by omega) (by omega)) (one j hj)
  have ee : ∀ j (hj : j < l.length), eat l j = l[j] := fun j hj => by simp [eat, hj]
  by_cases hm : ∃ k, k < l.length ∧ (eat l k).name = v
  · obtain ⟨k, hk, he⟩ := hm
    have hp : plcE l v = k := plcE_some hk (by rw [he, geB_bl, blS_irrefl]; rfl) fun j hj => by rw [← he, geB_bl, lt j k hj hk]; rfl
    have hh : hasE l v = true := by unfold hasE; rw [hp]; simp [hk, he]
    refine ⟨fun _ => ?_, fun h0 => by rw [hh] at h0; cases h0⟩
    rw [hp]
    refine ⟨hk, ?_⟩
    rw [ee k hk, List.find?_eq_some_iff_getElem]
    refine ⟨by rw [← ee k hk]; simp [he], k, hk, rfl, fun j hj => ?_⟩
    have h3 := lt j k hj hk
    rw [← ee j (by omega)]
    have : ¬ (eat l j).name = v := fun e => by rw [e, he, blS_irrefl] at h3; cases h3
    simp [this]
  · have hh : hasE l v = false := by
      unfold hasE
      rw [Bool.and_eq_false_iff]
      by_cases hp : plcE l v < l.length
      · right; exact decide_eq_false fun he => hm ⟨_, hp, he⟩
      · left; exact decide_eq_false hp
    refine ⟨fun h0 => by rw [hh] at h0; (cases h0), fun _ => ?_⟩
    rw [List.find?_eq_none]
    intro x hx
    obtain ⟨i, hi, rfl⟩ := List.getElem_of_mem hx
    have : ¬ (l[i]).name = v := fun e => hm ⟨i, hi, by rw [ee i hi]; exact e⟩
    simp [this]
/-- What stands under this name, if the book is ok. -/
def standR (ks ps : List Tri) (es : List Ent) (nm : ByteArray) : Option Ent := bif bookB ks ps es then (match es.find? fun e => decide (e.name = nm) with
  | some e => bif stB e.fs then some e else none
  | none => none) else none
def standC (ks : List Tri) (o : Option Ent) (rt : Value) : Array Value := match o with
  | some e => flO ks e.name e.fs rt
  | none => zero8
theorem book_fits {ks ps : List Tri} {es : List Ent} (h : bookB ks ps es = true) : ∀ e ∈ es, ∀ f ∈ e.fs, valB2 ks ps f.what f.v = true := fun e he f hf => by
  obtain ⟨i, hi, rfl⟩ := List.getElem_of_mem he
  unfold bookB at h
  rw [Bool.and_eq_true, Bool.and_eq_true] at h
  have h1 := allB_get h.2.2 i hi
  have e1 : eat es i = es[i] := by simp [eat, hi]
  rw [e1] at h1
  unfold fieldsB at h1
  rw [Bool.and_eq_true] at h1
  obtain ⟨j, hj, rfl⟩ := List.getElem_of_mem hf
  have h2 := allB_get h1.1 j hj
  have e2 : fat es[i].fs j = es[i].fs[j] := by simp [fat, hj]
  rw [e2, Bool.and_eq_true] at h2
  have h3 := h2.2
  unfold fitB chgOf at h3
  rw [Bool.and_eq_true, Bool.and_eq_true] at h3
  exact h3.2.2
theorem book_asc {ks ps : List Tri} {es : List Ent} (h : bookB ks ps es = true) : ∀ i, i < es.length → ascE es i = true := fun i hi => by
  unfold bookB at h
  rw [Bool.and_eq_true, Bool.and_eq_true] at h
  have h1 := h.2.1
  unfold namesE at h1
  rw [Bool.and_eq_true] at h1
  have h2 := allB_get h1.2 i hi
  rw [Bool.and_eq_true] at h2
  exact h2.2
theorem book_kinds {ks ps : List Tri} {es : List Ent} (h : bookB ks ps es = true) : ∀ t ∈ ks, t.s.size ≤ 1048576 := fun t ht => by
  unfold bookB baseB kindsB namesB at h
  rw [Bool.and_eq_true, Bool.and_eq_true, Bool.and_eq_true, Bool.and_eq_true] at h
  obtain ⟨i, hi, rfl⟩ := List.getElem_of_mem ht
  have h2 := allB_get h.1.1.1.2 i hi
  rw [Bool.and_eq_true] at h2
  have h3 := h2.1
  have e1 : at' ks i = ks[i] := by simp [at', hi]
  rw [e1] at h3
  unfold nameB inB at h3
  simp at h3
  omega
end Go.Proofs.YtfjblenkcfdbiaaGreatDoor.Sd

namespace Go.Proofs.YtfjblenkcfdbiaaGreatDoor.Sd
open Go.RowKit Go.Proofs.YtfjblenkcfdbiaaGreatDoor

set_option maxRecDepth 100000 in
set_option maxHeartbeats 12800000 in
theorem planStands_any (vk vp ve : Value) (ks ps : List Tri) (es : List Ent) (nm : ByteArray) (w : World) (hB : BookAt w vk vp ve ks ps es) (nB : BNames ks ps es) (sB : BSmall ks ps es) (hN : NeedIn w) :
    Calls Tryz.prog 11 #[.agg #[vk, vp, ve], .string nm] w fun e w' => ∃ rt, e = .returned (.tuple #[.agg (standC ks (standR ks ps es nm) rt), .bool (standR ks ps es nm).isSome]) ∧ (∀ x, standR ks ps es nm = some x → RtIs w' w.heap.size rt (lastV x.fs 4)) ∧ Below w.heap.size w w' := by
  have HB : Hid (∀ wx : World, Below w.heap.size w wx → BookAt wx vk vp ve ks ps es) := fun wx hx => hB.keep hx
  have HN : Hid (∀ wx : World, Below w.heap.size w wx → NeedIn wx) := fun wx hx => hN.keep hx
  obtain ⟨⟨ak, ck, rfl, -, -, -⟩, ⟨ap, cp, rfl, -, -, -⟩, ⟨ae, ce, rfl, he1, he2, -⟩⟩ := hB
  unfold maxLen at he2
  have A1 : Hid (Below w.heap.size w ((w.alloc (.cells #[.slice ak ks.length ck, .slice ap ps.length cp, .slice ae es.length ce] 37)).alloc (.cells #[.string ⟨#[]⟩, .string ⟨#[]⟩, .int .i64 0, .int .i64 0, .int .i64 0, .int .i64 0, .int .i64 0, .slice none 0 0] 45))) := ((Below.refl _ _).alloc (Nat.le_refl _) _).alloc (by simp) _
  have R1 : Hid (((w.alloc (.cells #[.slice ak ks.length ck, .slice ap ps.length cp, .slice ae es.length ce] 37)).alloc (.cells #[.string ⟨#[]⟩, .string ⟨#[]⟩, .int .i64 0, .int .i64 0, .int .i64 0, .int .i64 0, .int .i64 0, .slice none 0 0] 45)).heap[w.heap.size + 1]? = some (.cells #[.string ⟨#[]⟩, .string ⟨#[]⟩, .int .i64 0, .int .i64 0, .int .i64 0, .int .i64 0, .int .i64 0, .slice none 0 0] 45 (0, 0))) := by
    have h := Lv.heap_newF (w.alloc (.cells #[.slice ak ks.length ck, .slice ap ps.length cp, .slice ae es.length ce] 37)) (.cells #[.string ⟨#[]⟩, .string ⟨#[]⟩, .int .i64 0, .int .i64 0, .int .i64 0, .int .i64 0, .int .i64 0, .slice none 0 0] 45)
    rw [show (w.alloc (.cells #[.slice ak ks.length ck, .slice ap ps.length cp, .slice ae es.length ce] 37)).heap.size = w.heap.size + 1 by simp] at h
    exact h
  have Q0 : Hid (∀ wx : World, Below ((w.alloc (.cells #[.slice ak ks.length ck, .slice ap ps.length cp, .slice ae es.length ce] 37)).alloc (.cells #[.string ⟨#[]⟩, .string ⟨#[]⟩, .int .i64 0, .int .i64 0, .int .i64 0, .int .i64 0, .int .i64 0, .slice none 0 0] 45)).heap.size ((w.alloc (.cells #[.slice ak ks.length ck, .slice ap ps.length cp, .slice ae es.length ce] 37)).alloc (.cells #[.string ⟨#[]⟩, .string ⟨#[]⟩, .int .i64 0, .int .i64 0, .int .i64 0, .int .i64 0, .int .i64 0, .slice none 0 0] 45)) wx → (wx.cell? ⟨w.heap.size, 0, none⟩ = some (.slice ak ks.length ck) ∧ wx.cell? ⟨w.heap.size, 1, none⟩ = some (.slice ap ps.length cp) ∧ wx.cell? ⟨w.heap.size, 2, none⟩ = some (.slice ae es.length ce))) := fun wx hx => ⟨cell_keep hx (Nat.le_refl _) (by simp [go_sem]), cell_keep hx (Nat.le_refl _) (by simp [go_sem]), cell_keep hx (Nat.le_refl _) (by simp [go_sem])⟩
  obtain ⟨p0, p1, p2⟩ := Q0.out _ (Below.refl _ _)
  clear hN
  go_enter Tryz.func11, Tryz.ntmps11
  go_wp2_with fail
  generalize ((w.alloc (.cells #[.slice ak ks.length ck, .slice ap ps.length cp, .slice ae es.length ce] 37)).alloc (.cells #[.string ⟨#[]⟩, .string ⟨#[]⟩, .int .i64 0, .int .i64 0, .int .i64 0, .int .i64 0, .int .i64 0, .slice none 0 0] 45)) = w1 at *
  refine (bookOk_any _ _ _ ks ps es _ (HB.out _ A1.out) nB sB).mono ?_
  rintro e w2 ⟨rfl, hb2⟩
  have B2 : Hid (Below w1.heap.size w1 w2) := hb2
  clear hb2 p0 p1 p2
  obtain ⟨p0, p1, p2⟩ := Q0.out _ B2.out
  have hR := below_block B2.out R1.out
  cases hbb : bookB ks ps es
  · have HE : Hid (standR ks ps es nm = none) := by show _ = _; unfold standR; rw [hbb]; rfl
    clear hbb
    go_wp2_with (refine wpList_store_row rfl 45 _ _ rfl (w.heap.size + 1) #[.string ⟨#[]⟩, .string ⟨#[]⟩, .int .i64 0, .int .i64 0, .int .i64 0, .int .i64 0, .int .i64 0, .slice none 0 0] rfl rfl 45 _ hR (by kernel_rfl) rfl (by simp [Value.oneCell']) ?_)
    exact bodyPost_ret (v := .tuple #[.agg #[.string ⟨#[]⟩, .string ⟨#[]⟩, .int .i64 0, .int .i64 0, .int .i64 0, .int .i64 0, .int .i64 0, .slice none 0 0], .bool false]) (by simp [results, Tryz.results11, go_sem, cell_setRow_same _ _ _ _ _ _ _ hR]) rfl ⟨.slice none 0 0, by rw [HE.out]; rfl, (fun x h => by rw [HE.out] at h; cases h), below_setRow (below_step A1.out B2.out) (by omega) _⟩
  have HBB : Hid (bookB ks ps es = true) := hbb
  clear hbb hR
  go_wp2_with fail
  refine (placeEntry_any _ es nm _ (HB.out _ (below_step A1.out B2.out)).e).mono ?_
  rintro e w3 ⟨rfl, hb3⟩
  have B3 : Hid (Below w1.heap.size w1 w3) := below_step B2.out hb3
  clear hb3 p0 p1 p2 B2
  obtain ⟨p0, p1, p2⟩ := Q0.out _ B3.out
  have hR := below_block B3.out R1.out
  cases hhh : hasE es nm
  · have HE : Hid (standR ks ps es nm = none) := by show _ = _; unfold standR; rw [HBB.out, (find_has (book_asc HBB.out)).2 hhh]; rfl
    clear hhh
    go_wp2_with (refine wpList_store_row rfl 45 _ _ rfl (w.heap.size + 1) #[.string ⟨#[]⟩, .string ⟨#[]⟩, .int .i64 0, .int .i64 0, .int .i64 0, .int .i64 0, .int .i64 0, .slice none 0 0] rfl rfl 45 _ hR (by kernel_rfl) rfl (by simp [Value.oneCell']) ?_)
    exact bodyPost_ret (v := .tuple #[.agg #[.string ⟨#[]⟩, .string ⟨#[]⟩, .int .i64 0, .int .i64 0, .int .i64 0, .int .i64 0, .int .i64 0, .slice none 0 0], .bool false]) (by simp [results, Tryz.results11, go_sem, cell_setRow_same _ _ _ _ _ _ _ hR]) rfl ⟨.slice none 0 0, by rw [HE.out]; rfl, (fun x h => by rw [HE.out] at h; cases h), below_setRow (below_step A1.out B3.out) (by omega) _⟩
  obtain ⟨hpl, hfind⟩ := (find_has (book_asc HBB.out)).1 hhh
  have hmem : eat es (plcE es nm) ∈ es := List.mem_of_getElem? (eat_get hpl)
  have HFI : Hid (standR ks ps es nm = bif stB (eat es (plcE es nm)).fs then some (eat es (plcE es nm)) else none) := by show _ = _; unfold standR; rw [HBB.out, hfind]; rfl
  have HFT : Hid (∀ f ∈ (eat es (plcE es nm)).fs, valB2 ks ps f.what f.v = true ∧ f.v.size ≤ 1048576) := fun f hf => ⟨book_fits HBB.out _ hmem f hf, sB.v _ hmem f hf⟩
  have HFL : Hid ((eat es (plcE es nm)).fs.length ≤ 1048576 ∧ (eat es (plcE es nm)).name.size ≤ 1048576) := ⟨sB.f _ hmem, sB.n _ hmem⟩
  have HKN : Hid (∀ t ∈ ks, t.s.size ≤ 1048576) := book_kinds HBB.out
  have HEA : Hid (∀ wx : World, Below w.heap.size w wx → ∃ b off, ae = some ⟨b, off, none⟩ ∧ EntAt wx b (off + plcE es nm * 2) (eat es (plcE es nm))) := fun wx hx => by
    obtain ⟨a9, c9, e9, -, -, h9⟩ := (HB.out _ hx).e
    obtain ⟨b, off, ha, hc⟩ := h9 _ _ (eat_get hpl)
    cases e9
    exact ⟨b, off, ha, hc⟩
  clear hfind hmem hhh
  have hj0 : (0 : Int) ≤ ((plcE es nm : Nat) : Int) := by omega
  have hj1 : ((plcE es nm : Nat) : Int) < (es.length : Int) := by omega
  obtain ⟨⟨en, fs⟩, hen⟩ : ∃ e, eat es (plcE es nm) = e := ⟨_, rfl⟩
  rw [hen] at HFI HFT HFL HEA
  clear hen
  dsimp only at HFI HFT HFL
  obtain ⟨j, hj⟩ : ∃ j, plcE es nm = j := ⟨_, rfl⟩
  rw [hj] at HEA hj0 hj1 hpl ⊢
  clear hj
  obtain ⟨b, off, rfl, fv, d0, d1, hfl⟩ := HEA.out _ (below_step A1.out B3.out)
  dsimp only at d0 d1 hfl
  obtain ⟨af, cf, rfl, -, -, -⟩ := hfl
  have GS : Hid (∀ wx : World, Below w1.heap.size w1 wx → ∀ fv, FldsAt wx fv fs → Calls Tryz.prog 34 #[.agg #[.slice ak ks.length ck, .slice ap ps.length cp], .agg #[.string en, fv]] wx fun e w' => ∃ rt, e = .returned (.tuple #[.agg (stC ks en fs rt), .bool (stB fs)]) ∧ (stB fs = true → RtIs w' wx.heap.size rt (lastV fs 4)) ∧ Below wx.heap.size wx w') := fun wx hx fv hfv => standing_any _ _ fv ks ps en fs wx (HB.out _ (below_step A1.out hx)).k hfv HFT.out HKN.out HFL.out.1 HFL.out.2 (HN.out _ (below_step A1.out hx))
  have QS : Hid (∀ wx : World, Below w3.heap.size w3 wx → ((wx.cell? ⟨w.heap.size, 0, none⟩ = some (.slice ak ks.length ck) ∧ wx.cell? ⟨w.heap.size, 1, none⟩ = some (.slice ap ps.length cp) ∧ wx.cell? ⟨w.heap.size, 2, none⟩ = some (.slice (some ⟨b, off, none⟩) es.length ce)) ∧ wx.cell? ⟨b, off + j * 2, none⟩ = some (.string en) ∧ wx.cell? ⟨b, off + j * 2 + 1, none⟩ = some (.slice af fs.length cf)) ∧ FldsAt wx (.slice af fs.length cf) fs) := fun wx hx => by
    refine ⟨⟨⟨(Q0.out _ (below_step B3.out hx)).1, (Q0.out _ (below_step B3.out hx)).2.1, (Q0.out _ (below_step B3.out hx)).2.2⟩, cell_keep hx (Nat.le_refl _) d0, cell_keep hx (Nat.le_refl _) d1⟩, ?_⟩
    obtain ⟨b', off', hbo, fv', e0, e1, hfl'⟩ := HEA.out _ (below_step A1.out B3.out)
    cases hbo
    dsimp only at e1 hfl'
    rw [d1] at e1
    injection e1 with e1
    subst e1
    exact hfl'.keep hx
  go_wp2_with fail
  refine wp_region_noPanic ?_
  refine wp_region_held_drew (S := fun wx => (wx.cell? ⟨w.heap.size, 0, none⟩ = some (.slice ak ks.length ck) ∧ wx.cell? ⟨w.heap.size, 1, none⟩ = some (.slice ap ps.length cp) ∧ wx.cell? ⟨w.heap.size, 2, none⟩ = some (.slice (some ⟨b, off, none⟩) es.length ce)) ∧ wx.cell? ⟨b, off + j * 2, none⟩ = some (.string en) ∧ wx.cell? ⟨b, off + j * 2 + 1, none⟩ = some (.slice af fs.length cf)) (by kernel_rfl) ?_ (fun hHeld => ?_)
  · exact (QS.out _ (Below.refl _ _).drew).1
  have I4 : Hid (Below w3.heap.size w3 w3.drew) := (Below.refl _ _).drew
  clear d0 d1 p0 p1 p2 hR
  generalize w3.drew = W at *
  refine wpAnyH_take (i := 0) (v := ?_) rfl (by kernel_rfl) (by kernel_rfl) (by kernel_rfl) (fun _ _ _ h => h) (Or.inl ⟨by rfl, ?_⟩) (by assumption) ?_
  rotate_left
  · intro w hSw; (try dsimp only at hSw); go_simp; try with_reducible rfl
  simp only [Act.put, List.setIfInBounds_toArray, List.set_cons_zero, List.set_cons_succ, List.getElem_toArray, List.getElem_cons_succ, List.getElem_cons_zero]
  refine wpAnyH_take (i := 1) (v := ?_) rfl (by kernel_rfl) (by kernel_rfl) (by kernel_rfl) (fun _ _ _ h => h) (Or.inl ⟨by rfl, ?_⟩) (by assumption) ?_
  rotate_left
  · intro w hSw; (try dsimp only at hSw); go_simp; try with_reducible rfl
  simp only [Act.put, List.setIfInBounds_toArray, List.set_cons_zero, List.set_cons_succ, List.getElem_toArray, List.getElem_cons_succ, List.getElem_cons_zero]
  refine wpAnyH_take (i := 2) (v := ?_) rfl (by kernel_rfl) (by kernel_rfl) (by kernel_rfl) (fun _ _ _ h => h) (Or.inl ⟨by rfl, ?_⟩) (by assumption) ?_
  rotate_left
  · intro w hSw; (try dsimp only at hSw); go_simp; try with_reducible rfl
  simp only [Act.put, List.setIfInBounds_toArray, List.set_cons_zero, List.set_cons_succ, List.getElem_toArray, List.getElem_cons_succ, List.getElem_cons_zero]
  refine wpAnyH_take (i := 3) (v := ?_) rfl (by kernel_rfl) (by kernel_rfl) (by kernel_rfl) (fun _ _ _ h => h) (Or.inl ⟨by rfl, ?_⟩) (by assumption) ?_
  rotate_left
  · intro w hSw; (try dsimp only at hSw); go_simp; try with_reducible rfl
  simp only [Act.put, List.setIfInBounds_toArray, List.set_cons_zero, List.set_cons_succ, List.getElem_toArray, List.getElem_cons_succ, List.getElem_cons_zero]
  refine wpAnyH_take (i := 4) (v := ?_) rfl (by kernel_rfl) (by kernel_rfl) (by kernel_rfl) (fun _ _ _ h => h) (Or.inl ⟨by rfl, ?_⟩) (by assumption) ?_
  rotate_left
  · intro w hSw; (try dsimp only at hSw); go_simp; try with_reducible rfl
  simp only [Act.put, List.setIfInBounds_toArray, List.set_cons_zero, List.set_cons_succ, List.getElem_toArray, List.getElem_cons_succ, List.getElem_cons_zero]
  refine wpAnyH_take (i := 5) (v := ?_) rfl (by kernel_rfl) (by kernel_rfl) (by kernel_rfl) (fun _ _ _ h => h) (Or.inl ⟨by rfl, ?_⟩) (by assumption) ?_
  rotate_left
  · intro w hSw; (try dsimp only at hSw); go_simp; try with_reducible rfl
  simp only [Act.put, List.setIfInBounds_toArray, List.set_cons_zero, List.set_cons_succ, List.getElem_toArray, List.getElem_cons_succ, List.getElem_cons_zero]
  refine wpAnyH_take (i := 6) (v := ?_) rfl (by kernel_rfl) (by kernel_rfl) (by kernel_rfl) (fun _ _ _ h => h) (Or.inl ⟨by rfl, ?_⟩) (by assumption) ?_
  rotate_left
  · intro w hSw; (try dsimp only at hSw); go_simp; try with_reducible rfl
  simp only [Act.put, List.setIfInBounds_toArray, List.set_cons_zero, List.set_cons_succ, List.getElem_toArray, List.getElem_cons_succ, List.getElem_cons_zero]
  clear hHeld
  refine wpAnyH_ready (rs := [7]) (by kernel_rfl) (by simp) ?_
  refine AllReadyH.cons rfl (fun K hK => ?_) AllReadyH.nil
  go_simp
  refine (GS.out _ (below_step B3.out I4.out) _ (QS.out _ I4.out).2).mono ?_
  rintro e W2 ⟨rt, rfl, hrt, hbz⟩
  have I5 : Hid (Below w3.heap.size w3 W2 ∧ Below w.heap.size w W2) := ⟨below_step I4.out hbz, below_step (below_step A1.out B3.out) (below_step I4.out hbz)⟩
  have HRT : Hid (stB fs = true → RtIs W2 w.heap.size rt (lastV fs 4)) := fun h => (hrt h).mono (below_step (below_step A1.out B3.out) I4.out).size
  have hHeld := (QS.out _ I5.out.1).1
  refine hK.out _ _ hHeld (fun _ => ?_)
  clear hK K hbz hrt I4
  have hRW : W2.heap[w.heap.size + 1]? = some (.cells #[.string ⟨#[]⟩, .string ⟨#[]⟩, .int .i64 0, .int .i64 0, .int .i64 0, .int .i64 0, .int .i64 0, .slice none 0 0] 45 (0, 0)) := below_block (below_step B3.out I5.out.1) R1.out
  have HRW := Lv.toHid hRW
  clear hRW
  have hbw3 : w.heap.size + 1 < w3.heap.size := lt_of_block (below_block B3.out R1.out)
  have hbl : b < w3.heap.size := by
    obtain ⟨b', off', hbo, fv', e0, e1, hfl'⟩ := HEA.out _ (below_step A1.out B3.out)
    cases hbo
    exact lt_of_cell e0
  have HNB : Hid (b ≠ w.heap.size + 1) := by
    obtain ⟨b', off', hbo, fv', e0, -⟩ := HEA.out w (Below.refl _ _)
    cases hbo
    have := lt_of_cell e0
    show b ≠ w.heap.size + 1
    omega
  cases hst : stB fs
  · have HE : Hid (standR ks ps es nm = none) := by show _ = _; rw [HFI.out, hst]; rfl
    have HS : Hid (stC ks en fs rt = #[.string ⟨#[]⟩, .string ⟨#[]⟩, .int .i64 0, .int .i64 0, .int .i64 0, .int .i64 0, .int .i64 0, .slice none 0 0]) := by show _ = _; unfold stC; rw [hst]; rfl
    rw [HS.out]
    clear hst
    refine wpAnyH_take (i := 8) (v := ?_) rfl (by kernel_rfl) (by kernel_rfl) (by kernel_rfl) (fun _ _ _ h => h) (Or.inl ⟨by rfl, ?_⟩) (by assumption) ?_
    rotate_left
    · intro w hSw; (try dsimp only at hSw); go_simp; try with_reducible rfl
    simp only [Act.put, List.setIfInBounds_toArray, List.set_cons_zero, List.set_cons_succ, List.getElem_toArray, List.getElem_cons_succ, List.getElem_cons_zero]
    refine wpAnyH_take (i := 9) (v := ?_) rfl (by kernel_rfl) (by kernel_rfl) (by kernel_rfl) (fun _ _ _ h => h) (Or.inl ⟨by rfl, ?_⟩) (by assumption) ?_
    rotate_left
    · intro w hSw; (try dsimp only at hSw); go_simp; try with_reducible rfl
    simp only [Act.put, List.setIfInBounds_toArray, List.set_cons_zero, List.set_cons_succ, List.getElem_toArray, List.getElem_cons_succ, List.getElem_cons_zero]
    clear hHeld
    refine wpAnyH_ready (rs := [10]) (by kernel_rfl) (by simp) ?_
    refine AllReadyH.cons rfl (fun K hK => ?_) AllReadyH.nil
    refine step_store_rowC rfl 45 _ _ rfl (w.heap.size + 1) #[.string ⟨#[]⟩, .string ⟨#[]⟩, .int .i64 0, .int .i64 0, .int .i64 0, .int .i64 0, .int .i64 0, .slice none 0 0] rfl rfl 45 _ HRW.out (by kernel_rfl) rfl (by simp [Value.oneCell']) ?_
    have HO : Hid (∀ q : Nat, q ≠ w.heap.size + 1 → (W2.setRow (w.heap.size + 1) #[.string ⟨#[]⟩, .string ⟨#[]⟩, .int .i64 0, .int .i64 0, .int .i64 0, .int .i64 0, .int .i64 0, .slice none 0 0]).heap[q]? = W2.heap[q]?) := fun q hq => setRow_other _ _ _ _ hq
    have HF : Hid ((W2.setRow (w.heap.size + 1) #[.string ⟨#[]⟩, .string ⟨#[]⟩, .int .i64 0, .int .i64 0, .int .i64 0, .int .i64 0, .int .i64 0, .slice none 0 0]).heap[w.heap.size + 1]? = some (.cells #[.string ⟨#[]⟩, .string ⟨#[]⟩, .int .i64 0, .int .i64 0, .int .i64 0, .int .i64 0, .int .i64 0, .slice none 0 0] 45 (0, 0))) := setRow_heap _ _ _ _ _ _ HRW.out
    have HBF : Hid (Below w.heap.size w (W2.setRow (w.heap.size + 1) #[.string ⟨#[]⟩, .string ⟨#[]⟩, .int .i64 0, .int .i64 0, .int .i64 0, .int .i64 0, .int .i64 0, .slice none 0 0])) := below_setRow I5.out.2 (by omega) _
    have hS := (QS.out _ I5.out.1).1
    generalize (W2.setRow (w.heap.size + 1) #[.string ⟨#[]⟩, .string ⟨#[]⟩, .int .i64 0, .int .i64 0, .int .i64 0, .int .i64 0, .int .i64 0, .slice none 0 0]) = wf at *
    have hHeld : (wf.cell? ⟨w.heap.size, 0, none⟩ = some (.slice ak ks.length ck) ∧ wf.cell? ⟨w.heap.size, 1, none⟩ = some (.slice ap ps.length cp) ∧ wf.cell? ⟨w.heap.size, 2, none⟩ = some (.slice (some ⟨b, off, none⟩) es.length ce)) ∧ wf.cell? ⟨b, off + j * 2, none⟩ = some (.string en) ∧ wf.cell? ⟨b, off + j * 2 + 1, none⟩ = some (.slice af fs.length cf) := ⟨⟨(World.cell?_of_block (HO.out w.heap.size (by omega))).trans hS.1.1, (World.cell?_of_block (HO.out w.heap.size (by omega))).trans hS.1.2.1, (World.cell?_of_block (HO.out w.heap.size (by omega))).trans hS.1.2.2⟩, (World.cell?_of_block (HO.out b (fun e => HNB.out e))).trans hS.2.1, (World.cell?_of_block (HO.out b (fun e => HNB.out e))).trans hS.2.2⟩
    refine hK.out _ _ hHeld (fun _ => ?_)
    clear hK K hS
    refine wpAnyH_take (i := 11) (v := ?_) rfl (by kernel_rfl) (by kernel_rfl) (by kernel_rfl) (fun _ _ _ h => h) (Or.inl ⟨by rfl, ?_⟩) (by assumption) ?_
    rotate_left
    · intro w hSw; (try dsimp only at hSw); go_simp; try with_reducible rfl
    simp only [Act.put, List.setIfInBounds_toArray, List.set_cons_zero, List.set_cons_succ, List.getElem_toArray, List.getElem_cons_succ, List.getElem_cons_zero]
    clear hHeld
    have hf := HF.out
    refine wpAnyH_done (by kernel_rfl) ?_ _
    refine NoPanic.normal ?_
    go_wp2
    have y0 : wf.cell? ⟨w.heap.size + 1, 0, none⟩ = some (.string ⟨#[]⟩) := by simp [World.cell?, hf]
    have y1 : wf.cell? ⟨w.heap.size + 1, 1, none⟩ = some (.string ⟨#[]⟩) := by simp [World.cell?, hf]
    have y2 : wf.cell? ⟨w.heap.size + 1, 2, none⟩ = some (.int .i64 0) := by simp [World.cell?, hf]
    have y3 : wf.cell? ⟨w.heap.size + 1, 3, none⟩ = some (.int .i64 0) := by simp [World.cell?, hf]
    have y4 : wf.cell? ⟨w.heap.size + 1, 4, none⟩ = some (.int .i64 0) := by simp [World.cell?, hf]
    have y5 : wf.cell? ⟨w.heap.size + 1, 5, none⟩ = some (.int .i64 0) := by simp [World.cell?, hf]
    have y6 : wf.cell? ⟨w.heap.size + 1, 6, none⟩ = some (.int .i64 0) := by simp [World.cell?, hf]
    have y7 : wf.cell? ⟨w.heap.size + 1, 7, none⟩ = some (.slice none 0 0) := by simp [World.cell?, hf]
    exact bodyPost_ret (v := .tuple #[.agg #[.string ⟨#[]⟩, .string ⟨#[]⟩, .int .i64 0, .int .i64 0, .int .i64 0, .int .i64 0, .int .i64 0, .slice none 0 0], .bool false]) (by simp [results, Tryz.results11, go_sem, y0, y1, y2, y3, y4, y5, y6, y7]) rfl ⟨.slice none 0 0, by rw [HE.out]; rfl, (fun x h => by rw [HE.out] at h; cases h), HBF.out⟩
  · have hrt := HRT.out hst
    obtain ⟨ra, rn, rc, hra⟩ := hrt.slice
    subst hra
    have HR2 : Hid (RtIs W2 w.heap.size (.slice ra rn rc) (lastV fs 4)) := hrt
    have HE : Hid (standR ks ps es nm = some ⟨en, fs⟩) := by show _ = _; rw [HFI.out, hst]; rfl
    have HS : Hid (stC ks en fs (.slice ra rn rc) = flO ks en fs (.slice ra rn rc)) := by show _ = _; unfold stC; rw [hst]; rfl
    rw [HS.out]
    clear hst hrt HRT
    obtain ⟨k1, e1⟩ : ∃ t, kdOf ks (lastV fs 1) = t := ⟨_, rfl⟩
    obtain ⟨k2, e2⟩ : ∃ t, frOf (lastV fs 2) = t := ⟨_, rfl⟩
    obtain ⟨k3, e3⟩ : ∃ t, byOf (lastV fs 2) = t := ⟨_, rfl⟩
    obtain ⟨k4, e4⟩ : ∃ t, lvOf (lastV fs 3) = t := ⟨_, rfl⟩
    have HOO : Hid (flO ks en fs (.slice ra rn rc) = #[.string en, .string k1.s, .int .i64 k1.x, .int .i64 k1.y, .int .i64 k2, .int .i64 k3, .int .i64 k4, .slice ra rn rc]) := by show _ = _; unfold flO flC; rw [e1, e2, e3, e4]
    rw [HOO.out]
    clear e1 e2 e3 e4
    refine wpAnyH_take (i := 8) (v := ?_) rfl (by kernel_rfl) (by kernel_rfl) (by kernel_rfl) (fun _ _ _ h => h) (Or.inl ⟨by rfl, ?_⟩) (by assumption) ?_
    rotate_left
    · intro w hSw; (try dsimp only at hSw); go_simp; try with_reducible rfl
    simp only [Act.put, List.setIfInBounds_toArray, List.set_cons_zero, List.set_cons_succ, List.getElem_toArray, List.getElem_cons_succ, List.getElem_cons_zero]
    refine wpAnyH_take (i := 9) (v := ?_) rfl (by kernel_rfl) (by kernel_rfl) (by kernel_rfl) (fun _ _ _ h => h) (Or.inl ⟨by rfl, ?_⟩) (by assumption) ?_
    rotate_left
    · intro w hSw; (try dsimp only at hSw); go_simp; try with_reducible rfl
    simp only [Act.put, List.setIfInBounds_toArray, List.set_cons_zero, List.set_cons_succ, List.getElem_toArray, List.getElem_cons_succ, List.getElem_cons_zero]
    clear hHeld
    refine wpAnyH_ready (rs := [10]) (by kernel_rfl) (by simp) ?_
    refine AllReadyH.cons rfl (fun K hK => ?_) AllReadyH.nil
    refine step_store_rowC rfl 45 _ _ rfl (w.heap.size + 1) #[.string en, .string k1.s, .int .i64 k1.x, .int .i64 k1.y, .int .i64 k2, .int .i64 k3, .int .i64 k4, .slice ra rn rc] rfl rfl 45 _ HRW.out (by kernel_rfl) rfl (by simp [Value.oneCell']) ?_
    have HO : Hid (∀ q : Nat, q ≠ w.heap.size + 1 → (W2.setRow (w.heap.size + 1) #[.string en, .string k1.s, .int .i64 k1.x, .int .i64 k1.y, .int .i64 k2, .int .i64 k3, .int .i64 k4, .slice ra rn rc]).heap[q]? = W2.heap[q]?) := fun q hq => setRow_other _ _ _ _ hq
    have HF : Hid ((W2.setRow (w.heap.size + 1) #[.string en, .string k1.s, .int .i64 k1.x, .int .i64 k1.y, .int .i64 k2, .int .i64 k3, .int .i64 k4, .slice ra rn rc]).heap[w.heap.size + 1]? = some (.cells #[.string en, .string k1.s, .int .i64 k1.x, .int .i64 k1.y, .int .i64 k2, .int .i64 k3, .int .i64 k4, .slice ra rn rc] 45 (0, 0))) := setRow_heap _ _ _ _ _ _ HRW.out
    have HBF : Hid (Below w.heap.size w (W2.setRow (w.heap.size + 1) #[.string en, .string k1.s, .int .i64 k1.x, .int .i64 k1.y, .int .i64 k2, .int .i64 k3, .int .i64 k4, .slice ra rn rc])) := below_setRow I5.out.2 (by omega) _
    have HRF : Hid (RtIs (W2.setRow (w.heap.size + 1) #[.string en, .string k1.s, .int .i64 k1.x, .int .i64 k1.y, .int .i64 k2, .int .i64 k3, .int .i64 k4, .slice ra rn rc]) w.heap.size (.slice ra rn rc) (lastV fs 4)) := RtIs.row HR2.out HRW.out
    have hS := (QS.out _ I5.out.1).1
    generalize (W2.setRow (w.heap.size + 1) #[.string en, .string k1.s, .int .i64 k1.x, .int .i64 k1.y, .int .i64 k2, .int .i64 k3, .int .i64 k4, .slice ra rn rc]) = wf at *
    have hHeld : (wf.cell? ⟨w.heap.size, 0, none⟩ = some (.slice ak ks.length ck) ∧ wf.cell? ⟨w.heap.size, 1, none⟩ = some (.slice ap ps.length cp) ∧ wf.cell? ⟨w.heap.size, 2, none⟩ = some (.slice (some ⟨b, off, none⟩) es.length ce)) ∧ wf.cell? ⟨b, off + j * 2, none⟩ = some (.string en) ∧ wf.cell? ⟨b, off + j * 2 + 1, none⟩ = some (.slice af fs.length cf) := ⟨⟨(World.cell?_of_block (HO.out w.heap.size (by omega))).trans hS.1.1, (World.cell?_of_block (HO.out w.heap.size (by omega))).trans hS.1.2.1, (World.cell?_of_block (HO.out w.heap.size (by omega))).trans hS.1.2.2⟩, (World.cell?_of_block (HO.out b (fun e => HNB.out e))).trans hS.2.1, (World.cell?_of_block (HO.out b (fun e => HNB.out e))).trans hS.2.2⟩
    refine hK.out _ _ hHeld (fun _ => ?_)
    clear hK K hS
    refine wpAnyH_take (i := 11) (v := ?_) rfl (by kernel_rfl) (by kernel_rfl) (by kernel_rfl) (fun _ _ _ h => h) (Or.inl ⟨by rfl, ?_⟩) (by assumption) ?_
    rotate_left
    · intro w hSw; (try dsimp only at hSw); go_simp; try with_reducible rfl
    simp only [Act.put, List.setIfInBounds_toArray, List.set_cons_zero, List.set_cons_succ, List.getElem_toArray, List.getElem_cons_succ, List.getElem_cons_zero]
    clear hHeld
    have hf := HF.out
    refine wpAnyH_done (by kernel_rfl) ?_ _
    refine NoPanic.normal ?_
    go_wp2
    have y0 : wf.cell? ⟨w.heap.size + 1, 0, none⟩ = some (.string en) := by simp [World.cell?, hf]
    have y1 : wf.cell? ⟨w.heap.size + 1, 1, none⟩ = some (.string k1.s) := by simp [World.cell?, hf]
    have y2 : wf.cell? ⟨w.heap.size + 1, 2, none⟩ = some (.int .i64 k1.x) := by simp [World.cell?, hf]
    have y3 : wf.cell? ⟨w.heap.size + 1, 3, none⟩ = some (.int .i64 k1.y) := by simp [World.cell?, hf]
    have y4 : wf.cell? ⟨w.heap.size + 1, 4, none⟩ = some (.int .i64 k2) := by simp [World.cell?, hf]
    have y5 : wf.cell? ⟨w.heap.size + 1, 5, none⟩ = some (.int .i64 k3) := by simp [World.cell?, hf]
    have y6 : wf.cell? ⟨w.heap.size + 1, 6, none⟩ = some (.int .i64 k4) := by simp [World.cell?, hf]
    have y7 : wf.cell? ⟨w.heap.size + 1, 7, none⟩ = some (.slice ra rn rc) := by simp [World.cell?, hf]
    exact bodyPost_ret (v := .tuple #[.agg #[.string en, .string k1.s, .int .i64 k1.x, .int .i64 k1.y, .int .i64 k2, .int .i64 k3, .int .i64 k4, .slice ra rn rc], .bool true]) (by simp [results, Tryz.results11, go_sem, y0, y1, y2, y3, y4, y5, y6, y7]) rfl ⟨.slice ra rn rc, by rw [HE.out]; show _ = Ending.returned (.tuple #[.agg (flO ks en fs (.slice ra rn rc)), .bool true]); rw [HOO.out], (fun x h => by rw [HE.out] at h; injection h with h; subst h; exact HRF.out), HBF.out⟩
end Go.Proofs.YtfjblenkcfdbiaaGreatDoor.Sd
