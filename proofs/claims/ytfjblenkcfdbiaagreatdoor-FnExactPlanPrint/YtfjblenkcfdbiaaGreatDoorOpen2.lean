
/-
  What the form reads of a book: lists of kinds, points and entries, and of the entries' fields, that lie in memory.
-/
import Derived.Test.YtfjblenkcfdbiaaGreatDoorOpen
import Derived.Test.YtfjblenkcfdbiaaGreatDoorBook4
namespace Go.Proofs.YtfjblenkcfdbiaaGreatDoor
open Go.ChangeShapes Go.WideShapes Go.ChangeAt Go.RowKit Go.Deep Go.Joins

theorem open_elems {α : Type} {H : Type} {enc : TypeId × Value → H} {P : Program} {w : World} {base : Nat} {spare : Nat → Bool} {held : Bool} {fuel : Nat} {t e : TypeId} {v : Value} {x : DataW H × List MemPlace} {c : Nat}
    (ht : P.underlying t = some (.slice e)) (hC : P.cellsOf e = c) (hc0 : 0 < c) (R : Nat → Nat → α → Prop)
    (each : ∀ (n b off : Nat) (cs : List Value) (y : DataW H × List MemPlace), cs.length = c → (∀ j v, cs[j]? = some v → w.cell? ⟨b, off + j, none⟩ = some v) → DataW.trod enc P w base spare held n e cs = some y → ∃ a : α, R b off a)
    (h : DataW.trod enc P w base spare held fuel t [v] = some x) :
    ∃ l : List α, ∃ ad cap, v = .slice ad l.length cap ∧ l.length ≤ cap ∧ cap ≤ maxLen ∧ ∀ i t, l[i]? = some t → ∃ b off, ad = some ⟨b, off, none⟩ ∧ R b (off + i * c) t := by
  rcases open_slice ht h with ⟨h0, _⟩ | ⟨a, len, cap, m, n, D, Pl, hv, _, hl, hm, hmm, _, hx⟩
  · cases h0
    exact ⟨[], none, 0, rfl, Nat.le_refl _, Nat.zero_le _, fun i t ht => by simp at ht⟩
  · cases hv
    have hlm : len ≤ m := by rw [hmm]; split <;> omega
    have each' : ∀ i, i < len → ∃ t : α, ∃ b off, a = ⟨b, off, none⟩ ∧ R b (off + i * c) t := fun i hi => by
      obtain ⟨cs, h1, h2⟩ := hx i (by omega)
      rw [hC] at h1
      obtain ⟨_, hlen, hcell⟩ := World.cells?_some h1
      have hspot : a.spot = none := by
        obtain ⟨cs0, g1, _⟩ := hx 0 (by omega)
        rw [hC] at g1
        obtain ⟨_, glen, gcell⟩ := World.cells?_some g1
        have p0 := (gcell 0 (by omega)).trans (List.getElem?_eq_getElem (show 0 < cs0.length by omega))
        simpa [Addr.add] using World.cell?_spot p0
      obtain ⟨b, off, spot⟩ := a
      simp only at hspot
      subst hspot
      obtain ⟨t, ht⟩ := each n b (off + i * c) cs _ hlen (fun j v hv => by
        have hj : j < cs.length := (List.getElem?_eq_some_iff.1 hv).1
        have pj := hcell j (by omega)
        rw [Addr.add_mid, Addr.add_mid] at pj
        exact pj.trans hv) h2
      exact ⟨t, b, off, rfl, ht⟩
    have pick := fun i : Fin len => each' i.1 i.2
    let F : Fin len → α := fun i => Classical.choose (pick i)
    have hF : ∀ i : Fin len, _ := fun i => Classical.choose_spec (pick i)
    refine ⟨List.ofFn F, some a, cap, by simp, by simpa using hl, hm, fun i t ht => ?_⟩
    have hi : i < len := by
      have := (List.getElem?_eq_some_iff.1 ht).1
      simpa using this
    have e : t = F ⟨i, hi⟩ := by
      rw [List.getElem?_eq_some_iff] at ht
      obtain ⟨_, h⟩ := ht
      simpa using h.symm
    obtain ⟨b, off, ha, hr⟩ := hF ⟨i, hi⟩
    exact ⟨b, off, by rw [ha], by rw [e]; exact hr⟩

section
variable {H : Type} {enc : TypeId × Value → H} {P : Program} {w : World} {base : Nat} {spare : Nat → Bool} {held : Bool}

theorem open_flds {fuel : Nat} {t e : TypeId} {f0 f1 f2 : Field} {v : Value} {x : DataW H × List MemPlace}
    (ht : P.underlying t = some (.slice e)) (he : P.underlying e = some (.struct #[f0, f1, f2])) (hone : oneCellFields P #[f0, f1, f2] = true) (hC : P.cellsOf e = 3)
    (g0 : P.underlying f0.type = some (.int .i64)) (g1 : P.underlying f1.type = some (.int .i64)) (g2 : P.underlying f2.type = some .string)
    (h : DataW.trod enc P w base spare held fuel t [v] = some x) : ∃ l : List Fld, FldsAt w v l ∧ FNames l := by
  obtain ⟨l, ad, cap, hv, h1, h2, h3⟩ := open_elems ht hC (by omega) (fun b o (f : Fld) => FldAt w b o f ∧ f.v.size ≤ maxLen) (fun n b off cs y hl hcell hy => by
    obtain ⟨y0, y1, y2, n', _, _, k0, k1, k2⟩ := trod_struct3 he hy
    obtain ⟨o0, z0⟩ := hone_of hone 0 f0 rfl
    obtain ⟨o1, z1⟩ := hone_of hone 1 f1 rfl
    obtain ⟨o2, z2⟩ := hone_of hone 2 f2 rfl
    match cs, hl with
    | [c0, c1, c2], _ =>
      rw [o0, z0] at k0
      rw [o1, z1] at k1
      rw [o2, z2] at k2
      obtain ⟨q, e0, _, _⟩ := DataW.trod_int g0 k0
      obtain ⟨r, e1, _, _⟩ := DataW.trod_int g1 k1
      obtain ⟨s, e2, _, hs⟩ := DataW.trod_string g2 k2
      simp at e0 e1 e2
      subst e0 e1 e2
      exact ⟨⟨q, r, s⟩, ⟨by simpa using hcell 0 _ rfl, by simpa using hcell 1 _ rfl, by simpa using hcell 2 _ rfl⟩, hs⟩) h
  refine ⟨l, ⟨ad, cap, hv, h1, h2, fun i f hf => ?_⟩, fun f hf => ?_⟩
  · obtain ⟨b, off, ha, hr⟩ := h3 i f hf
    exact ⟨b, off, ha, hr.1⟩
  · obtain ⟨i, hi, rfl⟩ := List.getElem_of_mem hf
    obtain ⟨b, off, ha, hr⟩ := h3 i _ (List.getElem?_eq_getElem hi)
    exact hr.2

theorem open_ents {fuel : Nat} {t e tf ef : TypeId} {f0 f1 q0 q1 q2 : Field} {v : Value} {x : DataW H × List MemPlace}
    (ht : P.underlying t = some (.slice e)) (he : P.underlying e = some (.struct #[f0, f1])) (hone : oneCellFields P #[f0, f1] = true) (hC : P.cellsOf e = 2)
    (g0 : P.underlying f0.type = some .string) (g1 : f1.type = tf) (htf : P.underlying tf = some (.slice ef)) (hef : P.underlying ef = some (.struct #[q0, q1, q2])) (hone' : oneCellFields P #[q0, q1, q2] = true) (hC' : P.cellsOf ef = 3)
    (r0 : P.underlying q0.type = some (.int .i64)) (r1 : P.underlying q1.type = some (.int .i64)) (r2 : P.underlying q2.type = some .string)
    (h : DataW.trod enc P w base spare held fuel t [v] = some x) : ∃ l : List Ent, EntsAt w v l ∧ ENames l := by
  obtain ⟨l, ad, cap, hv, h1, h2, h3⟩ := open_elems ht hC (by omega) (fun b o (f : Ent) => EntAt w b o f ∧ f.name.size ≤ maxLen ∧ FNames f.fs) (fun n b off cs y hl hcell hy => by
    obtain ⟨y0, y1, n', _, _, k0, k1⟩ := trod_struct2 he hy
    obtain ⟨o0, z0⟩ := hone_of hone 0 f0 rfl
    obtain ⟨o1, z1⟩ := hone_of hone 1 f1 rfl
    match cs, hl with
    | [c0, c1], _ =>
      rw [o0, z0] at k0
      rw [o1, z1, g1] at k1
      obtain ⟨s, e0, _, hs⟩ := DataW.trod_string g0 k0
      simp at e0 k1
      subst e0
      obtain ⟨fs, hfs, hfn⟩ := open_flds htf hef hone' hC' r0 r1 r2 k1
      exact ⟨⟨s, fs⟩, ⟨c1, by simpa using hcell 0 _ rfl, by simpa using hcell 1 _ rfl, hfs⟩, hs, hfn⟩) h
  refine ⟨l, ⟨ad, cap, hv, h1, h2, fun i f hf => ?_⟩, fun f hf => ?_⟩
  · obtain ⟨b, off, ha, hr⟩ := h3 i f hf
    exact ⟨b, off, ha, hr.1⟩
  · obtain ⟨i, hi, rfl⟩ := List.getElem_of_mem hf
    obtain ⟨b, off, ha, hr⟩ := h3 i _ (List.getElem?_eq_getElem hi)
    exact hr.2
end

theorem cellsBook : Tryz.prog.cellsOf 28 = 3 := by kernel_rfl
theorem cellsBaseL : Tryz.prog.cellsOf 25 = 2 := by kernel_rfl
theorem cellsKindL : Tryz.prog.cellsOf 134 = 3 := by kernel_rfl
theorem cellsPointL : Tryz.prog.cellsOf 136 = 3 := by kernel_rfl
theorem cellsEntryL : Tryz.prog.cellsOf 90 = 2 := by kernel_rfl
theorem cellsFieldL : Tryz.prog.cellsOf 178 = 3 := by kernel_rfl
theorem cellsEntrySL : Tryz.prog.cellsOf 26 = 1 := by kernel_rfl

set_option maxRecDepth 100000 in
theorem open_book {H : Type} {enc : TypeId × Value → H} {w : World} {base b0 : Nat} {r : Reach} {spare : Nat → Bool} {held : Bool} {v : Value} {d : DataW H} {p : List MemPlace}
    (hv : Value.okWide Tryz.prog w r b0 28 v) (h : DataW.Trod enc Tryz.prog w base spare held 28 v d p) :
    ∃ vk vp ve ks ps es, v = .agg #[vk, vp, ve] ∧ BookAt w vk vp ve ks ps es ∧ BNames ks ps es := by
  obtain ⟨cs, rfl, hsz⟩ := okWide_struct Tryz.underlying28 hv
  obtain ⟨c0, c1, c2, rfl⟩ := array3 (hsz.trans cellsBook)
  obtain ⟨fuel, hf⟩ := h
  obtain ⟨y0, y1, n, hx, _, h0, h1⟩ := trod_struct2 Tryz.underlying28 hf
  have h0' : DataW.trod enc Tryz.prog w base spare held n 25 [c0, c1] = some y0 := by simpa [Value.cells, cellsBaseL] using h0
  have h1' : DataW.trod enc Tryz.prog w base spare held n 26 [c2] = some y1 := by simpa [Value.cells, cellsEntrySL] using h1
  obtain ⟨z0, z1, n', _, _, k0, k1⟩ := trod_struct2 Tryz.underlying25 h0'
  have k0' : DataW.trod enc Tryz.prog w base spare held n' 22 [c0] = some z0 := by
    have e : Tryz.prog.cellsOf 22 = 1 := by kernel_rfl
    simpa [e] using k0
  have k1' : DataW.trod enc Tryz.prog w base spare held n' 23 [c1] = some z1 := by
    have e : Tryz.prog.cellsOf 23 = 1 := by kernel_rfl
    simpa [e] using k1
  obtain ⟨ks, hk, nk⟩ := open_tris Tryz.underlying22 Tryz.underlying134 (by kernel_rfl) cellsKindL Tryz.underlying9 Tryz.underlying3 Tryz.underlying3 k0'
  obtain ⟨ps, hp, np⟩ := open_tris Tryz.underlying23 Tryz.underlying136 (by kernel_rfl) cellsPointL Tryz.underlying9 Tryz.underlying3 Tryz.underlying3 k1'
  obtain ⟨es, he, ne⟩ := open_ents Tryz.underlying26 Tryz.underlying90 (by kernel_rfl) cellsEntryL Tryz.underlying9 rfl Tryz.underlying88 Tryz.underlying178 (by kernel_rfl) cellsFieldL Tryz.underlying3 Tryz.underlying3 Tryz.underlying9 h1'
  exact ⟨c0, c1, c2, ks, ps, es, rfl, ⟨hk, hp, he⟩, ⟨nk, np, ne⟩⟩
end Go.Proofs.YtfjblenkcfdbiaaGreatDoor
