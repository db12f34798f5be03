import Derived.Test.YtbjmgglpiakgdaaGreatDoorSb1
import Derived.Test.YtbjmgglpiakgdaaGreatDoorBd1
namespace Go.Proofs.YtbjmgglpiakgdaaGreatDoor.Dr
open Go.RowKit Go.Proofs.YtbjmgglpiakgdaaGreatDoor
set_option linter.unusedSimpArgs false
set_option linter.unusedVariables false
structure SB (w wr:World) (R BB px:Nat) (xk xp xe:Value) (ks ps:List Tri) (l:List EntV):Prop where
 rd:Rd wr R px
 gr:w.grownBy wr (some R)
 res:wr.heap[w.heap.size]? = some (.cells #[.slice none 0 0,.slice none 0 0,.slice none 0 0] 29 (0,0))
 box:wr.heap[BB]? = some (.cells #[xk,xp,xe] 29 (0,0))
 k:wr.ownsRow (w.heap.size + 1) 44 3 xk ks.length (Go.Proofs.YtbjmgglpiakgdaaGreatDoor.triRows ks)
 p:wr.ownsRow (w.heap.size + 1) 110 3 xp ps.length (Go.Proofs.YtbjmgglpiakgdaaGreatDoor.triRows ps)
 e:wr.ownsRow (w.heap.size + 1) 52 2 xe l.length (pairRows l)
 f:∀ q ∈ l,wr.ownsRow (w.heap.size + 1) 94 3 q.2 q.1.fs.length (fldRows q.1.fs)
theorem SB.pick {w wr wx:World} {R BB px qx:Nat} {xk xp xe:Value} {ks ps:List Tri} {l:List EntV} (h:SB w wr R BB px xk xp xe ks ps l) (hR:R < w.heap.size) (hB:w.heap.size < BB) (hr:Rd wx R qx) (hg:wr.grownBy wx (some R)):SB w wx R BB qx xk xp xe ks ps l :=
 ⟨hr,grown_on h.gr hg,box_keep hg (by omega) h.res,box_keep hg (by omega) h.box,own_box h.k hg (by omega),own_box h.p hg (by omega),own_box h.e hg (by omega),fun q hq => own_box (h.f q hq) hg (by omega)⟩
theorem SB.call {w wr wx:World} {R BB px:Nat} {xk xp xe:Value} {ks ps:List Tri} {l:List EntV} (h:SB w wr R BB px xk xp xe ks ps l) (hb:Below wr.heap.size wr wx):SB w wx R BB px xk xp xe ks ps l :=
 ⟨h.rd.far hb,grown_on h.gr (grown_of hb _),(hb.block _ (lt_blk h.res)).trans h.res,(hb.block _ (lt_blk h.box)).trans h.box,own_keepD h.k hb,own_keepD h.p hb,own_keepD h.e hb,fun q hq => own_keepD (h.f q hq) hb⟩
theorem SB.at {w wr:World} {R BB px:Nat} {xk xp xe:Value} {ks ps:List Tri} {l:List EntV} (h:SB w wr R BB px xk xp xe ks ps l):BookAt wr xk xp xe ks ps (l.map (·.1)):=by
 refine ⟨tris_new h.k,tris_new h.p,?_⟩
 obtain ⟨a,cap,h1,h2,h3,h4⟩:=own_rows pairRow pairRow_len h.e
 refine ⟨a,cap,by rw [List.length_map]; exact h1,by rw [List.length_map]; exact h2,h3,fun i t ht => ?_⟩
 rw [List.getElem?_map] at ht
 cases hp:l[i]? with
 | none => rw [hp] at ht; cases ht
 | some p =>
  rw [hp] at ht
  cases ht
  obtain ⟨g,ha,hc⟩:=h4 i p hp
  exact ⟨g,0,ha,p.2,by simpa using hc 0 _ rfl,by simpa using hc 1 _ rfl,flds_new (h.f p (List.mem_of_getElem? hp))⟩
theorem SB.cell {w wr:World} {R BB px g o:Nat} {xk xp xe x:Value} {ks ps:List Tri} {l:List EntV} (h:SB w wr R BB px xk xp xe ks ps l) (hR:R < w.heap.size) (hg:w.heap.size + 1 ≤ g) (hB:BB ≠ g) :
  Rd (wr.setCell ⟨g,o,none⟩ x) R px ∧ w.grownBy (wr.setCell ⟨g,o,none⟩ x) (some R) ∧ (wr.setCell ⟨g,o,none⟩ x).heap[w.heap.size]? = some (.cells #[.slice none 0 0,.slice none 0 0,.slice none 0 0] 29 (0,0)) ∧ (wr.setCell ⟨g,o,none⟩ x).heap[BB]? = some (.cells #[xk,xp,xe] 29 (0,0)):=by
 have hoo:∀ b,b ≠ g → (wr.setCell ⟨g,o,none⟩ x).heap[b]? = wr.heap[b]?:=fun b hb => Below.heap_setCell wr ⟨g,o,none⟩ x b hb
 exact ⟨h.rd.late (fun j hj => hoo j (by omega)),grown_cell h.gr o x (by omega),(hoo _ (by omega)).trans h.res,(hoo _ hB).trans h.box⟩
theorem pairRows_name:∀ (l:List EntV) (k:Nat) (p:EntV) (s:ByteArray) (fs:List Fld),l[k]? = some p → pairRows (l.set k (⟨s,fs⟩,p.2)) = (pairRows l).set (k * 2) (.string s)
 | [],k,p,s,fs,hk => by simp at hk
 | a :: l,0,p,s,fs,hk => by
  have:a = p:=by simpa using hk
  subst this
  simp [pairRows,pairRow]
 | a :: l,k + 1,p,s,fs,hk => by
  have ih:=pairRows_name l k p s fs (by simpa using hk)
  have c:∀ (x:EntV) (m:List EntV),pairRows (x :: m) = pairRow x ++ pairRows m:=fun x m => by simp [pairRows]
  rw [List.set_cons_succ,c,c,ih,show (k + 1) * 2 = 2 + k * 2 by omega,List.set_append_right _ _ (by simp [pairRow])]
  simp [pairRow]
theorem pairRows_same (l:List EntV) (k:Nat) (p:EntV) (fs:List Fld) (hk:l[k]? = some p):pairRows (l.set k (⟨p.1.name,fs⟩,p.2)) = pairRows l:=by
 rw [pairRows_set l k p ⟨p.1.name,fs⟩ p.2 hk rfl]
 have hl:=(List.getElem?_eq_some_iff.1 hk).1
 refine List.ext_getElem? fun i => ?_
 rw [List.getElem?_set]
 split
 ·rename_i e
  subst e
  have h:(pairRows l)[k * 2 + 1]? = some p.2:=by
   unfold pairRows
   rw [rows_idx pairRow 2 (fun _ => rfl) l k 1 (by omega),hk]
   rfl
  rw [h]
  simp [pairRows_length]
  omega
 ·rfl
theorem SB.name {w wr:World} {R BB px g cap kn n:Nat} {xk xp:Value} {ks ps:List Tri} {l:List EntV} {q:EntV} {s:ByteArray} (h:SB w wr R BB px xk xp (.slice (some ⟨g,0,none⟩) n cap) ks ps l) (hn:l.length = n) (hR:R < w.heap.size) (hq:l[kn]? = some q):SB w (wr.setCell ⟨g,kn * 2,none⟩ (.string s)) R BB px xk xp (.slice (some ⟨g,0,none⟩) n cap) ks ps (l.set kn (⟨s,q.1.fs⟩,q.2)):=by
 subst hn
 have hkl:=(List.getElem?_eq_some_iff.1 hq).1
 have hg:w.heap.size + 1 ≤ g:=own_geD h.e g rfl
 have hgB:BB ≠ g:=fun e => own_typeD h.e h.box (by decide) (by rw [e]; rfl)
 obtain ⟨c1,c2,c3,c4⟩:=h.cell (o:=kn * 2) (x:=.string s) hR hg hgB
 refine ⟨c1,c2,c3,c4,own_farD h.k (grown_box wr g _ _) (own_apartD h.k h.e (by decide)),own_farD h.p (grown_box wr g _ _) (own_apartD h.p h.e (by decide)),?_,fun r hr => ?_⟩
 ·rw [List.length_set,pairRows_name l kn q s q.1.fs hq]
  exact own_setD h.e (by omega)
 ·have hr2:wr.ownsRow (w.heap.size + 1) 94 3 r.2 r.1.fs.length (fldRows r.1.fs):=by
   rcases List.mem_or_eq_of_mem_set hr with h1 | h1
   ·exact h.f r h1
   ·rw [h1]; exact h.f q (List.mem_of_getElem? hq)
  exact own_farD hr2 (grown_box wr g _ _) (own_apartD hr2 h.e (by decide))
theorem SB.fld {w wr:World} {R BB px gf cf nf kn o:Nat} {xk xp xe x:Value} {ks ps:List Tri} {l:List EntV} {e:Ent} {fs':List Fld} (h:SB w wr R BB px xk xp xe ks ps l) (hR:R < w.heap.size) (ap:l.Pairwise fun p q => ∀ k,p.2.ownBlock = some k → q.2.ownBlock ≠ some k) (hq:l[kn]? = some (e,.slice (some ⟨gf,0,none⟩) nf cf)) (hnf:e.fs.length = nf) (ho:o < nf * 3) (hl:fs'.length = e.fs.length) (ht:fldRows fs' = (fldRows e.fs).set o x):SB w (wr.setCell ⟨gf,o,none⟩ x) R BB px xk xp xe ks ps (l.set kn (⟨e.name,fs'⟩,.slice (some ⟨gf,0,none⟩) nf cf)):=by
 subst hnf
 have hkl:=(List.getElem?_eq_some_iff.1 hq).1
 have h0:=h.f _ (List.mem_of_getElem? hq)
 have hg:w.heap.size + 1 ≤ gf:=own_geD h0 gf rfl
 have hgB:BB ≠ gf:=fun e => own_typeD h0 h.box (by decide) (by rw [e]; rfl)
 obtain ⟨c1,c2,c3,c4⟩:=h.cell (o:=o) (x:=x) hR hg hgB
 refine ⟨c1,c2,c3,c4,own_farD h.k (grown_box wr gf _ _) (own_apartD h.k h0 (by decide)),own_farD h.p (grown_box wr gf _ _) (own_apartD h.p h0 (by decide)),?_,fun r hr => ?_⟩
 ·rw [List.length_set,pairRows_same l kn (e,.slice (some ⟨gf,0,none⟩) e.fs.length cf) fs' hq]
  exact own_farD h.e (grown_box wr gf _ _) (own_apartD h.e h0 (by decide))
 ·obtain ⟨i,hi⟩:=List.getElem?_of_mem hr
  rw [List.getElem?_set] at hi
  split at hi
  ·rename_i e2
   subst e2
   cases hi
   show (wr.setCell ⟨gf,o,none⟩ x).ownsRow _ _ 3 _ fs'.length (fldRows fs')
   rw [hl,ht]
   exact own_setD h0 ho
  ·rename_i e2
   have hr2:=h.f r (List.mem_of_getElem? hi)
   refine own_farD hr2 (grown_box wr gf _ _) (fun k hk e3 => ?_)
   cases e3
   have hil:=(List.getElem?_eq_some_iff.1 hi).1
   have hpw:=List.pairwise_iff_getElem.1 ap
   have e4:l[i] = r:=by rw [List.getElem?_eq_getElem hil] at hi; exact Option.some.inj hi
   have e5:l[kn] = (e,.slice (some ⟨gf,0,none⟩) e.fs.length cf):=by rw [List.getElem?_eq_getElem hkl] at hq; exact Option.some.inj hq
   rcases Nat.lt_or_gt_of_ne e2 with h5 | h5
   ·exact hpw kn i hkl hil h5 gf (by rw [e5]; rfl) (by rw [e4]; exact hk)
   ·exact hpw i kn hil hkl h5 gf (by rw [e4]; exact hk) (by rw [e5]; rfl)
theorem fldRows_set:∀ (l:List Fld) (i j:Nat) (t t':Fld) (x:Value),l[i]? = some t → j < 3 → fldRow t' = (fldRow t).set j x → fldRows (l.set i t') = (fldRows l).set (i * 3 + j) x
 | [],i,j,t,t',x,h,hj,hs => by simp at h
 | a :: l,0,j,t,t',x,h,hj,hs => by
  simp at h; subst h
  have e:fldRows (a :: l) = fldRow a ++ fldRows l:=by simp [fldRows]
  have e':fldRows ((a :: l).set 0 t') = fldRow t' ++ fldRows l:=by simp [fldRows]
  rw [e,e',hs,Nat.zero_mul,Nat.zero_add,List.set_append_left _ _ (by simp [fldRow]; omega)]
 | a :: l,i + 1,j,t,t',x,h,hj,hs => by
  have e:fldRows (a :: l) = fldRow a ++ fldRows l:=by simp [fldRows]
  have e':fldRows ((a :: l).set (i + 1) t') = fldRow a ++ fldRows (l.set i t'):=by simp [fldRows]
  have hl:(fldRow a).length = 3:=rfl
  rw [e,e',fldRows_set l i j t t' x (by simpa using h) hj hs,List.set_append_right _ _ (by omega),hl]
  congr 2
  omega
theorem SB.turn {w wr W:World} {R BB px g cap n kn:Nat} {xk xp fv:Value} {ks ps:List Tri} {l:List EntV} {q:EntV} {fs:List Fld} (h:SB w wr R BB px xk xp (.slice (some ⟨g,0,none⟩) n cap) ks ps l) (hn:l.length = n) (hR:R < w.heap.size) (hq:l[kn]? = some q) (hb:Below wr.heap.size wr W) (hf:W.ownsRow (w.heap.size + 1) 94 3 fv fs.length (fldRows fs)):SB w (W.setCell ⟨g,kn * 2 + 1,none⟩ fv) R BB px xk xp (.slice (some ⟨g,0,none⟩) n cap) ks ps (l.set kn (⟨q.1.name,fs⟩,fv)):=by
 subst hn
 have h:=h.call hb
 have hkl:=(List.getElem?_eq_some_iff.1 hq).1
 have hg:w.heap.size + 1 ≤ g:=own_geD h.e g rfl
 have hgB:BB ≠ g:=fun e => own_typeD h.e h.box (by decide) (by rw [e]; rfl)
 obtain ⟨c1,c2,c3,c4⟩:=h.cell (o:=kn * 2 + 1) (x:=fv) hR hg hgB
 refine ⟨c1,c2,c3,c4,own_farD h.k (grown_box W g _ _) (own_apartD h.k h.e (by decide)),own_farD h.p (grown_box W g _ _) (own_apartD h.p h.e (by decide)),?_,fun r hr => ?_⟩
 ·rw [List.length_set,pairRows_set l kn q ⟨q.1.name,fs⟩ fv hq rfl]
  exact own_setD h.e (by omega)
 ·have hr2:W.ownsRow (w.heap.size + 1) 94 3 r.2 r.1.fs.length (fldRows r.1.fs):=by
   rcases List.mem_or_eq_of_mem_set hr with h1 | h1
   ·exact h.f r h1
   ·rw [h1]; exact hf
  exact own_farD hr2 (grown_box W g _ _) (own_apartD hr2 h.e (by decide))
theorem SB.more {w W2 W3:World} {R BB px:Nat} {xk xp xe xe':Value} {ks ps:List Tri} {l:List EntV} {q:EntV} (h:SB w W2 R BB px xk xp xe ks ps l) (hR:R < w.heap.size) (hB:w.heap.size < BB) (hg:W2.grownBy W3 xe.ownBlock) (hown:W3.ownsRow (w.heap.size + 1) 52 2 xe' (l.length + 1) (pairRows l ++ pairRow q)) (hf:W2.ownsRow (w.heap.size + 1) 94 3 q.2 q.1.fs.length (fldRows q.1.fs)):SB w (W3.setCell ⟨BB,2,none⟩ xe') R BB px xk xp xe' ks ps (l ++ [q]):=by
 have hge:∀ q,xe.ownBlock = some q → w.heap.size + 1 ≤ q:=fun q hq => own_geD h.e q hq
 have hBk:some BB ≠ xe.ownBlock:=own_typeD h.e h.box (by decide)
 have hb3:W3.heap[BB]? = some (.cells #[xk,xp,xe] 29 (0,0)):=(hg.block BB (lt_blk h.box) hBk).trans h.box
 have ho:∀ b,b ≠ BB → (W3.setCell ⟨BB,2,none⟩ xe').heap[b]? = W3.heap[b]?:=fun b hb => Below.heap_setCell W3 ⟨BB,2,none⟩ xe' b hb
 have hlow:∀ b,b ≤ w.heap.size → b < W2.heap.size → (W3.setCell ⟨BB,2,none⟩ xe').heap[b]? = W2.heap[b]?:=fun b hb hl => (ho b (by omega)).trans (hg.block b hl (fun e => by have:=hge b e.symm; omega))
 have hz:=h.gr.size
 have go:∀ {t:TypeId} {c n:Nat} {v:Value} {xs:List Value},W2.ownsRow (w.heap.size + 1) t c v n xs → t ≠ 52 → t ≠ 29 → (W3.setCell ⟨BB,2,none⟩ xe').ownsRow (w.heap.size + 1) t c v n xs:=fun h1 h2 h3 => by
  have h4:=own_farD h1 hg (own_apartD h1 h.e h2)
  exact own_farD h4 (grown_box W3 BB 2 xe') (fun k hk e => own_typeD h4 hb3 h3 (by rw [hk,e]))
 refine ⟨h.rd.late (fun j hj => hlow j (by omega) (by omega)),grown_cell (grown_own h.gr hg (fun q hq => by have:=hge q hq; omega)) 2 _ (by omega),(hlow _ (Nat.le_refl _) (lt_blk h.res)).trans h.res,row_setD hb3,go h.k (by decide) (by decide),go h.p (by decide) (by decide),?_,fun r hr => ?_⟩
 ·rw [List.length_append,pairRows_snoc]
  exact own_farD hown (grown_box W3 BB 2 xe') (fun k hk e => own_typeD hown hb3 (by decide) (by rw [hk,e]))
 ·rcases List.mem_append.1 hr with h1 | h1
  ·exact go (h.f r h1) (by decide) (by decide)
  ·rw [List.mem_singleton.1 h1]; exact go hf (by decide) (by decide)
end Go.Proofs.YtbjmgglpiakgdaaGreatDoor.Dr
