import Derived.Test.YtbjmgglpiakgdaaGreatDoorDr8
namespace Go.Proofs.YtbjmgglpiakgdaaGreatDoor.Dr
open Go.RowKit
set_option linter.unusedSimpArgs false
set_option linter.unusedVariables false
theorem names_le {l:List Tri} {m:Nat} (h:namesB l m=true):l.length≤m∧∀ t∈l,t.s.size≤8:=by
 unfold namesB at h;rw [Bool.and_eq_true] at h
 refine ⟨by have:=of_decide_eq_true h.1;omega,fun t ht=>?_⟩
 obtain ⟨i,hi,e⟩:=List.getElem_of_mem ht;have h2:=allB_get h.2 i hi;rw [Bool.and_eq_true] at h2;have h3:=h2.1
 rw [show at' l i=t by simp [at',hi,e]] at h3
 unfold nameB inB at h3
 simp at h3
 omega
theorem points_le {l:List Tri} (h:pointsB l=true):l.length≤16∧∀ t∈l,t.s.size≤8:=by
 unfold pointsB at h;rw [Bool.and_eq_true] at h;exact names_le h.1
theorem kinds_le {l:List Tri} (h:kindsB l=true):l.length≤6∧∀ t∈l,t.s.size≤8:=by
 unfold kindsB at h;rw [Bool.and_eq_true] at h;exact names_le h.1
theorem below_grown {w w1 w2:World} {R:Nat} (h:Below w.heap.size w w1) (hg:w1.grownBy w2 (some R)) (hR:w.heap.size≤R):Below w.heap.size w w2 :=
 ⟨hg.1.trans h.1,hg.2.trans h.2,hg.3.trans h.3,Nat.le_trans h.4 hg.4,fun j hj=>(hg.5 j (Nat.lt_of_lt_of_le hj h.4) (fun e=>by have:=Option.some.inj e;omega)).trans (h.5 j hj)⟩
structure DC (w z:World) (R q bs:Nat) (kv pv:Value) (ks ps:List Tri):Prop where
 rd:Rd z R q
 bl:Below w.heap.size w z
 r0:z.heap[w.heap.size]?=some (.cells #[.slice none 0 0,.slice none 0 0] 26 (0,0))
 r1:z.heap[w.heap.size+1]?=some (.cells #[.string ⟨#[]⟩,.int .i64 0,.int .i64 0,.string ⟨#[]⟩] 40 (0,0))
 k:z.ownsRow bs 44 3 kv ks.length (triRows ks)
 p:z.ownsRow bs 110 3 pv ps.length (triRows ps)
theorem DC.call {w z z':World} {R q bs:Nat} {kv pv:Value} {ks ps:List Tri} (h:DC w z R q bs kv pv ks ps) (hb:Below z.heap.size z z'):DC w z' R q bs kv pv ks ps :=
 ⟨h.rd.far hb,below_step h.bl hb,(hb.block _ (lt_blk h.r0)).trans h.r0,(hb.block _ (lt_blk h.r1)).trans h.r1,own_keepD h.k hb,own_keepD h.p hb⟩
theorem DC.row {w z:World} {R q bs C:Nat} {kv pv:Value} {ks ps:List Tri} {old:Array Value} (h:DC w z R q bs kv pv ks ps) (hC:z.heap[C]?=some (.cells old 40 (0,0))) (hw:w.heap.size+1<C) (hR:R<C) (cs:Array Value):DC w (z.setRow C cs) R q bs kv pv ks ps:=by
 have hg:z.grownBy (z.setRow C cs) (some C):=⟨rfl,rfl,rfl,by simp,fun j _ hj=>setRow_other _ _ _ _ (fun e=>hj (by rw [e]))⟩
 have hbl:Below w.heap.size w (z.setRow C cs):=below_grown h.bl hg (by omega)
 refine ⟨?_,hbl,(setRow_other _ _ _ _ (by omega)).trans h.r0,(setRow_other _ _ _ _ (by omega)).trans h.r1,own_farD h.k hg (fun q hq e=>own_typeD h.k hC (by decide) (by rw [hq,← e])),own_farD h.p hg (fun q hq e=>own_typeD h.p hC (by decide) (by rw [hq,← e]))⟩
 exact h.rd.late (fun j hj=>setRow_other _ _ _ _ (by omega))
end Go.Proofs.YtbjmgglpiakgdaaGreatDoor.Dr
