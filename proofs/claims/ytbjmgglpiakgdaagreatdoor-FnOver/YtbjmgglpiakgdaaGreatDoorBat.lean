import Derived.Test.YtbjmgglpiakgdaaGreatDoorKeys
import Derived.Shelf.SlSortCmp.WholeK
import Derived.Test.YtbjmgglpiakgdaaGreatDoorCbase2
import Derived.Test.YtbjmgglpiakgdaaGreatDoorApp
set_option linter.unusedSimpArgs false
set_option linter.unusedVariables false
namespace Go.Proofs.YtbjmgglpiakgdaaGreatDoor
open Go.RowKit Go.Shelf Go.Lib Go.Sort
shelf_lay_g SlLaysF0.n6 Slsf 6 at Tryz 128 as Tryz.sortKeys
open Go.RowKit Go.Shelf Go.Lib Go.Sort
end Go.Proofs.YtbjmgglpiakgdaaGreatDoor
namespace Go.Proofs.YtbjmgglpiakgdaaGreatDoor
open Go.RowKit
def kyOf (c:Chg):KeyP:=(c.f,c.what)
open Go.RowKit
abbrev EntV:=Ent × Value
def pairRow (p:EntV):List Value:=[.string p.1.name,p.2]
def pairRows (l:List EntV):List Value:=l.flatMap pairRow
theorem pairRows_snoc (l:List EntV) (p:EntV):pairRows (l ++ [p])=pairRows l ++ pairRow p:=by simp [pairRows]
theorem pairRows_length (l:List EntV):(pairRows l).length=l.length * 2:=by
 induction l with
 | nil=>rfl
 | cons a l ih=>simp only [pairRows,List.flatMap_cons,List.length_append] at ih ⊢; rw [ih]; simp [pairRow]; omega
def fldRows (l:List Fld):List Value:=l.flatMap fldRow
theorem fldRows_snoc (l:List Fld) (f:Fld):fldRows (l ++ [f])=fldRows l ++ fldRow f:=by simp [fldRows]
theorem infoEnt:(Tryz.prog.info? 52).map (fun i=>(i.zero,i.size,i.bytes))=some (some (.agg #[.string ByteArray.empty,.slice none 0 0]),2,40):=by kernel_rfl
theorem infoFld:(Tryz.prog.info? 94).map (fun i=>(i.zero,i.size,i.bytes))=some (some (.agg #[.int .i64 0,.int .i64 0,.string ByteArray.empty]),3,32):=by kernel_rfl
theorem own_lt {w:World} {base:Nat} {e:TypeId} {size:Nat} {v:Value} {n:Nat} {xs:List Value} (h:w.ownsRow base e size v n xs):∀ k,v.ownBlock=some k→k < w.heap.size:=by
 intro k hk
 rcases h.2 with ⟨rfl,_⟩ | ⟨g,cap,cur,rfl,_,hc,_⟩
 ·cases hk
 ·cases hk; exact (Array.getElem?_eq_some_iff.1 hc).1
structure PairsNew (w:World) (B:Nat) (o:Value) (l:List EntV):Prop where
 row:w.ownsRow B 52 2 o l.length (pairRows l)
 flds:∀ p ∈ l,w.ownsRow B 94 3 p.2 p.1.fs.length (fldRows p.1.fs)
 apart:l.Pairwise fun p q=>∀ k,p.2.ownBlock=some k→q.2.ownBlock ≠ some k
theorem PairsNew.nil (w:World) (B:Nat):PairsNew w B (.slice none 0 0) []:=⟨⟨rfl,.inl ⟨rfl,rfl⟩⟩,(fun p h=>by cases h),List.Pairwise.nil⟩
theorem PairsNew.keep {w w':World} {B:Nat} {o:Value} {l:List EntV} (h:PairsNew w B o l) (hb:Below w.heap.size w w'):PairsNew w' B o l :=
 ⟨ownsRow_keep h.row hb,fun p hp=>ownsRow_keep (h.flds p hp) hb,h.apart⟩
theorem PairsNew.last {w:World} {B:Nat} {o:Value} {l:List EntV} {e:Ent} {fv:Value} (h:PairsNew w B o (l ++ [(e,fv)])):∃ g cap,o=.slice (some ⟨g,0,none⟩) (l.length+1) cap∧w.cell? ⟨g,l.length * 2,none⟩=some (.string e.name)∧w.cell? ⟨g,l.length * 2+1,none⟩=some fv∧w.frozen? ⟨g,l.length * 2+1,none⟩=false∧l.length+1≤cap∧cap≤maxLen:=by
 rcases h.row.2 with ⟨_,h0⟩ | ⟨g,cap,cur,rfl,_,hb,hn,hc,hs,ht⟩
 ·simp at h0
 ·have hlen:(l ++ [(e,fv)]).length=l.length+1:=by simp
  rw [hlen] at ht hn ⊢
  have hx:∀ j,j < 2→cur.toList[l.length * 2+j]?=[Value.string e.name,fv][j]?:=fun j hj=>by
   have h1:(cur.toList.take ((l.length+1) * 2))[l.length * 2+j]?=cur.toList[l.length * 2+j]?:=by
    rw [List.getElem?_take,if_pos (by omega)]
   rw [← h1,ht,pairRows_snoc,List.getElem?_append_right (by rw [pairRows_length]; omega),pairRows_length,Nat.add_sub_cancel_left]
   rfl
  have x0:=hx 0 (by omega)
  have x1:=hx 1 (by omega)
  simp only [Nat.add_zero] at x0
  refine ⟨g,cap,rfl,?_,?_,Lib.frozen_of_heap hb _,hn,hc⟩
  ·simp only [World.cell?,hb,Option.isSome_none,Bool.false_eq_true,if_false]
   simpa using x0
  ·simp only [World.cell?,hb,Option.isSome_none,Bool.false_eq_true,if_false]
   simpa using x1
theorem set_end {α:Type} (L:List α) (a b x:α):(L ++ [a,b]).set (L.length+1) x=L ++ [a,x]:=by
 rw [List.set_append_right _ _ (by omega)]
 simp
theorem PairsNew.more {w2 w3:World} {B H:Nat} {g cap n fg fcap:Nat} {l:List EntV} {e:Ent} {fv:Value} {f:Fld} {ob:Obj} (h:PairsNew w2 B (.slice (some ⟨g,0,none⟩) n cap) (l ++ [(e,fv)])) (hown:w3.ownsRow B 94 3 (.slice (some ⟨fg,0,none⟩) (e.fs.length+1) fcap) (e.fs.length+1) (fldRows e.fs ++ fldRow f)) (hg:(w2.alloc ob).grownBy w3 fv.ownBlock) (hat:fv.ownBlock=some fg ∨ fg=H) (hH:w2.heap.size≤H) :
  PairsNew (w3.setCell ⟨g,l.length * 2+1,none⟩ (.slice (some ⟨fg,0,none⟩) (e.fs.length+1) fcap)) B (.slice (some ⟨g,0,none⟩) n cap) (l ++ [(⟨e.name,e.fs ++ [f]⟩,.slice (some ⟨fg,0,none⟩) (e.fs.length+1) fcap)]):=by
 have hfl:=h.flds (e,fv) (by simp)
 have hb1:Below w2.heap.size w2 (w2.alloc ob):=(Below.refl _ _).alloc (Nat.le_refl _) ob
 have hrow3:w3.ownsRow B 52 2 (.slice (some ⟨g,0,none⟩) n cap) (l ++ [(e,fv)]).length (pairRows (l ++ [(e,fv)])):=ownsRow_farF (ownsRow_keep h.row hb1) hg (own_apart hfl h.row (by decide))
 have gs:=grown_setF w3 g (l.length * 2+1) (.slice (some ⟨fg,0,none⟩) (e.fs.length+1) fcap)
 have hne:∀ (p:EntV),w3.ownsRow B 94 3 p.2 p.1.fs.length (fldRows p.1.fs)→∀ k,p.2.ownBlock=some k→some k ≠ some g:=fun p hp=>own_apart hrow3 hp (by decide)
 have hap:=List.pairwise_append.1 h.apart
 refine ⟨?_,fun p hp=>?_,?_⟩
 ·obtain ⟨h1,h2⟩:=hrow3
  rcases h2 with ⟨h2,_⟩ | ⟨g',cap',cur,hv,hB,hb,hn,hc,hs,ht⟩
  ·cases h2
  ·cases hv
   have hlen:∀ x:EntV,(l ++ [x]).length=l.length+1:=fun x=>by simp
   rw [hlen] at h1 hn ht
   refine ⟨by rw [pairRows_length],.inr ⟨g,cap,cur.setIfInBounds (l.length * 2+1) (.slice (some ⟨fg,0,none⟩) (e.fs.length+1) fcap),by simp,hB,?_,by rw [hlen]; exact hn,hc,by simpa using hs,?_⟩⟩
   ·rw [Sort.setCell_eq]
    simp only [Sort.mapBlock,Array.getElem?_modify,if_true,hb,Option.map_some,Sort.onCells]
   ·rw [hlen,Array.toList_setIfInBounds,List.take_set,ht,pairRows_snoc,pairRows_snoc]
    have:=set_end (pairRows l) (.string e.name) fv (.slice (some ⟨fg,0,none⟩) (e.fs.length+1) fcap)
    rw [pairRows_length] at this
    exact this
 ·rcases List.mem_append.1 hp with hp | hp
  ·have hp2:=h.flds p (List.mem_append_left _ hp)
   have hp3:w3.ownsRow B 94 3 p.2 p.1.fs.length (fldRows p.1.fs):=ownsRow_farF (ownsRow_keep hp2 hb1) hg (fun k hk ee=>(hap.2.2 p hp (e,fv) (by simp) k hk) ee.symm)
   exact ownsRow_farF hp3 gs (hne p hp3)
  ·simp at hp; subst hp
   have h3:w3.ownsRow B 94 3 (.slice (some ⟨fg,0,none⟩) (e.fs.length+1) fcap) (e.fs ++ [f]).length (fldRows (e.fs ++ [f])):=by
    rw [fldRows_snoc,List.length_append]; exact hown
   exact ownsRow_farF h3 gs (hne (⟨e.name,e.fs ++ [f]⟩,_) h3)
 ·rw [List.pairwise_append]
  refine ⟨hap.1,by simp,fun p hp q hq k hk=>?_⟩
  simp at hq; subst hq
  show some fg ≠ some k
  intro ee
  injection ee with ee
  subst ee
  rcases hat with hat | hat
  ·exact hap.2.2 p hp (e,fv) (by simp) _ hk hat
  ·have:=own_lt (h.flds p (List.mem_append_left _ hp)) _ hk
   omega
def EntsNew (w:World) (B:Nat) (o:Value) (es:List Ent):Prop:=∃ l:List EntV,l.map (·.1)=es∧PairsNew w B o l
open Go.RowKit
structure EM (w wr:World) (kv:Value) (S:List Chg) (o:Value) (l:List EntV) (e:Ent) (fv:Value):Prop where
 below:Below w.heap.size w wr
 keys:wr.ownsRow w.heap.size 135 2 kv S.length (keyRows (S.map kyOf))
 ents:PairsNew wr w.heap.size o (l ++ [(e,fv)])
theorem EM.call {w wr wy:World} {kv o fv:Value} {S:List Chg} {l:List EntV} {e:Ent} (h:EM w wr kv S o l e fv) (hb:Below wr.heap.size wr wy):EM w wy kv S o l e fv :=
 ⟨below_step h.below hb,ownsRow_keep h.keys hb,h.ents.keep hb⟩
open Go.RowKit
theorem PairsNew.far {w w':World} {B r:Nat} {o:Value} {l:List EntV} (h:PairsNew w B o l) (hg:w.grownBy w' (some r)) (hr:r < B):PairsNew w' B o l :=
 ⟨ownsRow_farF h.row hg (fun k hk e=>by have:=own_ge h.row k hk; injection e; omega),fun p hp=>ownsRow_farF (h.flds p hp) hg (fun k hk e=>by have:=own_ge (h.flds p hp) k hk; injection e; omega),h.apart⟩
theorem own_mono {w:World} {base base':Nat} {e:TypeId} {size:Nat} {v:Value} {n:Nat} {xs:List Value} (h:w.ownsRow base e size v n xs) (hb:base'≤base):w.ownsRow base' e size v n xs:=by
 refine ⟨h.1,?_⟩
 rcases h.2 with h2 | ⟨g,cap,cur,hv,hg,rest⟩
 ·exact .inl h2
 ·exact .inr ⟨g,cap,cur,hv,by omega,rest⟩
theorem PairsNew.mono {w:World} {B B':Nat} {o:Value} {l:List EntV} (h:PairsNew w B o l) (hb:B'≤B):PairsNew w B' o l:=⟨own_mono h.row hb,fun p hp=>own_mono (h.flds p hp) hb,h.apart⟩
structure BookNew (lo:Nat) (w:World) (x y z:Value) (ks ps:List Tri) (es:List Ent):Prop where
 k:w.ownsRow lo 44 3 x ks.length (triRows ks)
 p:w.ownsRow lo 110 3 y ps.length (triRows ps)
 e:EntsNew w lo z es
theorem BookNew.keep {lo:Nat} {w w':World} {x y z:Value} {ks ps:List Tri} {es:List Ent} (h:BookNew lo w x y z ks ps es) (hb:Below w.heap.size w w'):BookNew lo w' x y z ks ps es:=by
 obtain ⟨h1,h2,l,h3,h4⟩:=h
 exact ⟨ownsRow_keep h1 hb,ownsRow_keep h2 hb,l,h3,h4.keep hb⟩
theorem BookNew.far {lo r:Nat} {w w':World} {x y z:Value} {ks ps:List Tri} {es:List Ent} (h:BookNew lo w x y z ks ps es) (hg:w.grownBy w' (some r)) (hr:r < lo):BookNew lo w' x y z ks ps es:=by
 obtain ⟨h1,h2,l,h3,h4⟩:=h
 exact ⟨ownsRow_farF h1 hg (fun k hk e=>by have:=own_ge h1 k hk; injection e; omega),ownsRow_farF h2 hg (fun k hk e=>by have:=own_ge h2 k hk; injection e; omega),l,h3,h4.far hg hr⟩
theorem BookNew.mono {lo lo':Nat} {w:World} {x y z:Value} {ks ps:List Tri} {es:List Ent} (h:BookNew lo w x y z ks ps es) (hl:lo'≤lo):BookNew lo' w x y z ks ps es:=by
 obtain ⟨h1,h2,l,h3,h4⟩:=h
 exact ⟨own_mono h1 hl,own_mono h2 hl,l,h3,h4.mono hl⟩
theorem own_slice {w:World} {base:Nat} {e:TypeId} {size:Nat} {v:Value} {n:Nat} {xs:List Value} (h:w.ownsRow base e size v n xs):∃ a c,v=.slice a n c:=by
 rcases h.2 with ⟨rfl,h0⟩ | ⟨g,cap,cur,rfl,_⟩
 ·exact ⟨none,0,by rw [h0]⟩
 ·exact ⟨_,cap,rfl⟩
open Go.RowKit
def takeC (ks ps:List Tri) (es:List Ent) (c:Chg):Int:=bif bookB ks ps es then (bif fitB ks ps c then (bif decide (12 < (putE es c.f (fldC c)).length) then 3 else 0) else 2) else 1
def takeE (ks ps:List Tri) (es:List Ent) (c:Chg):List Ent:=bif bookB ks ps es then (bif fitB ks ps c then (bif decide (12 < (putE es c.f (fldC c)).length) then es else putE es c.f (fldC c)) else es) else []
def takeT (ks ps:List Tri) (es:List Ent) (l:List Tri):List Tri:=bif bookB ks ps es then l else []
theorem fit_what {ks ps:List Tri} {c:Chg} (h:fitB ks ps c=true):1≤c.what∧c.what≤5:=by
 simp only [fitB,Bool.and_eq_true] at h
 have h2:=h.2.2
 unfold valB2 at h2
 repeat' split at h2
 all_goals (first | omega | cases h2)
theorem book_ne {ks ps:List Tri} {es:List Ent} (h:bookB ks ps es=true):∀ e ∈ es,e.fs ≠ []:=fun e he hn=>by
 have:=book_fields h he
 simp [fieldsB,hn] at this
structure Blk3 (w wr:World) (X Y Z:Obj):Prop where
 below:Below w.heap.size w wr
 b0:wr.heap[w.heap.size]?=some X
 b1:wr.heap[w.heap.size+1]?=some Y
 b2:wr.heap[w.heap.size+1+1]?=some Z
theorem Blk3.z {w wr:World} {X Y Z:Obj} (h:Blk3 w wr X Y Z):w.heap.size+2 < wr.heap.size:=(Array.getElem?_eq_some_iff.1 h.b2).1
theorem Blk3.call {w wr wy:World} {X Y Z:Obj} (h:Blk3 w wr X Y Z) (hb:Below wr.heap.size wr wy):Blk3 w wy X Y Z:=by
 have hz:=h.z
 exact ⟨below_step h.below hb,(hb.block _ (by omega)).trans h.b0,(hb.block _ (by omega)).trans h.b1,(hb.block _ (by omega)).trans h.b2⟩
theorem Blk3.start (w:World) (X Y Z:Obj):Blk3 w (((w.alloc X).alloc Y).alloc Z) X Y Z:=by
 have s1:(w.alloc X).heap.size=w.heap.size+1:=by simp
 have s2:((w.alloc X).alloc Y).heap.size=w.heap.size+1+1:=by simp
 have h1:=heap_newF w X
 have h2:=heap_newF (w.alloc X) Y
 have h3:=heap_newF ((w.alloc X).alloc Y) Z
 rw [s1] at h2
 rw [s2] at h3
 refine ⟨(((Below.refl _ _).alloc (Nat.le_refl _) _).alloc (by simp) _).alloc (by simp; omega) _,?_,?_,h3⟩
 ·exact (Below.heap_alloc _ _ _ (by omega)).trans ((Below.heap_alloc _ _ _ (by omega)).trans h1)
 ·exact (Below.heap_alloc _ _ _ (by omega)).trans h2
theorem BookNew.none (lo:Nat) (w:World):BookNew lo w (.slice none 0 0) (.slice none 0 0) (.slice none 0 0) [] [] []:=⟨⟨rfl,.inl ⟨rfl,rfl⟩⟩,⟨rfl,.inl ⟨rfl,rfl⟩⟩,[],rfl,PairsNew.nil _ _⟩
theorem BookNew.slices {lo:Nat} {w:World} {x y z:Value} {ks ps:List Tri} {es:List Ent} (h:BookNew lo w x y z ks ps es):∃ a1 c1 a2 c2 a3 c3,x=.slice a1 ks.length c1∧y=.slice a2 ps.length c2∧z=.slice a3 es.length c3:=by
 obtain ⟨h1,h2,l,h3,h4⟩:=h
 obtain ⟨a1,c1,rfl⟩:=own_slice h1
 obtain ⟨a2,c2,rfl⟩:=own_slice h2
 obtain ⟨a3,c3,rfl⟩:=own_slice h4.row
 exact ⟨a1,c1,a2,c2,a3,c3,rfl,rfl,by rw [← h3,List.length_map]⟩
open Go.RowKit
theorem toHidC {P:Prop} (h:P):Hid P:=h
theorem lt_of_cellA {w:World} {a:Addr} {v:Value} (h:w.cell? a=some v):a.block < w.heap.size:=by
 by_cases hb:a.block < w.heap.size
 ·exact hb
 ·exfalso
  have hn:w.heap[a.block]?=none:=by simp; omega
  simp [World.cell?,hn] at h
theorem own_new0 {W:World} {B base:Nat} {e:TypeId} (h:W.heap[B]?=some (.cells #[] e (0,0))) (hb:base≤B) (size:Nat):W.ownsRow base e size (.slice (some ⟨B,0,none⟩) 0 0) 0 [] :=
 ⟨by simp,.inr ⟨B,0,#[],rfl,hb,h,Nat.le_refl _,Nat.zero_le _,by simp,by simp⟩⟩
theorem rows_idx {α:Type} (f:α→List Value) (c:Nat) (hf:∀ a,(f a).length=c):∀ (l:List α) (i r:Nat),r < c→(l.flatMap f)[i * c+r]?=l[i]?.bind fun a=>(f a)[r]?
 | [],i,r,hr=>by simp
 | a :: l,0,r,hr=>by
  simp only [List.flatMap_cons,Nat.zero_mul,Nat.zero_add]
  rw [List.getElem?_append_left (by rw [hf]; exact hr)]
  rfl
 | a :: l,i+1,r,hr=>by
  simp only [List.flatMap_cons]
  have h1:(i+1) * c+r=c+(i * c+r):=by rw [Nat.succ_mul]; omega
  rw [List.getElem?_append_right (by rw [hf,h1]; omega),hf,h1,Nat.add_sub_cancel_left,rows_idx f c hf l i r hr]
  rfl
theorem rows_len {α:Type} (f:α→List Value) (c:Nat) (hf:∀ a,(f a).length=c) (l:List α):(l.flatMap f).length=l.length * c:=by
 induction l with
 | nil=>simp
 | cons a l ih=>rw [List.flatMap_cons,List.length_append,ih,hf,List.length_cons,Nat.succ_mul]; omega
theorem addr_add (b o j:Nat):(⟨b,o,none⟩:Addr).add j=⟨b,o+j,none⟩:=by unfold Addr.add; split <;> simp_all
theorem src_of {α:Type} {w:World} {a:Option Addr} {l:List α} (f:α→List Value) (c:Nat) (hc:0 < c) (hf:∀ x,(f x).length=c) (h:∀ i t,l[i]?=some t→∃ b off,a=some ⟨b,off,none⟩∧∀ r v,(f t)[r]?=some v→w.cell? ⟨b,off+i * c+r,none⟩=some v) :
  l.length=0 ∨ ∃ ad,a=some ad∧∀ j u,(l.flatMap f)[j]?=some u→w.cell? (ad.add j)=some u:=by
 cases l with
 | nil=>exact .inl rfl
 | cons t l =>
  obtain ⟨b,off,rfl,_⟩:=h 0 t rfl
  refine .inr ⟨_,rfl,fun j u hu=>?_⟩
  have hj:j=(j / c) * c+j % c:=by rw [Nat.mul_comm]; exact (Nat.div_add_mod j c).symm
  have hr:j % c < c:=Nat.mod_lt _ hc
  rw [hj,rows_idx f c hf _ _ _ hr] at hu
  cases hx:(t :: l)[j / c]? with
  | none=>rw [hx] at hu; cases hu
  | some y =>
   rw [hx] at hu
   obtain ⟨b',off',e,hh⟩:=h _ y hx
   cases e
   rw [addr_add]
   have:=hh _ u hu
   rw [show off+j=off+j / c * c+j % c by omega]
   exact this
theorem triRow_len (t:Tri):(triRow t).length=3:=rfl
theorem fldRow_len (t:Fld):(fldRow t).length=3:=rfl
theorem tris_src {w:World} {a:Option Addr} {n c:Nat} {l:List Tri} (h:TrisAt w (.slice a n c) l):l.length=0 ∨ ∃ ad,a=some ad∧∀ j u,(triRows l)[j]?=some u→w.cell? (ad.add j)=some u:=by
 obtain ⟨a',cap,e,_,_,h⟩:=h
 cases e
 refine src_of triRow 3 (by omega) triRow_len (fun i t ht=>?_)
 obtain ⟨b,off,e,h0,h1,h2⟩:=h i t ht
 refine ⟨b,off,e,fun r v hv=>?_⟩
 match r,hv with
 | 0,hv=>cases hv; exact h0
 | 1,hv=>cases hv; exact h1
 | 2,hv=>cases hv; exact h2
 | r+3,hv=>simp [triRow] at hv
theorem flds_src {w:World} {a:Option Addr} {n c:Nat} {l:List Fld} (h:FldsAt w (.slice a n c) l):l.length=0 ∨ ∃ ad,a=some ad∧∀ j u,(fldRows l)[j]?=some u→w.cell? (ad.add j)=some u:=by
 obtain ⟨a',cap,e,_,_,h⟩:=h
 cases e
 refine src_of fldRow 3 (by omega) fldRow_len (fun i t ht=>?_)
 obtain ⟨b,off,e,h0,h1,h2⟩:=h i t ht
 refine ⟨b,off,e,fun r v hv=>?_⟩
 match r,hv with
 | 0,hv=>cases hv; exact h0
 | 1,hv=>cases hv; exact h1
 | 2,hv=>cases hv; exact h2
 | r+3,hv=>simp [fldRow] at hv
theorem src_keep {w w':World} {a:Option Addr} {n:Nat} {xs:List Value} (h:n=0 ∨ ∃ ad,a=some ad∧∀ j u,xs[j]?=some u→w.cell? (ad.add j)=some u) (hb:Below w.heap.size w w'):n=0 ∨ ∃ ad,a=some ad∧∀ j u,xs[j]?=some u→w'.cell? (ad.add j)=some u:=by
 rcases h with h | ⟨ad,h1,h2⟩
 ·exact .inl h
 ·refine .inr ⟨ad,h1,fun j u hu=>?_⟩
  have hc:=h2 j u hu
  exact (hb.cell (lt_of_cellA hc)).trans hc
theorem tri_one {l:List Tri}:∀ u ∈ triRows l,u.oneCell'=true:=fun u hu=>by
 obtain ⟨t,_,ht⟩:=List.mem_flatMap.1 hu
 simp only [triRow,List.mem_cons,List.not_mem_nil,or_false] at ht
 rcases ht with rfl | rfl | rfl <;> rfl
theorem fld_one {l:List Fld}:∀ u ∈ fldRows l,u.oneCell'=true:=fun u hu=>by
 obtain ⟨t,_,ht⟩:=List.mem_flatMap.1 hu
 simp only [fldRow,List.mem_cons,List.not_mem_nil,or_false] at ht
 rcases ht with rfl | rfl | rfl <;> rfl
theorem triRows_len (l:List Tri):(triRows l).length=l.length * 3:=rows_len triRow 3 triRow_len l
theorem fldRows_len (l:List Fld):(fldRows l).length=l.length * 3:=rows_len fldRow 3 fldRow_len l
theorem PairsNew.pushF {w3 w5:World} {B:Nat} {o o' fv:Value} {l:List EntV} {e:Ent} {ob:Obj} (h:PairsNew w3 B o l) (hf:w3.ownsRow B 94 3 fv e.fs.length (fldRows e.fs)) (hnew:∀ k,fv.ownBlock=some k→∀ p ∈ l,p.2.ownBlock ≠ some k) (hown:w5.ownsRow B 52 2 o' (l.length+1) (pairRows l ++ [.string e.name,fv])) (hg:(w3.alloc ob).grownBy w5 o.ownBlock):PairsNew w5 B o' (l ++ [(e,fv)]):=by
 have hb1:Below w3.heap.size w3 (w3.alloc ob):=(Below.refl _ _).alloc (Nat.le_refl _) ob
 refine ⟨?_,fun p hp=>?_,?_⟩
 ·rw [pairRows_snoc,List.length_append]; exact hown
 ·rcases List.mem_append.1 hp with hp | hp
  ·exact ownsRow_farF (ownsRow_keep (h.flds p hp) hb1) hg (own_apart h.row (h.flds p hp) (by decide))
  ·simp at hp; subst hp
   exact ownsRow_farF (ownsRow_keep hf hb1) hg (own_apart h.row hf (by decide))
 ·rw [List.pairwise_append]
  exact ⟨h.apart,by simp,fun p hp q hq k hk=>by simp at hq; subst hq; exact fun hk'=>hnew k hk' p hp hk⟩
theorem BookNew.box {lo X:Nat} {w w':World} {C:Array Value} {x y z:Value} {ks ps:List Tri} {es:List Ent} (h:BookNew lo w x y z ks ps es) (hX:w.heap[X]?=some (.cells C 29 (0,0))) (hg:w.grownBy w' (some X)):BookNew lo w' x y z ks ps es:=by
 obtain ⟨h1,h2,l,h3,h4⟩:=h
 refine ⟨ownsRow_farF h1 hg (fun k hk e=>own_other h1 hX (by decide) (by rw [← e]; exact hk.symm)),ownsRow_farF h2 hg (fun k hk e=>own_other h2 hX (by decide) (by rw [← e]; exact hk.symm)),l,h3,?_,fun p hp=>?_,h4.apart⟩
 ·exact ownsRow_farF h4.row hg (fun k hk e=>own_other h4.row hX (by decide) (by rw [← e]; exact hk.symm))
 ·exact ownsRow_farF (h4.flds p hp) hg (fun k hk e=>own_other (h4.flds p hp) hX (by decide) (by rw [← e]; exact hk.symm))
theorem ownsRow_sameM {W W':World} {base:Nat} {e:TypeId} {size:Nat} {v:Value} {n:Nat} {xs:List Value} (h:W.ownsRow base e size v n xs) (hs:∀ k,v.ownBlock=some k→k < W.heap.size→W'.heap[k]?=W.heap[k]?):W'.ownsRow base e size v n xs:=by
 refine ⟨h.1,?_⟩
 rcases h.2 with h2 | ⟨g,cap,cur,hv,hb,hc,rest⟩
 ·exact .inl h2
 ·exact .inr ⟨g,cap,cur,hv,hb,(hs g (by rw [hv]; rfl) (Array.getElem?_eq_some_iff.1 hc).1).trans hc,rest⟩
open Go.RowKit
theorem fat_succ (g:Fld) (l:List Fld) (i:Nat):fat (g :: l) (i+1)=fat l i:=by simp [fat]
theorem putF_hit:∀ (fs:List Fld) (f:Fld) (j:Nat),j < fs.length→(∀ i,i < j→(fat fs i).what < f.what)→(fat fs j).what=f.what→putF fs f=bif latF f (fat fs j) then fs.set j f else fs
 | [],f,j,hj,_,_=>by simp at hj
 | g :: l,f,0,hj,hl,he=>by
  have e0:fat (g :: l) 0=g:=rfl
  rw [e0] at he ⊢
  rw [putF,if_neg (by omega),if_pos he]
  cases latF f g <;> rfl
 | g :: l,f,j+1,hj,hl,he=>by
  have h0:=hl 0 (by omega)
  have e0:fat (g :: l) 0=g:=rfl
  rw [e0] at h0
  rw [fat_succ] at he ⊢
  rw [putF,if_pos h0,putF_hit l f j (by simpa using hj) (fun i hi=>by have:=hl (i+1) (by omega); rwa [fat_succ] at this) he]
  cases latF f (fat l j) <;> rfl
theorem putF_in:∀ (fs:List Fld) (f:Fld) (j:Nat),j≤fs.length→(∀ i,i < j→(fat fs i).what < f.what)→(j < fs.length→f.what < (fat fs j).what)→putF fs f=fs.take j ++ f :: fs.drop j
 | [],f,j,hj,_,_=>by
  have:j=0:=by simpa using hj
  subst this; rfl
 | g :: l,f,0,hj,hl,he=>by
  have h0:=he (by simp)
  have e0:fat (g :: l) 0=g:=rfl
  rw [e0] at h0
  rw [putF,if_neg (by omega),if_neg (by omega)]
  rfl
 | g :: l,f,j+1,hj,hl,he=>by
  have h0:=hl 0 (by omega)
  have e0:fat (g :: l) 0=g:=rfl
  rw [e0] at h0
  rw [putF,if_pos h0,putF_in l f j (by simpa using hj) (fun i hi=>by have:=hl (i+1) (by omega); rwa [fat_succ] at this) (fun hlt=>by have:=he (by simpa using hlt); rwa [fat_succ] at this)]
  rfl
theorem putF_len (fs:List Fld) (f:Fld):(putF fs f).length≤fs.length+1:=by
 induction fs with
 | nil=>simp [putF]
 | cons g l ih =>
  rw [putF]
  split
  ·simp; omega
  ·split
   ·split <;> simp
   ·simp
theorem fldRows_app (a b:List Fld):fldRows (a ++ b)=fldRows a ++ fldRows b:=by simp [fldRows]
theorem fldRows_cons (a:Fld) (b:List Fld):fldRows (a :: b)=fldRow a ++ fldRows b:=by simp [fldRows]
theorem fldRows_set:∀ (fs:List Fld) (f:Fld) (j:Nat),j < fs.length→fldRows (fs.set j f)=(((fldRows fs).set (j * 3) (.int .i64 f.what)).set (j * 3+1) (.int .i64 f.num)).set (j * 3+2) (.string f.v)
 | [],f,j,hj=>by simp at hj
 | g :: l,f,0,hj=>by simp [fldRows,fldRow]
 | g :: l,f,j+1,hj=>by
  rw [List.set_cons_succ,fldRows_cons,fldRows_cons,fldRows_set l f j (by simpa using hj)]
  have h3:(j+1) * 3=3+j * 3:=by omega
  have h4:∀ (x:List Value) (p:Nat) (v:Value),(fldRow g ++ x).set (3+p) v=fldRow g ++ x.set p v:=fun x p v=>by
   rw [List.set_append_right _ _ (by simp [fldRow])]
   simp [fldRow]
  rw [h3,h4,Nat.add_assoc,h4,Nat.add_assoc,h4]
theorem own_set1 {w:World} {B:Nat} {e:TypeId} {size g n cap m:Nat} {xs:List Value} (h:w.ownsRow B e size (.slice (some ⟨g,0,none⟩) n cap) m xs) (p:Nat) (v:Value):(w.setCell ⟨g,p,none⟩ v).ownsRow B e size (.slice (some ⟨g,0,none⟩) n cap) m (xs.set p v):=by
 obtain ⟨h1,h2⟩:=h
 rcases h2 with ⟨h2,_⟩ | ⟨g',cap',cur,hv,hB,hb,hn,hc,hs,ht⟩
 ·cases h2
 ·cases hv
  refine ⟨by simpa using h1,.inr ⟨g,cap,cur.setIfInBounds p v,rfl,hB,?_,hn,hc,by simpa using hs,?_⟩⟩
  ·rw [setCell_eq_setRow _ _ _ _ _ _ _ hb]; exact setRow_heap _ _ _ _ _ _ hb
  ·rw [Array.toList_setIfInBounds,List.take_set,ht]
theorem grownF_trans {w w1 w2:World} {r:Option Nat} (h:w.grownBy w1 r) (k:w1.grownBy w2 r):w.grownBy w2 r :=
 ⟨k.1.trans h.1,k.2.trans h.2,k.3.trans h.3,Nat.le_trans h.4 k.4,fun j hj hr=>(k.5 j (Nat.lt_of_lt_of_le hj h.4) hr).trans (h.5 j hj hr)⟩
theorem grownF_below {w w':World} (h:Below w.heap.size w w') (r:Option Nat):w.grownBy w' r:=⟨h.1,h.2,h.3,h.4,fun k hk _=>h.5 k hk⟩
theorem own_fset {w:World} {lo g n cap:Nat} {fs:List Fld} {j:Nat} (f:Fld) (h:w.ownsRow lo 94 3 (.slice (some ⟨g,0,none⟩) n cap) fs.length (fldRows fs)) (hj:j < fs.length) :
  (w.setCells g (j * 3) (fldRow f)).ownsRow lo 94 3 (.slice (some ⟨g,0,none⟩) n cap) (fs.set j f).length (fldRows (fs.set j f))∧w.grownBy (w.setCells g (j * 3) (fldRow f)) (some g):=by
 have e:w.setCells g (j * 3) (fldRow f)=((w.setCell ⟨g,j * 3,none⟩ (.int .i64 f.what)).setCell ⟨g,j * 3+1,none⟩ (.int .i64 f.num)).setCell ⟨g,j * 3+2,none⟩ (.string f.v):=rfl
 rw [e]
 refine ⟨?_,grownF_trans (grownF_trans (grown_setF _ _ _ _) (grown_setF _ _ _ _)) (grown_setF _ _ _ _)⟩
 rw [fldRows_set fs f j hj,List.length_set]
 exact own_set1 (own_set1 (own_set1 h _ _) _ _) _ _
theorem own_fcells {w:World} {lo:Nat} {v:Value} {fs:List Fld} {j:Nat} (h:w.ownsRow lo 94 3 v fs.length (fldRows fs)) (hj:j < fs.length) :
  ∃ g cap,v=.slice (some ⟨g,0,none⟩) fs.length cap∧lo≤g∧g < w.heap.size∧fs.length≤cap∧cap≤maxLen∧w.cell? ⟨g,j * 3,none⟩=some (.int .i64 (fat fs j).what)∧w.cell? ⟨g,j * 3+1,none⟩=some (.int .i64 (fat fs j).num)∧w.cell? ⟨g,j * 3+2,none⟩=some (.string (fat fs j).v)∧w.there g (j * 3) 3:=by
 obtain ⟨h1,h2⟩:=h
 rcases h2 with ⟨_,h2⟩ | ⟨g,cap,cur,rfl,hB,hb,hn,hc,hs,ht⟩
 ·omega
 ·have hx:∀ r,r < 3→cur.toList[j * 3+r]?=(fldRow (fat fs j))[r]?:=fun r hr=>by
   have e1:(cur.toList.take (fs.length * 3))[j * 3+r]?=cur.toList[j * 3+r]?:=by rw [List.getElem?_take,if_pos (by omega)]
   rw [← e1,ht]
   unfold fldRows
   rw [rows_idx fldRow 3 fldRow_len fs j r hr,fat_get hj]
   rfl
  have x0:=hx 0 (by omega)
  have x1:=hx 1 (by omega)
  have x2:=hx 2 (by omega)
  simp only [Nat.add_zero] at x0
  refine ⟨g,cap,rfl,hB,(Array.getElem?_eq_some_iff.1 hb).1,hn,hc,?_,?_,?_,fun q hq=>?_⟩
  ·simp only [World.cell?,hb,Option.isSome_none,Bool.false_eq_true,if_false]; simpa [fldRow] using x0
  ·simp only [World.cell?,hb,Option.isSome_none,Bool.false_eq_true,if_false]; simpa [fldRow] using x1
  ·simp only [World.cell?,hb,Option.isSome_none,Bool.false_eq_true,if_false]; simpa [fldRow] using x2
  ·have hq':j * 3+q < cur.size:=by rw [hs]; omega
   simp [World.cell?,World.frozen?,hb,hq']
open Go.RowKit
theorem own_rows {α:Type} {w:World} {B:Nat} {e:TypeId} {c:Nat} {v:Value} {l:List α} (f:α→List Value) (hf:∀ x,(f x).length=c) (h:w.ownsRow B e c v l.length (l.flatMap f)) :
  ∃ a cap,v=.slice a l.length cap∧l.length≤cap∧cap≤maxLen∧∀ i t,l[i]?=some t→∃ g,a=some ⟨g,0,none⟩∧∀ r u,(f t)[r]?=some u→w.cell? ⟨g,i * c+r,none⟩=some u:=by
 obtain ⟨h1,h2⟩:=h
 rcases h2 with ⟨rfl,h0⟩ | ⟨g,cap,cur,rfl,hB,hb,hn,hc,hs,ht⟩
 ·refine ⟨none,0,by rw [h0],by omega,Nat.zero_le _,fun i t hi=>?_⟩
  have:=(List.getElem?_eq_some_iff.1 hi).1
  omega
 ·refine ⟨_,cap,rfl,hn,hc,fun i t hi=>⟨g,rfl,fun r u hu=>?_⟩⟩
  have hil:=(List.getElem?_eq_some_iff.1 hi).1
  have hr:r < c:=by have:=(List.getElem?_eq_some_iff.1 hu).1; rw [hf] at this; exact this
  have hx:cur.toList[i * c+r]?=some u:=by
   have hlt:i * c+r < l.length * c:=rows_room hil hr
   have e1:(cur.toList.take (l.length * c))[i * c+r]?=cur.toList[i * c+r]?:=by rw [List.getElem?_take,if_pos hlt]
   rw [← e1,ht,rows_idx f c hf l i r hr,hi]
   exact hu
  simp only [World.cell?,hb,Option.isSome_none,Bool.false_eq_true,if_false]
  simpa using hx
theorem tris_new {w:World} {B:Nat} {e:TypeId} {v:Value} {l:List Tri} (h:w.ownsRow B e 3 v l.length (triRows l)):TrisAt w v l:=by
 obtain ⟨a,cap,h1,h2,h3,h4⟩:=own_rows triRow triRow_len h
 refine ⟨a,cap,h1,h2,h3,fun i t ht=>?_⟩
 obtain ⟨g,ha,hc⟩:=h4 i t ht
 exact ⟨g,0,ha,by simpa using hc 0 _ rfl,by simpa using hc 1 _ rfl,by simpa using hc 2 _ rfl⟩
theorem flds_new {w:World} {B:Nat} {e:TypeId} {v:Value} {l:List Fld} (h:w.ownsRow B e 3 v l.length (fldRows l)):FldsAt w v l:=by
 obtain ⟨a,cap,h1,h2,h3,h4⟩:=own_rows fldRow fldRow_len h
 refine ⟨a,cap,h1,h2,h3,fun i t ht=>?_⟩
 obtain ⟨g,ha,hc⟩:=h4 i t ht
 exact ⟨g,0,ha,by simpa using hc 0 _ rfl,by simpa using hc 1 _ rfl,by simpa using hc 2 _ rfl⟩
theorem pairRow_len (p:EntV):(pairRow p).length=2:=rfl
theorem ents_new {w:World} {B:Nat} {o:Value} {es:List Ent} (h:EntsNew w B o es):EntsAt w o es:=by
 obtain ⟨l,rfl,h⟩:=h
 obtain ⟨a,cap,h1,h2,h3,h4⟩:=own_rows pairRow pairRow_len h.row
 refine ⟨a,cap,by rw [List.length_map]; exact h1,by rw [List.length_map]; exact h2,h3,fun i t ht=>?_⟩
 rw [List.getElem?_map] at ht
 cases hp:l[i]? with
 | none=>rw [hp] at ht; cases ht
 | some p =>
  rw [hp] at ht
  cases ht
  obtain ⟨g,ha,hc⟩:=h4 i p hp
  exact ⟨g,0,ha,p.2,by simpa using hc 0 _ rfl,by simpa using hc 1 _ rfl,flds_new (h.flds p (List.mem_of_getElem? hp))⟩
theorem BookNew.at {lo:Nat} {w:World} {x y z:Value} {ks ps:List Tri} {es:List Ent} (h:BookNew lo w x y z ks ps es):BookAt w x y z ks ps es:=⟨tris_new h.k,tris_new h.p,ents_new h.e⟩
theorem eat_succ (g:Ent) (l:List Ent) (i:Nat):eat (g :: l) (i+1)=eat l i:=by simp [eat]
theorem putE_hit:∀ (es:List Ent) (n:ByteArray) (f:Fld) (k:Nat),(es.Pairwise fun a b=>blS a.name b.name=true)→k < es.length→(eat es k).name=n→putE es n f=es.set k ⟨(eat es k).name,putF (eat es k).fs f⟩
 | [],n,f,k,_,hk,_=>by simp at hk
 | e :: es,n,f,0,_,_,hn=>by
  have e0:eat (e :: es) 0=e:=rfl
  rw [e0] at hn ⊢
  rw [putE,if_pos hn]
  rfl
 | e :: es,n,f,k+1,h,hk,hn=>by
  have h':=List.pairwise_cons.1 h
  rw [eat_succ] at hn ⊢
  have hk':k < es.length:=by simpa using hk
  have hlt:blS e.name n=true:=by
   rw [← hn]
   exact h'.1 _ (List.mem_of_getElem? (eat_get hk'))
  have hne:¬ e.name=n:=fun h=>by rw [h] at hlt; exact absurd hlt (by rw [blS_irrefl]; simp)
  rw [putE,if_neg hne,if_pos hlt,putE_hit es n f k h'.2 hk' hn]
  rfl
theorem putE_in:∀ (es:List Ent) (n:ByteArray) (f:Fld) (j:Nat),j≤es.length→(∀ e ∈ es,¬ e.name=n)→(∀ i,i < j→blS (eat es i).name n=true)→(j < es.length→blS (eat es j).name n=false)→putE es n f=es.take j ++ ⟨n,[f]⟩ :: es.drop j
 | [],n,f,j,hj,_,_,_=>by
  have:j=0:=by simpa using hj
  subst this; rfl
 | e :: es,n,f,0,hj,hne,hl,he=>by
  have h0:=he (by simp)
  have e0:eat (e :: es) 0=e:=rfl
  rw [e0] at h0
  rw [putE,if_neg (hne e (by simp)),if_neg (by rw [h0]; simp)]
  rfl
 | e :: es,n,f,j+1,hj,hne,hl,he=>by
  have h0:=hl 0 (by omega)
  have e0:eat (e :: es) 0=e:=rfl
  rw [e0] at h0
  rw [putE,if_neg (hne e (by simp)),if_pos h0,putE_in es n f j (by simpa using hj) (fun x hx=>hne x (by simp [hx])) (fun i hi=>by have:=hl (i+1) (by omega); rwa [eat_succ] at this) (fun hlt=>by have:=he (by simpa using hlt); rwa [eat_succ] at this)]
  rfl
theorem pairRows_set:∀ (l:List EntV) (k:Nat) (p:EntV) (e:Ent) (v:Value),l[k]?=some p→e.name=p.1.name→pairRows (l.set k (e,v))=(pairRows l).set (k * 2+1) v
 | [],k,p,e,v,hk,_=>by simp at hk
 | a :: l,0,p,e,v,hk,hn=>by
  have:a=p:=by simpa using hk
  subst this
  simp [pairRows,pairRow,hn]
 | a :: l,k+1,p,e,v,hk,hn=>by
  have ih:=pairRows_set l k p e v (by simpa using hk) hn
  have c:∀ (x:EntV) (m:List EntV),pairRows (x :: m)=pairRow x ++ pairRows m:=fun x m=>by simp [pairRows]
  rw [List.set_cons_succ,c,c,ih,show (k+1) * 2+1=2+(k * 2+1) by omega,List.set_append_right _ _ (by simp [pairRow])]
  simp [pairRow]
theorem PairsNew.turn {w w1:World} {B g n cap k:Nat} {l:List EntV} {e:Ent} {fv v:Value} {fs:List Fld} (h:PairsNew w B (.slice (some ⟨g,0,none⟩) n cap) l) (hk:l[k]?=some (e,fv)) (hown:w1.ownsRow B 94 3 v fs.length (fldRows fs)) (hg:w.grownBy w1 fv.ownBlock) (hat:∀ j,v.ownBlock=some j→fv.ownBlock=some j ∨ w.heap.size≤j) :
  PairsNew (w1.setCell ⟨g,k * 2+1,none⟩ v) B (.slice (some ⟨g,0,none⟩) n cap) (l.set k (⟨e.name,fs⟩,v)):=by
 have hkl:=(List.getElem?_eq_some_iff.1 hk).1
 have hfl:=h.flds (e,fv) (List.mem_of_getElem? hk)
 have hrow1:w1.ownsRow B 52 2 (.slice (some ⟨g,0,none⟩) n cap) l.length (pairRows l):=ownsRow_farF h.row hg (own_apart hfl h.row (by decide))
 have gs:=grown_setF w1 g (k * 2+1) v
 have hpw:=List.pairwise_iff_getElem.1 h.apart
 have hdiff:∀ (i:Nat) (q:EntV),i ≠ k→l[i]?=some q→∀ b,q.2.ownBlock=some b→fv.ownBlock ≠ some b:=fun i q hik hq b hb hb'=>by
  obtain ⟨hi,rfl⟩:=List.getElem?_eq_some_iff.1 hq
  obtain ⟨hk',hke⟩:=List.getElem?_eq_some_iff.1 hk
  rcases Nat.lt_or_gt_of_ne hik with hlt | hgt
  ·exact hpw i k hi hk' hlt b hb (by rw [hke]; exact hb')
  ·exact hpw k i hk' hi hgt b (by rw [hke]; exact hb') hb
 have hold:∀ (i:Nat) (q:EntV),i ≠ k→l[i]?=some q→w1.ownsRow B 94 3 q.2 q.1.fs.length (fldRows q.1.fs):=fun i q hik hq=>ownsRow_farF (h.flds q (List.mem_of_getElem? hq)) hg (fun b hb e=>hdiff i q hik hq b hb e.symm)
 refine ⟨?_,fun p hp=>?_,?_⟩
 ·rw [pairRows_set l k (e,fv) ⟨e.name,fs⟩ v hk rfl,List.length_set]
  exact own_set1 hrow1 _ _
 ·obtain ⟨i,hi,rfl⟩:=List.getElem_of_mem hp
  rw [List.length_set] at hi
  by_cases e0:i=k
  ·subst e0
   rw [List.getElem_set_self]
   exact ownsRow_farF hown gs (own_apart hrow1 hown (by decide))
  ·have hq:l[i]?=some l[i]:=List.getElem?_eq_getElem hi
   rw [List.getElem_set_ne (Ne.symm e0)]
   have h1:=hold i _ e0 hq
   exact ownsRow_farF h1 gs (own_apart hrow1 h1 (by decide))
 ·rw [List.pairwise_iff_getElem]
  intro i j hi0 hj0 hij b hb hb'
  have hi:i < l.length:=by simpa using hi0
  have hj:j < l.length:=by simpa using hj0
  by_cases ei:i=k
  ·have ej:j ≠ k:=by omega
   subst ei
   rw [List.getElem_set_self] at hb
   rw [List.getElem_set_ne (Ne.symm ej)] at hb'
   have hq:l[j]?=some l[j]:=List.getElem?_eq_getElem hj
   rcases hat b hb with h1 | h1
   ·exact hdiff j _ ej hq b hb' h1
   ·have:=own_lt (h.flds _ (List.mem_of_getElem? hq)) b hb'; omega
  ·rw [List.getElem_set_ne (Ne.symm ei)] at hb
   have hq:l[i]?=some l[i]:=List.getElem?_eq_getElem hi
   by_cases ej:j=k
   ·subst ej
    rw [List.getElem_set_self] at hb'
    rcases hat b hb' with h1 | h1
    ·exact hdiff i _ ei hq b hb h1
    ·have:=own_lt (h.flds _ (List.mem_of_getElem? hq)) b hb; omega
   ·rw [List.getElem_set_ne (Ne.symm ej)] at hb'
    exact hpw i j hi hj hij b hb hb'
theorem PairsNew.ins {w w1:World} {B j:Nat} {o o' fv:Value} {l:List EntV} {e:Ent} (h:PairsNew w B o l) (hb:Below w.heap.size w w1) (hf:w1.ownsRow B 94 3 fv e.fs.length (fldRows e.fs)) (hnew:∀ q,fv.ownBlock=some q→w.heap.size≤q) (hown:w1.ownsRow B 52 2 o' (l.take j ++ (e,fv) :: l.drop j).length (pairRows (l.take j ++ (e,fv) :: l.drop j))) :
  PairsNew w1 B o' (l.take j ++ (e,fv) :: l.drop j):=by
 have hmem:∀ p,p ∈ l.take j ∨ p ∈ l.drop j→p ∈ l:=fun p hp=>by
  rcases hp with hp | hp
  ·exact List.mem_of_mem_take hp
  ·exact List.mem_of_mem_drop hp
 have hfar:∀ p ∈ l,∀ q,p.2.ownBlock=some q→fv.ownBlock ≠ some q:=fun p hp q h1 h2=>by
  have:=own_lt (h.flds p hp) q h1
  have:=hnew q h2
  omega
 have hsp:(l.take j ++ l.drop j).Pairwise fun p q=>∀ k,p.2.ownBlock=some k→q.2.ownBlock ≠ some k:=by rw [List.take_append_drop]; exact h.apart
 have hsp':=List.pairwise_append.1 hsp
 refine ⟨hown,fun p hp=>?_,?_⟩
 ·rw [List.mem_append,List.mem_cons] at hp
  rcases hp with hp | rfl | hp
  ·exact ownsRow_keep (h.flds p (hmem p (.inl hp))) hb
  ·exact hf
  ·exact ownsRow_keep (h.flds p (hmem p (.inr hp))) hb
 ·rw [List.pairwise_append,List.pairwise_cons]
  refine ⟨hsp'.1,⟨fun q hq k hk hk'=>hfar q (hmem q (.inr hq)) k hk' hk,hsp'.2.1⟩,fun p hp q hq=>?_⟩
  rcases List.mem_cons.1 hq with rfl | hq
  ·exact fun k hk=>hfar p (hmem p (.inl hp)) k hk
  ·exact hsp'.2.2 p hp q hq
theorem pairRows_app (a b:List EntV):pairRows (a ++ b)=pairRows a ++ pairRows b:=by simp [pairRows]
theorem pairRows_cons (a:EntV) (b:List EntV):pairRows (a :: b)=pairRow a ++ pairRows b:=by simp [pairRows]
theorem eat_map {l:List EntV} {k:Nat} (hk:k < l.length):∃ fv,l[k]?=some (eat (l.map (·.1)) k,fv):=by
 refine ⟨l[k].2,?_⟩
 rw [List.getElem?_eq_getElem hk]
 simp [eat,hk]
end Go.Proofs.YtbjmgglpiakgdaaGreatDoor
