import Derived.Test.YtolokangldmodaaGreatDoorMap1
import Derived.Test.YtolokangldmodaaGreatDoorNewsS
open Go.Value renaming slice->J
open Go.Obj renaming cells->R
open Option renaming none->I,some->U
namespace Go.Proofs.YtolokangldmodaaGreatDoor
open Go.RowKit
set_option linter.unusedSimpArgs false
set_option linter.unusedVariables false
theorem Td{S:List eH}{c:eH}(hS:ig S)(h:uq S c=false):gZ S c=S:=by
 induction S with
 |nil=>rw[Kb] at h;cases h
 |cons a l ih =>
  have h':=List.pairwise_cons.1 hS;rw[gZ]
  cases ad:gV a c with
  |true=>rw[yw (cN ad)] at h;simp[ih h'.2 h]
  |false =>
   cases heq:fH a c with
   |true=>rw[Kc heq] at h;simp[h]
   |false =>
    have ae:=O4 ad heq
    have ab:uq (a::l) c=true:=yx λx hx=>by
     rw[qy]
     rcases List.mem_cons.1 hx with rfl|hx
     .exact cN ae
     .exact cN (l8 ae (h'.1 x hx))
    rw[ab] at h;cases h
theorem lat_get{S:List eH}{c:eH}(hc:1<=c.num)(n:ByteArray):pE c (eu n (CX S c))=uq S c:=by
 unfold CX uq
 cases S.find? λa=>fH a c with
 |none=>exact TP hc
 |some a=>rfl
theorem aS(w:World)(o:Obj):(w.alloc o).heap[w.heap.size]?=U o:=by show(w.heap.push o)[w.heap.size]?=U o;simp
def xJ(w:World)(v:Value)(Ls:List (List eH)):Prop:=∃a cap,v=J a Ls.length cap/\Ls.length<=cap/\cap<=maxLen/\∀(i:Nat) (L:List eH),Ls[i]?=U L->∃b off u,a=U ⟨b,off,I⟩/\w.cell? ⟨b,off+i,I⟩=U u/\jU w u L
structure jw (w wx:World) (A:Array Value) (n:Nat) (S:List eH):Prop where
 below:Bw w wx
 a:wx.heap[w.heap.size]?=U (R A 38 (0,0))
 r:wx.heap[w.heap.size+1]?=U (R #[J I 0 0,J I 0 0,J I 0 0] 41 (0,0))
 z:w.heap.size+2<wx.heap.size
 m:kS wx (w.heap.size+2) n S
theorem jw.call{w wx wy:World}{A:Array Value}{n:Nat}{S:List eH}(h:jw w wx A n S)(hb:Bw wx wy):jw w wy A n S :=
 ⟨aa h.below hb,(hb.block _ (by have:=h.z;omega)).trans h.a,(hb.block _ (by have:=h.z;omega)).trans h.r,Nat.lt_of_lt_of_le h.z hb.size,h.m.kept (row:=I) ⟨hb.os,hb.tape,hb.output,hb.size,λk hk _=>hb.block k hk⟩ (by simp)⟩
theorem jw.put{w wx wy:World}{A:Array Value}{n n':Nat}{S S':List eH}(h:jw w wx A n S)(hg:wx.grownBy wy (U (w.heap.size+2)))(hm:kS wy (w.heap.size+2) n' S'):jw w wy A n' S':=by
 have hz:=h.z
 exact⟨h.below.grown hg h.below.size (λk e=>by cases e;omega),(hg.block _ (by omega) (by simp)).trans h.a,(hg.block _ (by omega) (by simp)).trans h.r,Nat.lt_of_lt_of_le hz hg.size,hm⟩
theorem jw.start(w:World)(A:Array Value):jw w (((w.alloc (R A 38)).alloc (R #[J I 0 0,J I 0 0,J I 0 0] 41)).alloc (.map #[] 0)) A 0 []:=by
 have s1:(w.alloc (R A 38)).heap.size=w.heap.size+1:=by simp
 have s2:((w.alloc (R A 38)).alloc (R #[J I 0 0,J I 0 0,J I 0 0] 41)).heap.size=w.heap.size+2:=by simp
 have h1:=aS w (R A 38);have h2:=aS (w.alloc (R A 38)) (R #[J I 0 0,J I 0 0,J I 0 0] 41);have h3:=kS.made ((w.alloc (R A 38)).alloc (R #[J I 0 0,J I 0 0,J I 0 0] 41));rw[s1] at h2;rw[s2] at h3
 refine⟨((aG).alloc (by simp) _).alloc (by simp;omega) _,?_,?_,by simp,h3⟩
 .exact (Below.heap_alloc _ _ _ (by omega)).trans ((Below.heap_alloc _ _ _ (by omega)).trans h1)
 .exact (Below.heap_alloc _ _ _ (by omega)).trans h2
end Go.Proofs.YtolokangldmodaaGreatDoor
