import Derived.Test.YtcmgddnckohdaaaGreatDoorMap1
import Derived.Test.YtcmgddnckohdaaaGreatDoorNewsS
namespace Go.Proofs.YtcmgddnckohdaaaGreatDoor
open Go.RowKit
set_option linter.unusedSimpArgs false
set_option linter.unusedVariables false
theorem K4 {S:List dP} {c:dP} (hS:gF S) (h:pX S c=false):gp S c=S:=by
 induction S with
 | nil=>rw [Ea] at h;cases h
 | cons a l ih =>
  have h':=List.pairwise_cons.1 hS;rw [gp]
  cases hlt:gz a c with
  | true=>rw [uA (cr hlt)] at h;simp [ih h'.2 h]
  | false =>
   cases heq:eX a c with
   | true=>rw [Eb heq] at h;simp [h]
   | false =>
    have hgt:=Iw hlt heq
    have hpast:pX (a::l) c=true:=uB fun x hx=>by
     rw [nA]
     rcases List.mem_cons.1 hx with rfl | hx
     ·exact cr hgt
     ·exact cr (j3 hgt (h'.1 x hx))
    rw [hpast] at h;cases h
theorem lat_get {S:List dP} {c:dP} (hc:1≤c.num) (n:ByteArray):mM c (dO n (sO S c))=pX S c:=by
 unfold sO pX
 cases S.find? fun a=>eX a c with
 | none=>exact Lp hc
 | some a=>rfl
theorem am (w:World) (o:Obj):(w.alloc o).heap[w.heap.size]?=some o:=by show (w.heap.push o)[w.heap.size]?=some o;simp
def tL (w:World) (v:Value) (Ls:List (List dP)):Prop:=∃ a cap,v=.slice a Ls.length cap∧Ls.length≤cap∧cap≤maxLen∧∀ (i:Nat) (L:List dP),Ls[i]?=some L→∃ b off u,a=some ⟨b,off,none⟩∧w.cell? ⟨b,off+i,none⟩=some u∧iC w u L
structure gD (w wx:World) (A:Array Value) (n:Nat) (S:List dP):Prop where
 below:Below w.heap.size w wx
 a:wx.heap[w.heap.size]?=some (.cells A 27 (0,0))
 r:wx.heap[w.heap.size+1]?=some (.cells #[.slice none 0 0,.slice none 0 0,.slice none 0 0] 30 (0,0))
 z:w.heap.size+2<wx.heap.size
 m:jh wx (w.heap.size+2) n S
theorem gD.call {w wx wy:World} {A:Array Value} {n:Nat} {S:List dP} (h:gD w wx A n S) (hb:Below wx.heap.size wx wy):gD w wy A n S :=
 ⟨aa h.below hb,(hb.block _ (by have:=h.z;omega)).trans h.a,(hb.block _ (by have:=h.z;omega)).trans h.r,Nat.lt_of_lt_of_le h.z hb.size,h.m.kept (row:=none) ⟨hb.os,hb.tape,hb.output,hb.size,fun k hk _=>hb.block k hk⟩ (by simp)⟩
theorem gD.put {w wx wy:World} {A:Array Value} {n n':Nat} {S S':List dP} (h:gD w wx A n S) (hg:wx.grownBy wy (some (w.heap.size+2))) (hm:jh wy (w.heap.size+2) n' S'):gD w wy A n' S':=by
 have hz:=h.z
 exact ⟨h.below.grown hg h.below.size (fun k e=>by cases e;omega),(hg.block _ (by omega) (by simp)).trans h.a,(hg.block _ (by omega) (by simp)).trans h.r,Nat.lt_of_lt_of_le hz hg.size,hm⟩
theorem gD.start (w:World) (A:Array Value):gD w (((w.alloc (.cells A 27)).alloc (.cells #[.slice none 0 0,.slice none 0 0,.slice none 0 0] 30)).alloc (.map #[] 0)) A 0 []:=by
 have s1:(w.alloc (.cells A 27)).heap.size=w.heap.size+1:=by simp
 have s2:((w.alloc (.cells A 27)).alloc (.cells #[.slice none 0 0,.slice none 0 0,.slice none 0 0] 30)).heap.size=w.heap.size+2:=by simp
 have h1:=am w (.cells A 27);have h2:=am (w.alloc (.cells A 27)) (.cells #[.slice none 0 0,.slice none 0 0,.slice none 0 0] 30);have h3:=jh.made ((w.alloc (.cells A 27)).alloc (.cells #[.slice none 0 0,.slice none 0 0,.slice none 0 0] 30));rw [s1] at h2;rw [s2] at h3
 refine ⟨((aM).alloc (by simp) _).alloc (by simp;omega) _,?_,?_,by simp,h3⟩
 ·exact (Below.heap_alloc _ _ _ (by omega)).trans ((Below.heap_alloc _ _ _ (by omega)).trans h1)
 ·exact (Below.heap_alloc _ _ _ (by omega)).trans h2
end Go.Proofs.YtcmgddnckohdaaaGreatDoor
