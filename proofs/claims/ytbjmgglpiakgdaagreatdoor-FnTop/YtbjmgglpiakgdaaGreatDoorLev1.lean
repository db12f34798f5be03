import Derived.Test.YtbjmgglpiakgdaaGreatDoorApp
import Derived.Test.YtbjmgglpiakgdaaGreatDoorLater
import Derived.Test.YtbjmgglpiakgdaaGreatDoorWay0
set_option maxRecDepth 100000
set_option maxHeartbeats 6400000
set_option linter.unusedSimpArgs false
set_option linter.unusedVariables false
namespace Go.Proofs.YtbjmgglpiakgdaaGreatDoor.Lv
open Go.RowKit
theorem toHid {P:Prop} (h:P):Hid P:=h
theorem heap_newF (w:World) (o:Obj):(w.alloc o).heap[w.heap.size]?=some o:=by show (w.heap.push o)[w.heap.size]?=some o;simp
def INew (w:World) (base:Nat) (v:Value) (l:List Int):Prop:=w.ownsRow base 3 1 v l.length (l.map (Value.int .i64))
def IAt (w:World) (v:Value) (l:List Int):Prop:=∃ a cap,v=.slice a l.length cap∧l.length≤cap∧cap≤maxLen∧∀ i t,l[i]?=some t→∃ g,a=some ⟨g,0,none⟩∧w.cell? ⟨g,i,none⟩=some (.int .i64 t)
theorem infoInt:(Tryz.prog.info? 3).map (fun i=>(i.zero,i.size,i.bytes))=some (some (.int .i64 0),1,8):=by kernel_rfl
theorem own_ge {w:World} {base:Nat} {e:TypeId} {size:Nat} {v:Value} {n:Nat} {xs:List Value} (h:w.ownsRow base e size v n xs):∀ k,v.ownBlock=some k→base≤k:=by
 intro k hk
 rcases h.2 with ⟨rfl,_⟩ | ⟨g,cap,cur,rfl,hg,_⟩
 ·cases hk
 ·cases hk;exact hg
theorem own_lt {w:World} {base:Nat} {e:TypeId} {size:Nat} {v:Value} {n:Nat} {xs:List Value} (h:w.ownsRow base e size v n xs):∀ k,v.ownBlock=some k→k<w.heap.size:=by
 intro k hk
 rcases h.2 with ⟨rfl,_⟩ | ⟨g,cap,cur,rfl,hg,hc,_⟩
 ·cases hk
 ·cases hk;exact (Array.getElem?_eq_some_iff.1 hc).1
theorem own_slice {w:World} {base:Nat} {e:TypeId} {size:Nat} {v:Value} {n:Nat} {xs:List Value} (h:w.ownsRow base e size v n xs):∃ a c,v=.slice a n c:=by
 rcases h.2 with ⟨rfl,h0⟩ | ⟨g,cap,cur,rfl,_⟩
 ·exact ⟨none,0,by rw [h0]⟩
 ·exact ⟨_,cap,rfl⟩
theorem own_keep {w w':World} {base:Nat} {e:TypeId} {size:Nat} {v:Value} {n:Nat} {xs:List Value} (h:w.ownsRow base e size v n xs) (hb:Below w.heap.size w w'):w'.ownsRow base e size v n xs:=by
 obtain ⟨h1,h2⟩:=h;refine ⟨h1,?_⟩
 rcases h2 with h2 | ⟨g,cap,cur,hv,hg,hh,rest⟩
 ·exact .inl h2
 ·exact .inr ⟨g,cap,cur,hv,hg,(hb.block g (Array.getElem?_eq_some_iff.1 hh).1).trans hh,rest⟩
theorem own_far {W W':World} {row:Option Nat} {base:Nat} {e:TypeId} {size:Nat} {v:Value} {n:Nat} {xs:List Value} (h:W.ownsRow base e size v n xs) (hg:W.grownBy W' row) (hr:∀ k,v.ownBlock=some k→some k≠row):W'.ownsRow base e size v n xs:=by
 refine ⟨h.1,?_⟩
 rcases h.2 with h2 | ⟨g,cap,cur,hv,hb,hc,rest⟩
 ·exact .inl h2
 ·refine .inr ⟨g,cap,cur,hv,hb,?_,rest⟩
  exact (hg.block g (Array.getElem?_eq_some_iff.1 hc).1 (hr g (by rw [hv];rfl))).trans hc
theorem INew.keep {w w':World} {B:Nat} {v:Value} {l:List Int} (h:INew w B v l) (hb:Below w.heap.size w w'):INew w' B v l:=own_keep h hb
theorem INew.at {w:World} {B:Nat} {v:Value} {l:List Int} (h:INew w B v l):IAt w v l:=by
 obtain ⟨h1,h2⟩:=h
 rcases h2 with ⟨rfl,h0⟩ | ⟨g,cap,cur,rfl,hB,hb,hn,hc,hs,ht⟩
 ·refine ⟨none,0,by rw [h0],by omega,Nat.zero_le _,fun i t hi=>?_⟩
  have:=(List.getElem?_eq_some_iff.1 hi).1
  omega
 ·refine ⟨_,cap,rfl,hn,hc,fun i t hi=>⟨g,rfl,?_⟩⟩
  have hil:=(List.getElem?_eq_some_iff.1 hi).1
  have hx:cur.toList[i]?=some (.int .i64 t):=by
   have e1:(cur.toList.take (l.length*1))[i]?=cur.toList[i]?:=by rw [List.getElem?_take,if_pos (by omega)]
   rw [← e1,ht,List.getElem?_map,hi]
   rfl
  simp only [World.cell?,hb,Option.isSome_none,Bool.false_eq_true,if_false]
  simpa using hx
theorem INew.snoc {w:World} {B:Nat} {v:Value} {l:List Int} {x:Int} (h:w.ownsRow B 3 1 v (l.length+1) (l.map (Value.int .i64)++[.int .i64 x])):INew w B v (l++[x]):=by
 unfold INew;rw [List.length_append,List.map_append];exact h
open Go.RowKit
theorem levels_none {n l:Int} (h:¬ (1≤n∧n≤40∧1≤l∧l≤6)):levelsL n l=[]:=by
 unfold levelsL;rw [decide_eq_false h];rfl
def lvl (N:Nat) (l:Int) (k:Nat):Int:=minI l (minI (k:Int) ((N:Int)-1-(k:Int)))
theorem levels_some {N:Nat} {l:Int} (h:1≤(N:Int)∧(N:Int)≤40∧1≤l∧l≤6):levelsL N l=(List.range N).map (lvl N l):=by
 unfold levelsL;rw [decide_eq_true h];rfl
def lvls (N:Nat) (l:Int) (k:Nat):List Int:=(List.range k).map (lvl N l)
theorem lvls_len (N:Nat) (l:Int) (k:Nat):(lvls N l k).length=k:=by simp [lvls]
theorem lvls_succ (N:Nat) (l:Int) (k:Nat):lvls N l (k+1)=lvls N l k++[lvl N l k]:=by
 unfold lvls;rw [List.range_succ,List.map_append];rfl
theorem grown_below {w w1 w2:World} {r:Option Nat} (h:Below w.heap.size w w1) (hg:w1.grownBy w2 r) (hr:∀ k,r=some k→w.heap.size≤k):Below w.heap.size w w2:=h.grown hg h.size hr
theorem planLevels_any (n l:Int) (w:World) :
  Calls Tryz.prog 97 #[.int .i64 n,.int .i64 l] w fun e w'=>∃ v,e=.returned v∧INew w' w.heap.size v (levelsL n l)∧Below w.heap.size w w':=by
 obtain ⟨i0,hi0,hz0,hz1,hz2⟩:=info_parts infoInt
 by_cases hall:1≤n∧n≤40∧1≤l∧l≤6
 ·obtain ⟨N,rfl⟩:∃ N:Nat,n=N:=⟨n.toNat,by omega⟩
  have HE:Hid (levelsL N l=lvls N l N):=levels_some hall;obtain ⟨h1,h2,h3,h4⟩:=hall
  go_enter Tryz.func97,Tryz.ntmps97
  go_wp2
  go_loopw [5,6,22] (fun v _ i wr=>∃ k:Nat,k≤N∧i=.int .i64 k∧(∃ a c,v=.slice a k c)∧Hid (INew wr w.heap.size v (lvls N l k)∧Below w.heap.size w wr)) (fun _ _ i _=>N-(intOf i).toNat)
  case atStart=>exact ⟨0,Nat.zero_le _,rfl,⟨_,_,rfl⟩,⟨rfl,.inl ⟨rfl,rfl⟩⟩,Below.refl _ _⟩
  case round =>
   obtain ⟨k,hk,rfl,⟨a,c,rfl⟩,HI⟩:=hrel
   by_cases hlt:k<N
   ·have hid:=HI.out.1
    unfold INew at hid;rw [lvls_len] at hid;have hsz:=HI.out.2.size
    rcases (show ((k:Int)<l∧(N:Int)-1-(k:Int)<(k:Int))∨((k:Int)<l∧¬ (N:Int)-1-(k:Int)<(k:Int))∨(¬ (k:Int)<l∧(N:Int)-1-(k:Int)<l)∨(¬ (k:Int)<l∧¬ (N:Int)-1-(k:Int)<l) by omega) with ⟨c1,c2⟩ | ⟨c1,c2⟩ | ⟨c1,c2⟩ | ⟨c1,c2⟩
    focus
     have HX:Hid (lvl N l k=(N:Int)-1-(k:Int)):=by show _=_;unfold lvl minI;split <;> (try split) <;> omega
     go_wp2_with (at_builtin;(refine wpList_append_any _ rfl _ _ 33 rfl w.heap.size 3 i0 _ 1 8 Tryz.underlying33 hi0 hz0 hz1 hz2 rfl (by decide) _ k _ rfl (own_keep hid (bal)) _ 1 1 [.int .i64 ((N:Int)-1-(k:Int))] rfl (.inr ⟨_,rfl,World.news_of_block (heap_newF wr (.cells #[.int .i64 ((N:Int)-1-(k:Int))] 3))⟩) rfl (fun u hu=>by simp at hu;subst hu;rfl) (by unfold maxLen;omega) (by omega) (by simp;omega) ?_);intro vq wx hown hgrow hat)
    rotate_left
    focus
     have HX:Hid (lvl N l k=(k:Int)):=by show _=_;unfold lvl minI;split <;> (try split) <;> omega
     go_wp2_with (at_builtin;(refine wpList_append_any _ rfl _ _ 33 rfl w.heap.size 3 i0 _ 1 8 Tryz.underlying33 hi0 hz0 hz1 hz2 rfl (by decide) _ k _ rfl (own_keep hid (bal)) _ 1 1 [.int .i64 ((k:Int))] rfl (.inr ⟨_,rfl,World.news_of_block (heap_newF wr (.cells #[.int .i64 ((k:Int))] 3))⟩) rfl (fun u hu=>by simp at hu;subst hu;rfl) (by unfold maxLen;omega) (by omega) (by simp;omega) ?_);intro vq wx hown hgrow hat)
    rotate_left
    focus
     have HX:Hid (lvl N l k=(N:Int)-1-(k:Int)):=by show _=_;unfold lvl minI;split <;> (try split) <;> omega
     go_wp2_with (at_builtin;(refine wpList_append_any _ rfl _ _ 33 rfl w.heap.size 3 i0 _ 1 8 Tryz.underlying33 hi0 hz0 hz1 hz2 rfl (by decide) _ k _ rfl (own_keep hid (bal)) _ 1 1 [.int .i64 ((N:Int)-1-(k:Int))] rfl (.inr ⟨_,rfl,World.news_of_block (heap_newF wr (.cells #[.int .i64 ((N:Int)-1-(k:Int))] 3))⟩) rfl (fun u hu=>by simp at hu;subst hu;rfl) (by unfold maxLen;omega) (by omega) (by simp;omega) ?_);intro vq wx hown hgrow hat)
    rotate_left
    focus
     have HX:Hid (lvl N l k=l):=by show _=_;unfold lvl minI;split <;> (try split) <;> omega
     go_wp2_with (at_builtin;(refine wpList_append_any _ rfl _ _ 33 rfl w.heap.size 3 i0 _ 1 8 Tryz.underlying33 hi0 hz0 hz1 hz2 rfl (by decide) _ k _ rfl (own_keep hid (bal)) _ 1 1 [.int .i64 (l)] rfl (.inr ⟨_,rfl,World.news_of_block (heap_newF wr (.cells #[.int .i64 (l)] 3))⟩) rfl (fun u hu=>by simp at hu;subst hu;rfl) (by unfold maxLen;omega) (by omega) (by simp;omega) ?_);intro vq wx hown hgrow hat)
    rotate_left
    all_goals
     have HN:Hid (INew wx w.heap.size vq (lvls N l (k+1))∧Below w.heap.size w wx):=by
      refine ⟨?_,grown_below (HI.out.2.trans ((bal).mono HI.out.2.size)) hgrow (fun q hq=>own_ge hid q hq)⟩;rw [lvls_succ,HX.out]
      exact INew.snoc (by rw [lvls_len];exact hown)
     obtain ⟨qa,qc,rfl⟩:=own_slice hown
     exact ⟨⟨k+1,by omega,by go_num,⟨_,_,rfl⟩,HN⟩,by simp [intOf];omega⟩
   ·have HF:Hid (k=N):=by show k=N;omega
    go_wp2;go_ret
    exact ⟨.slice a k c,rfl,by rw [HE.out];have h:=HI.out.1;rw [show lvls N l k=lvls N l N by rw [HF.out]] at h;exact h,HI.out.2⟩
 ·have HE:Hid (levelsL n l=[]):=levels_none hall
  rcases (show n<1∨(¬ n<1∧40<n)∨(¬ n<1∧¬ 40<n∧l<1)∨(¬ n<1∧¬ 40<n∧¬ l<1∧6<l) by omega) with h1 | ⟨h1,h2⟩ | ⟨h1,h2,h3⟩ | ⟨h1,h2,h3,h4⟩
  focus
   go_enter Tryz.func97,Tryz.ntmps97
  rotate_left
  focus
   go_enter Tryz.func97,Tryz.ntmps97
  rotate_left
  focus
   go_enter Tryz.func97,Tryz.ntmps97
  rotate_left
  focus
   go_enter Tryz.func97,Tryz.ntmps97
  rotate_left
  all_goals
   go_wp2;go_ret
   exact ⟨_,rfl,by rw [HE.out];exact ⟨rfl,.inl ⟨rfl,rfl⟩⟩,Below.refl _ _⟩
end Go.Proofs.YtbjmgglpiakgdaaGreatDoor.Lv
