import Derived.Test.YtbjmgglpiakgdaaGreatDoorDec2

namespace Go.Proofs.YtbjmgglpiakgdaaGreatDoor
open Go.RowKit
structure Chg where
 f:ByteArray
 what:Int
 num:Int
 v:ByteArray
set_option maxHeartbeats 400000 in
theorem numberOk_any (n:Int) (w:World) :
  Calls Tryz.prog 109 #[.int .i64 n] w fun e w' => e = .returned (.bool (inB n 1 1000000)) ∧ w' = w:=by
 by_cases h1:1 ≤ n
 ·by_cases h2:n ≤ 1000000
  ·have e:inB n 1 1000000 = true:=by simp [inB,h1,h2]
   rw [e]; clear e
   go_enter Tryz.func109,Tryz.ntmps109
   go_wp2
   go_ret
   exact ⟨rfl,rfl⟩
  ·have e:inB n 1 1000000 = false:=by simp [inB,h1,h2]
   rw [e]; clear e
   go_enter Tryz.func109,Tryz.ntmps109
   go_wp2
   go_ret
   exact ⟨rfl,rfl⟩
 ·have e:inB n 1 1000000 = false:=by simp [inB,h1]
  rw [e]; clear e
  go_enter Tryz.func109,Tryz.ntmps109
  go_wp2
  go_ret
  exact ⟨rfl,rfl⟩
end Go.Proofs.YtbjmgglpiakgdaaGreatDoor
namespace Go.Proofs.YtbjmgglpiakgdaaGreatDoor
open Go.RowKit
def cutW (s:ByteArray):List ByteArray:=(cutA [] (bytes s)).map fun l => ⟨⟨l⟩⟩
theorem cutW_eq {s:ByteArray} {ws:List ByteArray} (h:ws.map bytes = cutA [] (bytes s)):ws = cutW s:=by
 unfold cutW
 rw [← h,List.map_map]
 have:((fun l => (⟨⟨l⟩⟩:ByteArray)) ∘ bytes) = id:=by funext x; rfl
 rw [this,List.map_id]
theorem get!_eq (s:ByteArray) (k:Nat) (h:k < s.size):s.get! k = s[k]:=get_at s k h
theorem decode_skip (s:ByteArray) (pos:Nat) (h:pos < s.size) (ha:128 ≤ (s[pos]'h).toNat) :
  pos + (Utf8.decode s pos).2 ≤ s.size ∧ ∀ j (hj:j < s.size),pos ≤ j → j < pos + (Utf8.decode s pos).2 → 128 ≤ (s[j]'hj).toNat:=by
 have hn:¬ (s[pos]'h).toNat < 128:=by omega
 have one:∀ j (hj:j < s.size),pos ≤ j → j < pos + 1 → 128 ≤ (s[j]'hj).toNat:=fun j hj h1 h2 => by
  have:j = pos:=by omega
  subst this; exact ha
 have more:∀ k,pos + k < s.size → (s.get! (pos + k)).toNat / 64 = 2 → ∀ (hj:pos + k < s.size),128 ≤ (s[pos + k]'hj).toNat:=fun k hk hq hj => by
  rw [get!_eq s _ hj] at hq; omega
 simp only [Utf8.decode,get_at s pos h,hn,if_false]
 split
 ·next hc =>
  simp only [Bool.and_eq_true,decide_eq_true_eq,beq_iff_eq] at hc
  obtain ⟨_,h1,q1⟩:=hc
  split
  ·refine ⟨by show pos + 2 ≤ _; omega,fun j hj a b => ?_⟩
   have b':j < pos + 2:=b
   by_cases e:j = pos
   ·exact one j hj a (by omega)
   ·obtain rfl:j = pos + 1:=by omega
    exact more 1 h1 q1 hj
  ·exact ⟨by show pos + 1 ≤ _; omega,fun j hj a b => one j hj a b⟩
 ·split
  ·next hc =>
   simp only [Bool.and_eq_true,decide_eq_true_eq,beq_iff_eq] at hc
   obtain ⟨⟨_,h1,q1⟩,h2,q2⟩:=hc
   split
   ·refine ⟨by show pos + 3 ≤ _; omega,fun j hj a b => ?_⟩
    have b':j < pos + 3:=b
    by_cases e:j = pos
    ·exact one j hj a (by omega)
    ·by_cases e2:j = pos + 1
     ·subst e2; exact more 1 h1 q1 hj
     ·obtain rfl:j = pos + 2:=by omega
      exact more 2 h2 q2 hj
   ·exact ⟨by show pos + 1 ≤ _; omega,fun j hj a b => one j hj a b⟩
  ·split
   ·next hc =>
    simp only [Bool.and_eq_true,decide_eq_true_eq,beq_iff_eq] at hc
    obtain ⟨⟨⟨_,h1,q1⟩,h2,q2⟩,h3,q3⟩:=hc
    split
    ·refine ⟨by show pos + 4 ≤ _; omega,fun j hj a b => ?_⟩
     have b':j < pos + 4:=b
     by_cases e:j = pos
     ·exact one j hj a (by omega)
     ·by_cases e2:j = pos + 1
      ·subst e2; exact more 1 h1 q1 hj
      ·by_cases e3:j = pos + 2
       ·subst e3; exact more 2 h2 q2 hj
       ·obtain rfl:j = pos + 3:=by omega
        exact more 3 h3 q3 hj
    ·exact ⟨by show pos + 1 ≤ _; omega,fun j hj a b => one j hj a b⟩
   ·exact ⟨by show pos + 1 ≤ _; omega,fun j hj a b => one j hj a b⟩
theorem CutInv.skip {s:ByteArray} {fr k:Nat} {P:List ByteArray} (h:CutInv s fr k P) (ha:fr ≤ k):∀ n,k + n ≤ s.size → (∀ j (hj:j < s.size),k ≤ j → j < k + n → ¬ s[j] = 32) → CutInv s fr (k + n) P
 | 0,_,_ => h
 | n + 1,hk,hc => (CutInv.skip h ha n (by omega) (fun j hj a b => hc j hj a (by omega))).other (by omega) (by omega:k + n < s.size) (hc _ _ (by omega) (by omega))
theorem not_space {c:UInt8} (h:128 ≤ c.toNat):¬ c = 32:=fun e => by rw [e] at h; simp at h
set_option maxHeartbeats 1600000 in
theorem wordsOf_any (s:ByteArray) (w:World) (hs:s.size ≤ 1048576) :
  Calls Tryz.prog 146 #[.string s] w fun e w' => ∃ v,e = .returned v ∧ StrsAt w' v (cutW s) ∧ Below w.heap.size w w':=by
 obtain ⟨i0,hi,hz0,hz1,hz2⟩:=info_parts infoStr
 go_enter Tryz.func146,Tryz.ntmps146
 go_wp2
 go_loopw [3,4,5,6] (fun o f _ _ wr => ∃ (k fr:Nat) (P:List ByteArray),fr ≤ k ∧ k ≤ s.size ∧ f = .int .i64 fr ∧ P.length ≤ k ∧ wr.ownsRow (w.heap.size + 1) 9 1 o P.length (P.map Value.string) ∧ wr.heap[w.heap.size]? = some (.stringIter s k) ∧ Below w.heap.size w wr ∧ Hid (CutInv s fr k P)) (fun _ _ _ _ wr => s.size - wr.iterPos w.heap.size)
 case atStart => exact ⟨0,0,[],Nat.le_refl _,Nat.zero_le _,rfl,Nat.le_refl _,⟨rfl,.inl ⟨rfl,rfl⟩⟩,World.iter_heap w s 0,(Below.refl _ _).alloc (Nat.le_refl _) _,CutInv.start s⟩
 case round =>
  obtain ⟨k,fr,P,hfk,hk,rfl,hpl,hown,hit,hb,HI⟩:=hrel
  have hsz:w.heap.size < wr.heap.size:=(Array.getElem?_eq_some_iff.1 hit).1
  by_cases hlt:k < s.size
  ·by_cases ha:s[k].toNat < 128
   ·have hnx:∀ ty,(Instr.next (.pointer (some ⟨w.heap.size,0,none⟩)) true ty).run Tryz.prog wr = _:=fun ty => Lib.run_next_ascii_at wr w.heap.size s k ty hit hlt ha
    have hit2:=Lib.iterAt_heap wr w.heap.size s k (k + 1) hit
    have hb2:=Lib.below_iterAt hb (k:=w.heap.size) (Nat.le_refl _) s (k + 1)
    have hown2:=ownsRow_iterAt hown (k:=w.heap.size) (Nat.lt_succ_self _) s (k + 1)
    have HP:Hid (wr.iterPos w.heap.size = k):=iterPos_of hit
    by_cases hc:s[k] = 32
    ·have h1:(((s[k].toNat:Nat):Int) == 32) = true:=by rw [u8_space]; simpa using hc
     have HC:Hid (s[k] = 32):=hc
     clear hc
     generalize hW:wr.iterAt w.heap.size s (k + 1) = W at hnx hit2 hb2 hown2
     have hszW:w.heap.size < W.heap.size:=(Array.getElem?_eq_some_iff.1 hit2).1
     clear hW
     go_wp2_with (at_builtin; refine wpList_append_own _ rfl _ _ 45 rfl (w.heap.size + 1) 9 i0 (.string ByteArray.empty) 1 16 Tryz.underlying45 hi hz0 hz1 hz2 rfl (by decide) _ _ _ rfl (hown2.alloc _) ⟨W.heap.size,0,none⟩ 1 1 [.string (s.extract fr k)] rfl rfl (cell_one_new _ _ _) (fun x hx => by simp at hx; subst hx; rfl) (by unfold maxLen; omega) (by omega) (by have:=hb.size; simp; omega) ?_; intro v' w3 hown' hgrow3 hnil3)
     have hit3:w3.heap[w.heap.size]? = some (.stringIter s (k + 1)):=(hgrow3.block w.heap.size (by simp; omega) (fun hj => by have:=own_ge hown2 _ hj.symm; omega)).trans ((Below.heap_alloc _ _ _ hszW).trans hit2)
     refine ⟨⟨k + 1,k + 1,P ++ [s.extract fr k],Nat.le_refl _,by omega,by go_num,by simp; omega,by simpa using hown',hit3,(hb2.alloc hb2.size _).grown hgrow3 (by have:=hb2.size; simp; omega) (fun j hj => by have:=own_ge hown2 _ hj; omega),HI.out.space hlt HC.out⟩,?_⟩
     rw [iterPos_of hit3,HP.out]; omega
    ·have h1:(((s[k].toNat:Nat):Int) == 32) = false:=by rw [u8_space]; simpa using hc
     have HC:Hid (¬ s[k] = 32):=hc
     clear hc
     go_wp2
     refine ⟨⟨k + 1,fr,P,by omega,by omega,rfl,by omega,hown2,hit2,hb2,HI.out.other hfk hlt HC.out⟩,?_⟩
     rw [iterPos_of hit2,HP.out]; omega
   ·have hnx:∀ ty,(Instr.next (.pointer (some ⟨w.heap.size,0,none⟩)) true ty).run Tryz.prog wr = _:=fun ty => Lib.run_next_any_at wr w.heap.size s k ty hit hlt
    have hd:=decode_high s k hlt (by omega)
    have HS:Hid (k + (Utf8.decode s k).2 ≤ s.size ∧ ∀ j (hj:j < s.size),k ≤ j → j < k + (Utf8.decode s k).2 → 128 ≤ (s[j]'hj).toNat):=decode_skip s k hlt (by omega)
    have HP:Hid (wr.iterPos w.heap.size = k):=iterPos_of hit
    generalize Utf8.decode s k = d at hnx hd HS
    obtain ⟨d1,d2⟩:=d
    dsimp only at hnx hd HS
    have hit2:=Lib.iterAt_heap wr w.heap.size s k (k + d2) hit
    have hb2:=Lib.below_iterAt hb (k:=w.heap.size) (Nat.le_refl _) s (k + d2)
    have hown2:=ownsRow_iterAt hown (k:=w.heap.size) (Nat.lt_succ_self _) s (k + d2)
    have h1:((d1:Int) == 32) = false:=by simp; omega
    go_wp2
    have hS:=HS.out
    refine ⟨⟨k + d2,fr,P,by omega,hS.1,rfl,by omega,hown2,hit2,hb2,HI.out.skip hfk d2 hS.1 fun j hj a b => not_space (hS.2 j hj a b)⟩,?_⟩
    rw [iterPos_of hit2,HP.out]; omega
  ·have hnx:∀ ty,(Instr.next (.pointer (some ⟨w.heap.size,0,none⟩)) true ty).run Tryz.prog wr = _:=fun ty => Lib.run_next_end_at wr w.heap.size s k ty hit hlt
   have HK:Hid (k = s.size):=by show k = s.size; omega
   go_wp2_with (at_builtin; refine wpList_append_own _ rfl _ _ 45 rfl (w.heap.size + 1) 9 i0 (.string ByteArray.empty) 1 16 Tryz.underlying45 hi hz0 hz1 hz2 rfl (by decide) _ _ _ rfl (hown.alloc _) ⟨wr.heap.size,0,none⟩ 1 1 [.string (s.extract fr s.size)] rfl rfl (cell_one_new _ _ _) (fun x hx => by simp at hx; subst hx; rfl) (by unfold maxLen; omega) (by omega) (by have:=hb.size; simp; omega) ?_; intro v' w3 hown' hgrow3 hnil3)
   go_ret
   have h2:=HI.out
   rw [HK.out] at h2
   have h3:StrsAt w3 v' (P ++ [s.extract fr s.size]):=strs_of_own (base:=w.heap.size + 1) (e:=9) (by simpa using hown') (by simp)
   rw [cutW_eq h2.fin] at h3
   exact ⟨v',rfl,h3,(hb.alloc hb.size _).grown hgrow3 (by have:=hb.size; simp; omega) (fun j hj => by have:=own_ge hown _ hj; omega)⟩
open Go.RowKit
theorem str_eq {a b:ByteArray} (h:a = b):(a.toList == b.toList) = true:=by subst h; simp
theorem str_ne {a b:ByteArray} (h:¬ a = b):(a.toList == b.toList) = false:=by
 rw [ByteArray.toList_eq,ByteArray.toList_eq]
 simp only [beq_eq_false_iff_ne,ne_eq]
 exact fun e => h (bytes_inj e)
def memB (l:List Tri) (v:ByteArray):Bool:=!allB l.length fun i => !decide ((at' l i).s = v)
theorem memB_true {l:List Tri} {v:ByteArray} {k:Nat} (hk:k < l.length) (h:(at' l k).s = v):memB l v = true:=by
 unfold memB; rw [allB_false hk (by simp [h])]; rfl
theorem memB_false {l:List Tri} {v:ByteArray} (h:∀ j,j < l.length → ¬ (at' l j).s = v):memB l v = false:=by
 unfold memB; rw [allB_true fun j hj => by simp [h j hj]]; rfl
def plc (l:List Tri) (v:ByteArray):Nat:=l.findIdx fun t => geB t.s v
def hasB (l:List Tri) (v:ByteArray):Bool:=decide (plc l v < l.length) && decide ((at' l (plc l v)).s = v)
theorem plc_some {l:List Tri} {v:ByteArray} {k:Nat} (hk:k < l.length) (h:geB (at' l k).s v = true) (hn:∀ j,j < k → geB (at' l j).s v = false):plc l v = k:=by
 have e:∀ j (hj:j < l.length),at' l j = l[j]:=fun j hj => by simp [at',hj]
 unfold plc
 rw [List.findIdx_eq hk]
 exact ⟨by rw [← e k hk]; exact h,fun j hj => by rw [← e j (by omega)]; exact hn j hj⟩
theorem plc_none {l:List Tri} {v:ByteArray} (h:∀ j,j < l.length → geB (at' l j).s v = false):plc l v = l.length:=by
 unfold plc
 rw [List.findIdx_eq_length]
 intro t ht
 obtain ⟨j,hj,rfl⟩:=List.getElem_of_mem ht
 have:=h j hj
 simpa [at',hj] using this
theorem hasB_at {l:List Tri} {v:ByteArray} {k:Nat} (hk:k < l.length) (h:geB (at' l k).s v = true) (hn:∀ j,j < k → geB (at' l j).s v = false):hasB l v = decide ((at' l k).s = v):=by
 unfold hasB; rw [plc_some hk h hn]; simp [hk]
theorem hasB_end {l:List Tri} {v:ByteArray} (h:∀ j,j < l.length → geB (at' l j).s v = false):hasB l v = false:=by
 unfold hasB; rw [plc_none h]; simp
theorem geB_bl (a b:ByteArray):geB a b = !blS a b:=rfl
theorem asc_lt {l:List Tri} (h:∀ i,i < l.length → ascB l i = true):∀ i j,i < j → j < l.length → blS (at' l i).s (at' l j).s = true:=by
 have one:∀ i,i + 1 < l.length → blS (at' l i).s (at' l (i + 1)).s = true:=fun i hi => by
  have:=h (i + 1) hi
  unfold ascB at this
  rw [geB_bl] at this
  simpa using this
 intro i j hij
 induction j with
 | zero => omega
 | succ j ih =>
  intro hj
  by_cases e:i = j
  ·subst e; exact one i hj
  ·exact blS_trans (ih (by omega) (by omega)) (one j hj)
theorem has_mem {l:List Tri} {v:ByteArray} (h:∀ i,i < l.length → ascB l i = true):hasB l v = memB l v:=by
 by_cases hm:∃ k,k < l.length ∧ (at' l k).s = v
 ·obtain ⟨k,hk,he⟩:=hm
  rw [memB_true hk he,hasB_at hk (by rw [he,geB_bl,blS_irrefl]; rfl) fun j hj => by rw [← he,geB_bl,asc_lt h j k hj hk]; rfl]
  simp [he]
 ·rw [memB_false fun j hj he => hm ⟨j,hj,he⟩]
  unfold hasB
  rw [Bool.and_eq_false_iff]
  by_cases hp:plc l v < l.length
  ·right; exact decide_eq_false fun he => hm ⟨_,hp,he⟩
  ·left; exact decide_eq_false hp
theorem names_asc {l:List Tri} {m:Nat} (h:namesB l m = true):∀ i,i < l.length → ascB l i = true:=fun i hi => by
 unfold namesB at h
 rw [Bool.and_eq_true] at h
 have:=allB_get h.2 i hi
 rw [Bool.and_eq_true] at this
 exact this.2
theorem kinds_asc {l:List Tri} (h:kindsB l = true):∀ i,i < l.length → ascB l i = true:=by
 unfold kindsB at h; rw [Bool.and_eq_true] at h; exact names_asc h.1
theorem points_asc {l:List Tri} (h:pointsB l = true):∀ i,i < l.length → ascB l i = true:=by
 unfold pointsB at h; rw [Bool.and_eq_true] at h; exact names_asc h.1
def wat (ws:List ByteArray) (i:Nat):ByteArray:=ws.getD i ⟨#[]⟩
theorem wat_get {ws:List ByteArray} {i:Nat} (h:i < ws.length):ws[i]? = some (wat ws i):=by simp [wat,h]
def numV (s:ByteArray):Nat:=numTo s s.size
def timeB (ws:List ByteArray):Bool:=decide (ws.length = 2) && (decB (wat ws 0) && (decB (wat ws 1) && (decide (numV (wat ws 0) ≤ numV (wat ws 1)) && decide (numV (wat ws 1) ≤ 10000))))
def levelB (s:ByteArray):Bool:=decB s && inB (numV s) 1 6
def stepB (ps:List Tri) (ws:List ByteArray) (i:Nat):Bool:=hasB ps (wat ws i) && !(decide (0 < i) && decide (wat ws (i - 1) = wat ws i))
def routeB (ps:List Tri) (ws:List ByteArray):Bool:=inB ws.length 2 8 && allB ws.length (stepB ps ws)
def openS:ByteArray:=⟨#[111,112,101,110]⟩
def closedS:ByteArray:=⟨#[99,108,111,115,101,100]⟩
def stateB (s:ByteArray):Bool:=decide (s = openS) || decide (s = closedS)
def valB2 (ks ps:List Tri) (what:Int) (s:ByteArray):Bool :=
 if what = 1 then hasB ks s else if what = 2 then timeB (cutW s) else if what = 3 then levelB s else if what = 4 then routeB ps (cutW s) else if what = 5 then stateB s else false
def baseB (ks ps:List Tri):Bool:=kindsB ks && pointsB ps
def fitB (ks ps:List Tri) (c:Chg):Bool:=nameB c.f && (inB c.num 1 1000000 && valB2 ks ps c.what c.v)
theorem cutA_sizes:∀ (r cur:List UInt8) (x:List UInt8),x ∈ cutA cur r → x.length ≤ cur.length + r.length
 | [],cur,x,h => by simp [cutA] at h; subst h; simp
 | c :: r,cur,x,h => by
  rw [cutA] at h
  split at h
  ·rcases List.mem_cons.1 h with rfl | h
   ·simp
   ·have:=cutA_sizes r [] x h; simp at this ⊢; omega
  ·have:=cutA_sizes r (cur ++ [c]) x h; simp at this ⊢; omega
theorem cutW_size (s:ByteArray):∀ x ∈ cutW s,x.size ≤ s.size:=fun x hx => by
 unfold cutW at hx
 obtain ⟨l,hl,rfl⟩:=List.mem_map.1 hx
 have:=cutA_sizes _ _ _ hl
 rw [bytes_length,List.length_nil,Nat.zero_add] at this
 exact this
theorem wat_size {s:ByteArray} {i:Nat} (h:i < (cutW s).length):(wat (cutW s) i).size ≤ s.size:=cutW_size s _ (List.mem_of_getElem? (wat_get h))
end Go.Proofs.YtbjmgglpiakgdaaGreatDoor
