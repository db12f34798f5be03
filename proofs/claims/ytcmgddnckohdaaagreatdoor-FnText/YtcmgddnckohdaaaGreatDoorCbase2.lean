import Derived.Test.YtcmgddnckohdaaaGreatDoorCbase
import Derived.Deep.AppendLies
set_option maxRecDepth 100000
set_option maxHeartbeats 6400000
namespace Go.Proofs.YtcmgddnckohdaaaGreatDoor
open Go.RowKit
set_option linter.unusedSimpArgs false
set_option linter.unusedVariables false
theorem aD (w:World) (g:Nat) (cs:Array Value):w.grownBy (w.setRow g cs) (some g):=⟨rfl,rfl,rfl,by simp,fun k _ hk=>setRow_other _ _ _ _ (fun e=>hk (by rw [e]))⟩
theorem Cv (vk vp:Value) (ks ps:List dx) (w:World) (hk:dA w vk ks) (hp:dA w vp ps) (lk:ks.length≤1048575) (lp:ps.length≤1048575) (sk:∀ t∈ks,t.s.size≤1048576) (sp:∀ t∈ps,t.s.size≤1048576) :
  Calls Tryz.prog 239 #[.agg #[vk,vp]] w fun e w'=>∃ a1 n1 c1 a2 n2 c2,e=.returned (.agg #[.slice a1 n1 c1,.slice a2 n2 c2])∧(w'.ownsRow (w.heap.size+3) 69 3 (.slice a1 n1 c1) ks.length (aS ks)∧w'.ownsRow (w.heap.size+3) 72 3 (.slice a2 n2 c2) ps.length (aS ps))∧Below w.heap.size w w':=by
 obtain ⟨iK,hiK,hz0K,hz1K,hz2K⟩:=info_parts kS;obtain ⟨iP,hiP,hz0P,hz1P,hz2P⟩:=info_parts jS;obtain ⟨ak,ck,rfl,hlk,hmk,hck⟩:=hk;obtain ⟨ap,cp,rfl,hlp,hmp,hcp⟩:=hp;unfold maxLen at hmk hmp;have HK:Hid (∀ i t,ks[i]?=some t→∃ b off,ak=some ⟨b,off,none⟩∧w.cell? ⟨b,off+i*3,none⟩=some (.string t.s)∧w.cell? ⟨b,off+i*3+1,none⟩=some (.int .i64 t.x)∧w.cell? ⟨b,off+i*3+2,none⟩=some (.int .i64 t.y)):=hck;have HP:Hid (∀ i t,ps[i]?=some t→∃ b off,ap=some ⟨b,off,none⟩∧w.cell? ⟨b,off+i*3,none⟩=some (.string t.s)∧w.cell? ⟨b,off+i*3+1,none⟩=some (.int .i64 t.x)∧w.cell? ⟨b,off+i*3+2,none⟩=some (.int .i64 t.y)):=hcp;have MN:Hid ((∀ t∈ks,t.s.size≤1048576)∧∀ t∈ps,t.s.size≤1048576):=⟨sk,sp⟩;clear hck hcp sk sp;have H0:Hid (CB w (((w.alloc (.cells #[.slice ak ks.length ck,.slice ap ps.length cp] 27)).alloc (.cells #[.slice none 0 0,.slice none 0 0] 27)).alloc (.cells #[.slice none 0 0,.slice none 0 0] 27)) #[.slice ak ks.length ck,.slice ap ps.length cp] (.slice none 0 0) (.slice none 0 0) [] []):=CB.start w _
 go_enter Tryz.func239,Tryz.ntmps239
 go_wp2
 go_loopw [5,11] (fun _ i wr=>∃ (k:Nat) (v u:Value),k≤ks.length∧i=.int .i64 k∧(∃ a n c,v=.slice a n c)∧(∃ a n c,u=.slice a n c)∧CB w wr #[.slice ak ks.length ck,.slice ap ps.length cp] v u (ks.take k) []) (fun _ i _=>ks.length-(intOf i).toNat)
 case atStart=>exact ⟨0,_,_,Nat.zero_le _,rfl,⟨_,_,_,rfl⟩,⟨_,_,_,rfl⟩,by simpa using H0.out⟩
 case round =>
  clear H0;obtain ⟨k,v,u,hk,rfl,⟨va,vn,vc,rfl⟩,⟨ub,un,uc,rfl⟩,hB⟩:=hrel;have HB:Hid (CB w wr #[.slice ak ks.length ck,.slice ap ps.length cp] (.slice va vn vc) (.slice ub un uc) (ks.take k) []):=hB;clear hB
  by_cases hlt:k<ks.length
  ·have ht:ks[k]?=some ks[k]:=List.getElem?_eq_getElem hlt
   obtain ⟨b,off,rfl,d0',d1',d2'⟩:=HK.out k _ ht;have d0:=ag HB.out.below aG d0';have d1:=ag HB.out.below aG d1';have d2:=ag HB.out.below aG d2';have hsm:=MN.out.1 _ (List.mem_of_getElem? ht);have HT:Hid (ks.take (k+1)=ks.take k++[ks[k]]):=List.take_succ_eq_append_getElem hlt
   have hln:(ks.take k).length+1≤1048576:=by simp;omega
   have hlk:(ks.take k).length=k:=by simp;omega
   clear d0' d1' d2';generalize ks[k]=t at *
   have hk0:(0:Int)≤(k:Int):=by omega
   have hk1:(k:Int)<(ks.length:Int):=by omega
   have BA:Hid (Below wr.heap.size wr (wr.alloc (.cells #[.string t.s,.int .i64 t.x,.int .i64 t.y] 69))):=(aM);go_wp2_with fail;refine (jm t.s _ hsm).mono ?_;rintro e w1 ⟨rfl,hb1⟩
   have X1:w1.heap[wr.heap.size]?=some (.cells #[.string t.s,.int .i64 t.x,.int .i64 t.y] 69):=(hb1.block _ (by simp)).trans (am wr _)
   have hz1:wr.heap.size<w1.heap.size:=(Array.getElem?_eq_some_iff.1 X1).1
   obtain ⟨q0,q1,q2⟩:w1.cell? ⟨wr.heap.size,0,none⟩=some (.string t.s)∧w1.cell? ⟨wr.heap.size,1,none⟩=some (.int .i64 t.x)∧w1.cell? ⟨wr.heap.size,2,none⟩=some (.int .i64 t.y):=by simp [World.cell?,X1]
   have qf:w1.frozen? ⟨wr.heap.size,0,none⟩=false:=by simp [World.frozen?,X1]
   have hbw:Below wr.heap.size wr w1:=aa BA.out hb1;have H2:Hid (CB w (w1.setCell ⟨wr.heap.size,0,none⟩ (.string t.s)) _ (.slice va vn vc) (.slice ub un uc) (ks.take k) []):=HB.out.call (pU hbw _ _ aG _)
   have X2:Hid ((w1.setCell ⟨wr.heap.size,0,none⟩ (.string t.s)).heap[wr.heap.size]?=some (.cells #[.string t.s,.int .i64 t.x,.int .i64 t.y] 69)):=by
    show _=_
    rw [setCell_eq_setRow _ _ _ _ _ _ _ X1];exact setRow_heap _ _ _ _ _ _ X1
   clear hb1 hbw BA
   go_upto_region 6 with fail
   generalize w1.setCell ⟨wr.heap.size,0,none⟩ (.string t.s)=w2 at *;clear q0 q1 q2 qf X1
   obtain ⟨q0,q1,q2⟩:w2.cell? ⟨wr.heap.size,0,none⟩=some (.string t.s)∧w2.cell? ⟨wr.heap.size,1,none⟩=some (.int .i64 t.x)∧w2.cell? ⟨wr.heap.size,2,none⟩=some (.int .i64 t.y):=by simp [World.cell?,X2.out]
   obtain ⟨e0,e1⟩:w2.cell? ⟨w.heap.size+1+1,0,none⟩=some (.slice va vn vc)∧w2.cell? ⟨w.heap.size+1+1,1,none⟩=some (.slice ub un uc):=by simp [World.cell?,H2.out.c]
   have hz2:=H2.out.z;have ho2:=H2.out.k;have hc2:=H2.out.c
   go_wp2_with (at_builtin;refine wpList_append_lies _ rfl _ _ 24 rfl (w.heap.size+3) 69 iK (.agg #[.string ByteArray.empty,.int .i64 0,.int .i64 0]) 3 32 Tryz.underlying24 hiK hz0K hz1K hz2K rfl (by decide) _ _ _ rfl (ho2.alloc _) ⟨w2.heap.size,0,none⟩ 1 1 (fA t) rfl rfl (cR _ _ _ _ _) (fun x hx=>by simp [fA] at hx;rcases hx with rfl | rfl | rfl <;> rfl) (by decide) (by unfold maxLen;omega) (by omega) (by simp;omega) _ rfl ?_;intro g cap w3 hown' hgrow3 LZ hlt3;have hc3:=(hgrow3.block _ (by simp;omega) (bd ho2 hc2 (by decide))).trans ((Below.heap_alloc _ _ _ (by omega)).trans hc2);obtain ⟨x0,x1⟩:w3.cell? ⟨w.heap.size+1+1,0,none⟩=some (.slice va vn vc)∧w3.cell? ⟨w.heap.size+1+1,1,none⟩=some (.slice ub un uc):=(by simp [World.cell?,hc3]);have xf0:w3.frozen? ⟨w.heap.size+1+1,0,none⟩=false:=(by simp [World.frozen?,hc3]);have xf1:w3.frozen? ⟨w.heap.size+1+1,1,none⟩=false:=(by simp [World.frozen?,hc3]))
   have HM:=H2.out.moreK hown' hgrow3;rw [← HT.out,hlk] at HM
   exact ⟨⟨k+1,_,_,by omega,by go_num,⟨_,_,_,rfl⟩,⟨_,_,_,rfl⟩,HM⟩,by simp [intOf];omega⟩
  ·have HE:Hid (CB w wr #[.slice ak ks.length ck,.slice ap ps.length cp] (.slice va vn vc) (.slice ub un uc) ks []):=by
    show CB _ _ _ _ _ _ _
    have h:=HB.out
    rw [List.take_of_length_le (by omega)] at h
    exact h
   clear HB
   obtain ⟨f0,f1⟩:wr.cell? ⟨w.heap.size,0,none⟩=some (.slice ak ks.length ck)∧wr.cell? ⟨w.heap.size,1,none⟩=some (.slice ap ps.length cp):=by simp [World.cell?,HE.out.a]
   have M0:=HE;clear HE;go_wp2
   go_loopw [7,29] (fun _ i wr=>∃ (k:Nat) (v u:Value),k≤ps.length∧i=.int .i64 k∧(∃ a n c,v=.slice a n c)∧(∃ a n c,u=.slice a n c)∧CB w wr #[.slice ak ks.length ck,.slice ap ps.length cp] v u ks (ps.take k)) (fun _ i _=>ps.length-(intOf i).toNat)
   case atStart=>exact ⟨0,_,_,Nat.zero_le _,rfl,⟨_,_,_,rfl⟩,⟨_,_,_,rfl⟩,by simpa using M0.out⟩
   case round =>
    clear M0;obtain ⟨k,v,u,hk,rfl,⟨va,vn,vc,rfl⟩,⟨ub,un,uc,rfl⟩,hB⟩:=hrel;have HB:Hid (CB w wr #[.slice ak ks.length ck,.slice ap ps.length cp] (.slice va vn vc) (.slice ub un uc) ks (ps.take k)):=hB;clear hB
    by_cases hlt:k<ps.length
    ·have ht:ps[k]?=some ps[k]:=List.getElem?_eq_getElem hlt
     obtain ⟨b,off,rfl,d0',d1',d2'⟩:=HP.out k _ ht;have d0:=ag HB.out.below aG d0';have d1:=ag HB.out.below aG d1';have d2:=ag HB.out.below aG d2';have hsm:=MN.out.2 _ (List.mem_of_getElem? ht);have HT:Hid (ps.take (k+1)=ps.take k++[ps[k]]):=List.take_succ_eq_append_getElem hlt
     have hln:(ps.take k).length+1≤1048576:=by simp;omega
     have hlk:(ps.take k).length=k:=by simp;omega
     clear d0' d1' d2';generalize ps[k]=t at *
     have hk0:(0:Int)≤(k:Int):=by omega
     have hk1:(k:Int)<(ps.length:Int):=by omega
     have BA:Hid (Below wr.heap.size wr (wr.alloc (.cells #[.string t.s,.int .i64 t.x,.int .i64 t.y] 72))):=(aM);go_wp2_with fail;refine (jm t.s _ hsm).mono ?_;rintro e w1 ⟨rfl,hb1⟩
     have X1:w1.heap[wr.heap.size]?=some (.cells #[.string t.s,.int .i64 t.x,.int .i64 t.y] 72):=(hb1.block _ (by simp)).trans (am wr _)
     have hz1:wr.heap.size<w1.heap.size:=(Array.getElem?_eq_some_iff.1 X1).1
     obtain ⟨q0,q1,q2⟩:w1.cell? ⟨wr.heap.size,0,none⟩=some (.string t.s)∧w1.cell? ⟨wr.heap.size,1,none⟩=some (.int .i64 t.x)∧w1.cell? ⟨wr.heap.size,2,none⟩=some (.int .i64 t.y):=by simp [World.cell?,X1]
     have qf:w1.frozen? ⟨wr.heap.size,0,none⟩=false:=by simp [World.frozen?,X1]
     have hbw:Below wr.heap.size wr w1:=aa BA.out hb1;have H2:Hid (CB w (w1.setCell ⟨wr.heap.size,0,none⟩ (.string t.s)) _ (.slice va vn vc) (.slice ub un uc) ks (ps.take k)):=HB.out.call (pU hbw _ _ aG _)
     have X2:Hid ((w1.setCell ⟨wr.heap.size,0,none⟩ (.string t.s)).heap[wr.heap.size]?=some (.cells #[.string t.s,.int .i64 t.x,.int .i64 t.y] 72)):=by
      show _=_
      rw [setCell_eq_setRow _ _ _ _ _ _ _ X1];exact setRow_heap _ _ _ _ _ _ X1
     clear hb1 hbw BA
     go_upto_region 12 with fail
     generalize w1.setCell ⟨wr.heap.size,0,none⟩ (.string t.s)=w2 at *;clear q0 q1 q2 qf X1
     obtain ⟨q0,q1,q2⟩:w2.cell? ⟨wr.heap.size,0,none⟩=some (.string t.s)∧w2.cell? ⟨wr.heap.size,1,none⟩=some (.int .i64 t.x)∧w2.cell? ⟨wr.heap.size,2,none⟩=some (.int .i64 t.y):=by simp [World.cell?,X2.out]
     obtain ⟨e0,e1⟩:w2.cell? ⟨w.heap.size+1+1,0,none⟩=some (.slice va vn vc)∧w2.cell? ⟨w.heap.size+1+1,1,none⟩=some (.slice ub un uc):=by simp [World.cell?,H2.out.c]
     have hz2:=H2.out.z;have ho2:=H2.out.p;have hc2:=H2.out.c
     go_wp2_with (at_builtin;refine wpList_append_lies _ rfl _ _ 25 rfl (w.heap.size+3) 72 iP (.agg #[.string ByteArray.empty,.int .i64 0,.int .i64 0]) 3 32 Tryz.underlying25 hiP hz0P hz1P hz2P rfl (by decide) _ _ _ rfl (ho2.alloc _) ⟨w2.heap.size,0,none⟩ 1 1 (fA t) rfl rfl (cR _ _ _ _ _) (fun x hx=>by simp [fA] at hx;rcases hx with rfl | rfl | rfl <;> rfl) (by decide) (by unfold maxLen;omega) (by omega) (by simp;omega) _ rfl ?_;intro g cap w3 hown' hgrow3 LZ hlt3;have hc3:=(hgrow3.block _ (by simp;omega) (bd ho2 hc2 (by decide))).trans ((Below.heap_alloc _ _ _ (by omega)).trans hc2);obtain ⟨x0,x1⟩:w3.cell? ⟨w.heap.size+1+1,0,none⟩=some (.slice va vn vc)∧w3.cell? ⟨w.heap.size+1+1,1,none⟩=some (.slice ub un uc):=(by simp [World.cell?,hc3]);have xf0:w3.frozen? ⟨w.heap.size+1+1,0,none⟩=false:=(by simp [World.frozen?,hc3]);have xf1:w3.frozen? ⟨w.heap.size+1+1,1,none⟩=false:=(by simp [World.frozen?,hc3]))
     have HM:=H2.out.moreP hown' hgrow3;rw [← HT.out,hlk] at HM
     exact ⟨⟨k+1,_,_,by omega,by go_num,⟨_,_,_,rfl⟩,⟨_,_,_,rfl⟩,HM⟩,by simp [intOf];omega⟩
    ·have HE:Hid (CB w wr #[.slice ak ks.length ck,.slice ap ps.length cp] (.slice va vn vc) (.slice ub un uc) ks ps):=by
      show CB _ _ _ _ _ _ _
      have h:=HB.out
      rw [List.take_of_length_le (by omega)] at h
      exact h
     clear HB
     obtain ⟨e0,e1⟩:wr.cell? ⟨w.heap.size+1+1,0,none⟩=some (.slice va vn vc)∧wr.cell? ⟨w.heap.size+1+1,1,none⟩=some (.slice ub un uc):=by simp [World.cell?,HE.out.c]
     have hr:=HE.out.r
     go_wp2_with (refine wpList_store_row rfl 27 _ _ rfl (w.heap.size+1) #[.slice va vn vc,.slice ub un uc] rfl rfl 27 _ hr (by kernel_rfl) rfl (by simp [Value.oneCell']) ?_)
     refine bodyPost_ret (v:=.agg #[.slice va vn vc,.slice ub un uc]) (by simp [results,Tryz.results239,go_sem,cell_setRow_same _ _ _ _ _ _ _ hr]) rfl ⟨_,_,_,_,_,_,rfl,⟨?_,?_⟩,below_setRow HE.out.below (by omega) _⟩
     ·exact ar HE.out.k (aD wr (w.heap.size+1) _) (fun k hk e=>by have:=aw HE.out.k k hk;injection e;omega)
     ·exact ar HE.out.p (aD wr (w.heap.size+1) _) (fun k hk e=>by have:=aw HE.out.p k hk;injection e;omega)
end Go.Proofs.YtcmgddnckohdaaaGreatDoor
