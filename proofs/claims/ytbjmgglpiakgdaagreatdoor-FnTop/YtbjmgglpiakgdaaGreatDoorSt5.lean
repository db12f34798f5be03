import Derived.Test.YtbjmgglpiakgdaaGreatDoorLev1
import Derived.Test.YtbjmgglpiakgdaaGreatDoorShelf4
import Derived.Laws.CopyOwn
import Derived.Test.YtbjmgglpiakgdaaGreatDoorSame
set_option maxRecDepth 100000
set_option maxHeartbeats 6400000
set_option linter.unusedSimpArgs false
set_option linter.unusedVariables false
namespace Go.Proofs.YtbjmgglpiakgdaaGreatDoor.Sd
open Go.RowKit
theorem clone_any (s:ByteArray) (w:World) (hs:s.size≤1048576) :
  Calls Tryz.prog 107 #[.string s] w fun e w'=>e=.returned (.string s)∧Below w.heap.size w w':=by
 go_enter Tryz.func107,Tryz.ntmps107
 go_wp2_with fail
 refine (Tryz.stringslite_Clone s _ (by omega)).mono ?_
 rintro e w' ⟨rfl,hb⟩;go_wp2;go_ret;exact ⟨rfl,hb⟩
theorem cell_two {w:World} {b:Nat} {v u:Value} {t:TypeId} (h:w.heap[b]?=some (.cells #[v,u] t (0,0))):w.cell? ⟨b,0,none⟩=some v∧w.cell? ⟨b,1,none⟩=some u:=by simp [World.cell?,h]
theorem below_block {w w':World} {b:Nat} {o:Obj} (hb:Below w.heap.size w w') (h:w.heap[b]?=some o):w'.heap[b]?=some o:=(hb.block b (lt_of_block h)).trans h
def SNew (w:World) (B:Nat) (v:Value) (l:List ByteArray):Prop:=w.ownsRow B 9 1 v l.length (l.map Value.string)
theorem SNew.snoc {w:World} {B n:Nat} {v:Value} {l:List ByteArray} {x:ByteArray} (hn:l.length=n) (h:w.ownsRow B 9 1 v (n+1) (l.map Value.string++[.string x])):SNew w B v (l++[x]):=by
 unfold SNew;rw [List.length_append,List.map_append];subst hn;exact h
theorem cutW_len (s:ByteArray):(cutW s).length≤s.size+1:=by
 unfold cutW;rw [List.length_map]
 have:∀ (r cur:List UInt8),(cutA cur r).length≤r.length+1:=by
  intro r
  induction r with
  | nil=>intro cur;simp [cutA]
  | cons c r ih =>
   intro cur;rw [cutA]
   split
   ·have:=ih [];simp;omega
   ·have:=ih (cur++[c]);simp;omega
 have h:=this (bytes s) [];rw [bytes_length] at h;exact h
theorem copyWords_any (s:ByteArray) (w:World) (hs:s.size≤1048576) :
  Calls Tryz.prog 137 #[.string s] w fun e w'=>∃ u,e=.returned u∧SNew w' w.heap.size u (cutW s)∧Below w.heap.size w w':=by
 obtain ⟨i0,hi0,hz0,hz1,hz2⟩:=info_parts infoStr;have hcl:=cutW_len s;have HSZ:Hid (∀ i,i<(cutW s).length→(wat (cutW s) i).size≤s.size):=fun i hi=>wat_size hi;have HWD:Hid (∀ wx:World,Calls Tryz.prog 146 #[.string s] wx fun e w'=>∃ v,e=.returned v∧StrsAt w' v (cutW s)∧Below wx.heap.size wx w'):=fun wx=>wordsOf_any s wx hs;generalize cutW s=ws at *
 go_enter Tryz.func137,Tryz.ntmps137
 go_wp2_with fail;refine (HWD.out _).mono ?_;rintro e w1 ⟨v,rfl,hst,hb1⟩;have HST:Hid (StrsAt w1 v ws):=hst;obtain ⟨g,off,cap,rfl,hlc,hcm,-⟩:=hst;unfold maxLen at hcm;have B1:Hid (Below w.heap.size w w1):=hb1;clear hb1;go_wp2_with fail
 go_loopw [3,9] (fun v i wr=>∃ k:Nat,k≤ws.length∧i=.int .i64 k∧(∃ a c,v=.slice a k c)∧Hid (SNew wr w1.heap.size v (ws.take k)∧Below w1.heap.size w1 wr)) (fun _ i _=>ws.length-(intOf i).toNat)
 case atStart=>exact ⟨0,Nat.zero_le _,rfl,⟨_,_,rfl⟩,⟨rfl,.inl ⟨rfl,rfl⟩⟩,Below.refl _ _⟩
 case round =>
  obtain ⟨k,hk,rfl,⟨a,c,rfl⟩,HI⟩:=hrel
  by_cases hlt:k<ws.length
  ·have c0:wr.cell? ⟨g,off+k,none⟩=some (.string (wat ws k)):=(HST.out.keep HI.out.2).cell k hlt
   have hk0:(0:Int)≤(k:Int):=by omega
   have hk1:(k:Int)<(ws.length:Int):=by omega
   have hsz2:=HSZ.out k hlt;go_wp2_with fail
   refine (clone_any (wat ws k) _ (by omega)).mono ?_
   rintro e w2 ⟨rfl,hb2⟩;have HI2:Hid (SNew w2 w1.heap.size (.slice a k c) (ws.take k)∧Below w1.heap.size w1 w2):=⟨Lv.own_keep HI.out.1 hb2,below_step HI.out.2 hb2⟩;clear HI c0 hb2
   have HTL:Hid ((ws.take k).length=k):=by show _=_;rw [List.length_take];omega
   have HTS:Hid (ws.take (k+1)=ws.take k++[wat ws k]):=by
    show _=_
    rw [List.take_succ_eq_append_getElem hlt]
    simp [wat,hlt]
   have hid:=HI2.out.1;unfold SNew at hid;rw [HTL.out] at hid;have hsz:=HI2.out.2.size;generalize wat ws k=x at *
   go_wp2_with (at_builtin;refine wpList_append_any _ rfl _ _ 45 rfl w1.heap.size 9 i0 _ 1 16 Tryz.underlying45 hi0 hz0 hz1 hz2 rfl (by decide) _ k _ rfl (Lv.own_keep hid (bal)) _ 1 1 [.string x] rfl (.inr ⟨_,rfl,World.news_of_block (Lv.heap_newF w2 (.cells #[.string x] 9))⟩) rfl (fun u hu=>by simp at hu;subst hu;rfl) (by unfold maxLen;omega) (by omega) (by simp;omega) ?_;intro vq wx hown hgrow hat)
   have hbw:=below_step HI2.out.2 ((Below.refl _ _).alloc nlr (.cells #[.string x] 9))
   have HN:Hid (SNew wx w1.heap.size vq (ws.take (k+1))∧Below w1.heap.size w1 wx):=by
    refine ⟨?_,hbw.grown hgrow hbw.size (fun q hq=>Lv.own_ge hid q hq)⟩;rw [HTS.out];exact SNew.snoc HTL.out hown
   obtain ⟨qa,qc,rfl⟩:=Lv.own_slice hown
   exact ⟨⟨k+1,by omega,by go_num,⟨_,_,rfl⟩,HN⟩,by simp [intOf];omega⟩
  ·have HF:Hid (ws.take k=ws):=List.take_of_length_le (by omega)
   have hs1:=B1.out.size;go_wp2;go_ret;refine ⟨.slice a k c,rfl,?_,below_step B1.out HI.out.2⟩;have h:=HI.out.1;rw [HF.out] at h;refine ⟨h.1,?_⟩
   rcases h.2 with h2 | ⟨g,cap,cur,hv,hg,rest⟩
   ·exact .inl h2
   ·exact .inr ⟨g,cap,cur,hv,by omega,rest⟩
theorem kindOf_any (vk vp:Value) (ks:List Tri) (s:ByteArray) (w:World) (hk:TrisAt w vk ks) (hb:hasB ks s=true) (hn:∀ t∈ks,t.s.size≤1048576) :
  Calls Tryz.prog 134 #[.agg #[vk,vp],.string s] w fun e w'=>e=.returned (.agg #[.string (at' ks (plc ks s)).s,.int .i64 (at' ks (plc ks s)).x,.int .i64 (at' ks (plc ks s)).y])∧Below w.heap.size w w':=by
 have hpl:plc ks s<ks.length:=by
  unfold hasB at hb;rw [Bool.and_eq_true] at hb;exact of_decide_eq_true hb.1
 have HPK:Hid (∀ wx:World,Below w.heap.size w wx→Calls Tryz.prog 145 #[vk,.string s,.func (.func 114) #[] #[]] wx fun e w'=>e=.returned (.tuple #[.int .i64 (plc ks s:Nat),.bool true])∧Below wx.heap.size wx w'):=fun wx hx=>by
  have h:=placeKind_any vk ks s wx (hk.keep hx);rw [hb] at h;exact h
 have hsz:(at' ks (plc ks s)).s.size≤1048576:=hn _ (List.mem_of_getElem? (at_get hpl));have HTK:Hid (∀ wx:World,Below w.heap.size w wx→TrisAt wx vk ks):=fun wx hx=>hk.keep hx;obtain ⟨ak,ck,rfl,hk1,hk2,-⟩:=hk;unfold maxLen at hk2
 have HB:Hid (Below w.heap.size w ((w.alloc (.cells #[.slice ak ks.length ck,vp] 26)).alloc (.cells #[.string ⟨#[]⟩,.int .i64 0,.int .i64 0] 44))):=(bal).alloc (by simp) _
 have HR:Hid (((w.alloc (.cells #[.slice ak ks.length ck,vp] 26)).alloc (.cells #[.string ⟨#[]⟩,.int .i64 0,.int .i64 0] 44)).heap[w.heap.size+1]?=some (.cells #[.string ⟨#[]⟩,.int .i64 0,.int .i64 0] 44 (0,0))):=by
  have h:=Lv.heap_newF (w.alloc (.cells #[.slice ak ks.length ck,vp] 26)) (.cells #[.string ⟨#[]⟩,.int .i64 0,.int .i64 0] 44)
  rw [show (w.alloc (.cells #[.slice ak ks.length ck,vp] 26)).heap.size=w.heap.size+1 by simp] at h
  exact h
 have Q0:Hid (∀ wx:World,Below ((w.alloc (.cells #[.slice ak ks.length ck,vp] 26)).alloc (.cells #[.string ⟨#[]⟩,.int .i64 0,.int .i64 0] 44)).heap.size ((w.alloc (.cells #[.slice ak ks.length ck,vp] 26)).alloc (.cells #[.string ⟨#[]⟩,.int .i64 0,.int .i64 0] 44)) wx→wx.cell? ⟨w.heap.size,0,none⟩=some (.slice ak ks.length ck)∧wx.cell? ⟨w.heap.size,1,none⟩=some vp):=fun wx hx=>⟨cell_keep hx nlr (by simp [go_sem]),cell_keep hx nlr (by simp [go_sem])⟩
 obtain ⟨p0,p1⟩:=Q0.out _ (Below.refl _ _)
 go_enter Tryz.func134,Tryz.ntmps134
 go_wp2_with fail;generalize ((w.alloc (.cells #[.slice ak ks.length ck,vp] 26)).alloc (.cells #[.string ⟨#[]⟩,.int .i64 0,.int .i64 0] 44))=w1 at *;refine (HPK.out _ HB.out).mono ?_;rintro e w2 ⟨rfl,hb2⟩;have B2:Hid (Below w1.heap.size w1 w2):=hb2;have R2:Hid (w2.heap[w.heap.size+1]?=some (.cells #[.string ⟨#[]⟩,.int .i64 0,.int .i64 0] 44 (0,0))):=below_block hb2 HR.out;clear p0 p1 hb2 HR;obtain ⟨p0,p1⟩:=Q0.out _ B2.out;obtain ⟨a9,c9,he,-,-,hpc⟩:=HTK.out _ (below_step HB.out B2.out);obtain ⟨bP,oP,hap,d0,d1,d2⟩:=hpc _ _ (at_get hpl)
 cases he
 subst hap;clear hpc
 have hj0:(0:Int)≤((plc ks s:Nat):Int):=by omega
 have hj1:((plc ks s:Nat):Int)<(ks.length:Int):=by omega
 obtain ⟨tr,htr⟩:∃ tr,at' ks (plc ks s)=tr:=⟨_,rfl⟩;rw [htr] at d0 d1 d2 hsz;have HC:Hid (at' ks (plc ks s)=tr):=htr;clear htr;have X3:Hid ((w2.alloc (.cells #[.string tr.s,.int .i64 tr.x,.int .i64 tr.y] 44)).heap[w2.heap.size]?=some (.cells #[.string tr.s,.int .i64 tr.x,.int .i64 tr.y] 44 (0,0))):=Lv.heap_newF w2 _;have B3:Hid (Below w2.heap.size w2 (w2.alloc (.cells #[.string tr.s,.int .i64 tr.x,.int .i64 tr.y] 44))):=(bal);go_wp2_with fail;refine (clone_any tr.s _ hsz).mono ?_;rintro e w4 ⟨rfl,hb4⟩;have hX:=below_block hb4 X3.out;have hR:=below_block hb4 (below_block B3.out R2.out);have B4:Hid (Below w.heap.size w w4∧w.heap.size+1<w2.heap.size):=⟨below_step (below_step (below_step HB.out B2.out) B3.out) hb4,lt_of_block R2.out⟩;clear hb4 X3 R2 B3 B2 p0 p1 d0 d1 d2;generalize w2.heap.size=X at *
 have y0:w4.cell? ⟨X,0,none⟩=some (.string tr.s):=by simp [World.cell?,hX]
 have y1:w4.cell? ⟨X,1,none⟩=some (.int .i64 tr.x):=by simp [World.cell?,hX]
 have y2:w4.cell? ⟨X,2,none⟩=some (.int .i64 tr.y):=by simp [World.cell?,hX]
 have yf:w4.frozen? ⟨X,0,none⟩=false:=by simp [World.frozen?,hX]
 have hR5:(w4.setCell ⟨X,0,none⟩ (.string tr.s)).heap[w.heap.size+1]?=some (.cells #[.string ⟨#[]⟩,.int .i64 0,.int .i64 0] 44 (0,0)):=(Below.heap_setCell _ ⟨X,0,none⟩ _ _ (by have:=B4.out.2;simp;omega)).trans hR
 have B5:Hid (Below w.heap.size w (w4.setCell ⟨X,0,none⟩ (.string tr.s))):=B4.out.1.setCell (p:=⟨X,0,none⟩) (by have:=B4.out.2;simp;omega) _
 clear hX hR
 go_wp2_with (refine wpList_store_row rfl 44 _ _ rfl (w.heap.size+1) #[.string tr.s,.int .i64 tr.x,.int .i64 tr.y] rfl rfl 44 _ hR5 (by kernel_rfl) rfl (by simp [Value.oneCell']) ?_)
 exact bodyPost_ret (v:=.agg #[.string tr.s,.int .i64 tr.x,.int .i64 tr.y]) (by simp [results,Tryz.results134,go_sem,cell_setRow_same _ _ _ _ _ _ _ hR5]) rfl ⟨by rw [HC.out],below_setRow B5.out (by omega) _⟩
open Go.RowKit
def pv (ks:List Tri) (f:Fld) (u:Value):Value :=
 if f.what=1 then .iface 189 (.agg #[.string (at' ks (plc ks f.v)).s,.int .i64 (at' ks (plc ks f.v)).x,.int .i64 (at' ks (plc ks f.v)).y])
 else if f.what=2 then .iface 191 (.agg #[.int .i64 (tmF (cutW f.v)),.int .i64 (tmY (cutW f.v))])
 else if f.what=3 then .iface 194 (.agg #[.int .i64 (rdN f.v)])
 else if f.what=4 then .iface 197 (.agg #[u])
 else .iface 186 (.agg #[.bool (decide (f.v=closedS))])
theorem pv1 (ks:List Tri) (n:Int) (v:ByteArray) (u:Value):pv ks ⟨1,n,v⟩ u=.iface 189 (.agg #[.string (at' ks (plc ks v)).s,.int .i64 (at' ks (plc ks v)).x,.int .i64 (at' ks (plc ks v)).y]):=rfl
theorem pv2 (ks:List Tri) (n:Int) (v:ByteArray) (u:Value):pv ks ⟨2,n,v⟩ u=.iface 191 (.agg #[.int .i64 (tmF (cutW v)),.int .i64 (tmY (cutW v))]):=rfl
theorem pv3 (ks:List Tri) (n:Int) (v:ByteArray) (u:Value):pv ks ⟨3,n,v⟩ u=.iface 194 (.agg #[.int .i64 (rdN v)]):=rfl
theorem pv4 (ks:List Tri) (n:Int) (v:ByteArray) (u:Value):pv ks ⟨4,n,v⟩ u=.iface 197 (.agg #[u]):=rfl
theorem pv5 (ks:List Tri) (n:Int) (v:ByteArray) (u:Value):pv ks ⟨5,n,v⟩ u=.iface 186 (.agg #[.bool (decide (v=closedS))]):=rfl
theorem what_in {ks ps:List Tri} {f:Fld} (h:valB2 ks ps f.what f.v=true):f.what=1∨f.what=2∨f.what=3∨f.what=4∨f.what=5:=by
 unfold valB2 at h
 by_cases h1:f.what=1
 ·exact .inl h1
 by_cases h2:f.what=2
 ·exact .inr (.inl h2)
 by_cases h3:f.what=3
 ·exact .inr (.inr (.inl h3))
 by_cases h4:f.what=4
 ·exact .inr (.inr (.inr (.inl h4)))
 by_cases h5:f.what=5
 ·exact .inr (.inr (.inr (.inr h5)))
 simp [h1,h2,h3,h4,h5] at h
theorem partOf_any (vk vp:Value) (ks ps:List Tri) (f:Fld) (w:World) (hk:TrisAt w vk ks) (hf:valB2 ks ps f.what f.v=true) (hn:∀ t∈ks,t.s.size≤1048576) (hs:f.v.size≤1048576) :
  Calls Tryz.prog 121 #[.agg #[vk,vp],fldV f] w fun e w'=>∃ u,e=.returned (pv ks f u)∧(f.what=4→SNew w' w.heap.size u (cutW f.v))∧Below w.heap.size w w':=by
 obtain ⟨wh,nm,vl⟩:=f;dsimp only [fldV] at hf hs ⊢
 have HB:Hid (Below w.heap.size w ((w.alloc (.cells #[vk,vp] 26)).alloc (.cells #[.int .i64 wh,.int .i64 nm,.string vl] 94))):=(bal).alloc (by simp) _
 have HK:Hid (∀ wx:World,Below w.heap.size w wx→TrisAt wx vk ks):=fun wx hx=>hk.keep hx
 have p0:((w.alloc (.cells #[vk,vp] 26)).alloc (.cells #[.int .i64 wh,.int .i64 nm,.string vl] 94)).cell? ⟨w.heap.size,0,none⟩=some vk:=by simp [go_sem]
 have p1:((w.alloc (.cells #[vk,vp] 26)).alloc (.cells #[.int .i64 wh,.int .i64 nm,.string vl] 94)).cell? ⟨w.heap.size,1,none⟩=some vp:=by simp [go_sem]
 have p2:((w.alloc (.cells #[vk,vp] 26)).alloc (.cells #[.int .i64 wh,.int .i64 nm,.string vl] 94)).cell? ⟨w.heap.size+1,0,none⟩=some (.int .i64 wh):=by simp [go_sem]
 have p3:((w.alloc (.cells #[vk,vp] 26)).alloc (.cells #[.int .i64 wh,.int .i64 nm,.string vl] 94)).cell? ⟨w.heap.size+1,2,none⟩=some (.string vl):=by simp [go_sem]
 clear hk
 rcases what_in (f:=⟨wh,nm,vl⟩) hf with h | h | h | h | h
 ·dsimp only at h
  subst h
  simp only [pv1]
  have hb:hasB ks vl=true:=by simpa [valB2] using hf
  go_enter Tryz.func121,Tryz.ntmps121
  go_wp2_with fail;generalize ((w.alloc (.cells #[vk,vp] 26)).alloc (.cells #[.int .i64 1,.int .i64 nm,.string vl] 94))=w1 at *;refine (kindOf_any vk vp ks vl _ (HK.out _ HB.out) hb hn).mono ?_;rintro e w2 ⟨rfl,hb2⟩;go_wp2;go_ret
  exact ⟨.slice none 0 0,rfl,fun h=>absurd h (by decide),below_step HB.out hb2⟩
 ·dsimp only at h
  subst h
  simp only [pv2]
  go_enter Tryz.func121,Tryz.ntmps121
  go_wp2_with fail;generalize ((w.alloc (.cells #[vk,vp] 26)).alloc (.cells #[.int .i64 2,.int .i64 nm,.string vl] 94))=w1 at *;refine (readTimes_any vl _ hs).mono ?_;rintro e w2 ⟨rfl,hb2⟩;go_wp2;go_ret
  exact ⟨.slice none 0 0,rfl,fun h=>absurd h (by decide),below_step HB.out hb2⟩
 ·dsimp only at h
  subst h
  simp only [pv3]
  have HRD:Hid (∀ wx:World,Calls Tryz.prog 136 #[.string vl] wx fun e w'=>e=.returned (.tuple #[.int .i64 (rdN vl),.bool (decB vl)])∧Below wx.heap.size wx w'):=fun wx=>readDecimal_any vl wx (by unfold maxLen;omega)
  go_enter Tryz.func121,Tryz.ntmps121
  go_wp2_with fail;generalize ((w.alloc (.cells #[vk,vp] 26)).alloc (.cells #[.int .i64 3,.int .i64 nm,.string vl] 94))=w1 at *;refine (HRD.out _).mono ?_;rintro e w2 ⟨rfl,hb2⟩;go_wp2;go_ret
  exact ⟨.slice none 0 0,rfl,fun h=>absurd h (by decide),below_step HB.out hb2⟩
 ·dsimp only at h
  subst h
  simp only [pv4]
  go_enter Tryz.func121,Tryz.ntmps121
  go_wp2_with fail;generalize ((w.alloc (.cells #[vk,vp] 26)).alloc (.cells #[.int .i64 4,.int .i64 nm,.string vl] 94))=w1 at *;refine (copyWords_any vl _ hs).mono ?_;rintro e w2 ⟨u,rfl,hu,hb2⟩;obtain ⟨a,c,rfl⟩:=Lv.own_slice hu;have hz:=HB.out.size
  have HU:Hid (SNew w2 w.heap.size (.slice a (cutW vl).length c) (cutW vl)):=by
   refine ⟨hu.1,?_⟩
   rcases hu.2 with h2 | ⟨g,cap,cur,hv,hg,rest⟩
   ·exact .inl h2
   ·exact .inr ⟨g,cap,cur,hv,by omega,rest⟩
  clear hu;go_wp2;go_ret;exact ⟨_,rfl,fun _=>HU.out,below_step HB.out hb2⟩
 ·dsimp only at h
  subst h
  simp only [pv5]
  have hcl:(vl.toList==[99,108,111,115,101,100])=decide (vl=closedS):=by
   have hcs:closedS.toList=[99,108,111,115,101,100]:=by rw [ByteArray.toList_eq];rfl
   rw [← hcs]
   by_cases h:vl=closedS
   ·rw [decide_eq_true h];exact str_eq h
   ·rw [decide_eq_false h];exact str_ne h
  go_enter Tryz.func121,Tryz.ntmps121
  go_wp2
  all_goals (go_ret;exact ⟨.slice none 0 0,rfl,fun h=>absurd h (by decide),HB.out⟩)
open Go.RowKit
theorem pv_iface (ks:List Tri) (f:Fld) (u:Value):∃ T q,pv ks f u=.iface T q:=by
 unfold pv;split;exact ⟨_,_,rfl⟩;split;exact ⟨_,_,rfl⟩;split;exact ⟨_,_,rfl⟩;split;exact ⟨_,_,rfl⟩;exact ⟨_,_,rfl⟩
structure KeptS (w w':World) (S:Nat→Prop):Prop where
 os:w'.os=w.os
 tape:w'.tape=w.tape
 output:w'.output=w.output
 size:w.heap.size≤w'.heap.size
 block:∀ j,j<w.heap.size→¬ S j→w'.heap[j]?=w.heap[j]?
theorem KeptS.below {B:Nat} {w w0 w':World} {S:Nat→Prop} (h0:Below B w0 w) (h:KeptS w w' S) (hB:B≤w.heap.size) (hS:∀ j,S j→B≤j):Below B w0 w' :=
 ⟨h.os.trans h0.os,h.tape.trans h0.tape,h.output.trans h0.output,Nat.le_trans h0.size h.size,fun k hk=>(h.block k (by omega) (fun hs=>by have:=hS k hs;omega)).trans (h0.block k hk)⟩
theorem own_keptS {w w':World} {S:Nat→Prop} {base:Nat} {e:TypeId} {size:Nat} {v:Value} {n:Nat} {xs:List Value} (h:w.ownsRow base e size v n xs) (hk:KeptS w w' S) (hs:∀ k,v.ownBlock=some k→¬ S k):w'.ownsRow base e size v n xs:=by
 refine ⟨h.1,?_⟩
 rcases h.2 with h2 | ⟨g,cap,cur,hv,hb,hc,rest⟩
 ·exact .inl h2
 ·exact .inr ⟨g,cap,cur,hv,hb,(hk.block g (Array.getElem?_eq_some_iff.1 hc).1 (hs g (by rw [hv];rfl))).trans hc,rest⟩
theorem own_type {w:World} {base:Nat} {e:TypeId} {size:Nat} {v:Value} {n:Nat} {xs:List Value} {B:Nat} {C:Array Value} {t:TypeId} (h:w.ownsRow base e size v n xs) (hB:w.heap[B]?=some (.cells C t (0,0))) (hne:e≠t):some B≠v.ownBlock:=by
 rcases h.2 with ⟨rfl,_⟩ | ⟨g,cap,cur,rfl,hg,hc,_⟩
 ·intro e;cases e
 ·intro e
  simp only [Value.ownBlock,Option.some.injEq] at e
  subst e;rw [hc] at hB
  simp at hB
  exact hne hB.2
theorem two_setCell {w:World} {b:Nat} {v u x:Value} {t:TypeId} (h:w.heap[b]?=some (.cells #[v,u] t (0,0))):(w.setCell ⟨b,0,none⟩ x).heap[b]?=some (.cells #[x,u] t (0,0)):=by
 have hlt:=lt_of_block h
 have h':w.heap[b]=.cells #[v,u] t (0,0):=by simpa [Array.getElem?_eq_getElem hlt] using h
 show (w.heap.modify b _)[b]?=_
 rw [Array.getElem?_eq_getElem (by simpa using hlt),Array.getElem_modify_self,h']
 rfl
theorem _root_.Go.Proofs.YtbjmgglpiakgdaaGreatDoor.Lv.grown_setD (w:World) (b:Nat) (v:Value):w.grownBy (w.setCell ⟨b,0,none⟩ v) (some b) :=
 ⟨rfl,rfl,rfl,by simp,fun j _ hr=>Below.heap_setCell w ⟨b,0,none⟩ v j (fun e=>hr (by rw [e]))⟩
theorem infoPart:(Tryz.prog.info? 180).map (fun i=>(i.zero,i.size,i.bytes))=some (some .nilIface,1,16):=by kernel_rfl
theorem add_any (D B n:Nat) (v nm q:Value) (T:TypeId) (xs:List Value) (w:World) (hD:w.heap[D]?=some (.cells #[v,nm] 151 (0,0))) (hown:w.ownsRow B 180 1 v n xs) (hn:n≤1048576) (hB:B≤w.heap.size) :
  Calls Tryz.prog 120 #[.pointer (some ⟨D,0,none⟩),.iface T q] w fun e w'=>e=.returned (.tuple #[])∧∃ v',w'.heap[D]?=some (.cells #[v',nm] 151 (0,0))∧w'.ownsRow B 180 1 v' (n+1) (xs++[.iface T q])∧KeptS w w' (fun j=>j=D∨some j=v.ownBlock)∧(v'.ownBlock=v.ownBlock ∨ ∃ z,v'.ownBlock=some z∧w.heap.size≤z):=by
 obtain ⟨i0,hi0,hz0,hz1,hz2⟩:=info_parts infoPart;obtain ⟨a,c,rfl⟩:=Lv.own_slice hown;obtain ⟨d0,d1⟩:=cell_two hD;have hDl:=lt_of_block hD;have HAL:Hid (Below w.heap.size w (w.alloc (.cells #[.iface T q] 180))):=(bal)
 have HDK:Hid (∀ wx:World,(w.alloc (.cells #[.iface T q] 180)).grownBy wx (Value.slice a n c).ownBlock→wx.heap[D]?=some (.cells #[.slice a n c,nm] 151 (0,0))):=fun wx hx=>by
  have h:=below_block HAL.out hD
  exact (hx.block D (lt_of_block h) (own_type (Lv.own_keep hown HAL.out) h (by decide))).trans h
 have HOW:Hid (w.ownsRow B 180 1 (.slice a n c) n xs):=hown
 go_enter Tryz.func120,Tryz.ntmps120
 go_wp2_with (at_builtin;refine wpList_append_any _ rfl _ _ 147 rfl B 180 i0 _ 1 16 Tryz.underlying147 hi0 hz0 hz1 hz2 rfl (by decide) _ n _ rfl (Lv.own_keep hown (bal)) _ 1 1 [.iface T q] rfl (.inr ⟨_,rfl,World.news_of_block (Lv.heap_newF w (.cells #[.iface T q] 180))⟩) rfl (fun u hu=>by simp at hu;subst hu;rfl) (by unfold maxLen;omega) (by omega) (by simp;omega) ?_;intro vq wx hq hgrow hat;have hdx:=HDK.out wx hgrow;have e0:wx.cell? ⟨D,0,none⟩=some (.slice a n c):=(by simp [World.cell?,hdx]);have f0:wx.frozen? ⟨D,0,none⟩=false:=(by simp [World.frozen?,hdx]);obtain ⟨qa,qc,rfl⟩:=Lv.own_slice hq)
 have hdx:=HDK.out wx hgrow;have hg1:=hgrow.size;have hal:=HAL.out.size
 go_end0
 refine ⟨rfl,_,?_,Lv.own_far hq (Lv.grown_setD wx D _) (fun k hk e=>?_),⟨?_,?_,?_,?_,fun j hj hs=>?_⟩,?_⟩
 ·exact two_setCell hdx
 ·exact own_type hq hdx (by decide) (by rw [hk,e])
 ·exact hgrow.1.trans HAL.out.1
 ·exact hgrow.2.trans HAL.out.2
 ·exact hgrow.3.trans HAL.out.3
 ·simp;omega
 ·refine (Below.heap_setCell _ ⟨D,0,none⟩ _ j (fun e=>hs (.inl e))).trans ?_
  exact (hgrow.block j (by simp;omega) (fun e=>hs (.inr e))).trans (HAL.out.block j hj)
 ·rcases hat with e | e
  ·exact .inl e
  ·exact .inr ⟨_,e,by simp⟩
open Go.RowKit
def PartsNew (w:World) (B:Nat) (v:Value) (ks:List Tri) (fs:List Fld):Prop :=
 ∃ us:List Value,us.length=fs.length∧w.ownsRow B 180 1 v fs.length (List.zipWith (pv ks) fs us)∧∀ (i:Nat) (f:Fld) (u:Value),fs[i]?=some f→us[i]?=some u→f.what=4→SNew w B u (cutW f.v)
theorem PartsNew.keep {w w':World} {B:Nat} {v:Value} {ks:List Tri} {fs:List Fld} (h:PartsNew w B v ks fs) (hb:Below w.heap.size w w'):PartsNew w' B v ks fs:=by
 obtain ⟨us,h1,h2,h3⟩:=h;exact ⟨us,h1,Lv.own_keep h2 hb,fun i f u hf hu h4=>Lv.own_keep (h3 i f u hf hu h4) hb⟩
theorem PartsNew.slice {w:World} {B:Nat} {v:Value} {ks:List Tri} {fs:List Fld} (h:PartsNew w B v ks fs):∃ a c,v=.slice a fs.length c:=by
 obtain ⟨us,h1,h2,h3⟩:=h;exact Lv.own_slice h2
theorem grown_rowS (w:World) (g:Nat) (cs:Array Value):w.grownBy (w.setRow g cs) (some g):=⟨rfl,rfl,rfl,by simp,fun k _ hk=>setRow_other _ _ _ _ (fun e=>hk (by rw [e]))⟩
theorem zip_snoc (ks:List Tri):∀ (fs:List Fld) (us:List Value) (f:Fld) (u:Value),us.length=fs.length→List.zipWith (pv ks) (fs++[f]) (us++[u])=List.zipWith (pv ks) fs us++[pv ks f u]
 | [],[],f,u,_=>rfl
 | [],_::_,f,u,h=>by simp at h
 | _::_,[],f,u,h=>by simp at h
 | a::fs,b::us,f,u,h=>by simp [zip_snoc ks fs us f u (by simpa using h)]
theorem SNew.mono {w:World} {B B':Nat} {v:Value} {l:List ByteArray} (h:SNew w B v l) (hb:B'≤B):SNew w B' v l:=by
 refine ⟨h.1,?_⟩
 rcases h.2 with h2 | ⟨g,cap,cur,hv,hg,rest⟩
 ·exact .inl h2
 ·exact .inr ⟨g,cap,cur,hv,by omega,rest⟩
theorem PartsNew.snoc {w w':World} {B D:Nat} {v v':Value} {ks:List Tri} {fs:List Fld} {f:Fld} {u:Value} {us:List Value} (h1:us.length=fs.length)
  (h3:∀ (i:Nat) (f:Fld) (u:Value),fs[i]?=some f→us[i]?=some u→f.what=4→SNew w B u (cutW f.v)) (hu:f.what=4→SNew w B u (cutW f.v))
  (hD:w.heap[D]?=some (.cells #[v,.string ⟨#[]⟩] 151 (0,0)) ∨ ∃ nm,w.heap[D]?=some (.cells #[v,nm] 151 (0,0))) (hown:w.ownsRow B 180 1 v fs.length (List.zipWith (pv ks) fs us))
  (hk:KeptS w w' (fun j=>j=D∨some j=v.ownBlock)) (hn:w'.ownsRow B 180 1 v' (fs.length+1) (List.zipWith (pv ks) fs us++[pv ks f u])):PartsNew w' B v' ks (fs++[f]):=by
 have hDD:∃ nm,w.heap[D]?=some (.cells #[v,nm] 151 (0,0)):=by
  rcases hD with h | h
  ·exact ⟨_,h⟩
  ·exact h
 obtain ⟨nm,hDD⟩:=hDD
 have far:∀ (x:Value) (l:List ByteArray),SNew w B x l→SNew w' B x l:=fun x l hx=>by
  refine own_keptS hx hk (fun k hk' hs=>?_)
  rcases hs with rfl | hs
  ·exact own_type hx hDD (by decide) hk'.symm
  ·rcases hx.2 with ⟨rfl,_⟩ | ⟨g,cap,cur,rfl,hg,hc,_⟩
   ·cases hk'
   ·simp only [Value.ownBlock,Option.some.injEq] at hk'
    subst hk'
    exact own_type hown hc (by decide) hs
 refine ⟨us++[u],by simp [h1],?_,fun i f' u' hf hu' h4=>?_⟩
 ·rw [zip_snoc ks fs us f u h1,List.length_append]
  exact hn
 ·by_cases hi:i<fs.length
  ·rw [List.getElem?_append_left hi] at hf
   rw [List.getElem?_append_left (by omega)] at hu'
   exact far _ _ (h3 i f' u' hf hu' h4)
  ·rw [List.getElem?_append_right (by omega)] at hf
   rw [List.getElem?_append_right (by omega),h1] at hu'
   have hi0:i-fs.length=0:=by
    have:=(List.getElem?_eq_some_iff.1 hf).1
    simp at this;omega
   rw [hi0] at hf hu'
   simp at hf hu'
   subst hf hu';exact far _ _ (hu h4)
theorem draftOf_any (vk vp fv:Value) (ks ps:List Tri) (nm:ByteArray) (fs:List Fld) (w:World) (hk:TrisAt w vk ks) (hf:FldsAt w fv fs) (hfit:∀ f∈fs,valB2 ks ps f.what f.v=true∧f.v.size≤1048576) (hn:∀ t∈ks,t.s.size≤1048576) (hl:fs.length≤1048576) :
  Calls Tryz.prog 93 #[.agg #[vk,vp],.agg #[.string nm,fv]] w fun e w'=>∃ v,e=.returned (.agg #[v,.string nm])∧PartsNew w' w.heap.size v ks fs∧Below w.heap.size w w':=by
 have HK:Hid (∀ wx:World,Below w.heap.size w wx→TrisAt wx vk ks):=fun wx hx=>hk.keep hx;have HF:Hid (∀ wx:World,Below w.heap.size w wx→FldsAt wx fv fs):=fun wx hx=>hf.keep hx;have HFT:Hid (∀ f∈fs,valB2 ks ps f.what f.v=true∧f.v.size≤1048576):=hfit;have HNK:Hid (∀ t∈ks,t.s.size≤1048576):=hn;obtain ⟨af,cf,rfl,hf1,hf2,-⟩:=hf;unfold maxLen at hf2
 have HB:Hid (Below w.heap.size w ((((w.alloc (.cells #[vk,vp] 26)).alloc (.cells #[.string nm,.slice af fs.length cf] 52)).alloc (.cells #[.slice none 0 0,.string ⟨#[]⟩] 151)).alloc (.cells #[.slice none 0 0,.string nm] 151))):=(((bal).alloc (by simp) _).alloc (by simp;omega) _).alloc (by simp;omega) _
 have HZ:Hid (((((w.alloc (.cells #[vk,vp] 26)).alloc (.cells #[.string nm,.slice af fs.length cf] 52)).alloc (.cells #[.slice none 0 0,.string ⟨#[]⟩] 151)).alloc (.cells #[.slice none 0 0,.string nm] 151)).heap.size=w.heap.size+4):=by show _=_;simp
 have HD:Hid (((((w.alloc (.cells #[vk,vp] 26)).alloc (.cells #[.string nm,.slice af fs.length cf] 52)).alloc (.cells #[.slice none 0 0,.string ⟨#[]⟩] 151)).alloc (.cells #[.slice none 0 0,.string nm] 151)).heap[w.heap.size+3]?=some (.cells #[.slice none 0 0,.string nm] 151 (0,0))):=by
  have h:=Lv.heap_newF (((w.alloc (.cells #[vk,vp] 26)).alloc (.cells #[.string nm,.slice af fs.length cf] 52)).alloc (.cells #[.slice none 0 0,.string ⟨#[]⟩] 151)) (.cells #[.slice none 0 0,.string nm] 151)
  rw [show (((w.alloc (.cells #[vk,vp] 26)).alloc (.cells #[.string nm,.slice af fs.length cf] 52)).alloc (.cells #[.slice none 0 0,.string ⟨#[]⟩] 151)).heap.size=w.heap.size+3 by simp] at h
  exact h
 have HR:Hid (((((w.alloc (.cells #[vk,vp] 26)).alloc (.cells #[.string nm,.slice af fs.length cf] 52)).alloc (.cells #[.slice none 0 0,.string ⟨#[]⟩] 151)).alloc (.cells #[.slice none 0 0,.string nm] 151)).heap[w.heap.size+2]?=some (.cells #[.slice none 0 0,.string ⟨#[]⟩] 151 (0,0))):=by
  have h:=Lv.heap_newF ((w.alloc (.cells #[vk,vp] 26)).alloc (.cells #[.string nm,.slice af fs.length cf] 52)) (.cells #[.slice none 0 0,.string ⟨#[]⟩] 151)
  rw [show ((w.alloc (.cells #[vk,vp] 26)).alloc (.cells #[.string nm,.slice af fs.length cf] 52)).heap.size=w.heap.size+2 by simp] at h
  exact below_block (bal) h
 have Q0:Hid (((((w.alloc (.cells #[vk,vp] 26)).alloc (.cells #[.string nm,.slice af fs.length cf] 52)).alloc (.cells #[.slice none 0 0,.string ⟨#[]⟩] 151)).alloc (.cells #[.slice none 0 0,.string nm] 151)).cell? ⟨w.heap.size,0,none⟩=some vk∧((((w.alloc (.cells #[vk,vp] 26)).alloc (.cells #[.string nm,.slice af fs.length cf] 52)).alloc (.cells #[.slice none 0 0,.string ⟨#[]⟩] 151)).alloc (.cells #[.slice none 0 0,.string nm] 151)).cell? ⟨w.heap.size,1,none⟩=some vp):=⟨by simp [go_sem],by simp [go_sem]⟩
 have q2:((((w.alloc (.cells #[vk,vp] 26)).alloc (.cells #[.string nm,.slice af fs.length cf] 52)).alloc (.cells #[.slice none 0 0,.string ⟨#[]⟩] 151)).alloc (.cells #[.slice none 0 0,.string nm] 151)).cell? ⟨w.heap.size+1,0,none⟩=some (.string nm):=by simp [go_sem]
 have q3:((((w.alloc (.cells #[vk,vp] 26)).alloc (.cells #[.string nm,.slice af fs.length cf] 52)).alloc (.cells #[.slice none 0 0,.string ⟨#[]⟩] 151)).alloc (.cells #[.slice none 0 0,.string nm] 151)).cell? ⟨w.heap.size+1,1,none⟩=some (.slice af fs.length cf):=by simp [go_sem]
 clear hk hfit hn
 go_enter Tryz.func93,Tryz.ntmps93
 go_wp2_with fail;generalize ((((w.alloc (.cells #[vk,vp] 26)).alloc (.cells #[.string nm,.slice af fs.length cf] 52)).alloc (.cells #[.slice none 0 0,.string ⟨#[]⟩] 151)).alloc (.cells #[.slice none 0 0,.string nm] 151))=w1 at *;clear q2 q3
 go_loopw [14] (fun i wr=>∃ (k:Nat) (v:Value),k≤fs.length∧i=.int .i64 k∧Hid (wr.heap[w.heap.size+3]?=some (.cells #[v,.string nm] 151 (0,0))∧PartsNew wr (w.heap.size+4) v ks (fs.take k)∧Below (w.heap.size+3) w1 wr∧w.heap.size+4≤wr.heap.size)) (fun i _=>fs.length-(intOf i).toNat)
 case atStart=>exact ⟨0,_,Nat.zero_le _,rfl,HD.out,⟨[],rfl,⟨rfl,.inl ⟨rfl,rfl⟩⟩,fun i f u hf=>by simp at hf⟩,Below.refl _ _,by have:=HZ.out;omega⟩
 case round =>
  obtain ⟨k,v,hk,rfl,HI⟩:=hrel
  have BW:Hid (Below w.heap.size w wr):=HB.out.trans (HI.out.2.2.1.mono (by omega))
  by_cases hlt:k<fs.length
  ·obtain ⟨af',cf',he,-,-,hfc⟩:=HF.out _ BW.out
   obtain ⟨b,off,hap,d0,d1,d2⟩:=hfc k _ (fat_get hlt)
   cases he
   subst hap;clear hfc;have hft:=HFT.out _ (List.mem_of_getElem? (fat_get hlt))
   have HTS:Hid (fs.take (k+1)=fs.take k++[fat fs k]):=by
    show _=_
    rw [List.take_succ_eq_append_getElem hlt]
    simp [fat,hlt]
   have HTL:Hid ((fs.take k).length=k):=by show _=_;rw [List.length_take];omega
   generalize fat fs k=f at *;obtain ⟨hft1,hft2⟩:=hft
   have hk0:(0:Int)≤(k:Int):=by omega
   have hk1:(k:Int)<(fs.length:Int):=by omega
   have AL:Hid (Below wr.heap.size wr (wr.alloc (.cells #[.int .i64 f.what,.int .i64 f.num,.string f.v] 94))):=(bal)
   have I1:Hid ((wr.alloc (.cells #[.int .i64 f.what,.int .i64 f.num,.string f.v] 94)).heap[w.heap.size+3]?=some (.cells #[v,.string nm] 151 (0,0))∧PartsNew (wr.alloc (.cells #[.int .i64 f.what,.int .i64 f.num,.string f.v] 94)) (w.heap.size+4) v ks (fs.take k)∧Below (w.heap.size+3) w1 (wr.alloc (.cells #[.int .i64 f.what,.int .i64 f.num,.string f.v] 94))∧w.heap.size+4≤(wr.alloc (.cells #[.int .i64 f.what,.int .i64 f.num,.string f.v] 94)).heap.size):=⟨below_block AL.out HI.out.1,HI.out.2.1.keep AL.out,HI.out.2.2.1.trans (AL.out.mono (by have:=HI.out.2.2.2;omega)),Nat.le_trans HI.out.2.2.2 AL.out.size⟩
   have p0:(wr.alloc (.cells #[.int .i64 f.what,.int .i64 f.num,.string f.v] 94)).cell? ⟨w.heap.size,0,none⟩=some vk:=(I1.out.2.2.1.cell (p:=⟨w.heap.size,0,none⟩) (by show w.heap.size<_;omega)).trans Q0.out.1
   have p1:(wr.alloc (.cells #[.int .i64 f.what,.int .i64 f.num,.string f.v] 94)).cell? ⟨w.heap.size,1,none⟩=some vp:=(I1.out.2.2.1.cell (p:=⟨w.heap.size,1,none⟩) (by show w.heap.size<_;omega)).trans Q0.out.2
   clear HI;go_wp2_with fail;refine (partOf_any vk vp ks ps f _ (HK.out _ (below_step BW.out AL.out)) hft1 HNK.out hft2).mono ?_;rintro e w2 ⟨u,rfl,hu,hb2⟩
   have I2:Hid (w2.heap[w.heap.size+3]?=some (.cells #[v,.string nm] 151 (0,0))∧PartsNew w2 (w.heap.size+4) v ks (fs.take k)∧Below (w.heap.size+3) w1 w2∧w.heap.size+4≤w2.heap.size):=⟨below_block hb2 I1.out.1,I1.out.2.1.keep hb2,I1.out.2.2.1.trans (hb2.mono (by have:=I1.out.2.2.2;omega)),Nat.le_trans I1.out.2.2.2 hb2.size⟩
   have HU:Hid (f.what=4→SNew w2 (w.heap.size+4) u (cutW f.v)):=fun h4=>SNew.mono (hu h4) I1.out.2.2.2;obtain ⟨T,q,hTq⟩:=pv_iface ks f u;have HTQ:Hid (pv ks f u=.iface T q):=hTq;rw [hTq];clear hTq hu hb2 I1 p0 p1 d0 d1 d2 AL;obtain ⟨us,hus,hown,hstr⟩:=I2.out.2.1;have HOW:Hid (w2.ownsRow (w.heap.size+4) 180 1 v (fs.take k).length (List.zipWith (pv ks) (fs.take k) us)):=hown;have HSTR:Hid (∀ (i:Nat) (f:Fld) (u:Value),(fs.take k)[i]?=some f→us[i]?=some u→f.what=4→SNew w2 (w.heap.size+4) u (cutW f.v)):=hstr;clear hown hstr;go_wp2_with fail
   refine (add_any (w.heap.size+3) (w.heap.size+4) (fs.take k).length v (.string nm) q T _ w2 I2.out.1 HOW.out (by rw [HTL.out];omega) I2.out.2.2.2).mono ?_
   rintro e w3 ⟨rfl,v',hD',hown',hK,-⟩
   have HN:Hid (w3.heap[w.heap.size+3]?=some (.cells #[v',.string nm] 151 (0,0))∧PartsNew w3 (w.heap.size+4) v' ks (fs.take (k+1))∧Below (w.heap.size+3) w1 w3∧w.heap.size+4≤w3.heap.size):=by
    refine ⟨hD',?_,KeptS.below I2.out.2.2.1 hK (by have:=I2.out.2.2.2;omega) (fun j hj=>?_),Nat.le_trans I2.out.2.2.2 hK.size⟩
    ·rw [HTS.out]
     exact PartsNew.snoc hus HSTR.out HU.out (.inr ⟨_,I2.out.1⟩) HOW.out hK (by rw [HTQ.out];exact hown')
    ·rcases hj with rfl | hj
     ·exact Nat.le_refl _
     ·have:=Lv.own_ge HOW.out j hj.symm
      omega
   clear hD' hown' hK I2 HOW HSTR HU;go_wp2_with fail
   exact ⟨⟨k+1,v',by omega,by go_num,HN⟩,by simp [intOf];omega⟩
  ·have HF2:Hid (fs.take k=fs):=List.take_of_length_le (by omega)
   obtain ⟨e0,e1⟩:=cell_two HI.out.1
   have hR:wr.heap[w.heap.size+2]?=some (.cells #[.slice none 0 0,.string ⟨#[]⟩] 151 (0,0)):=(HI.out.2.2.1.block _ (by omega)).trans HR.out
   obtain ⟨av,cv,hav⟩:=HI.out.2.1.slice
   rw [show (fs.take k).length=k by rw [List.length_take];omega] at hav
   subst hav
   go_wp2_with (refine wpList_store_row rfl 151 _ _ rfl (w.heap.size+2) #[.slice av k cv,.string nm] rfl rfl 151 _ hR (by kernel_rfl) rfl (by simp [Value.oneCell']) ?_)
   refine bodyPost_ret (v:=.agg #[.slice av k cv,.string nm]) (by simp [results,Tryz.results93,go_sem,cell_setRow_same _ _ _ _ _ _ _ hR]) rfl ⟨_,rfl,?_,below_setRow BW.out (by omega) _⟩
   have h:=HI.out.2.1;rw [HF2.out] at h;obtain ⟨us,h1,h2,h3⟩:=h
   have far:∀ {e:TypeId} {x:Value} {n:Nat} {xs:List Value},wr.ownsRow (w.heap.size+4) e 1 x n xs→(wr.setRow (w.heap.size+2) #[.slice av k cv,.string nm]).ownsRow w.heap.size e 1 x n xs:=fun {e x n xs} hx=>by
    have hx2:=Lv.own_far hx (grown_rowS wr (w.heap.size+2) #[.slice av k cv,.string nm]) (fun q hq e=>by have:=Lv.own_ge hx q hq;injection e;omega)
    refine ⟨hx2.1,?_⟩
    rcases hx2.2 with h2 | ⟨g,cap,cur,hv,hg,rest⟩
    ·exact .inl h2
    ·exact .inr ⟨g,cap,cur,hv,by omega,rest⟩
   exact ⟨us,h1,far h2,fun i f u hf hu h4=>far (h3 i f u hf hu h4)⟩
open Go.RowKit
theorem PartsNew.cells {w:World} {B:Nat} {v:Value} {ks:List Tri} {fs:List Fld} (h:PartsNew w B v ks fs):∃ a c,v=.slice a fs.length c∧fs.length≤c∧c≤maxLen∧∀ i,i<fs.length→∃ g u,a=some ⟨g,0,none⟩∧w.cell? ⟨g,i,none⟩=some (pv ks (fat fs i) u)∧((fat fs i).what=4→SNew w B u (cutW (fat fs i).v)):=by
 obtain ⟨us,h1,⟨h2,h3⟩,h4⟩:=h
 rcases h3 with ⟨rfl,h0⟩ | ⟨g,cap,cur,rfl,hB,hb,hn,hc,hs,ht⟩
 ·exact ⟨none,0,by rw [h0],by omega,Nat.zero_le _,fun i hi=>by omega⟩
 ·refine ⟨_,cap,rfl,hn,hc,fun i hi=>⟨g,us.getD i (.slice none 0 0),rfl,?_,fun hw=>?_⟩⟩
  ·have hu:us[i]?=some (us.getD i (.slice none 0 0)):=by simp [show i<us.length by omega]
   have hz:(List.zipWith (pv ks) fs us)[i]?=some (pv ks (fat fs i) (us.getD i (.slice none 0 0))):=by
    rw [List.getElem?_zipWith,fat_get hi,hu]
   rw [← ht,List.getElem?_take,if_pos (by omega)] at hz
   simp only [World.cell?,hb,Option.isSome_none,Bool.false_eq_true,if_false]
   simpa using hz
  ·exact h4 i _ _ (fat_get hi) (by simp [show i<us.length by omega]) hw
def saidB (fs:List Fld) (what:Int):Bool:=!allB fs.length fun i=>!decide ((fat fs i).what=what)
theorem saidB_true {fs:List Fld} {what:Int} {k:Nat} (hk:k<fs.length) (h:(fat fs k).what=what):saidB fs what=true:=by
 unfold saidB;rw [allB_false hk (by simp [h])];rfl
theorem saidB_false {fs:List Fld} {what:Int} (h:∀ j,j<fs.length→¬ (fat fs j).what=what):saidB fs what=false:=by
 unfold saidB;rw [allB_true fun j hj=>by simp [h j hj]];rfl
theorem mw1 (a b c:Value):∀ w:World,(method 363 189 (.agg #[a,b, c]) "loop.example/lapplan/impl.what").run Tryz.prog w=.ok (182,.agg #[a,b,c]) w:=fun _=>by kernel_rfl
theorem what1_any (a b c:Value) (w:World):Calls Tryz.prog 182 #[.agg #[a,b,c]] w fun e w'=>e=.returned (.int .i64 1)∧Below w.heap.size w w':=by
 have HB:Hid (Below w.heap.size w (w.alloc (.cells #[a,b,c] 189))):=(bal)
 go_enter Tryz.func182,Tryz.ntmps182
 go_wp2;go_ret;exact ⟨rfl,HB.out⟩
theorem mw2 (a b:Value):∀ w:World,(method 363 191 (.agg #[a, b]) "loop.example/lapplan/impl.what").run Tryz.prog w=.ok (183,.agg #[a,b]) w:=fun _=>by kernel_rfl
theorem what2_any (a b:Value) (w:World):Calls Tryz.prog 183 #[.agg #[a,b]] w fun e w'=>e=.returned (.int .i64 2)∧Below w.heap.size w w':=by
 have HB:Hid (Below w.heap.size w (w.alloc (.cells #[a,b] 191))):=(bal)
 go_enter Tryz.func183,Tryz.ntmps183
 go_wp2;go_ret;exact ⟨rfl,HB.out⟩
theorem mw3 (a:Value):∀ w:World,(method 363 194 (.agg #[a]) "loop.example/lapplan/impl.what").run Tryz.prog w=.ok (184,.agg #[a]) w:=fun _=>by kernel_rfl
theorem what3_any (a:Value) (w:World):Calls Tryz.prog 184 #[.agg #[a]] w fun e w'=>e=.returned (.int .i64 3)∧Below w.heap.size w w':=by
 have HB:Hid (Below w.heap.size w (w.alloc (.cells #[a] 194))):=(bal)
 go_enter Tryz.func184,Tryz.ntmps184
 go_wp2;go_ret;exact ⟨rfl,HB.out⟩
theorem mw4 (a:Value):∀ w:World,(method 363 197 (.agg #[a]) "loop.example/lapplan/impl.what").run Tryz.prog w=.ok (185,.agg #[a]) w:=fun _=>by kernel_rfl
theorem what4_any (a:Value) (w:World):Calls Tryz.prog 185 #[.agg #[a]] w fun e w'=>e=.returned (.int .i64 4)∧Below w.heap.size w w':=by
 have HB:Hid (Below w.heap.size w (w.alloc (.cells #[a] 197))):=(bal)
 go_enter Tryz.func185,Tryz.ntmps185
 go_wp2;go_ret;exact ⟨rfl,HB.out⟩
theorem mw5 (a:Value):∀ w:World,(method 363 186 (.agg #[a]) "loop.example/lapplan/impl.what").run Tryz.prog w=.ok (181,.agg #[a]) w:=fun _=>by kernel_rfl
theorem what5_any (a:Value) (w:World):Calls Tryz.prog 181 #[.agg #[a]] w fun e w'=>e=.returned (.int .i64 5)∧Below w.heap.size w w':=by
 have HB:Hid (Below w.heap.size w (w.alloc (.cells #[a] 186))):=(bal)
 go_enter Tryz.func181,Tryz.ntmps181
 go_wp2;go_ret;exact ⟨rfl,HB.out⟩
theorem has_any (D B:Nat) (v nm:Value) (ks ps:List Tri) (fs:List Fld) (what:Int) (w:World) (hD:w.heap[D]?=some (.cells #[v,nm] 151 (0,0))) (hP:PartsNew w B v ks fs) (hfit:∀ f∈fs,valB2 ks ps f.what f.v=true) :
  Calls Tryz.prog 122 #[.pointer (some ⟨D,0,none⟩),.int .i64 what] w fun e w'=>e=.returned (.bool (saidB fs what))∧Below w.heap.size w w':=by
 obtain ⟨a,c,rfl,hlc,hcm,hc⟩:=hP.cells;unfold maxLen at hcm;obtain ⟨d0,d1⟩:=cell_two hD
 have HC:Hid (∀ i,i<fs.length→∃ g u,a=some ⟨g,0,none⟩∧w.cell? ⟨g,i,none⟩=some (pv ks (fat fs i) u)):=fun i hi=>by
  obtain ⟨g,u,h1,h2,_⟩:=hc i hi;exact ⟨g,u,h1,h2⟩
 have HFT:Hid (∀ i,i<fs.length→(fat fs i).what=1∨(fat fs i).what=2∨(fat fs i).what=3∨(fat fs i).what=4∨(fat fs i).what=5):=fun i hi=>what_in (hfit _ (List.mem_of_getElem? (fat_get hi)));clear hc hP hfit hD
 go_enter Tryz.func122,Tryz.ntmps122
 go_wp2;clear d0 d1
 go_loopw [12] (fun i wr=>∃ k:Nat,k≤fs.length∧i=.int .i64 k∧Hid (Below w.heap.size w wr∧∀ j,j<k→¬ (fat fs j).what=what)) (fun i _=>fs.length-(intOf i).toNat)
 case atStart=>exact ⟨0,Nat.zero_le _,rfl,Below.refl _ _,fun j hj=>absurd hj (Nat.not_lt_zero _)⟩
 case round =>
  obtain ⟨k,hk,rfl,HI⟩:=hrel
  by_cases hlt:k<fs.length
  ·obtain ⟨g,u,rfl,e0⟩:=HC.out k hlt
   have c0:=cell_keep HI.out.1 nlr e0
   have hk0:(0:Int)≤(k:Int):=by omega
   have hk1:(k:Int)<(fs.length:Int):=by omega
   obtain ⟨f,hf⟩:∃ f,fat fs k=f:=⟨_,rfl⟩;have HFK:Hid (fat fs k=f):=hf;have hw:=HFT.out k hlt;rw [hf] at c0 hw;clear hf e0;obtain ⟨wh,num,vl⟩:=f;dsimp only at hw
   rcases hw with rfl | rfl | rfl | rfl | rfl
   ·rw [pv1] at c0
    have hm:=mw1
    by_cases hq:(1:Int)=what
    ·have hqb:((1:Int)==what)=true:=by simp [hq]
     go_wp2_with fail;refine (what1_any _ _ _ _).mono ?_;rintro e w2 ⟨rfl,hb2⟩;go_wp2;go_ret
     exact ⟨ret_bool (saidB_true hlt (by rw [HFK.out];exact hq)).symm,below_step HI.out.1 hb2⟩
    ·have hqb:((1:Int)==what)=false:=by simp [hq]
     have HN:Hid (∀ j,j<k+1→¬ (fat fs j).what=what):=fun j hj=>if e:j=k then by rw [e,HFK.out];exact hq else HI.out.2 j (by omega)
     go_wp2_with fail;refine (what1_any _ _ _ _).mono ?_;rintro e w2 ⟨rfl,hb2⟩;have HB2:Hid (Below w.heap.size w w2):=below_step HI.out.1 hb2;go_wp2
     exact ⟨⟨k+1,by omega,by go_num,HB2.out,HN.out⟩,by simp [intOf];omega⟩
   ·rw [pv2] at c0
    have hm:=mw2
    by_cases hq:(2:Int)=what
    ·have hqb:((2:Int)==what)=true:=by simp [hq]
     go_wp2_with fail;refine (what2_any _ _ _).mono ?_;rintro e w2 ⟨rfl,hb2⟩;go_wp2;go_ret
     exact ⟨ret_bool (saidB_true hlt (by rw [HFK.out];exact hq)).symm,below_step HI.out.1 hb2⟩
    ·have hqb:((2:Int)==what)=false:=by simp [hq]
     have HN:Hid (∀ j,j<k+1→¬ (fat fs j).what=what):=fun j hj=>if e:j=k then by rw [e,HFK.out];exact hq else HI.out.2 j (by omega)
     go_wp2_with fail;refine (what2_any _ _ _).mono ?_;rintro e w2 ⟨rfl,hb2⟩;have HB2:Hid (Below w.heap.size w w2):=below_step HI.out.1 hb2;go_wp2
     exact ⟨⟨k+1,by omega,by go_num,HB2.out,HN.out⟩,by simp [intOf];omega⟩
   ·rw [pv3] at c0
    have hm:=mw3
    by_cases hq:(3:Int)=what
    ·have hqb:((3:Int)==what)=true:=by simp [hq]
     go_wp2_with fail;refine (what3_any _ _).mono ?_;rintro e w2 ⟨rfl,hb2⟩;go_wp2;go_ret
     exact ⟨ret_bool (saidB_true hlt (by rw [HFK.out];exact hq)).symm,below_step HI.out.1 hb2⟩
    ·have hqb:((3:Int)==what)=false:=by simp [hq]
     have HN:Hid (∀ j,j<k+1→¬ (fat fs j).what=what):=fun j hj=>if e:j=k then by rw [e,HFK.out];exact hq else HI.out.2 j (by omega)
     go_wp2_with fail;refine (what3_any _ _).mono ?_;rintro e w2 ⟨rfl,hb2⟩;have HB2:Hid (Below w.heap.size w w2):=below_step HI.out.1 hb2;go_wp2
     exact ⟨⟨k+1,by omega,by go_num,HB2.out,HN.out⟩,by simp [intOf];omega⟩
   ·rw [pv4] at c0
    have hm:=mw4
    by_cases hq:(4:Int)=what
    ·have hqb:((4:Int)==what)=true:=by simp [hq]
     go_wp2_with fail;refine (what4_any _ _).mono ?_;rintro e w2 ⟨rfl,hb2⟩;go_wp2;go_ret
     exact ⟨ret_bool (saidB_true hlt (by rw [HFK.out];exact hq)).symm,below_step HI.out.1 hb2⟩
    ·have hqb:((4:Int)==what)=false:=by simp [hq]
     have HN:Hid (∀ j,j<k+1→¬ (fat fs j).what=what):=fun j hj=>if e:j=k then by rw [e,HFK.out];exact hq else HI.out.2 j (by omega)
     go_wp2_with fail;refine (what4_any _ _).mono ?_;rintro e w2 ⟨rfl,hb2⟩;have HB2:Hid (Below w.heap.size w w2):=below_step HI.out.1 hb2;go_wp2
     exact ⟨⟨k+1,by omega,by go_num,HB2.out,HN.out⟩,by simp [intOf];omega⟩
   ·rw [pv5] at c0
    have hm:=mw5
    by_cases hq:(5:Int)=what
    ·have hqb:((5:Int)==what)=true:=by simp [hq]
     go_wp2_with fail;refine (what5_any _ _).mono ?_;rintro e w2 ⟨rfl,hb2⟩;go_wp2;go_ret
     exact ⟨ret_bool (saidB_true hlt (by rw [HFK.out];exact hq)).symm,below_step HI.out.1 hb2⟩
    ·have hqb:((5:Int)==what)=false:=by simp [hq]
     have HN:Hid (∀ j,j<k+1→¬ (fat fs j).what=what):=fun j hj=>if e:j=k then by rw [e,HFK.out];exact hq else HI.out.2 j (by omega)
     go_wp2_with fail;refine (what5_any _ _).mono ?_;rintro e w2 ⟨rfl,hb2⟩;have HB2:Hid (Below w.heap.size w w2):=below_step HI.out.1 hb2;go_wp2
     exact ⟨⟨k+1,by omega,by go_num,HB2.out,HN.out⟩,by simp [intOf];omega⟩
  ·go_wp2
   go_ret
   exact ⟨ret_bool (saidB_false fun j hj=>HI.out.2 j (by omega)).symm,HI.out.1⟩
end Go.Proofs.YtbjmgglpiakgdaaGreatDoor.Sd
