import Derived.Test.YtcmgddnckohdaaaGreatDoorSt9
import Derived.Test.YtcmgddnckohdaaaGreatDoorMark3
import Derived.Test.YtcmgddnckohdaaaGreatDoorRt
set_option maxRecDepth 100000
set_option maxHeartbeats 3200000
set_option linter.unusedSimpArgs false
set_option linter.unusedVariables false
namespace Go.Proofs.YtcmgddnckohdaaaGreatDoor.Sd
open Go.RowKit
open Go.RowKit
open Go.RowKit
theorem find_at {α:Type} {p:α→Bool} {l:List α} {k:Nat} {x:α} (hk:l[k]?=some x) (hp:p x=true) (hn:∀ (j:Nat) (y:α),j<k→l[j]?=some y→p y=false):l.find? p=some x:=by
 obtain ⟨hlt,rfl⟩:=List.getElem?_eq_some_iff.1 hk;rw [List.find?_eq_some_iff_getElem]
 exact ⟨hp,k,hlt,rfl,fun j hj=>by simp [hn j _ hj (List.getElem?_eq_getElem (by omega))]⟩
theorem find_no {α:Type} {p:α→Bool} {l:List α} (hn:∀ (j:Nat) (y:α),l[j]?=some y→p y=false):l.find? p=none:=by
 rw [List.find?_eq_none];intro x hx;obtain ⟨i,hi,rfl⟩:=List.getElem_of_mem hx
 simp [hn i _ (List.getElem?_eq_getElem hi)]
theorem l3At_any (vk vp ve:Value) (es:List Ent) (n:ByteArray) (w:World) (he:EntsAt w ve es) :
  Calls Tryz.prog 151 #[.agg #[vk,vp,ve],.string n] w fun e w'=>∃ r:Int,e=.returned (.int .i64 r)∧((r=-1∧es.find? (fun e=>decide (e.name=n))=none) ∨ ∃ k:Nat,k<es.length∧r=(k:Int)∧es.find? (fun e=>decide (e.name=n))=some (eat es k))∧Below w.heap.size w w':=by
 obtain ⟨ae,ce,rfl,hlc,hcm,hc⟩:=he;unfold maxLen at hcm;have HC:Hid (∀ i f,es[i]?=some f→∃ b off,ae=some ⟨b,off,none⟩∧EntAt w b (off+i*2) f):=hc;clear hc;have HX0:Hid (OwnAt w (w.alloc (.cells #[vk,vp,.slice ae es.length ce] 30)) [[vk,vp,.slice ae es.length ce]]):=(OwnAt.start w).push rfl _ _
 have y0:(w.alloc (.cells #[vk,vp,.slice ae es.length ce] 30)).cell? ⟨w.heap.size,0,none⟩=some vk:=by simp
 have y1:(w.alloc (.cells #[vk,vp,.slice ae es.length ce] 30)).cell? ⟨w.heap.size,1,none⟩=some vp:=by simp
 have y2:(w.alloc (.cells #[vk,vp,.slice ae es.length ce] 30)).cell? ⟨w.heap.size,2,none⟩=some (.slice ae es.length ce):=by simp
 go_enter Tryz.func151,Tryz.ntmps151
 go_wp2;generalize w.alloc (.cells #[vk,vp,.slice ae es.length ce] 30)=w1 at *
 go_loopw [5] (fun i wr=>wr=w1∧∃ k:Nat,k≤es.length∧i=.int .i64 k∧Hid (∀ j y,j<k→es[j]?=some y→decide (y.name=n)=false)) (fun i _=>es.length-(intOf i).toNat)
 case atStart=>exact ⟨rfl,0,Nat.zero_le _,rfl,fun j y hj=>absurd hj (Nat.not_lt_zero _)⟩
 case round =>
  obtain ⟨rfl,k,hk,rfl,HA⟩:=hrel
  by_cases hlt:k<es.length
  ·obtain ⟨b,off,rfl,hc⟩:=HC.out k _ (bo hlt)
   obtain ⟨fv,d0,d1,hfl⟩:=hc.keep HX0.out.below;obtain ⟨fa,fc,rfl,-,-,-⟩:=hfl
   have hk0:(0:Int)≤(k:Int):=by omega
   have hk1:(k:Int)<(es.length:Int):=by omega
   have HG:Hid (es[k]?=some (eat es k)):=bo hlt
   by_cases hx:(eat es k).name=n
   ·have h1:((eat es k).name.toList==n.toList)=true:=str_eq hx
    have HX:Hid ((eat es k).name=n):=hx;clear hx hc;go_wp2;go_ret
    exact ⟨_,rfl,.inr ⟨k,hlt,rfl,find_at HG.out (by simp [HX.out]) HA.out⟩,HX0.out.below⟩
   ·have h1:((eat es k).name.toList==n.toList)=false:=cF hx
    have HX:Hid (¬ (eat es k).name=n):=hx;clear hx hc;go_wp2
    exact ⟨⟨by trivial,k+1,by omega,by go_num,fun j y hj hy=>if e:j=k then by subst e;rw [HG.out] at hy;cases hy;simp [HX.out] else HA.out j y (by omega) hy⟩,by simp [intOf];omega⟩
  ·go_wp2
   go_ret
   exact ⟨_,rfl,.inl ⟨rfl,find_no fun j y hy=>HA.out j y (by have:=(List.getElem?_eq_some_iff.1 hy).1;omega) hy⟩,HX0.out.below⟩
open Go.RowKit
end Go.Proofs.YtcmgddnckohdaaaGreatDoor.Sd
namespace Go.Proofs.YtcmgddnckohdaaaGreatDoor.Tx
open Go.RowKit Sd
def cutN (cur:List UInt8):List UInt8→List (List UInt8)
 | []=>[cur]
 | c::r=>if c=10 then cur::cutN [] r else cutN (cur++[c]) r
def CutInvN (s:ByteArray) (fr k:Nat) (P:List ByteArray):Prop:=P.map bytes++cutN (bytes (s.extract fr k)) ((bytes s).drop k)=cutN [] (bytes s)
theorem CutInvN.start (s:ByteArray):CutInvN s 0 0 []:=by
 unfold CutInvN;rw [bv]
 simp
theorem CutInvN.other {s:ByteArray} {fr k:Nat} {P:List ByteArray} (h:CutInvN s fr k P) (ha:fr≤k) (hk:k<s.size) (hc:¬ s[k]=10):CutInvN s fr (k+1) P:=by
 unfold CutInvN at h ⊢;rw [drop_cons s k hk,cutN,if_neg hc] at h;rw [← h,piece_snoc s fr k ha hk]
def lineW (s:ByteArray):List ByteArray:=(cutN [] (bytes s)).map fun l=>⟨⟨l⟩⟩
def NoNl (l:List UInt8):Prop:=∀ c∈l,c≠10
theorem first_nl:∀ l:List UInt8,NoNl l ∨ ∃ a r,l=a++10::r∧NoNl a
 | []=>.inl (fun c hc=>by cases hc)
 | c::l=>by
  by_cases h:c=10
  ·exact .inr ⟨[],l,by simp [h],fun c hc=>by cases hc⟩
  ·rcases first_nl l with hl | ⟨a,r,rfl,ha⟩
   ·exact .inl (fun x hx=>(List.mem_cons.1 hx).elim (fun e=>by rw [e];exact h) (hl x))
   ·exact .inr ⟨c::a,r,rfl,fun x hx=>(List.mem_cons.1 hx).elim (fun e=>by rw [e];exact h) (ha x)⟩
theorem cutN_none:∀ (l cur:List UInt8),NoNl l→cutN cur l=[cur++l]
 | [],cur,_=>by simp [cutN]
 | c::l,cur,h=>by
  rw [cutN,if_neg (h c (by simp)),cutN_none l _ (fun x hx=>h x (by simp [hx]))]
  simp
theorem cutN_some:∀ (a cur r:List UInt8),NoNl a→cutN cur (a++10::r)=(cur++a)::cutN [] r
 | [],cur,r,_=>by simp [cutN]
 | c::a,cur,r,h=>by
  rw [List.cons_append,cutN,if_neg (h c (by simp)),cutN_some a _ r (fun x hx=>h x (by simp [hx]))]
  simp
theorem cutN_pos:∀ (l cur:List UInt8),1≤(cutN cur l).length
 | [],_=>by simp [cutN]
 | c::l,cur=>by
  rw [cutN]
  split
  ·simp
  ·exact cutN_pos l _
theorem idxN_none:∀ l:List UInt8,NoNl l→Lib.indexByte l 10=-1
 | [],_=>rfl
 | c::l,h=>by
  have hc:(c==10)=false:=by simpa using h c (by simp)
  rw [Lib.indexByte,hc,idxN_none l (fun x hx=>h x (by simp [hx]))]
  rfl
theorem idxN_some:∀ (a r:List UInt8),NoNl a→Lib.indexByte (a++10::r) 10=a.length
 | [],r,_=>by simp [Lib.indexByte]
 | c::a,r,h=>by
  have hc:(c==10)=false:=by simpa using h c (by simp)
  have ih:=idxN_some a r (fun x hx=>h x (by simp [hx]))
  rw [List.cons_append,Lib.indexByte,hc,ih]
  have:((a.length:Int)==-1)=false:=by simp
  simp [this]
def nlS:ByteArray:=⟨#[10]⟩
theorem indexN_eq (s:ByteArray):Lib.indexB s nlS=Lib.indexByte (bytes s) 10:=Lib.index_one _ _
theorem splitN_none (k:Nat) (s:ByteArray) (h:NoNl (bytes s)):Lib.splitB nlS 0 k s=[s] :=
 Lib.splitB_miss nlS 0 k s (by rw [indexN_eq,idxN_none _ h])
theorem splitN_some (k:Nat) (s:ByteArray) (a r:List UInt8) (hs:bytes s=a++10::r) (h:NoNl a):Lib.splitB nlS 0 (k+1) s=mkS a::Lib.splitB nlS 0 k (mkS r):=by
 have hz:s.size=a.length+(r.length+1):=by rw [← aK,hs];simp
 rw [Lib.splitB_hit nlS 0 k s a.length (by rw [indexN_eq,hs,idxN_some _ _ h])]
 have e1:s.extract 0 (a.length+0)=mkS a:=br (by rw [bv,hs,bK];simp)
 have e2:s.extract (a.length+nlS.size) s.size=mkS r:=br (by
  have:nlS.size=1:=rfl;rw [bv,hs,bK,this,hz]
  simp only [List.drop_append,List.drop_succ_cons,show a.length+1-a.length=1 by omega,List.drop_zero]
  rw [List.drop_of_length_le (by omega),List.nil_append,List.take_of_length_le (by omega)])
 rw [e1,e2]
open Go.RowKit Sd
theorem toHidT {P:Prop} (h:P):Hid P:=h
theorem lineW_none {s:ByteArray} (h:NoNl (bytes s)):lineW s=[s]:=by
 unfold lineW;rw [cutN_none _ _ h]
 rfl
theorem lineW_some {s:ByteArray} {a r:List UInt8} (hs:bytes s=a++10::r) (h:NoNl a):lineW s=mkS a::lineW (mkS r):=by
 unfold lineW;rw [hs,cutN_some _ _ _ h]
 rfl
theorem lineW_pos (s:ByteArray):1≤(lineW s).length:=by
 unfold lineW;rw [List.length_map];exact cutN_pos _ _
theorem split_lines:∀ (n:Nat) (s:ByteArray),s.size≤n→Lib.splitB nlS 0 (Lib.countB s nlS) s=lineW s
 | n,s,hn=>by
  rcases first_nl (bytes s) with h | ⟨a,r,hs,h⟩
  ·rw [splitN_none _ _ h,lineW_none h]
  ·have hi:Lib.indexB s nlS=(a.length:Int):=by rw [indexN_eq,hs,idxN_some _ _ h]
   have hsz:s.size=a.length+1+r.length:=by rw [← aK,hs];simp;omega
   have hr:s.extract (a.length+nlS.size) s.size=mkS r:=by
    refine br ?_
    rw [bv,hs,bK,show nlS.size=1 from rfl,hsz]
    simp only [List.drop_append,List.drop_succ_cons,show a.length+1-a.length=1 by omega,List.drop_zero]
    rw [List.drop_of_length_le (by omega),List.nil_append,List.take_of_length_le (by omega)]
   rw [Lib.countB_hit s nlS a.length (by decide) hi,hr,Nat.add_comm 1,splitN_some _ _ _ _ hs h,lineW_some hs h]
   cases n with
   | zero=>omega
   | succ n=>rw [split_lines n (mkS r) (by rw [b9];omega)]
def linesL (s:ByteArray):List ByteArray:=if (lineW s).getLast?=some ⟨#[]⟩ then (lineW s).dropLast else lineW s
theorem wat_last {l:List ByteArray} (h:1≤l.length):l.getLast?=some (wat l (l.length-1)):=by
 rw [List.getLast?_eq_getElem?,cm (by omega)]
theorem strs_pre {w:World} {g o n c:Nat} {l:List ByteArray} (h:StrsAt w (.slice (some ⟨g,o,none⟩) n c) l) (hn:n=l.length) (hl:1≤l.length):StrsAt w (.slice (some ⟨g,o,none⟩) (l.length-1) c) l.dropLast:=by
 obtain ⟨g',o',c',e,h1,h2,h4⟩:=h
 injection e with e1 e2 e3
 injection e1 with e1
 injection e1 with e1 e5
 subst e1;subst e5;subst e3
 refine ⟨g,o,c,by rw [List.length_dropLast],by rw [List.length_dropLast];omega,h2,fun i x hx=>h4 i x ?_⟩
 have hi:=(List.getElem?_eq_some_iff.1 hx).1;rw [List.length_dropLast] at hi;rw [List.getElem?_dropLast,if_pos hi] at hx;exact hx
theorem linesOf_any (s:ByteArray) (w:World) (hs:s.size≤1048576) (hm:MaxIn w) :
  Calls Tryz.prog 51 #[.string s] w fun e w'=>∃ v,e=.returned v∧StrsAt w' v (linesL s)∧Below w.heap.size w w':=by
 obtain ⟨m,hm⟩:=hm
 have HC:=toHidT (Tryz.strings_Split s nlS m w (by omega) hm (by decide))
 rw [split_lines s.size s aH] at HC
 go_enter Tryz.func51,Tryz.ntmps51
 go_wp2_with fail;refine HC.out.mono ?_;rintro e w1 ⟨rfl,rfl⟩
 have hcn:Lib.countB s nlS+1=(lineW s).length:=by
  rw [← split_lines s.size s aH]
  exact (Lib.splitB_all nlS (by decide) 0 _ s rfl).symm
 have hcl:=Lib.countB_le nlS (by decide) s.size s aH
 have HB:Hid (Below w.heap.size w (w.alloc (.cells ((lineW s).map Value.string).toArray 9))):=(aO)
 have hhp:(w.alloc (.cells ((lineW s).map Value.string).toArray 9)).heap[w.heap.size]?=some (.cells ((lineW s).map Value.string).toArray 9 (0,0)):=by show (w.heap.push _)[w.heap.size]?=_;simp
 have HS:Hid (StrsAt (w.alloc (.cells ((lineW s).map Value.string).toArray 9)) (.slice (some ⟨w.heap.size,0,none⟩) (lineW s).length (lineW s).length) (lineW s)) :=
  ⟨w.heap.size,0,_,rfl,Nat.le_refl _,by unfold maxLen;omega,fun i x hx=>by simp only [World.cell?,Nat.zero_add];rw [hhp];simp [hx]⟩
 rw [hcn];have hpos:=lineW_pos s
 have hll:(lineW s).length≤1048577:=by omega
 have HL:Hid (linesL s=if wat (lineW s) ((lineW s).length-1)=⟨#[]⟩ then (lineW s).dropLast else lineW s):=by
  show _=_
  unfold linesL;rw [wat_last hpos]
  simp only [Option.some.injEq]
 clear hcn hhp hcl HC hm;generalize (w.alloc (.cells ((lineW s).map Value.string).toArray 9))=w1 at *;generalize lineW s=l at *
 obtain ⟨n1,hn1⟩:∃ n1,l.length=n1+1:=⟨l.length-1,by omega⟩
 have hq:w1.cell? ⟨w.heap.size,n1,none⟩=some (.string (wat l n1)):=by
  obtain ⟨g',o',c',e,h1,h2,h4⟩:=HS.out
  injection e with e1 e2 e3
  injection e1 with e1
  injection e1 with e1 e5
  have:=h4 n1 _ (cm (by omega))
  rw [← e1,← e5,Nat.zero_add] at this;exact this
 have HP:=toHidT (strs_pre HS.out rfl hpos)
 have hw1:IntKind.i64.wrap ((n1:Int)+1-1)=(n1:Int):=by rw [IntKind.wrap_i64];omega
 have hi0:(0:Int)≤(n1:Int):=by omega
 rw [hn1] at HS HP HL hll;rw [hn1];rw [Nat.add_sub_cancel] at HP HL
 have hi1:(n1:Int)<(n1:Int)+1:=by omega
 clear hpos hn1
 by_cases hx:wat l n1=⟨#[]⟩
 ·rw [if_pos hx] at HL
  rw [hx] at hq;go_wp2_with fail;go_ret
  exact ⟨_,rfl,by rw [HL.out];exact HP.out,HB.out⟩
 ·rw [if_neg hx] at HL
  have hxn:((wat l n1).toList==[])=false:=(show (⟨#[]⟩:ByteArray).toList=[] by decide +kernel) ▸ cF (b:=⟨#[]⟩) hx
  generalize wat l n1=x at *;go_wp2_with fail;go_ret
  exact ⟨_,rfl,by rw [HL.out];exact HS.out,HB.out⟩
open Go.RowKit Sd
def longB (s:ByteArray):Bool:=decide ((10000:Int)<(s.size:Int))||decide ((200:Int)<((linesL s).length:Int))
theorem tooLong_any (s:ByteArray) (w:World) (hs:s.size≤1048576) (hm:MaxIn w) :
  Calls Tryz.prog 50 #[.string s] w fun e w'=>e=.returned (.bool (longB s))∧Below w.heap.size w w':=by
 have HC:=toHidT (linesOf_any s w hs hm)
 by_cases h1:(10000:Int)<(s.size:Int)
 ·have HL:Hid (longB s=true):=by show _=_;unfold longB;rw [decide_eq_true h1];rfl
  go_enter Tryz.func50,Tryz.ntmps50
  go_wp2_with fail;go_ret
  exact ⟨by rw [HL.out];rfl,Below.refl _ _⟩
 ·have HL:Hid (longB s=decide ((200:Int)<((linesL s).length:Int))):=by show _=_;unfold longB;rw [decide_eq_false h1];rfl
  go_enter Tryz.func50,Tryz.ntmps50
  go_wp2_with fail;refine HC.out.mono ?_;rintro e w1 ⟨v,rfl,hv,hb⟩;obtain ⟨g,o,c,rfl,-,-,-⟩:=hv;have HB:=toHidT hb;clear HC hb;generalize (linesL s).length=n at *;go_wp2_with fail;go_ret
  exact ⟨by rw [HL.out];rfl,HB.out⟩
open Go.RowKit Sd
def num0 (s:ByteArray):Int:=bif decB s then (numTo s s.size:Int) else 0
theorem named_any (num:Int) (s:ByteArray) (w:World) (hs:s.size≤1048576) :
  Calls Tryz.prog 179 #[.agg #[.int .i64 num,.string s]] w fun e w'=>e=.returned (bif decide ((cutW s).length=4) then .tuple #[.string (wat (cutW s) 1),.int .i64 (num0 (wat (cutW s) 2)),.int .i64 (num0 (wat (cutW s) 3)),.bool (decB (wat (cutW s) 2)&&decB (wat (cutW s) 3))] else .tuple #[.string ⟨#[]⟩,.int .i64 0,.int .i64 0,.bool false])∧Below w.heap.size w w':=by
 have HB:Hid (Below w.heap.size w (w.alloc (.cells #[.int .i64 num,.string s] 89))):=(aO)
 go_enter Tryz.func179,Tryz.ntmps179
 go_wp2_with fail;refine (wordsOf_any s _ hs).mono ?_;rintro e w1 ⟨v,rfl,hv,hb⟩;have B1:Hid (Below w.heap.size w w1):=aa HB.out hb;have HV:=toHidT hv;have hsz:∀ i,i<(cutW s).length→(wat (cutW s) i).size≤1048576:=fun i hi=>Nat.le_trans (wat_size hi) hs;obtain ⟨g,o,c,rfl,-,hcm,hcell⟩:=hv;unfold maxLen at hcm;clear hb HB
 by_cases h4:(cutW s).length=4
 ·have c1:=hcell 1 _ (cm (by omega))
  have c2:=hcell 2 _ (cm (by omega))
  have c3:=hcell 3 _ (cm (by omega))
  have z1:=hsz 1 (by omega)
  have z2:=hsz 2 (by omega)
  have z3:=hsz 3 (by omega)
  have HCC:Hid (∀ wx:World,Below w1.heap.size w1 wx→wx.cell? ⟨g,o+1,none⟩=some (.string (wat (cutW s) 1))∧wx.cell? ⟨g,o+2,none⟩=some (.string (wat (cutW s) 2))∧wx.cell? ⟨g,o+3,none⟩=some (.string (wat (cutW s) 3))):=fun wx hx=>⟨ag hx aH c1,ag hx aH c2,ag hx aH c3⟩;obtain ⟨Q0,hQ0⟩:∃ q,q=(bif decide ((cutW s).length=4) then Value.tuple #[.string (wat (cutW s) 1),.int .i64 (num0 (wat (cutW s) 2)),.int .i64 (num0 (wat (cutW s) 3)),.bool (decB (wat (cutW s) 2)&&decB (wat (cutW s) 3))] else .tuple #[.string ⟨#[]⟩,.int .i64 0,.int .i64 0,.bool false]):=⟨_,rfl⟩;have HQ0:=toHidT hQ0
  have HR:Hid (Q0=.tuple #[.string (wat (cutW s) 1),.int .i64 (num0 (wat (cutW s) 2)),.int .i64 (num0 (wat (cutW s) 3)),.bool (decB (wat (cutW s) 2)&&decB (wat (cutW s) 3))]):=by
   show _=_
   rw [hQ0,decide_eq_true h4]
   rfl
  clear hQ0;rw [h4];clear hcell hsz HV h4;have HN2:Hid (num0 (wat (cutW s) 2)=bif decB (wat (cutW s) 2) then (numTo (wat (cutW s) 2) (wat (cutW s) 2).size:Int) else 0):=rfl;have HN3:Hid (num0 (wat (cutW s) 3)=bif decB (wat (cutW s) 3) then (numTo (wat (cutW s) 3) (wat (cutW s) 3).size:Int) else 0):=rfl
  have HR1:=toHidT (bN (wat (cutW s) 2) w1 (by unfold maxLen;omega))
  have HR2:Hid (∀ wx:World,Calls Tryz.prog 208 #[.string (wat (cutW s) 3)] wx fun e w'=>e=.returned (.tuple #[.int .i64 (num0 (wat (cutW s) 3)),.bool (decB (wat (cutW s) 3))])∧Below wx.heap.size wx w'):=fun wx=>bN (wat (cutW s) 3) wx (by unfold maxLen;omega)
  have HR0:Hid (∀ wx:World,Calls Tryz.prog 208 #[.string (wat (cutW s) 2)] wx fun e w'=>e=.returned (.tuple #[.int .i64 (num0 (wat (cutW s) 2)),.bool (decB (wat (cutW s) 2))])∧Below wx.heap.size wx w'):=fun wx=>bN (wat (cutW s) 2) wx (by unfold maxLen;omega)
  clear HN2 HN3 HR1;generalize wat (cutW s) 1=x1 at HR HR0 HR2 HCC c1 c2 c3 z1 z2 z3 ⊢;generalize wat (cutW s) 2=x2 at HR HR0 HR2 HCC c1 c2 c3 z1 z2 z3 ⊢;generalize wat (cutW s) 3=x3 at HR HR0 HR2 HCC c1 c2 c3 z1 z2 z3 ⊢;generalize num0 x2=n2 at HR HR0 HR2 HCC c1 c2 c3 z1 z2 z3 ⊢;generalize num0 x3=n3 at HR HR0 HR2 HCC c1 c2 c3 z1 z2 z3 ⊢;generalize decB x2=b2 at HR HR0 HR2 HCC c1 c2 c3 z1 z2 z3 ⊢;generalize decB x3=b3 at HR HR0 HR2 HCC c1 c2 c3 z1 z2 z3 ⊢;go_wp2_with fail;clear c1 c2 c3;refine (HR0.out _).mono ?_;rintro e w2 ⟨rfl,hb2⟩;have B2:=toHidT hb2;obtain ⟨c1,c2,c3⟩:=HCC.out _ hb2;clear hb2;go_wp2_with fail;clear c1 c2 c3;refine (HR2.out _).mono ?_;rintro e w3 ⟨rfl,hb3⟩;have B3:=toHidT (aa B2.out hb3);obtain ⟨c1,c2,c3⟩:=HCC.out _ B3.out;clear hb3;go_wp2_with fail;clear c1 c2 c3
  refine (Sd.clone_any x1 _ (by omega)).mono ?_
  rintro e w4 ⟨rfl,hb4⟩;have BF:Hid (Below w.heap.size w w4):=aa B1.out (aa B3.out hb4);clear hb4 B1 B2 B3 HCC
  cases b2
  ·go_wp2_with fail
   exact bodyPost_ret (v:=.tuple #[.string x1,.int .i64 n2,.int .i64 n3,.bool false]) (by simp [results,Tryz.results179,go_sem]) rfl ⟨by rw [← HQ0.out,HR.out];rfl,BF.out⟩
  ·go_wp2_with fail
   exact bodyPost_ret (v:=.tuple #[.string x1,.int .i64 n2,.int .i64 n3,.bool b3]) (by simp [results,Tryz.results179,go_sem]) rfl ⟨by rw [← HQ0.out,HR.out];rfl,BF.out⟩
 ·have HR:Hid (decide ((cutW s).length=4)=false):=decide_eq_false h4
  have h4b:(((cutW s).length:Int)==4)=false:=by rw [beq_eq_false_iff_ne];omega
  go_wp2_with fail
  exact bodyPost_ret (v:=.tuple #[.string ⟨#[]⟩,.int .i64 0,.int .i64 0,.bool false]) (by simp [results,Tryz.results179,go_sem]) rfl ⟨by rw [HR.out];rfl,B1.out⟩
end Go.Proofs.YtcmgddnckohdaaaGreatDoor.Tx
