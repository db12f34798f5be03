import Derived.Test.YtcmgddnckohdaaaGreatDoorSt9
import Derived.Test.YtcmgddnckohdaaaGreatDoorMark3
import Derived.Test.YtcmgddnckohdaaaGreatDoorRt
set_option maxRecDepth 100000
set_option maxHeartbeats 3200000
set_option linter.unusedSimpArgs false
set_option linter.unusedVariables false
namespace Go.Proofs.YtcmgddnckohdaaaGreatDoor.Sd
open Go.RowKit
open Go.RowKit
open Go.RowKit
theorem Co {α:Type} {p:α→Bool} {l:List α} {k:Nat} {x:α} (hk:l[k]?=some x) (hp:p x=true) (hn:∀ (j:Nat) (y:α),j<k→l[j]?=some y→p y=false):l.find? p=some x:=by
 obtain ⟨hlt,rfl⟩:=List.getElem?_eq_some_iff.1 hk;rw [List.find?_eq_some_iff_getElem]
 exact ⟨hp,k,hlt,rfl,fun j hj=>by simp [hn j _ hj (List.getElem?_eq_getElem (by omega))]⟩
theorem Cn {α:Type} {p:α→Bool} {l:List α} (hn:∀ (j:Nat) (y:α),l[j]?=some y→p y=false):l.find? p=none:=by
 rw [List.find?_eq_none];intro x hx;obtain ⟨i,hi,rfl⟩:=List.getElem_of_mem hx
 simp [hn i _ (List.getElem?_eq_getElem hi)]
theorem xZ (vk vp ve:Value) (es:List dU) (n:ByteArray) (w:World) (he:je w ve es) :
  Calls Tryz.prog 151 #[.agg #[vk,vp,ve],.string n] w fun e w'=>∃ r:Int,e=.returned (.int .i64 r)∧((r=-1∧es.find? (fun e=>decide (e.name=n))=none) ∨ ∃ k:Nat,k<es.length∧r=(k:Int)∧es.find? (fun e=>decide (e.name=n))=some (eZ es k))∧Below w.heap.size w w':=by
 obtain ⟨ae,ce,rfl,hlc,hcm,hc⟩:=he;unfold maxLen at hcm;have HC:Hid (∀ i f,es[i]?=some f→∃ b off,ae=some ⟨b,off,none⟩∧lH w b (off+i*2) f):=hc;clear hc;have HX0:Hid (OwnAt w (w.alloc (.cells #[vk,vp,.slice ae es.length ce] 30)) [[vk,vp,.slice ae es.length ce]]):=(OwnAt.start w).push rfl _ _
 have y0:(w.alloc (.cells #[vk,vp,.slice ae es.length ce] 30)).cell? ⟨w.heap.size,0,none⟩=some vk:=by simp
 have y1:(w.alloc (.cells #[vk,vp,.slice ae es.length ce] 30)).cell? ⟨w.heap.size,1,none⟩=some vp:=by simp
 have y2:(w.alloc (.cells #[vk,vp,.slice ae es.length ce] 30)).cell? ⟨w.heap.size,2,none⟩=some (.slice ae es.length ce):=by simp
 go_enter Tryz.func151,Tryz.ntmps151
 go_wp2;generalize w.alloc (.cells #[vk,vp,.slice ae es.length ce] 30)=w1 at *
 go_loopw [5] (fun i wr=>wr=w1∧∃ k:Nat,k≤es.length∧i=.int .i64 k∧Hid (∀ j y,j<k→es[j]?=some y→decide (y.name=n)=false)) (fun i _=>es.length-(intOf i).toNat)
 case atStart=>exact ⟨rfl,0,Nat.zero_le _,rfl,fun j y hj=>absurd hj (Nat.not_lt_zero _)⟩
 case round =>
  obtain ⟨rfl,k,hk,rfl,HA⟩:=hrel
  by_cases hlt:k<es.length
  ·obtain ⟨b,off,rfl,hc⟩:=HC.out k _ (bp hlt)
   obtain ⟨fv,d0,d1,hfl⟩:=hc.keep HX0.out.below;obtain ⟨fa,fc,rfl,-,-,-⟩:=hfl
   have hk0:(0:Int)≤(k:Int):=by omega
   have hk1:(k:Int)<(es.length:Int):=by omega
   have HG:Hid (es[k]?=some (eZ es k)):=bp hlt
   by_cases hx:(eZ es k).name=n
   ·have h1:((eZ es k).name.toList==n.toList)=true:=cA hx
    have HX:Hid ((eZ es k).name=n):=hx;clear hx hc;go_wp2;go_ret
    exact ⟨_,rfl,.inr ⟨k,hlt,rfl,Co HG.out (by simp [HX.out]) HA.out⟩,HX0.out.below⟩
   ·have h1:((eZ es k).name.toList==n.toList)=false:=b9 hx
    have HX:Hid (¬ (eZ es k).name=n):=hx;clear hx hc;go_wp2
    exact ⟨⟨by trivial,k+1,by omega,by go_num,fun j y hj hy=>if e:j=k then by subst e;rw [HG.out] at hy;cases hy;simp [HX.out] else HA.out j y (by omega) hy⟩,by simp [intOf];omega⟩
  ·go_wp2
   go_ret
   exact ⟨_,rfl,.inl ⟨rfl,Cn fun j y hy=>HA.out j y (by have:=(List.getElem?_eq_some_iff.1 hy).1;omega) hy⟩,HX0.out.below⟩
open Go.RowKit
theorem Jy (s:ByteArray) (w:World) (hs:s.size≤1048576) :
  Calls Tryz.prog 54 #[.string s,.int .u8 32] w fun e w'=>∃ v,e=.returned v∧kr w' w.heap.size v (dn s)∧Below w.heap.size w w':=by
 obtain ⟨i0,hi,hz0,hz1,hz2⟩:=info_parts pG
 go_enter Tryz.func54,Tryz.ntmps54
 go_wp2
 go_loopw [5,6,7] (fun o f i wr=>∃ (k fr:Nat) (P:List ByteArray),fr≤k∧k≤s.size∧i=.int .i64 k∧f=.int .i64 fr∧P.length≤k∧wr.ownsRow w.heap.size 9 1 o P.length (P.map Value.string)∧Below w.heap.size w wr∧Hid (gQ s fr k P)) (fun _ _ i _=>s.size-(intOf i).toNat)
 case atStart=>exact ⟨0,0,[],Nat.le_refl _,Nat.zero_le _,rfl,rfl,Nat.le_refl _,World.ownsRow_made w #[] 0 aG (Nat.zero_le _) rfl,(aM),gQ.start s⟩
 case round =>
  obtain ⟨k,fr,P,hfk,hk,rfl,rfl,hpl,hown,hb,HI⟩:=hrel
  by_cases hlt:k<s.size
  ·by_cases hc:s[k]=32
   ·have h1:(((s[k].toNat:Nat):Int)==32)=true:=by rw [mg];simpa using hc
    have HC:Hid (s[k]=32):=hc;clear hc
    go_wp2_with (at_builtin;refine wpList_append_own _ rfl _ _ 46 rfl w.heap.size 9 i0 (.string ByteArray.empty) 1 16 Tryz.underlying46 hi hz0 hz1 hz2 rfl (by decide) _ _ _ rfl (hown.alloc _) ⟨wr.heap.size,0,none⟩ 1 1 [.string (s.extract fr k)] rfl rfl (cell_one_new _ _ _) (fun x hx=>by simp at hx;subst hx;rfl) (by unfold maxLen;omega) (by omega) (by have:=hb.size;simp;omega) ?_;intro v' w3 hown' hgrow3 hnil3)
    refine ⟨⟨k+1,k+1,P++[s.extract fr k],Nat.le_refl _,by omega,by go_num,by go_num,by simp;omega,?_,(hb.alloc hb.size _).grown hgrow3 (by have:=hb.size;simp;omega) (aw hown),HI.out.space hlt HC.out⟩,by simp [intOf];omega⟩
    simpa using hown'
   ·have h1:(((s[k].toNat:Nat):Int)==32)=false:=by rw [mg];simpa using hc
    have HC:Hid (¬ s[k]=32):=hc;clear hc;go_wp2
    exact ⟨⟨k+1,fr,P,by omega,by omega,by go_num,rfl,by omega,hown,hb,HI.out.other hfk hlt HC.out⟩,by simp [intOf];omega⟩
  ·have HK:Hid (k=s.size):=by show k=s.size;omega
   go_wp2_with (at_builtin;refine wpList_append_own _ rfl _ _ 46 rfl w.heap.size 9 i0 (.string ByteArray.empty) 1 16 Tryz.underlying46 hi hz0 hz1 hz2 rfl (by decide) _ _ _ rfl (hown.alloc _) ⟨wr.heap.size,0,none⟩ 1 1 [.string (s.extract fr s.size)] rfl rfl (cell_one_new _ _ _) (fun x hx=>by simp at hx;subst hx;rfl) (by unfold maxLen;omega) (by omega) (by have:=hb.size;simp;omega) ?_;intro v' w3 hown' hgrow3 hnil3)
   go_ret
   have HW:Hid ((P++[s.extract fr s.size]).map bytes=iw [] (bytes s)):=by
    have:=HI.out;rw [HK.out] at this;exact this.fin
   refine ⟨v',rfl,Cu HW.out ▸ kr.snoc rfl (by simpa using hown'),(hb.alloc hb.size _).grown hgrow3 (by have:=hb.size;simp;omega) (aw hown)⟩
end Go.Proofs.YtcmgddnckohdaaaGreatDoor.Sd
namespace Go.Proofs.YtcmgddnckohdaaaGreatDoor.Tx
open Go.RowKit Sd
def kM (cur:List UInt8):List UInt8→List (List UInt8)
 | []=>[cur]
 | c::r=>if c=10 then cur::kM [] r else kM (cur++[c]) r
def iy (s:ByteArray) (fr k:Nat) (P:List ByteArray):Prop:=P.map bytes++kM (bytes (s.extract fr k)) ((bytes s).drop k)=kM [] (bytes s)
theorem iy.start (s:ByteArray):iy s 0 0 []:=by
 unfold iy;rw [bf]
 simp
theorem iy.nl {s:ByteArray} {fr k:Nat} {P:List ByteArray} (h:iy s fr k P) (hk:k<s.size) (hc:s[k]=10):iy s (k+1) (k+1) (P++[s.extract fr k]):=by
 unfold iy at h ⊢;rw [drop_cons s k hk,kM,if_pos hc] at h;rw [← h,bf s (k+1) (k+1)]
 simp
theorem iy.other {s:ByteArray} {fr k:Nat} {P:List ByteArray} (h:iy s fr k P) (ha:fr≤k) (hk:k<s.size) (hc:¬ s[k]=10):iy s fr (k+1) P:=by
 unfold iy at h ⊢;rw [drop_cons s k hk,kM,if_neg hc] at h;rw [← h,xD s fr k ha hk]
theorem iy.fin {s:ByteArray} {fr:Nat} {P:List ByteArray} (h:iy s fr s.size P):(P++[s.extract fr s.size]).map bytes=kM [] (bytes s):=by
 unfold iy at h
 rw [List.drop_of_length_le (by rw [aK];omega),kM] at h
 rw [← h];simp
theorem Hy (c:UInt8):(((c.toNat:Nat):Int)==10)=(c==10):=by
 rw [Bool.eq_iff_iff]
 simp only [beq_iff_eq]
 constructor
 ·intro h
  apply UInt8.toNat_inj.1
  have:c.toNat=10:=by omega
  simpa using this
 ·rintro rfl;rfl
def fB (s:ByteArray):List ByteArray:=(kM [] (bytes s)).map fun l=>⟨⟨l⟩⟩
theorem Lh {s:ByteArray} {ws:List ByteArray} (h:ws.map bytes=kM [] (bytes s)):ws=fB s:=by
 unfold fB;rw [← h,List.map_map]
 have:((fun l=>(⟨⟨l⟩⟩:ByteArray)) ∘ bytes)=id:=by funext x;rfl
 rw [this,List.map_id]
theorem yg (s:ByteArray) (w:World) (hs:s.size≤1048576) :
  Calls Tryz.prog 54 #[.string s,.int .u8 10] w fun e w'=>∃ v,e=.returned v∧kr w' w.heap.size v (fB s)∧Below w.heap.size w w':=by
 obtain ⟨i0,hi,hz0,hz1,hz2⟩:=info_parts pG
 go_enter Tryz.func54,Tryz.ntmps54
 go_wp2
 go_loopw [5,6,7] (fun o f i wr=>∃ (k fr:Nat) (P:List ByteArray),fr≤k∧k≤s.size∧i=.int .i64 k∧f=.int .i64 fr∧P.length≤k∧wr.ownsRow w.heap.size 9 1 o P.length (P.map Value.string)∧Below w.heap.size w wr∧Hid (iy s fr k P)) (fun _ _ i _=>s.size-(intOf i).toNat)
 case atStart=>exact ⟨0,0,[],Nat.le_refl _,Nat.zero_le _,rfl,rfl,Nat.le_refl _,World.ownsRow_made w #[] 0 aG (Nat.zero_le _) rfl,(aM),iy.start s⟩
 case round =>
  obtain ⟨k,fr,P,hfk,hk,rfl,rfl,hpl,hown,hb,HI⟩:=hrel
  by_cases hlt:k<s.size
  ·by_cases hc:s[k]=10
   ·have h1:(((s[k].toNat:Nat):Int)==10)=true:=by rw [Hy];simpa using hc
    have HC:Hid (s[k]=10):=hc;clear hc
    go_wp2_with (at_builtin;refine wpList_append_own _ rfl _ _ 46 rfl w.heap.size 9 i0 (.string ByteArray.empty) 1 16 Tryz.underlying46 hi hz0 hz1 hz2 rfl (by decide) _ _ _ rfl (hown.alloc _) ⟨wr.heap.size,0,none⟩ 1 1 [.string (s.extract fr k)] rfl rfl (cell_one_new _ _ _) (fun x hx=>by simp at hx;subst hx;rfl) (by unfold maxLen;omega) (by omega) (by have:=hb.size;simp;omega) ?_;intro v' w3 hown' hgrow3 hnil3)
    refine ⟨⟨k+1,k+1,P++[s.extract fr k],Nat.le_refl _,by omega,by go_num,by go_num,by simp;omega,?_,(hb.alloc hb.size _).grown hgrow3 (by have:=hb.size;simp;omega) (aw hown),HI.out.nl hlt HC.out⟩,by simp [intOf];omega⟩
    simpa using hown'
   ·have h1:(((s[k].toNat:Nat):Int)==10)=false:=by rw [Hy];simpa using hc
    have HC:Hid (¬ s[k]=10):=hc;clear hc;go_wp2
    exact ⟨⟨k+1,fr,P,by omega,by omega,by go_num,rfl,by omega,hown,hb,HI.out.other hfk hlt HC.out⟩,by simp [intOf];omega⟩
  ·have HK:Hid (k=s.size):=by show k=s.size;omega
   go_wp2_with (at_builtin;refine wpList_append_own _ rfl _ _ 46 rfl w.heap.size 9 i0 (.string ByteArray.empty) 1 16 Tryz.underlying46 hi hz0 hz1 hz2 rfl (by decide) _ _ _ rfl (hown.alloc _) ⟨wr.heap.size,0,none⟩ 1 1 [.string (s.extract fr s.size)] rfl rfl (cell_one_new _ _ _) (fun x hx=>by simp at hx;subst hx;rfl) (by unfold maxLen;omega) (by omega) (by have:=hb.size;simp;omega) ?_;intro v' w3 hown' hgrow3 hnil3)
   go_ret
   have HW:Hid ((P++[s.extract fr s.size]).map bytes=kM [] (bytes s)):=by
    have:=HI.out;rw [HK.out] at this;exact this.fin
   refine ⟨v',rfl,Lh HW.out ▸ kr.snoc rfl (by simpa using hown'),(hb.alloc hb.size _).grown hgrow3 (by have:=hb.size;simp;omega) (aw hown)⟩
def kN (l:List UInt8):Prop:=∀ c∈l,c≠10
theorem ET:∀ l:List UInt8,kN l ∨ ∃ a r,l=a++10::r∧kN a
 | []=>.inl (fun c hc=>by cases hc)
 | c::l=>by
  by_cases h:c=10
  ·exact .inr ⟨[],l,by simp [h],fun c hc=>by cases hc⟩
  ·rcases ET l with hl | ⟨a,r,rfl,ha⟩
   ·exact .inl (fun x hx=>(List.mem_cons.1 hx).elim (fun e=>by rw [e];exact h) (hl x))
   ·exact .inr ⟨c::a,r,rfl,fun x hx=>(List.mem_cons.1 hx).elim (fun e=>by rw [e];exact h) (ha x)⟩
theorem AQ:∀ (l cur:List UInt8),kN l→kM cur l=[cur++l]
 | [],cur,_=>by simp [kM]
 | c::l,cur,h=>by
  rw [kM,if_neg (h c (by simp)),AQ l _ (fun x hx=>h x (by simp [hx]))]
  simp
theorem AP:∀ (a cur r:List UInt8),kN a→kM cur (a++10::r)=(cur++a)::kM [] r
 | [],cur,r,_=>by simp [kM]
 | c::a,cur,r,h=>by
  rw [List.cons_append,kM,if_neg (h c (by simp)),AP a _ r (fun x hx=>h x (by simp [hx]))]
  simp
theorem Fa:∀ (l cur:List UInt8),1≤(kM cur l).length
 | [],_=>by simp [kM]
 | c::l,cur=>by
  rw [kM]
  split
  ·simp
  ·exact Fa l _
theorem Ay:∀ l:List UInt8,kN l→Lib.indexByte l 10=-1
 | [],_=>rfl
 | c::l,h=>by
  have hc:(c==10)=false:=by simpa using h c (by simp)
  rw [Lib.indexByte,hc,Ay l (fun x hx=>h x (by simp [hx]))]
  rfl
theorem uM:∀ (a r:List UInt8),kN a→Lib.indexByte (a++10::r) 10=a.length
 | [],r,_=>by simp [Lib.indexByte]
 | c::a,r,h=>by
  have hc:(c==10)=false:=by simpa using h c (by simp)
  have ih:=uM a r (fun x hx=>h x (by simp [hx]))
  rw [List.cons_append,Lib.indexByte,hc,ih]
  have:((a.length:Int)==-1)=false:=by simp
  simp [this]
def CP:ByteArray:=⟨#[10]⟩
theorem uL (s:ByteArray):Lib.indexB s CP=Lib.indexByte (bytes s) 10:=Lib.index_one _ _
theorem Dn (k:Nat) (s:ByteArray) (h:kN (bytes s)):Lib.splitB CP 0 k s=[s] :=
 Lib.splitB_miss CP 0 k s (by rw [uL,Ay _ h])
theorem Dm (k:Nat) (s:ByteArray) (a r:List UInt8) (hs:bytes s=a++10::r) (h:kN a):Lib.splitB CP 0 (k+1) s=mkS a::Lib.splitB CP 0 k (mkS r):=by
 have hz:s.size=a.length+(r.length+1):=by rw [← aK,hs];simp
 rw [Lib.splitB_hit CP 0 k s a.length (by rw [uL,hs,uM _ _ h])]
 have e1:s.extract 0 (a.length+0)=mkS a:=bq (by rw [bf,hs,bS];simp)
 have e2:s.extract (a.length+CP.size) s.size=mkS r:=bq (by
  have:CP.size=1:=rfl;rw [bf,hs,bS,this,hz]
  simp only [List.drop_append,List.drop_succ_cons,show a.length+1-a.length=1 by omega,List.drop_zero]
  rw [List.drop_of_length_le (by omega),List.nil_append,List.take_of_length_le (by omega)])
 rw [e1,e2]
open Go.RowKit Sd
theorem cn {P:Prop} (h:P):Hid P:=h
theorem xV {s:ByteArray} (h:kN (bytes s)):fB s=[s]:=by
 unfold fB;rw [AQ _ _ h]
 rfl
theorem qV {s:ByteArray} {a r:List UInt8} (hs:bytes s=a++10::r) (h:kN a):fB s=mkS a::fB (mkS r):=by
 unfold fB;rw [hs,AP _ _ _ h]
 rfl
theorem pE (s:ByteArray):1≤(fB s).length:=by
 unfold fB;rw [List.length_map];exact Fa _ _
theorem nZ:∀ (n:Nat) (s:ByteArray),s.size≤n→Lib.splitB CP 0 (Lib.countB s CP) s=fB s
 | n,s,hn=>by
  rcases ET (bytes s) with h | ⟨a,r,hs,h⟩
  ·rw [Dn _ _ h,xV h]
  ·have hi:Lib.indexB s CP=(a.length:Int):=by rw [uL,hs,uM _ _ h]
   have hsz:s.size=a.length+1+r.length:=by rw [← aK,hs];simp;omega
   have hr:s.extract (a.length+CP.size) s.size=mkS r:=by
    refine bq ?_
    rw [bf,hs,bS,show CP.size=1 from rfl,hsz]
    simp only [List.drop_append,List.drop_succ_cons,show a.length+1-a.length=1 by omega,List.drop_zero]
    rw [List.drop_of_length_le (by omega),List.nil_append,List.take_of_length_le (by omega)]
   rw [Lib.countB_hit s CP a.length (by decide) hi,hr,Nat.add_comm 1,Dm _ _ _ _ hs h,qV hs h]
   cases n with
   | zero=>omega
   | succ n=>rw [nZ n (mkS r) (by rw [ch];omega)]
def fe (s:ByteArray):List ByteArray:=if (fB s).getLast?=some ⟨#[]⟩ then (fB s).dropLast else fB s
theorem wK {l:List ByteArray} (h:1≤l.length):l.getLast?=some (dE l (l.length-1)):=by
 rw [List.getLast?_eq_getElem?,bA (by omega)]
theorem Dh {w:World} {g o n c:Nat} {l:List ByteArray} (h:dV w (.slice (some ⟨g,o,none⟩) n c) l) (hn:n=l.length) (hl:1≤l.length):dV w (.slice (some ⟨g,o,none⟩) (l.length-1) c) l.dropLast:=by
 obtain ⟨g',o',c',e,h1,h2,h4⟩:=h
 injection e with e1 e2 e3
 injection e1 with e1
 injection e1 with e1 e5
 subst e1;subst e5;subst e3
 refine ⟨g,o,c,by rw [List.length_dropLast],by rw [List.length_dropLast];omega,h2,fun i x hx=>h4 i x ?_⟩
 have hi:=(List.getElem?_eq_some_iff.1 hx).1;rw [List.length_dropLast] at hi;rw [List.getElem?_dropLast,if_pos hi] at hx;exact hx
theorem vI (s:ByteArray) (w:World) (hs:s.size≤1048576) (hm:jo w) :
  Calls Tryz.prog 51 #[.string s] w fun e w'=>∃ v,e=.returned v∧dV w' v (fe s)∧Below w.heap.size w w':=by
 obtain ⟨m,hm⟩:=hm
 have HC:=cn (Tryz.strings_Split s CP m w (by omega) hm (by decide))
 rw [nZ s.size s aG] at HC
 go_enter Tryz.func51,Tryz.ntmps51
 go_wp2_with fail;refine HC.out.mono ?_;rintro e w1 ⟨rfl,rfl⟩
 have hcn:Lib.countB s CP+1=(fB s).length:=by
  rw [← nZ s.size s aG]
  exact (Lib.splitB_all CP (by decide) 0 _ s rfl).symm
 have hcl:=Lib.countB_le CP (by decide) s.size s aG
 have HB:Hid (Below w.heap.size w (w.alloc (.cells ((fB s).map Value.string).toArray 9))):=(aM)
 have hhp:(w.alloc (.cells ((fB s).map Value.string).toArray 9)).heap[w.heap.size]?=some (.cells ((fB s).map Value.string).toArray 9 (0,0)):=by show (w.heap.push _)[w.heap.size]?=_;simp
 have HS:Hid (dV (w.alloc (.cells ((fB s).map Value.string).toArray 9)) (.slice (some ⟨w.heap.size,0,none⟩) (fB s).length (fB s).length) (fB s)) :=
  ⟨w.heap.size,0,_,rfl,Nat.le_refl _,by unfold maxLen;omega,fun i x hx=>by simp only [World.cell?,Nat.zero_add];rw [hhp];simp [hx]⟩
 rw [hcn];have hpos:=pE s
 have hll:(fB s).length≤1048577:=by omega
 have HL:Hid (fe s=if dE (fB s) ((fB s).length-1)=⟨#[]⟩ then (fB s).dropLast else fB s):=by
  show _=_
  unfold fe;rw [wK hpos]
  simp only [Option.some.injEq]
 clear hcn hhp hcl HC hm;generalize (w.alloc (.cells ((fB s).map Value.string).toArray 9))=w1 at *;generalize fB s=l at *
 obtain ⟨n1,hn1⟩:∃ n1,l.length=n1+1:=⟨l.length-1,by omega⟩
 have hq:w1.cell? ⟨w.heap.size,n1,none⟩=some (.string (dE l n1)):=by
  obtain ⟨g',o',c',e,h1,h2,h4⟩:=HS.out
  injection e with e1 e2 e3
  injection e1 with e1
  injection e1 with e1 e5
  have:=h4 n1 _ (bA (by omega))
  rw [← e1,← e5,Nat.zero_add] at this;exact this
 have HP:=cn (Dh HS.out rfl hpos)
 have hw1:IntKind.i64.wrap ((n1:Int)+1-1)=(n1:Int):=by rw [IntKind.wrap_i64];omega
 have hi0:(0:Int)≤(n1:Int):=by omega
 rw [hn1] at HS HP HL hll;rw [hn1];rw [Nat.add_sub_cancel] at HP HL
 have hi1:(n1:Int)<(n1:Int)+1:=by omega
 clear hpos hn1
 by_cases hx:dE l n1=⟨#[]⟩
 ·rw [if_pos hx] at HL
  rw [hx] at hq;go_wp2_with fail;go_ret
  exact ⟨_,rfl,by rw [HL.out];exact HP.out,HB.out⟩
 ·rw [if_neg hx] at HL
  have hxn:((dE l n1).toList==[])=false:=(show (⟨#[]⟩:ByteArray).toList=[] by decide +kernel) ▸ b9 (b:=⟨#[]⟩) hx
  generalize dE l n1=x at *;go_wp2_with fail;go_ret
  exact ⟨_,rfl,by rw [HL.out];exact HS.out,HB.out⟩
open Go.RowKit Sd
def jg (s:ByteArray):Bool:=decide ((10000:Int)<(s.size:Int))||decide ((200:Int)<((fe s).length:Int))
theorem C9 (s:ByteArray) (w:World) (hs:s.size≤1048576) (hm:jo w) :
  Calls Tryz.prog 50 #[.string s] w fun e w'=>e=.returned (.bool (jg s))∧Below w.heap.size w w':=by
 have HC:=cn (vI s w hs hm)
 by_cases h1:(10000:Int)<(s.size:Int)
 ·have HL:Hid (jg s=true):=by show _=_;unfold jg;rw [decide_eq_true h1];rfl
  go_enter Tryz.func50,Tryz.ntmps50
  go_wp2_with fail;go_ret
  exact ⟨by rw [HL.out];rfl,Below.refl _ _⟩
 ·have HL:Hid (jg s=decide ((200:Int)<((fe s).length:Int))):=by show _=_;unfold jg;rw [decide_eq_false h1];rfl
  go_enter Tryz.func50,Tryz.ntmps50
  go_wp2_with fail;refine HC.out.mono ?_;rintro e w1 ⟨v,rfl,hv,hb⟩;obtain ⟨g,o,c,rfl,-,-,-⟩:=hv;have HB:=cn hb;clear HC hb;generalize (fe s).length=n at *;go_wp2_with fail;go_ret
  exact ⟨by rw [HL.out];rfl,HB.out⟩
theorem Ev (s:ByteArray) (w:World) (hs:s.size≤1048576) :
  Calls Tryz.prog 32 #[.string s] w fun e w'=>∃ v,e=.returned v∧dV w' v (fe s)∧Below w.heap.size w w':=by
 have HC:=cn (yg s w hs)
 go_enter Tryz.func32,Tryz.ntmps32
 go_wp2_with fail;refine HC.out.mono ?_;rintro e w1 ⟨v,rfl,hv,hb⟩;have HB:=cn hb;have hpos:=pE s
 have HS:=cn (bO hv (fun e=>by rw [e] at hpos;simp at hpos))
 have HL:Hid (fe s=if dE (fB s) ((fB s).length-1)=⟨#[]⟩ then (fB s).dropLast else fB s):=by
  show _=_
  unfold fe;rw [wK hpos]
  simp only [Option.some.injEq]
 obtain ⟨g,o,c,rfl,-,hcm,-⟩:=HS.out;unfold maxLen at hcm;clear hv hb HC;generalize fB s=l at *
 obtain ⟨n1,hn1⟩:∃ n1,l.length=n1+1:=⟨l.length-1,by omega⟩
 have hlc:n1+1≤c:=by
  obtain ⟨_,_,c',e,h1,h2,_⟩:=HS.out
  injection e with e1 e2 e3
  omega
 have hq:w1.cell? ⟨g,o+n1,none⟩=some (.string (dE l n1)):=by
  obtain ⟨g',o',c',e,h1,h2,h4⟩:=HS.out
  injection e with e1 e2 e3
  injection e1 with e1
  injection e1 with e1 e5
  have:=h4 n1 _ (bA (by omega))
  rw [← e1,← e5] at this;exact this
 have HP:=cn (Dh HS.out rfl hpos)
 have hw1:IntKind.i64.wrap ((n1:Int)+1-1)=(n1:Int):=by rw [IntKind.wrap_i64];omega
 have hi0:(0:Int)≤(n1:Int):=by omega
 rw [hn1] at HS HP HL;rw [hn1];rw [Nat.add_sub_cancel] at HP HL
 have hi1:(n1:Int)<(n1:Int)+1:=by omega
 clear hpos hn1
 by_cases hx:dE l n1=⟨#[]⟩
 ·rw [if_pos hx] at HL
  rw [hx] at hq;go_wp2_with fail;go_ret
  exact ⟨_,rfl,by rw [HL.out];exact HP.out,HB.out⟩
 ·rw [if_neg hx] at HL
  have hxn:((dE l n1).toList==[])=false:=(show (⟨#[]⟩:ByteArray).toList=[] by decide +kernel) ▸ b9 (b:=⟨#[]⟩) hx
  generalize dE l n1=x at *;go_wp2_with fail;go_ret
  exact ⟨_,rfl,by rw [HL.out];exact HS.out,HB.out⟩
open Go.RowKit Sd
def r9 (s:ByteArray):Int:=bif eu s then (fF s s.size:Int) else 0
theorem Ai (num:Int) (s:ByteArray) (w:World) (hs:s.size≤1048576) :
  Calls Tryz.prog 179 #[.agg #[.int .i64 num,.string s]] w fun e w'=>e=.returned (bif decide ((dn s).length=4) then .tuple #[.string (dE (dn s) 1),.int .i64 (r9 (dE (dn s) 2)),.int .i64 (r9 (dE (dn s) 3)),.bool (eu (dE (dn s) 2)&&eu (dE (dn s) 3))] else .tuple #[.string ⟨#[]⟩,.int .i64 0,.int .i64 0,.bool false])∧Below w.heap.size w w':=by
 have HB:Hid (Below w.heap.size w (w.alloc (.cells #[.int .i64 num,.string s] 89))):=(aM)
 go_enter Tryz.func179,Tryz.ntmps179
 go_wp2_with fail;refine (nW s _ hs).mono ?_;rintro e w1 ⟨v,rfl,hv,hb⟩;have B1:Hid (Below w.heap.size w w1):=aa HB.out hb;have HV:=cn hv;have hsz:∀ i,i<(dn s).length→(dE (dn s) i).size≤1048576:=fun i hi=>Nat.le_trans (kY hi) hs;obtain ⟨g,o,c,rfl,-,hcm,hcell⟩:=hv;unfold maxLen at hcm;clear hb HB
 by_cases h4:(dn s).length=4
 ·have c1:=hcell 1 _ (bA (by omega))
  have c2:=hcell 2 _ (bA (by omega))
  have c3:=hcell 3 _ (bA (by omega))
  have z1:=hsz 1 (by omega)
  have z2:=hsz 2 (by omega)
  have z3:=hsz 3 (by omega)
  have HCC:Hid (∀ wx:World,Below w1.heap.size w1 wx→wx.cell? ⟨g,o+1,none⟩=some (.string (dE (dn s) 1))∧wx.cell? ⟨g,o+2,none⟩=some (.string (dE (dn s) 2))∧wx.cell? ⟨g,o+3,none⟩=some (.string (dE (dn s) 3))):=fun wx hx=>⟨ag hx aG c1,ag hx aG c2,ag hx aG c3⟩;obtain ⟨Q0,hQ0⟩:∃ q,q=(bif decide ((dn s).length=4) then Value.tuple #[.string (dE (dn s) 1),.int .i64 (r9 (dE (dn s) 2)),.int .i64 (r9 (dE (dn s) 3)),.bool (eu (dE (dn s) 2)&&eu (dE (dn s) 3))] else .tuple #[.string ⟨#[]⟩,.int .i64 0,.int .i64 0,.bool false]):=⟨_,rfl⟩;have HQ0:=cn hQ0
  have HR:Hid (Q0=.tuple #[.string (dE (dn s) 1),.int .i64 (r9 (dE (dn s) 2)),.int .i64 (r9 (dE (dn s) 3)),.bool (eu (dE (dn s) 2)&&eu (dE (dn s) 3))]):=by
   show _=_
   rw [hQ0,decide_eq_true h4]
   rfl
  clear hQ0;rw [h4];clear hcell hsz HV h4;have nT:Hid (r9 (dE (dn s) 2)=bif eu (dE (dn s) 2) then (fF (dE (dn s) 2) (dE (dn s) 2).size:Int) else 0):=rfl;have FM:Hid (r9 (dE (dn s) 3)=bif eu (dE (dn s) 3) then (fF (dE (dn s) 3) (dE (dn s) 3).size:Int) else 0):=rfl
  have HR1:=cn (bW (dE (dn s) 2) w1 (by unfold maxLen;omega))
  have HR2:Hid (∀ wx:World,Calls Tryz.prog 208 #[.string (dE (dn s) 3)] wx fun e w'=>e=.returned (.tuple #[.int .i64 (r9 (dE (dn s) 3)),.bool (eu (dE (dn s) 3))])∧Below wx.heap.size wx w'):=fun wx=>bW (dE (dn s) 3) wx (by unfold maxLen;omega)
  have jH:Hid (∀ wx:World,Calls Tryz.prog 208 #[.string (dE (dn s) 2)] wx fun e w'=>e=.returned (.tuple #[.int .i64 (r9 (dE (dn s) 2)),.bool (eu (dE (dn s) 2))])∧Below wx.heap.size wx w'):=fun wx=>bW (dE (dn s) 2) wx (by unfold maxLen;omega)
  clear nT FM HR1;generalize dE (dn s) 1=x1 at HR jH HR2 HCC c1 c2 c3 z1 z2 z3 ⊢;generalize dE (dn s) 2=x2 at HR jH HR2 HCC c1 c2 c3 z1 z2 z3 ⊢;generalize dE (dn s) 3=x3 at HR jH HR2 HCC c1 c2 c3 z1 z2 z3 ⊢;generalize r9 x2=n2 at HR jH HR2 HCC c1 c2 c3 z1 z2 z3 ⊢;generalize r9 x3=n3 at HR jH HR2 HCC c1 c2 c3 z1 z2 z3 ⊢;generalize eu x2=b2 at HR jH HR2 HCC c1 c2 c3 z1 z2 z3 ⊢;generalize eu x3=b3 at HR jH HR2 HCC c1 c2 c3 z1 z2 z3 ⊢;go_wp2_with fail;clear c1 c2 c3;refine (jH.out _).mono ?_;rintro e w2 ⟨rfl,hb2⟩;have B2:=cn hb2;obtain ⟨c1,c2,c3⟩:=HCC.out _ hb2;clear hb2;go_wp2_with fail;clear c1 c2 c3;refine (HR2.out _).mono ?_;rintro e w3 ⟨rfl,hb3⟩;have B3:=cn (aa B2.out hb3);obtain ⟨c1,c2,c3⟩:=HCC.out _ B3.out;clear hb3;go_wp2_with fail;clear c1 c2 c3
  refine (Sd.jm x1 _ (by omega)).mono ?_
  rintro e w4 ⟨rfl,hb4⟩;have BF:Hid (Below w.heap.size w w4):=aa B1.out (aa B3.out hb4);clear hb4 B1 B2 B3 HCC
  cases b2
  ·go_wp2_with fail
   exact bodyPost_ret (v:=.tuple #[.string x1,.int .i64 n2,.int .i64 n3,.bool false]) (by simp [results,Tryz.results179,go_sem]) rfl ⟨by rw [← HQ0.out,HR.out];rfl,BF.out⟩
  ·go_wp2_with fail
   exact bodyPost_ret (v:=.tuple #[.string x1,.int .i64 n2,.int .i64 n3,.bool b3]) (by simp [results,Tryz.results179,go_sem]) rfl ⟨by rw [← HQ0.out,HR.out];rfl,BF.out⟩
 ·have HR:Hid (decide ((dn s).length=4)=false):=decide_eq_false h4
  have h4b:(((dn s).length:Int)==4)=false:=by rw [beq_eq_false_iff_ne];omega
  go_wp2_with fail
  exact bodyPost_ret (v:=.tuple #[.string ⟨#[]⟩,.int .i64 0,.int .i64 0,.bool false]) (by simp [results,Tryz.results179,go_sem]) rfl ⟨by rw [HR.out];rfl,B1.out⟩
end Go.Proofs.YtcmgddnckohdaaaGreatDoor.Tx
