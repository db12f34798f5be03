import Derived.WalkSpells
import Derived.WalkLawsBesides
import Derived.Test.YtolokangldmodaaGreatDoorRows
set_option maxHeartbeats 1600000

open Go.Value renaming int->J,string->R,pointer->AG,bool->AE
open Go.Ending renaming returned->AF
open Option renaming none->AD,some->I
open Go.IntKind renaming i64->U
open Nat renaming le_refl->AL,zero_le->AS,not_lt_zero->Aj,lt_of_lt_of_le->At
open Go.RowKit.Below renaming refl->AM
open Bool renaming and_eq_true->AN,eq_iff_iff->AW,and_eq_false_iff->As
open ByteArray renaming empty->AO,getElem_eq_getElem_data->AT
open List renaming getElem_of_mem->An,all_eq_false->Aw,all_eq_true->AH
open Go Go.Proofs.YtolokangldmodaaGreatDoor
variable {w w':World} {b v s a:ByteArray} {o n k i fr base:Nat} {P:Nat->Bool} {ws:List ByteArray} {e:TypeId}
open Go.Proofs.Tryz
namespace Go.Proofs.YtolokangldmodaaGreatDoor
open Go.RowKit
abbrev Bw(w w':World):Prop:=Below w.heap.size w w'
structure dE where
 s:ByteArray
 x:Int
 y:Int
def dF(w:World)(v:Value)(l:List dE):Prop :=
 ∃a cap,v=.slice a l.length cap/\l.length<=cap/\cap<=maxLen/\∀i t,l[i]?=I t->∃b off,a=I ⟨b,off,AD⟩ /\
  w.cell? ⟨b,off+i*3,AD⟩=I (R t.s)/\w.cell? ⟨b,off+i*3+1,AD⟩=I (J U t.x)/\w.cell? ⟨b,off+i*3+2,AD⟩=I (J U t.y)
theorem am{b:Nat}{v:Value}(h:w.cell? ⟨b,o,AD⟩=I v):b<w.heap.size:=by
 by_cases hb:b<w.heap.size
 .exact hb
 .exfalso
  have hn:w.heap[b]?=AD:=by simp;omega
  simp[World.cell?,hn] at h
theorem aE :n<=n:=AL _
theorem aG{c:Obj}:Below w.heap.size w (w.alloc c):=(AM _ _).alloc (AL _) _
theorem ac{B b:Nat}{v:Value}(hb:Below B w w')(hB:w.heap.size<=B)(h:w.cell? ⟨b,o,AD⟩=I v):w'.cell? ⟨b,o,AD⟩=I v:=by
 rw[hb.cell (p:=⟨b,o,AD⟩) (At (am h) hB)];exact h
theorem dF.keep{v:Value}{l:List dE}(h:dF w v l)(hb:Bw w w'):dF w' v l:=by
 obtain⟨a,cap,rfl,h1,h2,h3⟩:=h;refine⟨a,cap,rfl,h1,h2,λi t ht=>?_⟩;obtain⟨b,off,ha,c0,c1,c2⟩:=h3 i t ht;exact⟨b,off,ha,ac hb (AL _) c0,ac hb (AL _) c1,ac hb (AL _) c2⟩
theorem aa{w1 w2:World}(h:Bw w w1)(k:Bw w1 w2):Bw w w2 :=
 h.trans (k.mono h.size)
def sumS:List dE->Nat
 |[]=>0
 |t::r=>t.s.size+sumS r
def ML(l:List dE):Nat:=l.length+sumS l
def fE(n lo hi:Int):Bool:=decide (lo<=n)&&decide (n<=hi)
def sQ(c:Int):Bool:=(decide (97<=c)&&decide (c<=122))||((decide (48<=c)&&decide (c<=57))||decide (c=45))
def charsB(s:ByteArray):Bool:=s.data.toList.all λc=>sQ c.toNat
def dJ(s:ByteArray):Bool:=fE s.size 1 8&&charsB s
def lX(s t:ByteArray):Bool:=!Op.bytesLess s.toList t.toList
theorem zS(h:∀k (hk:k<s.size),sQ (s[k].toNat)=true):charsB s=true:=by
 unfold charsB;rw[AH];intro c hc;obtain⟨k,hk,rfl⟩:=An hc
 exact h k (by simpa using hk)
theorem qI(hk:k<s.size)(h:sQ (s[k].toNat)=false):charsB s=false:=by
 unfold charsB;rw[Aw]
 exact⟨s[k],by simp[AT],by simp[h]⟩
def gu(n:Nat)(P:Nat->Bool):Bool:=(List.range n).all P
theorem bg(h:∀j,j<n->P j=true):gu n P=true:=by
 simp[gu];exact h
theorem bm{j:Nat}(hj:j<n)(h:P j=false):gu n P=false:=by
 simp[gu];exact⟨j,hj,h⟩
theorem bj(h:gu n P=true):∀j,j<n->P j=true:=by
 simpa[gu] using h
theorem DJ(n:Nat)(P Q:Nat->Bool):gu n (λj=>P j&&Q j)=(gu n P&&gu n Q):=by
 rw[AW];simp[gu];exact⟨λh=>⟨λj hj=>(h j hj).1,λj hj=>(h j hj).2⟩,λh j hj=>⟨h.1 j hj,h.2 j hj⟩⟩
theorem lT{Q:Nat->Bool}(h:∀j,j<n->P j=Q j):gu n P=gu n Q:=by
 rw[AW];simp[gu];exact⟨λk j hj=>(h j hj)▸k j hj,λk j hj=>(h j hj).symm▸k j hj⟩
def at'(l:List dE)(i:Nat):dE:=l.getD i ⟨AO,0,0⟩
theorem bG{l:List dE}(h:i<l.length):l[i]?=I (at' l i):=by
 simp[at',h]
def jB(l:List dE)(i:Nat):Bool:=!(decide (0<i)&&lX (at' l (i-1)).s (at' l i).s)
def gW(t:dE):Bool:=decide (1<=t.x)&&(decide (t.x<=t.y)&&decide (t.y<=50))
def fq(t:dE):Bool:=fE t.x 0 15&&fE t.y 0 15
def j4(t u:dE):Bool:=decide (t.x=u.x)&&decide (t.y=u.y)
def fO(l:List dE)(i:Nat)(t:dE):Bool:=!gu i λk=>!j4 (at' l k) t
def fF(l:List dE)(most:Nat):Bool:=decide (l.length<=most)&&gu l.length λi=>dJ (at' l i).s&&jB l i
def dU(l:List dE):Bool:=fF l 6&&gu l.length λi=>gW (at' l i)
def dI(l:List dE):Bool:=fF l 16&&gu l.length λi=>fq (at' l i)&&!fO l i (at' l i)
def iL(t:dE):Bool:=dJ t.s&&gW t
def gQ(t:dE):Bool:=dJ t.s&&fq t
theorem FP(l:List dE):dU l=(decide (l.length<=6)&&gu l.length λi=>iL (at' l i)&&jB l i):=by
 unfold dU fF;rw[Bool.and_assoc,<-DJ]
 congr 1
 refine lT λj _=>?_;unfold iL
 cases dJ (at' l j).s<;>cases jB l j<;>cases gW (at' l j)<;>rfl
theorem Bv(l:List dE):dI l=(decide (l.length<=16)&&gu l.length λi=>(gQ (at' l i)&&jB l i)&&gu i λk=>!j4 (at' l k) (at' l i)):=by
 unfold dI fF;rw[Bool.and_assoc,<-DJ]
 congr 1
 refine lT λj _=>?_;unfold gQ fO
 cases dJ (at' l j).s<;>cases jB l j<;>cases fq (at' l j)<;>simp
end Go.Proofs.YtolokangldmodaaGreatDoor
namespace Go.Proofs.YtolokangldmodaaGreatDoor
open Go.RowKit
abbrev Rb(f:FuncId)(r:Array Value)(w:World)(v:Value):Prop:=Calls prog f r w λe w'=>e=AF v/\Bw w w'
abbrev Rs(f:FuncId)(r:Array Value)(w:World)(v:Value):Prop:=Calls prog f r w λe w'=>e=AF v/\w'=w
theorem aw{a b:Bool}(h:a=b):Ending.returned (AE a)=AF (AE b):=by rw[h]
theorem cP{k:IntKind}{a b:Int}(h:a=b):Ending.returned (.int k a)=AF (.int k b):=by rw[h]
theorem bh(n lo hi:Int)(w:World) :
 Calls prog 74 #[J U n,J U lo,J U hi] w λe w'=>e=AF (AE (fE n lo hi))/\w'=w:=by
 by_cases h1:lo<=n
 .by_cases h2:n<=hi
  focus
   have e:fE n lo hi=true:=by simp[fE,h1,h2]
  rotate_left
  focus
   have e:fE n lo hi=false:=by simp[fE,h1,h2]
  rotate_left
  all_goals
   rw[e];clear e
   go_enter func74,ntmps74
   go_wp2;go_ret;exact⟨rfl,rfl⟩
 .have e:fE n lo hi=false:=by simp[fE,h1]
  rw[e];clear e
  go_enter func74,ntmps74
  go_wp2;go_ret;exact⟨rfl,rfl⟩
theorem uU(n:Int)(w:World) :
 Calls prog 200 #[J U n] w λe w'=>e=AF (AE (fE n 0 15))/\w'=w:=by
 by_cases h1:0<=n
 .by_cases h2:n<16
  focus
   have e:fE n 0 15=true:=by simp[fE,h1];omega
  rotate_left
  focus
   have e:fE n 0 15=false:=by simp[fE,h1];omega
  rotate_left
  all_goals
   rw[e];clear e
   go_enter func200,ntmps200
   go_wp2;go_ret;exact⟨rfl,rfl⟩
 .have e:fE n 0 15=false:=by simp[fE,h1]
  rw[e];clear e
  go_enter func200,ntmps200
  go_wp2;go_ret;exact⟨rfl,rfl⟩
theorem qo(c:Int)(w:World) :
 Calls prog 107 #[.int .i32 c] w λe w'=>e=AF (AE (sQ c))/\w'=w:=by
 by_cases h1:97<=c
 .by_cases h2:c<=122
  .have e:sQ c=true:=by simp[sQ,h1,h2]
   rw[e];clear e
   go_enter func107,ntmps107
   go_wp2;go_ret;exact⟨rfl,rfl⟩
  .have e:sQ c=false:=by simp[sQ,h1,h2];omega
   rw[e];clear e
   have h3:48<=c:=by omega
   have h4:¬c<=57:=by omega
   have h5:(c==45)=false:=by simp;omega
   go_enter func107,ntmps107
   go_wp2;go_ret;exact⟨rfl,rfl⟩
 .by_cases h3:48<=c
  .by_cases h4:c<=57
   .have e:sQ c=true:=by simp[sQ,h1,h3,h4]
    rw[e];clear e
    go_enter func107,ntmps107
    go_wp2;go_ret;exact⟨rfl,rfl⟩
   .have e:sQ c=false:=by simp[sQ,h1,h4];omega
    rw[e];clear e
    have h5:(c==45)=false:=by simp;omega
    go_enter func107,ntmps107
    go_wp2;go_ret;exact⟨rfl,rfl⟩
  .by_cases h5:c=45
   .subst h5
    go_enter func107,ntmps107
    go_wp2;go_ret;exact⟨rfl,rfl⟩
   .have e:sQ c=false:=by simp[sQ,h1,h3,h5]
    rw[e];clear e
    have h6:(c==45)=false:=by simp;omega
    go_enter func107,ntmps107
    go_wp2;go_ret;exact⟨rfl,rfl⟩
theorem cY(w:World)(s:ByteArray)(k:Nat):Bw w (w.iter s k):=(AM _ _).alloc (AL _) _
theorem nD(s:ByteArray)(w:World)(hs:s.size<=maxLen) :
 Calls prog 84 #[R s] w λe w'=>e=AF (AE (dJ s))/\Bw w w':=by
 unfold maxLen at hs
 by_cases h1:(s.size:Int)<1
 .have e:dJ s=false:=by simp[dJ,fE];omega
  rw[e];clear e
  go_enter func84,ntmps84
  go_wp2;go_ret;exact⟨rfl,AM _ _⟩
 by_cases h2:(8:Int)<s.size
 .have e:dJ s=false:=by simp[dJ,fE];omega
  rw[e];clear e
  go_enter func84,ntmps84
  go_wp2;go_ret;exact⟨rfl,AM _ _⟩
 have e:dJ s=charsB s:=by
  have:fE s.size 1 8=true:=by simp[fE];omega
  simp[dJ,this]
 rw[e];clear e
 go_enter func84,ntmps84
 go_wp2
 go_loopw [4] (λ_ wr=>∃k:Nat,k<=s.size/\wr=w.iter s k/\Hid (∀j (hj:j<s.size),j<k->sQ (s[j].toNat)=true)) (λ_ wr=>s.size-wr.iterPos w.heap.size)
 case atStart=>exact⟨0,AS _,rfl,λj _ hj=>absurd hj (Aj _)⟩
 case round =>
  obtain⟨k,hk,rfl,HA⟩:=hrel
  by_cases ad:k<s.size
  .by_cases ha:(s[k].toNat)<128
   .have ao:∀ty,(Instr.next (AG (I ⟨w.heap.size,0,AD⟩)) true ty).run prog (w.iter s k)=_:=λty=>run_next_ascii w s k ty ad ha
    cases bP:sQ (s[k].toNat)
    .have HC:Hid (sQ (s[k].toNat)=false):=bP
     clear bP
     go_wp2_with (go_at_call 107;refine(qo _ _).mono ?_;rw[HC.out];rintro e w'⟨rfl,rfl⟩)
     go_ret;exact⟨aw (qI ad HC.out).symm,cY _ _ _⟩
    .have HC:Hid (sQ (s[k].toNat)=true):=bP
     clear bP
     go_wp2_with (go_at_call 107;refine(qo _ _).mono ?_;rw[HC.out];rintro e w'⟨rfl,rfl⟩)
     go_roundw
     case rel=>exact⟨k+1,by omega,rfl,λj hj bb=>if h:j=k then by subst h;exact HC.out else HA.out j hj (by omega)⟩
     case measure=>simp;omega
   .have ao:∀ty,(Instr.next (AG (I ⟨w.heap.size,0,AD⟩)) true ty).run prog (w.iter s k)=_:=λty=>run_next_any w s k ty ad
    have hd:=(decode_high s k ad (by omega)).1
    generalize Utf8.decode s k=d at ao hd
    have HC:Hid (sQ (d.1:Int)=false):=by
     show sQ (d.1:Int)=false
     simp[sQ];omega
    have HD:Hid (sQ (s[k].toNat)=false):=by
     show sQ (s[k].toNat)=false
     simp[sQ];omega
    go_wp2_with (go_at_call 107;refine(qo _ _).mono ?_;rw[HC.out];rintro e w'⟨rfl,rfl⟩)
    go_ret;exact⟨aw (qI ad HD.out).symm,cY _ _ _⟩
  .have ao:∀ty,(Instr.next (AG (I ⟨w.heap.size,0,AD⟩)) true ty).run prog (w.iter s k)=_:=λty=>run_next_end w s k ty ad
   go_wp2;go_ret
   exact⟨aw (zS λj hj=>HA.out j hj (by omega)).symm,cY _ _ _⟩
theorem bu(s:ByteArray)(w:World)(hs:s.size<=maxLen) :
 Calls prog 73 #[R s] w λe w'=>e=AF (AE (dJ s))/\w'=w:=by
 unfold maxLen at hs
 cases ak:fE s.size 1 8
 .have e:dJ s=false:=by simp[dJ,ak]
  rw[e];clear e;have HI:Hid (fE s.size 1 8=false):=ak;clear ak
  go_enter func73,ntmps73
  go_wp2_with (go_at_call 74;refine(bh _ _ _ _).mono ?_;rw[HI.out];rintro e w'⟨rfl,rfl⟩)
  go_ret;exact⟨rfl,rfl⟩
 .have e:dJ s=charsB s:=by simp[dJ,ak]
  rw[e];clear e;have HI:Hid (fE s.size 1 8=true):=ak;clear ak
  go_enter func73,ntmps73
  go_wp2_with (go_at_call 74;refine(bh _ _ _ _).mono ?_;rw[HI.out];rintro e w'⟨rfl,rfl⟩)
  go_loop [3,4] (λi _=>∃k:Nat,k<=s.size/\i=J U k/\Hid (∀j (hj:j<s.size),j<k->sQ (s[j].toNat)=true)) (λi _=>s.size-(intOf i).toNat)
  case atStart=>exact⟨0,AS _,rfl,λj _ hj=>absurd hj (Aj _)⟩
  case round =>
   obtain⟨k,hk,rfl,HA⟩:=hrel
   by_cases ad:k<s.size
   .have fin:Hid (sQ (s[k].toNat)=true->∀j (hj:j<s.size),j<k+1->sQ (s[j].toNat)=true):=λh j hj bb=>if e:j=k then by subst e;exact h else HA.out j hj (by omega)
    have bad:Hid (sQ (s[k].toNat)=false->charsB s=false):=λh=>qI ad h;have hx:∃c:Nat,c=s[k].toNat:=⟨_,rfl⟩
    by_cases h1:(97:Int)<=(s[k].toNat:Int)
    .by_cases h2:(s[k].toNat:Int)<=122
     .go_wp2
      go_round
      case rel=>exact⟨k+1,by omega,by go_num,fin.out (by simp[sQ];omega)⟩
      case measure=>simp[intOf];omega
     .have h3:(48:Int)<=(s[k].toNat:Int):=by omega
      have h4:¬(s[k].toNat:Int)<=57:=by omega
      have h5:((s[k].toNat:Int)==45)=false:=by simp;omega
      go_wp2;go_ret
      exact⟨aw (bad.out (by simp[sQ];omega)).symm,rfl⟩
    .by_cases h3:(48:Int)<=(s[k].toNat:Int)
     .by_cases h4:(s[k].toNat:Int)<=57
      .go_wp2
       go_round
       case rel=>exact⟨k+1,by omega,by go_num,fin.out (by simp[sQ];omega)⟩
       case measure=>simp[intOf];omega
      .have h5:((s[k].toNat:Int)==45)=false:=by simp;omega
       go_wp2;go_ret
       exact⟨aw (bad.out (by simp[sQ];omega)).symm,rfl⟩
     .by_cases h5:(s[k].toNat:Int)=45
      .have h6:((s[k].toNat:Int)==45)=true:=by simp[h5]
       have H5:Hid ((s[k].toNat:Int)=45):=h5;clear h5;go_wp2
       go_round
       case rel=>exact⟨k+1,by omega,by go_num,fin.out (by have:=H5.out;simp[sQ];omega)⟩
       case measure=>simp[intOf];omega
      .have h6:((s[k].toNat:Int)==45)=false:=by simp;omega
       go_wp2;go_ret
       exact⟨aw (bad.out (by simp[sQ];omega)).symm,rfl⟩
   .go_wp2
    go_ret
    exact⟨aw (zS λj hj=>HA.out j hj (by omega)).symm,rfl⟩
open Go.RowKit
structure eH where
 f:ByteArray
 what:Int
 num:Int
 v:ByteArray
theorem wL(n:Int)(w:World) :
 Rs 183 #[J U n] w (AE (fE n 1 1000000)):=by
 by_cases h1:1<=n
 .by_cases h2:n<=1000000
  focus
   have e:fE n 1 1000000=true:=by simp[fE,h1,h2]
  rotate_left
  focus
   have e:fE n 1 1000000=false:=by simp[fE,h1,h2]
  rotate_left
  all_goals
   rw[e];clear e
   go_enter func183,ntmps183
   go_wp2;go_ret;exact⟨rfl,rfl⟩
 .have e:fE n 1 1000000=false:=by simp[fE,h1]
  rw[e];clear e
  go_enter func183,ntmps183
  go_wp2;go_ret;exact⟨rfl,rfl⟩
open Go.RowKit
def dR(w:World)(v:Value)(ws:List ByteArray):Prop :=
 ∃g off cap,v=.slice (I ⟨g,off,AD⟩) ws.length cap/\ws.length<=cap/\cap<=maxLen/\∀i x,ws[i]?=I x->w.cell? ⟨g,off+i,AD⟩=I (R x)
theorem dR.keep{v:Value}(h:dR w v ws)(hb:Bw w w'):dR w' v ws:=by
 obtain⟨g,off,cap,rfl,h1,h2,h3⟩:=h;exact⟨g,off,cap,rfl,h1,h2,λi x hx=>ac hb (AL _) (h3 i x hx)⟩
def gU(cur:List UInt8):List UInt8->List (List UInt8)
 |[]=>[cur]
 |c::r=>if c=32 then cur::gU [] r else gU (cur++[c]) r
def bytes(s:ByteArray):List UInt8:=s.data.toList
theorem bd(h:bytes a=bytes b):a=b:=ByteArray.ext (Array.toList_inj.1 h)
theorem aF(s:ByteArray):(bytes s).length=s.size:=by simp[bytes]
theorem aP(s:ByteArray)(a b:Nat):bytes (s.extract a b)=((bytes s).drop a).take (b-a):=by
 simp[bytes]
theorem drop_cons(s:ByteArray)(k:Nat)(h:k<s.size):(bytes s).drop k=s[k]::(bytes s).drop (k+1):=by
 have hl:k<(bytes s).length:=by rw[aF];exact h
 rw[List.drop_eq_getElem_cons hl]
 rfl
theorem BO(s:ByteArray)(a k:Nat)(ha:a<=k)(h:k<s.size):bytes (s.extract a (k+1))=bytes (s.extract a k)++[s[k]]:=by
 rw[aP,aP]
 have hl:k-a<((bytes s).drop a).length:=by rw[List.length_drop,aF];omega
 rw[show k+1-a=k-a+1 by omega,List.take_succ_eq_append_getElem hl]
 congr 2
 simp only[List.getElem_drop]
 have:a+(k-a)=k:=by omega
 simp only[this]
 rfl
def ji(s:ByteArray)(fr k:Nat)(P:List ByteArray):Prop:=P.map bytes++gU (bytes (s.extract fr k)) ((bytes s).drop k)=gU [] (bytes s)
theorem ji.start(s:ByteArray):ji s 0 0 []:=by
 unfold ji;rw[aP]
 simp
theorem ji.space{P:List ByteArray}(h:ji s fr k P)(hk:k<s.size)(hc:s[k]=32):ji s (k+1) (k+1) (P++[s.extract fr k]):=by
 unfold ji at h ⊢;rw[drop_cons s k hk,gU,if_pos hc] at h;rw[<-h,aP s (k+1) (k+1)]
 simp
theorem ji.other{P:List ByteArray}(h:ji s fr k P)(ha:fr<=k)(hk:k<s.size)(hc:¬s[k]=32):ji s fr (k+1) P:=by
 unfold ji at h ⊢;rw[drop_cons s k hk,gU,if_neg hc] at h;rw[<-h,BO s fr k ha hk]
theorem ji.fin{P:List ByteArray}(h:ji s fr s.size P):(P++[s.extract fr s.size]).map bytes=gU [] (bytes s):=by
 unfold ji at h
 rw[List.drop_of_length_le (by rw[aF];omega),gU] at h
 rw[<-h];simp
theorem vN(c:UInt8):(((c.toNat:Nat):Int)==32)=(c==32):=by
 rw[AW]
 simp only[beq_iff_eq]
 constructor
 .intro h
  apply UInt8.toNat_inj.1
  have:c.toNat=32:=by omega
  simpa using this
 .rintro rfl;rfl
theorem dY{size:Nat}{v:Value}{xs:List Value}(h:w.ownsRow base e size v n xs):∀k,v.ownBlock=I k->base<=k:=by
 intro k hk
 rcases h.2 with⟨rfl,_⟩|⟨g,cap,cur,rfl,hg,_⟩
 .cases hk
 .cases hk;exact hg
theorem bq{v:Value}(h:w.ownsRow base e 1 v ws.length (ws.map R))(hne:ws≠[]):dR w v ws:=by
 rcases h.2 with⟨_,h0⟩|⟨g,cap,cur,rfl,_,hb,hn,hc,_,ht⟩
 .exact absurd (List.length_eq_zero_iff.1 h0) hne
 .refine ⟨g,0,cap,rfl,hn,hc,λi x hx=>?_⟩
  have hi:i<ws.length:=(List.getElem?_eq_some_iff.1 hx).1
  have h1:cur.toList[i]?=I (R x):=by
   have h2:(cur.toList.take (ws.length*1))[i]?=I (R x):=by rw[ht];simp[hx]
   rw[List.getElem?_take] at h2
   simpa[hi] using h2
  simp only[Nat.zero_add,World.cell?,hb]
  simpa using h1
theorem og:(prog.info? 9).map (λi=>(i.zero,i.size,i.bytes))=I (I (R AO),1,16):=by kernel_rfl
theorem FM(s:ByteArray)(w:World)(hs:s.size<=1048576) :
 Calls prog 19 #[R s,.int .u8 32] w λe w'=>∃v ws,e=AF v/\(w'.ownsRow w.heap.size 9 1 v ws.length (ws.map R)/\ws≠[])/\ws.map bytes=gU [] (bytes s)/\Bw w w':=by
 obtain⟨i0,hi,aT,aL,ay⟩:=info_parts og
 go_enter func19,ntmps19
 go_wp2
 go_loopw [5,6,7] (λo f i wr=>∃(k fr:Nat) (P:List ByteArray),fr<=k/\k<=s.size/\i=J U k/\f=J U fr/\P.length<=k/\wr.ownsRow w.heap.size 9 1 o P.length (P.map R)/\Bw w wr/\Hid (ji s fr k P)) (λ_ _ i _=>s.size-(intOf i).toNat)
 case atStart=>exact⟨0,0,[],AL _,AS _,rfl,rfl,AL _,World.ownsRow_made w #[] 0 (AL _) (AS _) rfl,(AM _ _).alloc (AL _) _,ji.start s⟩
 case round =>
  obtain⟨k,fr,P,bn,hk,rfl,rfl,b3,ai,hb,HI⟩:=hrel
  by_cases ad:k<s.size
  .by_cases hc:s[k]=32
   .have h1:(((s[k].toNat:Nat):Int)==32)=true:=by rw[vN];simpa using hc
    have HC:Hid (s[k]=32):=hc;clear hc
    go_wp2_with (at_builtin;refine wpList_append_own _ rfl _ _ 28 rfl w.heap.size 9 i0 (R AO) 1 16 underlying28 hi aT aL ay rfl (by decide) _ _ _ rfl (ai.alloc _) ⟨wr.heap.size,0,AD⟩ 1 1 [R (s.extract fr k)] rfl rfl (cell_one_new _ _ _) (λx hx=>by simp at hx;subst hx;rfl) (by unfold maxLen;omega) (by omega) (by have:=hb.size;simp;omega) ?_;intro v' w3 af ab au)
    refine⟨⟨k+1,k+1,P++[s.extract fr k],AL _,by omega,by go_num,by go_num,by simp;omega,?_,(hb.alloc hb.size _).grown ab (by have:=hb.size;simp;omega) (dY ai),HI.out.space ad HC.out⟩,by simp[intOf];omega⟩
    simpa using af
   .have h1:(((s[k].toNat:Nat):Int)==32)=false:=by rw[vN];simpa using hc
    have HC:Hid (¬s[k]=32):=hc;clear hc;go_wp2
    exact⟨⟨k+1,fr,P,by omega,by omega,by go_num,rfl,by omega,ai,hb,HI.out.other bn ad HC.out⟩,by simp[intOf];omega⟩
  .have HK:Hid (k=s.size):=by show k=s.size;omega
   go_wp2_with (at_builtin;refine wpList_append_own _ rfl _ _ 28 rfl w.heap.size 9 i0 (R AO) 1 16 underlying28 hi aT aL ay rfl (by decide) _ _ _ rfl (ai.alloc _) ⟨wr.heap.size,0,AD⟩ 1 1 [R (s.extract fr s.size)] rfl rfl (cell_one_new _ _ _) (λx hx=>by simp at hx;subst hx;rfl) (by unfold maxLen;omega) (by omega) (by have:=hb.size;simp;omega) ?_;intro v' w3 af ab au)
   go_ret
   refine⟨v',P++[s.extract fr s.size],rfl,⟨by simpa using af,by simp⟩,?_,(hb.alloc hb.size _).grown ab (by have:=hb.size;simp;omega) (dY ai)⟩
   have:=HI.out;rw[HK.out] at this;exact this.fin
theorem yI(s:ByteArray)(w:World)(hs:s.size<=1048576) :
 Calls prog 19 #[R s,.int .u8 32] w λe w'=>∃v ws,e=AF v/\dR w' v ws/\ws.map bytes=gU [] (bytes s)/\Bw w w' :=
 (FM s w hs).mono λ_ _ ⟨v,ws,h1,h2,h3⟩=>⟨v,ws,h1,bq h2.1 h2.2,h3⟩
open Go.RowKit
theorem mU(t:dE)(w:World) :
 Rb 140 #[.agg #[R t.s,J U t.x,J U t.y]] w (R t.s):=by
 go_enter func140,ntmps140
 go_wp2;go_ret;exact⟨rfl,(AM _ _).alloc (AL _) _⟩
theorem lW(t:dE)(w:World) :
 Rb 134 #[.agg #[R t.s,J U t.x,J U t.y]] w (R t.s):=by
 go_enter func134,ntmps134
 go_wp2;go_ret;exact⟨rfl,(AM _ _).alloc (AL _) _⟩
theorem BU(t:dE)(w:World) :
 Rb 174 #[.agg #[R t.s,J U t.x,J U t.y]] w (AE (gW t)):=by
 obtain⟨s,x,y⟩:=t;dsimp only
 by_cases h1:1<=x
 .by_cases h2:x<=y
  .by_cases h3:y<=50
   focus
    have e:gW ⟨s,x,y⟩=true:=by simp[gW,h1,h2,h3]
   rotate_left
   focus
    have e:gW ⟨s,x,y⟩=false:=by simp[gW,h3]
   rotate_left
   all_goals
    rw[e];clear e
    go_enter func174,ntmps174
    go_wp2;go_ret;exact⟨rfl,(AM _ _).alloc (AL _) _⟩
  .have e:gW ⟨s,x,y⟩=false:=by simp[gW,h2]
   rw[e];clear e
   go_enter func174,ntmps174
   go_wp2;go_ret;exact⟨rfl,(AM _ _).alloc (AL _) _⟩
 .have e:gW ⟨s,x,y⟩=false:=by simp[gW,h1]
  rw[e];clear e
  go_enter func174,ntmps174
  go_wp2;go_ret;exact⟨rfl,(AM _ _).alloc (AL _) _⟩
theorem vo(t:dE)(w:World) :
 Rb 178 #[.agg #[R t.s,J U t.x,J U t.y]] w (AE (fq t)):=by
 obtain⟨s,x,y⟩:=t;dsimp only
 cases h1:fE x 0 15
 .have e:fq ⟨s,x,y⟩=false:=by simp[fq,h1]
  rw[e];clear e;have H1:Hid (fE x 0 15=false):=h1;clear h1
  go_enter func178,ntmps178
  go_wp2_with (go_at_call 200;refine(uU _ _).mono ?_;rw[H1.out];rintro e w'⟨rfl,rfl⟩)
  go_ret;exact⟨rfl,(AM _ _).alloc (AL _) _⟩
 .have H1:Hid (fE x 0 15=true):=h1
  have e:fq ⟨s,x,y⟩=fE y 0 15:=by simp[fq,h1]
  rw[e];clear e h1
  go_enter func178,ntmps178
  go_wp2_with fail;refine(uU _ _).mono ?_;rw[H1.out];rintro e w'⟨rfl,rfl⟩;go_wp2_with fail;refine(uU _ _).mono ?_;rintro e w'⟨rfl,rfl⟩;go_wp2;go_ret;exact⟨rfl,(AM _ _).alloc (AL _) _⟩
theorem wV(t:dE)(w:World)(hs:t.s.size<=maxLen) :
 Rb 62 #[.agg #[R t.s,J U t.x,J U t.y]] w (AE (iL t)):=by
 obtain⟨s,x,y⟩:=t;dsimp only at hs ⊢
 cases h0:dJ s
 .have e:iL ⟨s,x,y⟩=false:=by simp[iL,h0]
  have H0:Hid (dJ s=false):=h0;rw[e];clear e h0
  go_enter func62,ntmps62
  go_wp2_with fail;refine(bu _ _ hs).mono ?_;rw[H0.out];rintro e w'⟨rfl,rfl⟩;go_wp2;go_ret;exact⟨rfl,(AM _ _).alloc (AL _) _⟩
 .have H0:Hid (dJ s=true):=h0
  cases h1:fE x 1 y
  focus
   have H1:Hid (fE x 1 y=false):=h1
   have e:iL ⟨s,x,y⟩=false:=by simp[iL,gW];simp[fE] at h1;omega
  rotate_left
  focus
   have H1:Hid (fE x 1 y=true):=h1
   have e:iL ⟨s,x,y⟩=decide (y<=50):=by simp[fE] at h1;simp[iL,gW,h0,h1]
  rotate_left
  all_goals
   rw[e];clear e h0 h1
   go_enter func62,ntmps62
   go_wp2_with fail;refine(bu _ _ hs).mono ?_;rw[H0.out];rintro e w'⟨rfl,rfl⟩;go_wp2_with fail;refine(bh _ _ _ _).mono ?_;rw[H1.out];rintro e w'⟨rfl,rfl⟩;go_wp2;go_ret;exact⟨rfl,(AM _ _).alloc (AL _) _⟩
theorem uI(t:dE)(w:World)(hs:t.s.size<=maxLen) :
 Rb 64 #[.agg #[R t.s,J U t.x,J U t.y]] w (AE (gQ t)):=by
 obtain⟨s,x,y⟩:=t;dsimp only at hs ⊢
 cases h0:dJ s
 .have e:gQ ⟨s,x,y⟩=false:=by simp[gQ,h0]
  have H0:Hid (dJ s=false):=h0;rw[e];clear e h0
  go_enter func64,ntmps64
  go_wp2_with fail;refine(bu _ _ hs).mono ?_;rw[H0.out];rintro e w'⟨rfl,rfl⟩;go_wp2;go_ret;exact⟨rfl,(AM _ _).alloc (AL _) _⟩
 .have H0:Hid (dJ s=true):=h0
  cases h1:fE x 0 15
  .have H1:Hid (fE x 0 15=false):=h1
   have e:gQ ⟨s,x,y⟩=false:=by simp[gQ,fq,h1]
   rw[e];clear e h0 h1
   go_enter func64,ntmps64
   go_wp2_with fail;refine(bu _ _ hs).mono ?_;rw[H0.out];rintro e w'⟨rfl,rfl⟩;go_wp2_with fail;refine(bh _ _ _ _).mono ?_;rw[H1.out];rintro e w'⟨rfl,rfl⟩;go_wp2;go_ret;exact⟨rfl,(AM _ _).alloc (AL _) _⟩
  .have H1:Hid (fE x 0 15=true):=h1
   have e:gQ ⟨s,x,y⟩=fE y 0 15:=by simp[gQ,fq,h0,h1]
   rw[e];clear e h0 h1
   go_enter func64,ntmps64
   go_wp2_with fail;refine(bu _ _ hs).mono ?_;rw[H0.out];rintro e w'⟨rfl,rfl⟩;go_wp2_with fail;refine(bh _ _ _ _).mono ?_;rw[H1.out];rintro e w'⟨rfl,rfl⟩;go_wp2_with fail;refine(bh _ _ _ _).mono ?_;rintro e w'⟨rfl,rfl⟩;go_wp2;go_ret;exact⟨rfl,(AM _ _).alloc (AL _) _⟩
open Go.RowKit
def q8(c:Int):Bool:=decide (48<=c)&&decide (c<=57)
def fV(s:ByteArray):Nat->Nat
 |0=>0
 |k+1=>fV s k*10+((s.data.toList.getD k 0).toNat-48)
def ja(s:ByteArray):Bool:=s.data.toList.all λc=>q8 c.toNat
def pz(s:ByteArray):Bool:=decide (1<s.size)&&(s.data.toList.getD 0 0).toNat==48
def eY(s:ByteArray):Bool:=fE s.size 1 7&&(!pz s&&ja s)
theorem cH(hk:k<s.size):s.data.toList.getD k 0=s[k]:=by
 have h:k<s.data.size:=hk;rw[List.getD,Array.getElem?_toList,Array.getElem?_eq_getElem h];rfl
theorem xh(h:∀k (hk:k<s.size),q8 (s[k].toNat)=true):ja s=true:=by
 unfold ja;rw[AH];intro c hc;obtain⟨k,hk,rfl⟩:=An hc
 exact h k (by simpa using hk)
theorem cU(hk:k<s.size)(h:q8 (s[k].toNat)=false):ja s=false:=by
 unfold ja;rw[Aw]
 exact⟨s[k],by simp[AT],by simp[h]⟩
theorem sJ{c:Int}:q8 c=true↔48<=c/\c<=57:=by simp[q8]
theorem J8 :∀(k:Nat),k<=s.size->(∀j (hj:j<s.size),j<k->q8 (s[j].toNat)=true)->fV s k<10 ^ k
 |0,_,_=>by simp[fV]
 |k+1,hk,h=>by
  have ih:=J8 k (by omega) (λj hj bb=>h j hj (by omega))
  have hd:=sJ.1 (h k (by omega) (by omega))
  rw[fV,cH (by omega),Nat.pow_succ]
  omega
theorem zC(k:Nat)(hs:s.size<=7)(hk:k<=s.size)(h:∀j (hj:j<s.size),j<k->q8 (s[j].toNat)=true):fV s k<10000000 :=
 At (J8 k hk h) (Nat.pow_le_pow_right (by omega) (by omega:k<=7))
theorem Al(c:UInt8):(((c.toNat:Nat):Int)==48)=(c.toNat==48):=by
 rw[AW];simp only[beq_iff_eq];omega
theorem bQ(s:ByteArray)(w:World)(hs:s.size<=maxLen) :
 Rb 171 #[R s] w (.tuple #[J U (bif eY s then(fV s s.size:Int) else 0),AE (eY s)]):=by
 unfold maxLen at hs
 by_cases h1:(s.size:Int)<1
 .have e:eY s=false:=by simp[eY,fE];omega
  rw[e];clear e
  go_enter func171,ntmps171
  go_wp2
  go_ret2
  exact⟨rfl,AM _ _⟩
 by_cases h2:(7:Int)<s.size
 .have e:eY s=false:=by simp[eY,fE];omega
  rw[e];clear e
  go_enter func171,ntmps171
  go_wp2
  go_ret2
  exact⟨rfl,AM _ _⟩
 have ak:fE s.size 1 7=true:=by simp[fE];omega
 have hz:0<s.size:=by omega
 cases hl:pz s
 .have e:eY s=ja s:=by simp[eY,ak,hl]
  have HL:Hid (pz s=false):=hl;rw[e];clear e ak
  have av:s.size<=7:=by omega
  by_cases h3:(1:Int)<s.size
  focus
   have h4:(((s[0].toNat:Nat):Int)==48)=false:=by
    rw[Al]
    have:1<s.size:=by omega
    simp only[pz,this,decide_true,Bool.true_and,cH hz] at hl
    exact hl
   clear hl
  rotate_left
  focus
   clear hl
  rotate_left
  all_goals
   go_enter func171,ntmps171
   go_wp2
   go_loopw [4,6] (λn _ wr=>∃k:Nat,k<=s.size/\wr=w.iter s k/\n=J U (fV s k:Int)/\Hid (∀j (hj:j<s.size),j<k->q8 (s[j].toNat)=true)) (λ_ _ wr=>s.size-wr.iterPos w.heap.size)
   case atStart=>exact⟨0,AS _,rfl,rfl,λj _ hj=>absurd hj (Aj _)⟩
   case round =>
    obtain⟨k,hk,rfl,rfl,HA⟩:=hrel
    by_cases ad:k<s.size
    .have bY:fV s k<10000000:=zC k av hk HA.out
     have HS:Hid (fV s (k+1)=fV s k*10+(s[k].toNat-48)):=by
      show fV s (k+1)=_
      rw[fV,cH ad]
     by_cases ha:s[k].toNat<128
     .have ao:∀ty,(Instr.next (AG (I ⟨w.heap.size,0,AD⟩)) true ty).run prog (w.iter s k)=_:=λty=>run_next_ascii w s k ty ad ha
      generalize hc:s[k].toNat=c at ao ha HS;have HC:Hid (s[k].toNat=c):=hc;clear hc;generalize fV s k=nk at bY HS
      by_cases h5:(c:Int)<48
      .go_wp2
       go_ret2
       have e:ja s=false:=cU ad (by rw[HC.out];simp[q8];omega)
       rw[e];exact⟨rfl,cY _ _ _⟩
      .by_cases h6:(57:Int)<(c:Int)
       .go_wp2
        go_ret2
        have e:ja s=false:=cU ad (by rw[HC.out];simp[q8];omega)
        rw[e];exact⟨rfl,cY _ _ _⟩
       .go_wp2
        go_roundw
        case rel=>exact⟨k+1,by omega,rfl,by rw[HS.out];congr 1;omega,λj hj bb=>if h:j=k then by subst h;rw[HC.out,sJ];omega else HA.out j hj (by omega)⟩
        case measure=>simp;omega
     .have ao:∀ty,(Instr.next (AG (I ⟨w.heap.size,0,AD⟩)) true ty).run prog (w.iter s k)=_:=λty=>run_next_any w s k ty ad
      have hd:=(decode_high s k ad (by omega)).1
      generalize Utf8.decode s k=d at ao hd
      have h5:¬(d.1:Int)<48:=by omega
      have h6:(57:Int)<(d.1:Int):=by omega
      have HD:Hid (ja s=false):=cU ad (by simp[q8];omega)
      go_wp2
      go_ret2
      rw[HD.out];exact⟨rfl,cY _ _ _⟩
    .have ao:∀ty,(Instr.next (AG (I ⟨w.heap.size,0,AD⟩)) true ty).run prog (w.iter s k)=_:=λty=>run_next_end w s k ty ad
     have HT:Hid (ja s=true):=xh λj hj=>HA.out j hj (by omega)
     have HK:Hid (k=s.size):=by show k=s.size;omega
     go_wp2
     go_ret2
     rw[HT.out,HK.out];exact⟨rfl,cY _ _ _⟩
 .have e:eY s=false:=by simp[eY,hl]
  have h3:(1:Int)<s.size:=by
   have:1<s.size:=by simp[pz] at hl;exact hl.1
   omega
  have h4:(((s[0].toNat:Nat):Int)==48)=true:=by
   rw[Al]
   simp only[pz,AN,cH hz] at hl
   exact hl.2
  rw[e];clear e hl ak
  go_enter func171,ntmps171
  go_wp2
  go_ret2
  exact⟨rfl,AM _ _⟩
open Go.RowKit
def dA(s:ByteArray):List ByteArray:=(gU [] (bytes s)).map λl=>⟨⟨l⟩⟩
theorem Ir(h:ws.map bytes=gU [] (bytes s)):ws=dA s:=by
 unfold dA;rw[<-h,List.map_map]
 have:((λl=>(⟨⟨l⟩⟩:ByteArray))∘bytes)=id:=by funext x;rfl
 rw[this,List.map_id]
theorem get!_eq(s:ByteArray)(k:Nat)(h:k<s.size):s.get! k=s[k]:=get_at s k h
theorem Lg(s:ByteArray)(pos:Nat)(h:pos<s.size)(ha:128<=(s[pos]'h).toNat) :
 pos+(Utf8.decode s pos).2<=s.size/\∀j (hj:j<s.size),pos<=j->j<pos+(Utf8.decode s pos).2->128<=(s[j]'hj).toNat:=by
 have hn:¬(s[pos]'h).toNat<128:=by omega
 have one:∀j (hj:j<s.size),pos<=j->j<pos+1->128<=(s[j]'hj).toNat:=λj hj h1 h2=>by
  have:j=pos:=by omega
  subst this;exact ha
 have more:∀k,pos+k<s.size->(s.get! (pos+k)).toNat / 64=2->∀(hj:pos+k<s.size),128<=(s[pos+k]'hj).toNat:=λk hk hq hj=>by
  rw[get!_eq s _ hj] at hq;omega
 simp only[Utf8.decode,get_at s pos h,hn,if_false]
 split
 .next hc =>
  simp only[AN,decide_eq_true_eq,beq_iff_eq] at hc
  obtain⟨_,h1,q1⟩:=hc
  split
  .refine ⟨by show pos+2<=_;omega,λj hj a b=>?_⟩
   have b':j<pos+2:=b
   by_cases e:j=pos
   .exact one j hj a (by omega)
   .obtain rfl:j=pos+1:=by omega
    exact more 1 h1 q1 hj
  .exact ⟨by show pos+1<=_;omega,λj hj a b=>one j hj a b⟩
 .split
  .next hc =>
   simp only[AN,decide_eq_true_eq,beq_iff_eq] at hc
   obtain⟨⟨_,h1,q1⟩,h2,q2⟩:=hc
   split
   .refine ⟨by show pos+3<=_;omega,λj hj a b=>?_⟩
    have b':j<pos+3:=b
    by_cases e:j=pos
    .exact one j hj a (by omega)
    .by_cases e2:j=pos+1
     .subst e2;exact more 1 h1 q1 hj
     .obtain rfl:j=pos+2:=by omega
      exact more 2 h2 q2 hj
   .exact ⟨by show pos+1<=_;omega,λj hj a b=>one j hj a b⟩
  .split
   .next hc =>
    simp only[AN,decide_eq_true_eq,beq_iff_eq] at hc
    obtain⟨⟨⟨_,h1,q1⟩,h2,q2⟩,h3,q3⟩:=hc
    split
    .refine ⟨by show pos+4<=_;omega,λj hj a b=>?_⟩
     have b':j<pos+4:=b
     by_cases e:j=pos
     .exact one j hj a (by omega)
     .by_cases e2:j=pos+1
      .subst e2;exact more 1 h1 q1 hj
      .by_cases e3:j=pos+2
       .subst e3;exact more 2 h2 q2 hj
       .obtain rfl:j=pos+3:=by omega
        exact more 3 h3 q3 hj
    .exact ⟨by show pos+1<=_;omega,λj hj a b=>one j hj a b⟩
   .exact ⟨by show pos+1<=_;omega,λj hj a b=>one j hj a b⟩
theorem ji.skip{P:List ByteArray}(h:ji s fr k P)(ha:fr<=k):∀n,k+n<=s.size->(∀j (hj:j<s.size),k<=j->j<k+n->¬s[j]=32)->ji s fr (k+n) P
 |0,_,_=>h
 |n+1,hk,hc=>(ji.skip h ha n (by omega) (λj hj a b=>hc j hj a (by omega))).other (by omega) (by omega:k+n<s.size) (hc _ _ (by omega) (by omega))
theorem Ql{c:UInt8}(h:128<=c.toNat):¬c=32:=λe=>by rw[e] at h;simp at h
theorem l5(s:ByteArray)(w:World)(hs:s.size<=1048576) :
 Calls prog 49 #[R s] w λe w'=>∃v,e=AF v/\dR w' v (dA s)/\Bw w w':=by
 obtain⟨i0,hi,aT,aL,ay⟩:=info_parts og
 go_enter func49,ntmps49
 go_wp2
 go_loopw [3,4,5,6] (λo f _ _ wr=>∃(k fr:Nat) (P:List ByteArray),fr<=k/\k<=s.size/\f=J U fr/\P.length<=k/\wr.ownsRow (w.heap.size+1) 9 1 o P.length (P.map R)/\wr.heap[w.heap.size]?=I (.stringIter s k)/\Bw w wr/\Hid (ji s fr k P)) (λ_ _ _ _ wr=>s.size-wr.iterPos w.heap.size)
 case atStart=>exact⟨0,0,[],AL _,AS _,rfl,AL _,⟨rfl,.inl ⟨rfl,rfl⟩⟩,World.iter_heap w s 0,(AM _ _).alloc (AL _) _,ji.start s⟩
 case round =>
  obtain⟨k,fr,P,bn,hk,rfl,b3,ai,hit,hb,HI⟩:=hrel;have hsz:w.heap.size<wr.heap.size:=(Array.getElem?_eq_some_iff.1 hit).1
  by_cases ad:k<s.size
  .by_cases ha:s[k].toNat<128
   .have ao:∀ty,(Instr.next (AG (I ⟨w.heap.size,0,AD⟩)) true ty).run prog wr=_:=λty=>Lib.run_next_ascii_at wr w.heap.size s k ty hit ad ha
    have an:=Lib.iterAt_heap wr w.heap.size s k (k+1) hit;have ax:=Lib.below_iterAt hb (k:=w.heap.size) (AL _) s (k+1);have ae:=ownsRow_iterAt ai (k:=w.heap.size) (Nat.lt_succ_self _) s (k+1);have HP:Hid (wr.iterPos w.heap.size=k):=iterPos_of hit
    by_cases hc:s[k]=32
    .have h1:(((s[k].toNat:Nat):Int)==32)=true:=by rw[vN];simpa using hc
     have HC:Hid (s[k]=32):=hc;clear hc;generalize hW:wr.iterAt w.heap.size s (k+1)=W at ao an ax ae;have bV:w.heap.size<W.heap.size:=(Array.getElem?_eq_some_iff.1 an).1;clear hW
     go_wp2_with (at_builtin;refine wpList_append_own _ rfl _ _ 28 rfl (w.heap.size+1) 9 i0 (R AO) 1 16 underlying28 hi aT aL ay rfl (by decide) _ _ _ rfl (ae.alloc _) ⟨W.heap.size,0,AD⟩ 1 1 [R (s.extract fr k)] rfl rfl (cell_one_new _ _ _) (λx hx=>by simp at hx;subst hx;rfl) (by unfold maxLen;omega) (by omega) (by have:=hb.size;simp;omega) ?_;intro v' w3 af ab au)
     have ba:w3.heap[w.heap.size]?=I (.stringIter s (k+1)):=(ab.block w.heap.size (by simp;omega) (λhj=>by have:=dY ae _ hj.symm;omega)).trans ((Below.heap_alloc _ _ _ bV).trans an)
     refine⟨⟨k+1,k+1,P++[s.extract fr k],AL _,by omega,by go_num,by simp;omega,by simpa using af,ba,(ax.alloc ax.size _).grown ab (by have:=ax.size;simp;omega) (λj hj=>by have:=dY ae _ hj;omega),HI.out.space ad HC.out⟩,?_⟩
     rw[iterPos_of ba,HP.out];omega
    .have h1:(((s[k].toNat:Nat):Int)==32)=false:=by rw[vN];simpa using hc
     have HC:Hid (¬s[k]=32):=hc;clear hc;go_wp2
     refine⟨⟨k+1,fr,P,by omega,by omega,rfl,by omega,ae,an,ax,HI.out.other bn ad HC.out⟩,?_⟩
     rw[iterPos_of an,HP.out];omega
   .have ao:∀ty,(Instr.next (AG (I ⟨w.heap.size,0,AD⟩)) true ty).run prog wr=_:=λty=>Lib.run_next_any_at wr w.heap.size s k ty hit ad
    have hd:=decode_high s k ad (by omega)
    have HS:Hid (k+(Utf8.decode s k).2<=s.size/\∀j (hj:j<s.size),k<=j->j<k+(Utf8.decode s k).2->128<=(s[j]'hj).toNat):=Lg s k ad (by omega)
    have HP:Hid (wr.iterPos w.heap.size=k):=iterPos_of hit;generalize Utf8.decode s k=d at ao hd HS;obtain⟨d1,d2⟩:=d;dsimp only at ao hd HS;have an:=Lib.iterAt_heap wr w.heap.size s k (k+d2) hit;have ax:=Lib.below_iterAt hb (k:=w.heap.size) (AL _) s (k+d2);have ae:=ownsRow_iterAt ai (k:=w.heap.size) (Nat.lt_succ_self _) s (k+d2)
    have h1:((d1:Int)==32)=false:=by simp;omega
    go_wp2;have hS:=HS.out
    refine⟨⟨k+d2,fr,P,by omega,hS.1,rfl,by omega,ae,an,ax,HI.out.skip bn d2 hS.1 λj hj a b=>Ql (hS.2 j hj a b)⟩,?_⟩
    rw[iterPos_of an,HP.out];omega
  .have ao:∀ty,(Instr.next (AG (I ⟨w.heap.size,0,AD⟩)) true ty).run prog wr=_:=λty=>Lib.run_next_end_at wr w.heap.size s k ty hit ad
   have HK:Hid (k=s.size):=by show k=s.size;omega
   go_wp2_with (at_builtin;refine wpList_append_own _ rfl _ _ 28 rfl (w.heap.size+1) 9 i0 (R AO) 1 16 underlying28 hi aT aL ay rfl (by decide) _ _ _ rfl (ai.alloc _) ⟨wr.heap.size,0,AD⟩ 1 1 [R (s.extract fr s.size)] rfl rfl (cell_one_new _ _ _) (λx hx=>by simp at hx;subst hx;rfl) (by unfold maxLen;omega) (by omega) (by have:=hb.size;simp;omega) ?_;intro v' w3 af ab au)
   go_ret;have h2:=HI.out;rw[HK.out] at h2
   have h3:dR w3 v' (P++[s.extract fr s.size]):=bq (base:=w.heap.size+1) (e:=9) (by simpa using af) (by simp)
   rw[Ir h2.fin] at h3
   exact⟨v',rfl,h3,(hb.alloc hb.size _).grown ab (by have:=hb.size;simp;omega) (λj hj=>by have:=dY ai _ hj;omega)⟩
open Go.RowKit
theorem uj:∀a:List UInt8,Op.bytesLess a a=false
 |[]=>rfl
 |a::x=>by
  have:¬a<a:=UInt8.lt_irrefl a
  simp[Op.bytesLess,uj x]
theorem Du:∀a b c:List UInt8,Op.bytesLess a b=true->Op.bytesLess b c=true->Op.bytesLess a c=true
 |a,b,[],h,k=>by cases b<;>simp[Op.bytesLess] at k
 |a,[],c::z,h,k=>by cases a<;>simp[Op.bytesLess] at h
 |[],b::y,c::z,h,k=>rfl
 |a::x,b::y,c::z,h,k=>by
  simp only[Op.bytesLess,Bool.or_eq_true,AN,decide_eq_true_eq,beq_iff_eq] at h k ⊢
  rcases h with h|⟨rfl,h⟩
  .rcases k with k|⟨rfl,k⟩
   .exact .inl (UInt8.lt_trans h k)
   .exact .inl h
  .rcases k with k|⟨rfl,k⟩
   .exact .inl k
   .exact .inr ⟨rfl,Du x y z h k⟩
theorem Dv:∀a b:List UInt8,Op.bytesLess a b=false->Op.bytesLess b a=false->a=b
 |[],[],_,_=>rfl
 |[],b::y,h,_=>by simp[Op.bytesLess] at h
 |a::x,[],_,k=>by simp[Op.bytesLess] at k
 |a::x,b::y,h,k=>by
  simp only[Op.bytesLess,Bool.or_eq_false_iff,decide_eq_false_iff_not,As,beq_eq_false_iff_ne] at h k
  have e:a=b:=by
   have h1:b<=a:=UInt8.not_lt.1 h.1;have h2:a<=b:=UInt8.not_lt.1 k.1;exact UInt8.le_antisymm h2 h1
  subst e
  have h2:Op.bytesLess x y=false:=by rcases h.2 with h|h;exact absurd rfl h;exact h
  have k2:Op.bytesLess y x=false:=by rcases k.2 with k|k;exact absurd rfl k;exact k
  rw[Dv x y h2 k2]
def jW(a b:ByteArray):Bool:=Op.bytesLess a.toList b.toList
theorem cd(a:ByteArray):jW a a=false:=uj _
theorem cR{c:ByteArray}(h:jW a b=true)(k:jW b c=true):jW a c=true:=Du _ _ _ h k
theorem pO(h:jW a b=false)(k:jW b a=false):a=b:=by
 have:=Dv _ _ h k;rw[ByteArray.toList_eq,ByteArray.toList_eq] at this;exact bd this
open Go.RowKit
theorem ci(h:a=b):(a.toList==b.toList)=true:=by subst h;simp
theorem bw(h:¬a=b):(a.toList==b.toList)=false:=by
 rw[ByteArray.toList_eq,ByteArray.toList_eq]
 simp only[beq_eq_false_iff_ne,ne_eq]
 exact λe=>h (bd e)
def wP(l:List dE)(v:ByteArray):Bool:=!gu l.length λi=>!decide ((at' l i).s=v)
theorem yC{l:List dE}(hk:k<l.length)(h:(at' l k).s=v):wP l v=true:=by
 unfold wP;rw[bm hk (by simp[h])];rfl
theorem Cn{l:List dE}(h:∀j,j<l.length->¬(at' l j).s=v):wP l v=false:=by
 unfold wP;rw[bg λj hj=>by simp[h j hj]];rfl
def fG(l:List dE)(v:ByteArray):Nat:=l.findIdx λt=>lX t.s v
def hasB(l:List dE)(v:ByteArray):Bool:=decide (fG l v<l.length)&&decide ((at' l (fG l v)).s=v)
theorem JQ{l:List dE}(hk:k<l.length)(h:lX (at' l k).s v=true)(hn:∀j,j<k->lX (at' l j).s v=false):fG l v=k:=by
 have e:∀j (hj:j<l.length),at' l j=l[j]:=λj hj=>by simp[at',hj]
 unfold fG;rw[List.findIdx_eq hk]
 exact⟨by rw[<-e k hk];exact h,λj hj=>by rw[<-e j (by omega)];exact hn j hj⟩
theorem Bz{l:List dE}(h:∀j,j<l.length->lX (at' l j).s v=false):fG l v=l.length:=by
 unfold fG;rw[List.findIdx_eq_length];intro t ht;obtain⟨j,hj,rfl⟩:=An ht;have:=h j hj
 simpa[at',hj] using this
theorem Pf{l:List dE}(hk:k<l.length)(h:lX (at' l k).s v=true)(hn:∀j,j<k->lX (at' l j).s v=false):hasB l v=decide ((at' l k).s=v):=by
 unfold hasB;rw[JQ hk h hn];simp[hk]
theorem Uq{l:List dE}(h:∀j,j<l.length->lX (at' l j).s v=false):hasB l v=false:=by
 unfold hasB;rw[Bz h];simp
theorem lQ(a b:ByteArray):lX a b=!jW a b:=rfl
theorem IE{l:List dE}(h:∀i,i<l.length->jB l i=true):∀i j,i<j->j<l.length->jW (at' l i).s (at' l j).s=true:=by
 have one:∀i,i+1<l.length->jW (at' l i).s (at' l (i+1)).s=true:=λi hi=>by
  have:=h (i+1) hi;unfold jB at this;rw[lQ] at this
  simpa using this
 intro i j hij
 induction j with
 |zero=>omega
 |succ j ih =>
  intro hj
  by_cases e:i=j
  .subst e;exact one i hj
  .exact cR (ih (by omega) (by omega)) (one j hj)
theorem qz{l:List dE}(h:∀i,i<l.length->jB l i=true):hasB l v=wP l v:=by
 by_cases hm:∃k,k<l.length/\(at' l k).s=v
 .obtain ⟨k,hk,he⟩:=hm
  rw[yC hk he,Pf hk (by rw[he,lQ,cd];rfl) λj hj=>by rw[<-he,lQ,IE h j k hj hk];rfl]
  simp[he]
 .rw [Cn λj hj he=>hm ⟨j,hj,he⟩]
  unfold hasB;rw[As]
  by_cases hp:fG l v<l.length
  .right;exact decide_eq_false λhe=>hm ⟨_,hp,he⟩
  .left;exact decide_eq_false hp
theorem yA{l:List dE}{m:Nat}(h:fF l m=true):∀i,i<l.length->jB l i=true:=λi hi=>by
 unfold fF at h;rw[AN] at h;have:=bj h.2 i hi;rw[AN] at this;exact this.2
theorem FO{l:List dE}(h:dU l=true):∀i,i<l.length->jB l i=true:=by
 unfold dU at h;rw[AN] at h;exact yA h.1
theorem nA{l:List dE}(h:dI l=true):∀i,i<l.length->jB l i=true:=by
 unfold dI at h;rw[AN] at h;exact yA h.1
def dC(ws:List ByteArray)(i:Nat):ByteArray:=ws.getD i ⟨#[]⟩
theorem bp(h:i<ws.length):ws[i]?=I (dC ws i):=by simp[dC,h]
def mR(s:ByteArray):Nat:=fV s s.size
def jy(ws:List ByteArray):Bool:=decide (ws.length=2)&&(eY (dC ws 0)&&(eY (dC ws 1)&&(decide (mR (dC ws 0)<=mR (dC ws 1))&&decide (mR (dC ws 1)<=10000))))
def jR(s:ByteArray):Bool:=eY s&&fE (mR s) 1 6
def iB(ps:List dE)(ws:List ByteArray)(i:Nat):Bool:=hasB ps (dC ws i)&&!(decide (0<i)&&decide (dC ws (i-1)=dC ws i))
def fJ(ps:List dE)(ws:List ByteArray):Bool:=fE ws.length 2 8&&gu ws.length (iB ps ws)
def J5:ByteArray:=⟨#[111,112,101,110]⟩
def jb:ByteArray:=⟨#[99,108,111,115,101,100]⟩
def iQ(s:ByteArray):Bool:=decide (s=J5)||decide (s=jb)
def eX(ks ps:List dE)(what:Int)(s:ByteArray):Bool :=
 if what=1 then hasB ks s else if what=2 then jy (dA s) else if what=3 then jR s else if what=4 then fJ ps (dA s) else if what=5 then iQ s else false
def fB(ks ps:List dE):Bool:=dU ks&&dI ps
def ib(ks ps:List dE)(c:eH):Bool:=dJ c.f&&(fE c.num 1 1000000&&eX ks ps c.what c.v)
theorem vF:∀(r cur:List UInt8) (x:List UInt8),x∈gU cur r->x.length<=cur.length+r.length
 |[],cur,x,h=>by simp[gU] at h;subst h;simp
 |c::r,cur,x,h=>by
  rw[gU] at h
  split at h
  .rcases List.mem_cons.1 h with rfl|h
   .simp
   .have:=vF r [] x h;simp at this ⊢;omega
  .have:=vF r (cur++[c]) x h;simp at this ⊢;omega
theorem uf(s:ByteArray):∀x∈dA s,x.size<=s.size:=λx hx=>by
 unfold dA at hx;obtain⟨l,hl,rfl⟩:=List.mem_map.1 hx;have:=vF _ _ _ hl;rw[aF,List.length_nil,Nat.zero_add] at this;exact this
theorem dh(h:i<(dA s).length):(dC (dA s) i).size<=s.size:=uf s _ (List.mem_of_getElem? (bp h))
open Go.RowKit
theorem bN(s:ByteArray)(w:World)(hs:s.size<=maxLen) :
 Rs 61 #[R s] w (J U (bif eY s then(fV s s.size:Int) else -1)):=by
 unfold maxLen at hs
 cases ak:fE s.size 1 7
 .have e:eY s=false:=by simp[eY,ak]
  have HI:Hid (fE s.size 1 7=false):=ak;rw[e];clear e ak
  go_enter func61,ntmps61
  go_wp2_with fail;refine(bh _ _ _ _).mono ?_;rw[HI.out];rintro e w'⟨rfl,rfl⟩;go_wp2;go_ret;exact⟨rfl,rfl⟩
 have HI:Hid (fE s.size 1 7=true):=ak
 have hz:0<s.size:=by simp[fE] at ak;omega
 have av:s.size<=7:=by simp[fE] at ak;omega
 cases hl:pz s
 .have e:eY s=ja s:=by simp[eY,ak,hl]
  rw[e];clear e ak
  by_cases h3:(1:Int)<s.size
  focus
   have h4:(((s[0].toNat:Nat):Int)==48)=false:=by
    rw[Al]
    have:1<s.size:=by omega
    simp only[pz,this,decide_true,Bool.true_and,cH hz] at hl
    exact hl
   clear hl
  rotate_left
  focus
   clear hl
  rotate_left
  all_goals
   go_enter func61,ntmps61
   go_wp2_with fail;refine(bh _ _ _ _).mono ?_;rw[HI.out];rintro e w'⟨rfl,rfl⟩;go_wp2
   go_loop [3,4] (λn i=>∃k:Nat,k<=s.size/\i=J U k/\n=J U (fV s k:Int)/\Hid (∀j (hj:j<s.size),j<k->q8 (s[j].toNat)=true)) (λ_ i=>s.size-(intOf i).toNat)
   case atStart=>exact⟨0,AS _,rfl,rfl,λj _ hj=>absurd hj (Aj _)⟩
   case round =>
    obtain⟨k,hk,rfl,rfl,HA⟩:=hrel
    by_cases ad:k<s.size
    .have bY:fV s k<10000000:=zC k av hk HA.out
     have HS:Hid (fV s (k+1)=fV s k*10+(s[k].toNat-48)):=by
      show fV s (k+1)=_
      rw[fV,cH ad]
     have hc8:s[k].toNat<256:=s[k].toNat_lt;generalize fV s k=nk at bY HS
     by_cases h5:((s[k].toNat:Nat):Int)<48
     .go_wp2
      go_ret
      have e:ja s=false:=cU ad (by simp[q8];omega)
      rw[e];exact⟨rfl,rfl⟩
     .by_cases h6:(57:Int)<((s[k].toNat:Nat):Int)
      .go_wp2
       go_ret
       have e:ja s=false:=cU ad (by simp[q8];omega)
       rw[e];exact⟨rfl,rfl⟩
      .go_wp2
       go_round
       case rel=>exact⟨k+1,by omega,by go_num,by rw[HS.out];congr 1;omega,λj hj bb=>if h:j=k then by subst h;rw[sJ];omega else HA.out j hj (by omega)⟩
       case measure=>simp[intOf];omega
    .have HT:Hid (ja s=true):=xh λj hj=>HA.out j hj (by omega)
     have HK:Hid (k=s.size):=by show k=s.size;omega
     go_wp2;go_ret;rw[HT.out,HK.out];exact⟨rfl,rfl⟩
 .have e:eY s=false:=by simp[eY,hl]
  have h3:(1:Int)<s.size:=by
   have:1<s.size:=by simp[pz] at hl;exact hl.1
   omega
  have h4:(((s[0].toNat:Nat):Int)==48)=true:=by
   rw[Al]
   simp only[pz,AN,cH hz] at hl
   exact hl.2
  rw[e];clear e hl ak
  go_enter func61,ntmps61
  go_wp2_with fail;refine(bh _ _ _ _).mono ?_;rw[HI.out];rintro e w'⟨rfl,rfl⟩;go_wp2;go_ret;exact⟨rfl,rfl⟩
end Go.Proofs.YtolokangldmodaaGreatDoor
