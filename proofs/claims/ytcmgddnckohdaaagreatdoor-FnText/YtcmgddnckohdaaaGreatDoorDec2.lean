import Derived.WalkSpells
import Derived.WalkLawsBesides
import Derived.Test.YtcmgddnckohdaaaGreatDoorRows
set_option maxHeartbeats 1600000

namespace Go.Proofs.YtcmgddnckohdaaaGreatDoor
open Go.RowKit
structure dx where
 s:ByteArray
 x:Int
 y:Int
def dA (w:World) (v:Value) (l:List dx):Prop :=
 ∃ a cap,v=.slice a l.length cap∧l.length≤cap∧cap≤maxLen∧∀ i t,l[i]?=some t→∃ b off,a=some ⟨b,off,none⟩ ∧
  w.cell? ⟨b,off+i*3,none⟩=some (.string t.s)∧w.cell? ⟨b,off+i*3+1,none⟩=some (.int .i64 t.x)∧w.cell? ⟨b,off+i*3+2,none⟩=some (.int .i64 t.y)
theorem av {w:World} {b o:Nat} {v:Value} (h:w.cell? ⟨b,o,none⟩=some v):b<w.heap.size:=by
 by_cases hb:b<w.heap.size
 ·exact hb
 ·exfalso
  have hn:w.heap[b]?=none:=by simp;omega
  simp [World.cell?,hn] at h
theorem aG {n:Nat}:n≤n:=Nat.le_refl _
theorem aM {w:World} {c:Obj}:Below w.heap.size w (w.alloc c):=(Below.refl _ _).alloc (Nat.le_refl _) _
theorem ag {w w':World} {B b o:Nat} {v:Value} (hb:Below B w w') (hB:w.heap.size≤B) (h:w.cell? ⟨b,o,none⟩=some v):w'.cell? ⟨b,o,none⟩=some v:=by
 rw [hb.cell (p:=⟨b,o,none⟩) (Nat.lt_of_lt_of_le (av h) hB)];exact h
theorem dA.keep {w w':World} {v:Value} {l:List dx} (h:dA w v l) (hb:Below w.heap.size w w'):dA w' v l:=by
 obtain ⟨a,cap,rfl,h1,h2,h3⟩:=h;refine ⟨a,cap,rfl,h1,h2,fun i t ht=>?_⟩;obtain ⟨b,off,ha,c0,c1,c2⟩:=h3 i t ht;exact ⟨b,off,ha,ag hb (Nat.le_refl _) c0,ag hb (Nat.le_refl _) c1,ag hb (Nat.le_refl _) c2⟩
theorem aa {w w1 w2:World} (h:Below w.heap.size w w1) (k:Below w1.heap.size w1 w2):Below w.heap.size w w2 :=
 h.trans (k.mono h.size)
def sumS:List dx→Nat
 | []=>0
 | t::r=>t.s.size+sumS r
def F7 (l:List dx):Nat:=l.length+sumS l
def eB (n lo hi:Int):Bool:=decide (lo≤n)&&decide (n≤hi)
def pK (c:Int):Bool:=(decide (97≤c)&&decide (c≤122))||((decide (48≤c)&&decide (c≤57))||decide (c=45))
def charsB (s:ByteArray):Bool:=s.data.toList.all fun c=>pK c.toNat
def dD (s:ByteArray):Bool:=eB s.size 1 8&&charsB s
def kz (s t:ByteArray):Bool:=!Op.bytesLess s.toList t.toList
theorem vO {s:ByteArray} (h:∀ k (hk:k<s.size),pK (s[k].toNat)=true):charsB s=true:=by
 unfold charsB;rw [List.all_eq_true];intro c hc;obtain ⟨k,hk,rfl⟩:=List.getElem_of_mem hc
 exact h k (by simpa using hk)
theorem nK {s:ByteArray} {k:Nat} (hk:k<s.size) (h:pK (s[k].toNat)=false):charsB s=false:=by
 unfold charsB;rw [List.all_eq_false]
 exact ⟨s[k],by simp [ByteArray.getElem_eq_getElem_data],by simp [h]⟩
def fw (n:Nat) (P:Nat→Bool):Bool:=(List.range n).all P
theorem aX {n:Nat} {P:Nat→Bool} (h:∀ j,j<n→P j=true):fw n P=true:=by
 simp [fw];exact h
theorem bc {n:Nat} {P:Nat→Bool} {j:Nat} (hj:j<n) (h:P j=false):fw n P=false:=by
 simp [fw];exact ⟨j,hj,h⟩
theorem bH {n:Nat} {P:Nat→Bool} (h:fw n P=true):∀ j,j<n→P j=true:=by
 simpa [fw] using h
theorem yY (n:Nat) (P Q:Nat→Bool):fw n (fun j=>P j&&Q j)=(fw n P&&fw n Q):=by
 rw [Bool.eq_iff_iff];simp [fw];exact ⟨fun h=>⟨fun j hj=>(h j hj).1,fun j hj=>(h j hj).2⟩,fun h j hj=>⟨h.1 j hj,h.2 j hj⟩⟩
theorem jT {n:Nat} {P Q:Nat→Bool} (h:∀ j,j<n→P j=Q j):fw n P=fw n Q:=by
 rw [Bool.eq_iff_iff];simp [fw];exact ⟨fun k j hj=>(h j hj) ▸ k j hj,fun k j hj=>(h j hj).symm ▸ k j hj⟩
def at' (l:List dx) (i:Nat):dx:=l.getD i ⟨ByteArray.empty,0,0⟩
theorem bo {l:List dx} {i:Nat} (h:i<l.length):l[i]?=some (at' l i):=by
 simp [at',h]
def gY (l:List dx) (i:Nat):Bool:=!(decide (0<i)&&kz (at' l (i-1)).s (at' l i).s)
def gI (t:dx):Bool:=decide (1≤t.x)&&(decide (t.x≤t.y)&&decide (t.y≤50))
def eQ (t:dx):Bool:=eB t.x 0 15&&eB t.y 0 15
def jb (t u:dx):Bool:=decide (t.x=u.x)&&decide (t.y=u.y)
def fu (l:List dx) (i:Nat) (t:dx):Bool:=!fw i fun k=>!jb (at' l k) t
def eO (l:List dx) (most:Nat):Bool:=decide (l.length≤most)&&fw l.length fun i=>dD (at' l i).s&&gY l i
def dM (l:List dx):Bool:=eO l 6&&fw l.length fun i=>gI (at' l i)
def dH (l:List dx):Bool:=eO l 16&&fw l.length fun i=>eQ (at' l i)&&!fu l i (at' l i)
def gJ (t:dx):Bool:=dD t.s&&gI t
def gq (t:dx):Bool:=dD t.s&&eQ t
theorem Ar (l:List dx):dM l=(decide (l.length≤6)&&fw l.length fun i=>gJ (at' l i)&&gY l i):=by
 unfold dM eO;rw [Bool.and_assoc,← yY]
 congr 1
 refine jT fun j _=>?_;unfold gJ
 cases dD (at' l j).s <;> cases gY l j <;> cases gI (at' l j) <;> rfl
theorem xA (l:List dx):dH l=(decide (l.length≤16)&&fw l.length fun i=>(gq (at' l i)&&gY l i)&&fw i fun k=>!jb (at' l k) (at' l i)):=by
 unfold dH eO;rw [Bool.and_assoc,← yY]
 congr 1
 refine jT fun j _=>?_;unfold gq fu
 cases dD (at' l j).s <;> cases gY l j <;> cases eQ (at' l j) <;> simp
end Go.Proofs.YtcmgddnckohdaaaGreatDoor
namespace Go.Proofs.YtcmgddnckohdaaaGreatDoor
open Go.RowKit
theorem ax {a b:Bool} (h:a=b):Ending.returned (.bool a)=.returned (.bool b):=by rw [h]
theorem lM {k:IntKind} {a b:Int} (h:a=b):Ending.returned (.int k a)=.returned (.int k b):=by rw [h]
theorem bi (n lo hi:Int) (w:World) :
  Calls Tryz.prog 84 #[.int .i64 n,.int .i64 lo,.int .i64 hi] w fun e w'=>e=.returned (.bool (eB n lo hi))∧w'=w:=by
 by_cases h1:lo≤n
 ·by_cases h2:n≤hi
  ·have e:eB n lo hi=true:=by simp [eB,h1,h2]
   rw [e];clear e
   go_enter Tryz.func84,Tryz.ntmps84
   go_wp2;go_ret;exact ⟨rfl,rfl⟩
  ·have e:eB n lo hi=false:=by simp [eB,h1,h2]
   rw [e];clear e
   go_enter Tryz.func84,Tryz.ntmps84
   go_wp2;go_ret;exact ⟨rfl,rfl⟩
 ·have e:eB n lo hi=false:=by simp [eB,h1]
  rw [e];clear e
  go_enter Tryz.func84,Tryz.ntmps84
  go_wp2;go_ret;exact ⟨rfl,rfl⟩
theorem qN (n:Int) (w:World) :
  Calls Tryz.prog 164 #[.int .i64 n] w fun e w'=>e=.returned (.bool (eB n 0 15))∧w'=w:=by
 by_cases h1:0≤n
 ·by_cases h2:n<16
  ·have e:eB n 0 15=true:=by simp [eB,h1];omega
   rw [e];clear e
   go_enter Tryz.func164,Tryz.ntmps164
   go_wp2;go_ret;exact ⟨rfl,rfl⟩
  ·have e:eB n 0 15=false:=by simp [eB,h1];omega
   rw [e];clear e
   go_enter Tryz.func164,Tryz.ntmps164
   go_wp2;go_ret;exact ⟨rfl,rfl⟩
 ·have e:eB n 0 15=false:=by simp [eB,h1]
  rw [e];clear e
  go_enter Tryz.func164,Tryz.ntmps164
  go_wp2;go_ret;exact ⟨rfl,rfl⟩
theorem ny (c:Int) (w:World) :
  Calls Tryz.prog 125 #[.int .i32 c] w fun e w'=>e=.returned (.bool (pK c))∧w'=w:=by
 by_cases h1:97≤c
 ·by_cases h2:c≤122
  ·have e:pK c=true:=by simp [pK,h1,h2]
   rw [e];clear e
   go_enter Tryz.func125,Tryz.ntmps125
   go_wp2;go_ret;exact ⟨rfl,rfl⟩
  ·have e:pK c=false:=by simp [pK,h1,h2];omega
   rw [e];clear e
   have h3:48≤c:=by omega
   have h4:¬ c≤57:=by omega
   have h5:(c==45)=false:=by simp;omega
   go_enter Tryz.func125,Tryz.ntmps125
   go_wp2;go_ret;exact ⟨rfl,rfl⟩
 ·by_cases h3:48≤c
  ·by_cases h4:c≤57
   ·have e:pK c=true:=by simp [pK,h1,h3,h4]
    rw [e];clear e
    go_enter Tryz.func125,Tryz.ntmps125
    go_wp2;go_ret;exact ⟨rfl,rfl⟩
   ·have e:pK c=false:=by simp [pK,h1,h4];omega
    rw [e];clear e
    have h5:(c==45)=false:=by simp;omega
    go_enter Tryz.func125,Tryz.ntmps125
    go_wp2;go_ret;exact ⟨rfl,rfl⟩
  ·by_cases h5:c=45
   ·subst h5
    go_enter Tryz.func125,Tryz.ntmps125
    go_wp2;go_ret;exact ⟨rfl,rfl⟩
   ·have e:pK c=false:=by simp [pK,h1,h3,h5]
    rw [e];clear e
    have h6:(c==45)=false:=by simp;omega
    go_enter Tryz.func125,Tryz.ntmps125
    go_wp2;go_ret;exact ⟨rfl,rfl⟩
theorem cH (w:World) (s:ByteArray) (k:Nat):Below w.heap.size w (w.iter s k):=(Below.refl _ _).alloc (Nat.le_refl _) _
theorem cf (s:ByteArray) (w:World) (hs:s.size≤maxLen) :
  Calls Tryz.prog 74 #[.string s] w fun e w'=>e=.returned (.bool (dD s))∧Below w.heap.size w w':=by
 unfold maxLen at hs
 by_cases h1:(s.size:Int)<1
 ·have e:dD s=false:=by simp [dD,eB];omega
  rw [e];clear e
  go_enter Tryz.func74,Tryz.ntmps74
  go_wp2;go_ret;exact ⟨rfl,Below.refl _ _⟩
 by_cases h2:(8:Int)<s.size
 ·have e:dD s=false:=by simp [dD,eB];omega
  rw [e];clear e
  go_enter Tryz.func74,Tryz.ntmps74
  go_wp2;go_ret;exact ⟨rfl,Below.refl _ _⟩
 have e:dD s=charsB s:=by
  have:eB s.size 1 8=true:=by simp [eB];omega
  simp [dD,this]
 rw [e];clear e
 go_enter Tryz.func74,Tryz.ntmps74
 go_wp2
 go_loopw [4] (fun _ wr=>∃ k:Nat,k≤s.size∧wr=w.iter s k∧Hid (∀ j (hj:j<s.size),j<k→pK (s[j].toNat)=true)) (fun _ wr=>s.size-wr.iterPos w.heap.size)
 case atStart=>exact ⟨0,Nat.zero_le _,rfl,fun j _ hj=>absurd hj (Nat.not_lt_zero _)⟩
 case round =>
  obtain ⟨k,hk,rfl,HA⟩:=hrel
  by_cases hlt:k<s.size
  ·by_cases ha:(s[k].toNat)<128
   ·have hnx:∀ ty,(Instr.next (.pointer (some ⟨w.heap.size,0,none⟩)) true ty).run Tryz.prog (w.iter s k)=_:=fun ty=>run_next_ascii w s k ty hlt ha
    cases hch:pK (s[k].toNat)
    ·have HC:Hid (pK (s[k].toNat)=false):=hch
     clear hch
     go_wp2_with (go_at_call 125;refine (ny _ _).mono ?_;rw [HC.out];rintro e w' ⟨rfl,rfl⟩)
     go_ret;exact ⟨ax (nK hlt HC.out).symm,cH _ _ _⟩
    ·have HC:Hid (pK (s[k].toNat)=true):=hch
     clear hch
     go_wp2_with (go_at_call 125;refine (ny _ _).mono ?_;rw [HC.out];rintro e w' ⟨rfl,rfl⟩)
     go_roundw
     case rel=>exact ⟨k+1,by omega,rfl,fun j hj hjk=>if h:j=k then by subst h;exact HC.out else HA.out j hj (by omega)⟩
     case measure=>simp;omega
   ·have hnx:∀ ty,(Instr.next (.pointer (some ⟨w.heap.size,0,none⟩)) true ty).run Tryz.prog (w.iter s k)=_:=fun ty=>run_next_any w s k ty hlt
    have hd:=(decode_high s k hlt (by omega)).1
    generalize Utf8.decode s k=d at hnx hd
    have HC:Hid (pK (d.1:Int)=false):=by
     show pK (d.1:Int)=false
     simp [pK];omega
    have HD:Hid (pK (s[k].toNat)=false):=by
     show pK (s[k].toNat)=false
     simp [pK];omega
    go_wp2_with (go_at_call 125;refine (ny _ _).mono ?_;rw [HC.out];rintro e w' ⟨rfl,rfl⟩)
    go_ret;exact ⟨ax (nK hlt HD.out).symm,cH _ _ _⟩
  ·have hnx:∀ ty,(Instr.next (.pointer (some ⟨w.heap.size,0,none⟩)) true ty).run Tryz.prog (w.iter s k)=_:=fun ty=>run_next_end w s k ty hlt
   go_wp2;go_ret
   exact ⟨ax (vO fun j hj=>HA.out j hj (by omega)).symm,cH _ _ _⟩
theorem bh (s:ByteArray) (w:World) (hs:s.size≤maxLen) :
  Calls Tryz.prog 83 #[.string s] w fun e w'=>e=.returned (.bool (dD s))∧w'=w:=by
 unfold maxLen at hs
 cases hin:eB s.size 1 8
 ·have e:dD s=false:=by simp [dD,hin]
  rw [e];clear e;have HI:Hid (eB s.size 1 8=false):=hin;clear hin
  go_enter Tryz.func83,Tryz.ntmps83
  go_wp2_with (go_at_call 84;refine (bi _ _ _ _).mono ?_;rw [HI.out];rintro e w' ⟨rfl,rfl⟩)
  go_ret;exact ⟨rfl,rfl⟩
 ·have e:dD s=charsB s:=by simp [dD,hin]
  rw [e];clear e;have HI:Hid (eB s.size 1 8=true):=hin;clear hin
  go_enter Tryz.func83,Tryz.ntmps83
  go_wp2_with (go_at_call 84;refine (bi _ _ _ _).mono ?_;rw [HI.out];rintro e w' ⟨rfl,rfl⟩)
  go_loop [3,4] (fun i _=>∃ k:Nat,k≤s.size∧i=.int .i64 k∧Hid (∀ j (hj:j<s.size),j<k→pK (s[j].toNat)=true)) (fun i _=>s.size-(intOf i).toNat)
  case atStart=>exact ⟨0,Nat.zero_le _,rfl,fun j _ hj=>absurd hj (Nat.not_lt_zero _)⟩
  case round =>
   obtain ⟨k,hk,rfl,HA⟩:=hrel
   by_cases hlt:k<s.size
   ·have fin:Hid (pK (s[k].toNat)=true→∀ j (hj:j<s.size),j<k+1→pK (s[j].toNat)=true):=fun h j hj hjk=>if e:j=k then by subst e;exact h else HA.out j hj (by omega)
    have bad:Hid (pK (s[k].toNat)=false→charsB s=false):=fun h=>nK hlt h;have hx:∃ c:Nat,c=s[k].toNat:=⟨_,rfl⟩
    by_cases h1:(97:Int)≤(s[k].toNat:Int)
    ·by_cases h2:(s[k].toNat:Int)≤122
     ·go_wp2
      go_round
      case rel=>exact ⟨k+1,by omega,by go_num,fin.out (by simp [pK];omega)⟩
      case measure=>simp [intOf];omega
     ·have h3:(48:Int)≤(s[k].toNat:Int):=by omega
      have h4:¬ (s[k].toNat:Int)≤57:=by omega
      have h5:((s[k].toNat:Int)==45)=false:=by simp;omega
      go_wp2;go_ret
      exact ⟨ax (bad.out (by simp [pK];omega)).symm,rfl⟩
    ·by_cases h3:(48:Int)≤(s[k].toNat:Int)
     ·by_cases h4:(s[k].toNat:Int)≤57
      ·go_wp2
       go_round
       case rel=>exact ⟨k+1,by omega,by go_num,fin.out (by simp [pK];omega)⟩
       case measure=>simp [intOf];omega
      ·have h5:((s[k].toNat:Int)==45)=false:=by simp;omega
       go_wp2;go_ret
       exact ⟨ax (bad.out (by simp [pK];omega)).symm,rfl⟩
     ·by_cases h5:(s[k].toNat:Int)=45
      ·have h6:((s[k].toNat:Int)==45)=true:=by simp [h5]
       have H5:Hid ((s[k].toNat:Int)=45):=h5;clear h5;go_wp2
       go_round
       case rel=>exact ⟨k+1,by omega,by go_num,fin.out (by have:=H5.out;simp [pK];omega)⟩
       case measure=>simp [intOf];omega
      ·have h6:((s[k].toNat:Int)==45)=false:=by simp;omega
       go_wp2;go_ret
       exact ⟨ax (bad.out (by simp [pK];omega)).symm,rfl⟩
   ·go_wp2
    go_ret
    exact ⟨ax (vO fun j hj=>HA.out j hj (by omega)).symm,rfl⟩
open Go.RowKit
structure dP where
 f:ByteArray
 what:Int
 num:Int
 v:ByteArray
theorem cQ (n:Int) (w:World) :
  Calls Tryz.prog 75 #[.int .i64 n] w fun e w'=>e=.returned (.bool (eB n 1 1000000))∧w'=w:=by
 by_cases h1:1≤n
 ·by_cases h2:n≤1000000
  ·have e:eB n 1 1000000=true:=by simp [eB,h1,h2]
   rw [e];clear e
   go_enter Tryz.func75,Tryz.ntmps75
   go_wp2;go_ret;exact ⟨rfl,rfl⟩
  ·have e:eB n 1 1000000=false:=by simp [eB,h1,h2]
   rw [e];clear e
   go_enter Tryz.func75,Tryz.ntmps75
   go_wp2;go_ret;exact ⟨rfl,rfl⟩
 ·have e:eB n 1 1000000=false:=by simp [eB,h1]
  rw [e];clear e
  go_enter Tryz.func75,Tryz.ntmps75
  go_wp2;go_ret;exact ⟨rfl,rfl⟩
open Go.RowKit
def dV (w:World) (v:Value) (ws:List ByteArray):Prop :=
 ∃ g off cap,v=.slice (some ⟨g,off,none⟩) ws.length cap∧ws.length≤cap∧cap≤maxLen∧∀ i x,ws[i]?=some x→w.cell? ⟨g,off+i,none⟩=some (.string x)
theorem dV.keep {w w':World} {v:Value} {ws:List ByteArray} (h:dV w v ws) (hb:Below w.heap.size w w'):dV w' v ws:=by
 obtain ⟨g,off,cap,rfl,h1,h2,h3⟩:=h;exact ⟨g,off,cap,rfl,h1,h2,fun i x hx=>ag hb (Nat.le_refl _) (h3 i x hx)⟩
def iw (cur:List UInt8):List UInt8→List (List UInt8)
 | []=>[cur]
 | c::r=>if c=32 then cur::iw [] r else iw (cur++[c]) r
def bytes (s:ByteArray):List UInt8:=s.data.toList
theorem bq {a b:ByteArray} (h:bytes a=bytes b):a=b:=ByteArray.ext (Array.toList_inj.1 h)
theorem aK (s:ByteArray):(bytes s).length=s.size:=by simp [bytes]
theorem bf (s:ByteArray) (a b:Nat):bytes (s.extract a b)=((bytes s).drop a).take (b-a):=by
 simp [bytes]
theorem drop_cons (s:ByteArray) (k:Nat) (h:k<s.size):(bytes s).drop k=s[k]::(bytes s).drop (k+1):=by
 have hl:k<(bytes s).length:=by rw [aK];exact h
 rw [List.drop_eq_getElem_cons hl]
 rfl
theorem xD (s:ByteArray) (a k:Nat) (ha:a≤k) (h:k<s.size):bytes (s.extract a (k+1))=bytes (s.extract a k)++[s[k]]:=by
 rw [bf,bf]
 have hl:k-a<((bytes s).drop a).length:=by rw [List.length_drop,aK];omega
 rw [show k+1-a=k-a+1 by omega,List.take_succ_eq_append_getElem hl]
 congr 2
 simp only [List.getElem_drop]
 have:a+(k-a)=k:=by omega
 simp only [this]
 rfl
def gQ (s:ByteArray) (fr k:Nat) (P:List ByteArray):Prop:=P.map bytes++iw (bytes (s.extract fr k)) ((bytes s).drop k)=iw [] (bytes s)
theorem gQ.start (s:ByteArray):gQ s 0 0 []:=by
 unfold gQ;rw [bf]
 simp
theorem gQ.space {s:ByteArray} {fr k:Nat} {P:List ByteArray} (h:gQ s fr k P) (hk:k<s.size) (hc:s[k]=32):gQ s (k+1) (k+1) (P++[s.extract fr k]):=by
 unfold gQ at h ⊢;rw [drop_cons s k hk,iw,if_pos hc] at h;rw [← h,bf s (k+1) (k+1)]
 simp
theorem gQ.other {s:ByteArray} {fr k:Nat} {P:List ByteArray} (h:gQ s fr k P) (ha:fr≤k) (hk:k<s.size) (hc:¬ s[k]=32):gQ s fr (k+1) P:=by
 unfold gQ at h ⊢;rw [drop_cons s k hk,iw,if_neg hc] at h;rw [← h,xD s fr k ha hk]
theorem gQ.fin {s:ByteArray} {fr:Nat} {P:List ByteArray} (h:gQ s fr s.size P):(P++[s.extract fr s.size]).map bytes=iw [] (bytes s):=by
 unfold gQ at h
 rw [List.drop_of_length_le (by rw [aK];omega),iw] at h
 rw [← h];simp
theorem mg (c:UInt8):(((c.toNat:Nat):Int)==32)=(c==32):=by
 rw [Bool.eq_iff_iff]
 simp only [beq_iff_eq]
 constructor
 ·intro h
  apply UInt8.toNat_inj.1
  have:c.toNat=32:=by omega
  simpa using this
 ·rintro rfl;rfl
theorem aw {w:World} {base:Nat} {e:TypeId} {size:Nat} {v:Value} {n:Nat} {xs:List Value} (h:w.ownsRow base e size v n xs):∀ k,v.ownBlock=some k→base≤k:=by
 intro k hk
 rcases h.2 with ⟨rfl,_⟩ | ⟨g,cap,cur,rfl,hg,_⟩
 ·cases hk
 ·cases hk;exact hg
theorem bO {w:World} {base:Nat} {e:TypeId} {v:Value} {ws:List ByteArray} (h:w.ownsRow base e 1 v ws.length (ws.map Value.string)) (hne:ws≠[]):dV w v ws:=by
 rcases h.2 with ⟨_,h0⟩ | ⟨g,cap,cur,rfl,_,hb,hn,hc,_,ht⟩
 ·exact absurd (List.length_eq_zero_iff.1 h0) hne
 ·refine ⟨g,0,cap,rfl,hn,hc,fun i x hx=>?_⟩
  have hi:i<ws.length:=(List.getElem?_eq_some_iff.1 hx).1
  have h1:cur.toList[i]?=some (.string x):=by
   have h2:(cur.toList.take (ws.length*1))[i]?=some (.string x):=by rw [ht];simp [hx]
   rw [List.getElem?_take] at h2
   simpa [hi] using h2
  simp only [Nat.zero_add,World.cell?,hb]
  simpa using h1
theorem pG:(Tryz.prog.info? 9).map (fun i=>(i.zero,i.size,i.bytes))=some (some (.string ByteArray.empty),1,16):=by kernel_rfl
theorem uH (s:ByteArray) (w:World) (hs:s.size≤1048576) :
  Calls Tryz.prog 54 #[.string s,.int .u8 32] w fun e w'=>∃ v ws,e=.returned v∧dV w' v ws∧ws.map bytes=iw [] (bytes s)∧Below w.heap.size w w':=by
 obtain ⟨i0,hi,hz0,hz1,hz2⟩:=info_parts pG
 go_enter Tryz.func54,Tryz.ntmps54
 go_wp2
 go_loopw [5,6,7] (fun o f i wr=>∃ (k fr:Nat) (P:List ByteArray),fr≤k∧k≤s.size∧i=.int .i64 k∧f=.int .i64 fr∧P.length≤k∧wr.ownsRow w.heap.size 9 1 o P.length (P.map Value.string)∧Below w.heap.size w wr∧Hid (gQ s fr k P)) (fun _ _ i _=>s.size-(intOf i).toNat)
 case atStart=>exact ⟨0,0,[],Nat.le_refl _,Nat.zero_le _,rfl,rfl,Nat.le_refl _,World.ownsRow_made w #[] 0 (Nat.le_refl _) (Nat.zero_le _) rfl,(Below.refl _ _).alloc (Nat.le_refl _) _,gQ.start s⟩
 case round =>
  obtain ⟨k,fr,P,hfk,hk,rfl,rfl,hpl,hown,hb,HI⟩:=hrel
  by_cases hlt:k<s.size
  ·by_cases hc:s[k]=32
   ·have h1:(((s[k].toNat:Nat):Int)==32)=true:=by rw [mg];simpa using hc
    have HC:Hid (s[k]=32):=hc;clear hc
    go_wp2_with (at_builtin;refine wpList_append_own _ rfl _ _ 46 rfl w.heap.size 9 i0 (.string ByteArray.empty) 1 16 Tryz.underlying46 hi hz0 hz1 hz2 rfl (by decide) _ _ _ rfl (hown.alloc _) ⟨wr.heap.size,0,none⟩ 1 1 [.string (s.extract fr k)] rfl rfl (cell_one_new _ _ _) (fun x hx=>by simp at hx;subst hx;rfl) (by unfold maxLen;omega) (by omega) (by have:=hb.size;simp;omega) ?_;intro v' w3 hown' hgrow3 hnil3)
    refine ⟨⟨k+1,k+1,P++[s.extract fr k],Nat.le_refl _,by omega,by go_num,by go_num,by simp;omega,?_,(hb.alloc hb.size _).grown hgrow3 (by have:=hb.size;simp;omega) (aw hown),HI.out.space hlt HC.out⟩,by simp [intOf];omega⟩
    simpa using hown'
   ·have h1:(((s[k].toNat:Nat):Int)==32)=false:=by rw [mg];simpa using hc
    have HC:Hid (¬ s[k]=32):=hc;clear hc;go_wp2
    exact ⟨⟨k+1,fr,P,by omega,by omega,by go_num,rfl,by omega,hown,hb,HI.out.other hfk hlt HC.out⟩,by simp [intOf];omega⟩
  ·have HK:Hid (k=s.size):=by show k=s.size;omega
   go_wp2_with (at_builtin;refine wpList_append_own _ rfl _ _ 46 rfl w.heap.size 9 i0 (.string ByteArray.empty) 1 16 Tryz.underlying46 hi hz0 hz1 hz2 rfl (by decide) _ _ _ rfl (hown.alloc _) ⟨wr.heap.size,0,none⟩ 1 1 [.string (s.extract fr s.size)] rfl rfl (cell_one_new _ _ _) (fun x hx=>by simp at hx;subst hx;rfl) (by unfold maxLen;omega) (by omega) (by have:=hb.size;simp;omega) ?_;intro v' w3 hown' hgrow3 hnil3)
   go_ret
   refine ⟨v',P++[s.extract fr s.size],rfl,bO (base:=w.heap.size) (e:=9) (by simpa using hown') (by simp),?_,(hb.alloc hb.size _).grown hgrow3 (by have:=hb.size;simp;omega) (aw hown)⟩
   have:=HI.out;rw [HK.out] at this;exact this.fin
open Go.RowKit
theorem kJ (t:dx) (w:World) :
  Calls Tryz.prog 129 #[.agg #[.string t.s,.int .i64 t.x,.int .i64 t.y]] w fun e w'=>e=.returned (.string t.s)∧Below w.heap.size w w':=by
 go_enter Tryz.func129,Tryz.ntmps129
 go_wp2;go_ret;exact ⟨rfl,(Below.refl _ _).alloc (Nat.le_refl _) _⟩
theorem jV (t:dx) (w:World) :
  Calls Tryz.prog 132 #[.agg #[.string t.s,.int .i64 t.x,.int .i64 t.y]] w fun e w'=>e=.returned (.string t.s)∧Below w.heap.size w w':=by
 go_enter Tryz.func132,Tryz.ntmps132
 go_wp2;go_ret;exact ⟨rfl,(Below.refl _ _).alloc (Nat.le_refl _) _⟩
theorem xI (t:dx) (w:World) :
  Calls Tryz.prog 130 #[.agg #[.string t.s,.int .i64 t.x,.int .i64 t.y]] w fun e w'=>e=.returned (.bool (gI t))∧Below w.heap.size w w':=by
 obtain ⟨s,x,y⟩:=t;dsimp only
 by_cases h1:1≤x
 ·by_cases h2:x≤y
  ·by_cases h3:y≤50
   ·have e:gI ⟨s,x,y⟩=true:=by simp [gI,h1,h2,h3]
    rw [e];clear e
    go_enter Tryz.func130,Tryz.ntmps130
    go_wp2;go_ret;exact ⟨rfl,(Below.refl _ _).alloc (Nat.le_refl _) _⟩
   ·have e:gI ⟨s,x,y⟩=false:=by simp [gI,h3]
    rw [e];clear e
    go_enter Tryz.func130,Tryz.ntmps130
    go_wp2;go_ret;exact ⟨rfl,(Below.refl _ _).alloc (Nat.le_refl _) _⟩
  ·have e:gI ⟨s,x,y⟩=false:=by simp [gI,h2]
   rw [e];clear e
   go_enter Tryz.func130,Tryz.ntmps130
   go_wp2;go_ret;exact ⟨rfl,(Below.refl _ _).alloc (Nat.le_refl _) _⟩
 ·have e:gI ⟨s,x,y⟩=false:=by simp [gI,h1]
  rw [e];clear e
  go_enter Tryz.func130,Tryz.ntmps130
  go_wp2;go_ret;exact ⟨rfl,(Below.refl _ _).alloc (Nat.le_refl _) _⟩
theorem qY (t:dx) (w:World) :
  Calls Tryz.prog 133 #[.agg #[.string t.s,.int .i64 t.x,.int .i64 t.y]] w fun e w'=>e=.returned (.bool (eQ t))∧Below w.heap.size w w':=by
 obtain ⟨s,x,y⟩:=t;dsimp only
 cases h1:eB x 0 15
 ·have e:eQ ⟨s,x,y⟩=false:=by simp [eQ,h1]
  rw [e];clear e;have H1:Hid (eB x 0 15=false):=h1;clear h1
  go_enter Tryz.func133,Tryz.ntmps133
  go_wp2_with (go_at_call 164;refine (qN _ _).mono ?_;rw [H1.out];rintro e w' ⟨rfl,rfl⟩)
  go_ret;exact ⟨rfl,(Below.refl _ _).alloc (Nat.le_refl _) _⟩
 ·have H1:Hid (eB x 0 15=true):=h1
  have e:eQ ⟨s,x,y⟩=eB y 0 15:=by simp [eQ,h1]
  rw [e];clear e h1
  go_enter Tryz.func133,Tryz.ntmps133
  go_wp2_with fail;refine (qN _ _).mono ?_;rw [H1.out];rintro e w' ⟨rfl,rfl⟩;go_wp2_with fail;refine (qN _ _).mono ?_;rintro e w' ⟨rfl,rfl⟩;go_wp2;go_ret;exact ⟨rfl,(Below.refl _ _).alloc (Nat.le_refl _) _⟩
theorem sD (t:dx) (w:World) (hs:t.s.size≤maxLen) :
  Calls Tryz.prog 87 #[.agg #[.string t.s,.int .i64 t.x,.int .i64 t.y]] w fun e w'=>e=.returned (.bool (gJ t))∧Below w.heap.size w w':=by
 obtain ⟨s,x,y⟩:=t;dsimp only at hs ⊢
 cases h0:dD s
 ·have e:gJ ⟨s,x,y⟩=false:=by simp [gJ,h0]
  have H0:Hid (dD s=false):=h0;rw [e];clear e h0
  go_enter Tryz.func87,Tryz.ntmps87
  go_wp2_with fail;refine (bh _ _ hs).mono ?_;rw [H0.out];rintro e w' ⟨rfl,rfl⟩;go_wp2;go_ret;exact ⟨rfl,(Below.refl _ _).alloc (Nat.le_refl _) _⟩
 ·have H0:Hid (dD s=true):=h0
  cases h1:eB x 1 y
  ·have H1:Hid (eB x 1 y=false):=h1
   have e:gJ ⟨s,x,y⟩=false:=by simp [gJ,gI];simp [eB] at h1;omega
   rw [e];clear e h0 h1
   go_enter Tryz.func87,Tryz.ntmps87
   go_wp2_with fail;refine (bh _ _ hs).mono ?_;rw [H0.out];rintro e w' ⟨rfl,rfl⟩;go_wp2_with fail;refine (bi _ _ _ _).mono ?_;rw [H1.out];rintro e w' ⟨rfl,rfl⟩;go_wp2;go_ret;exact ⟨rfl,(Below.refl _ _).alloc (Nat.le_refl _) _⟩
  ·have H1:Hid (eB x 1 y=true):=h1
   have e:gJ ⟨s,x,y⟩=decide (y≤50):=by simp [eB] at h1;simp [gJ,gI,h0,h1]
   rw [e];clear e h0 h1
   go_enter Tryz.func87,Tryz.ntmps87
   go_wp2_with fail;refine (bh _ _ hs).mono ?_;rw [H0.out];rintro e w' ⟨rfl,rfl⟩;go_wp2_with fail;refine (bi _ _ _ _).mono ?_;rw [H1.out];rintro e w' ⟨rfl,rfl⟩;go_wp2;go_ret;exact ⟨rfl,(Below.refl _ _).alloc (Nat.le_refl _) _⟩
theorem qy (t:dx) (w:World) (hs:t.s.size≤maxLen) :
  Calls Tryz.prog 88 #[.agg #[.string t.s,.int .i64 t.x,.int .i64 t.y]] w fun e w'=>e=.returned (.bool (gq t))∧Below w.heap.size w w':=by
 obtain ⟨s,x,y⟩:=t;dsimp only at hs ⊢
 cases h0:dD s
 ·have e:gq ⟨s,x,y⟩=false:=by simp [gq,h0]
  have H0:Hid (dD s=false):=h0;rw [e];clear e h0
  go_enter Tryz.func88,Tryz.ntmps88
  go_wp2_with fail;refine (bh _ _ hs).mono ?_;rw [H0.out];rintro e w' ⟨rfl,rfl⟩;go_wp2;go_ret;exact ⟨rfl,(Below.refl _ _).alloc (Nat.le_refl _) _⟩
 ·have H0:Hid (dD s=true):=h0
  cases h1:eB x 0 15
  ·have H1:Hid (eB x 0 15=false):=h1
   have e:gq ⟨s,x,y⟩=false:=by simp [gq,eQ,h1]
   rw [e];clear e h0 h1
   go_enter Tryz.func88,Tryz.ntmps88
   go_wp2_with fail;refine (bh _ _ hs).mono ?_;rw [H0.out];rintro e w' ⟨rfl,rfl⟩;go_wp2_with fail;refine (bi _ _ _ _).mono ?_;rw [H1.out];rintro e w' ⟨rfl,rfl⟩;go_wp2;go_ret;exact ⟨rfl,(Below.refl _ _).alloc (Nat.le_refl _) _⟩
  ·have H1:Hid (eB x 0 15=true):=h1
   have e:gq ⟨s,x,y⟩=eB y 0 15:=by simp [gq,eQ,h0,h1]
   rw [e];clear e h0 h1
   go_enter Tryz.func88,Tryz.ntmps88
   go_wp2_with fail;refine (bh _ _ hs).mono ?_;rw [H0.out];rintro e w' ⟨rfl,rfl⟩;go_wp2_with fail;refine (bi _ _ _ _).mono ?_;rw [H1.out];rintro e w' ⟨rfl,rfl⟩;go_wp2_with fail;refine (bi _ _ _ _).mono ?_;rintro e w' ⟨rfl,rfl⟩;go_wp2;go_ret;exact ⟨rfl,(Below.refl _ _).alloc (Nat.le_refl _) _⟩
open Go.RowKit
def oO (c:Int):Bool:=decide (48≤c)&&decide (c≤57)
def fF (s:ByteArray):Nat→Nat
 | 0=>0
 | k+1=>fF s k*10+((s.data.toList.getD k 0).toNat-48)
def ik (s:ByteArray):Bool:=s.data.toList.all fun c=>oO c.toNat
def mJ (s:ByteArray):Bool:=decide (1<s.size)&&(s.data.toList.getD 0 0).toNat==48
def eu (s:ByteArray):Bool:=eB s.size 1 7&&(!mJ s&&ik s)
theorem cm {s:ByteArray} {k:Nat} (hk:k<s.size):s.data.toList.getD k 0=s[k]:=by
 have h:k<s.data.size:=hk;rw [List.getD,Array.getElem?_toList,Array.getElem?_eq_getElem h];rfl
theorem sS {s:ByteArray} (h:∀ k (hk:k<s.size),oO (s[k].toNat)=true):ik s=true:=by
 unfold ik;rw [List.all_eq_true];intro c hc;obtain ⟨k,hk,rfl⟩:=List.getElem_of_mem hc
 exact h k (by simpa using hk)
theorem cD {s:ByteArray} {k:Nat} (hk:k<s.size) (h:oO (s[k].toNat)=false):ik s=false:=by
 unfold ik;rw [List.all_eq_false]
 exact ⟨s[k],by simp [ByteArray.getElem_eq_getElem_data],by simp [h]⟩
theorem oN {c:Int}:oO c=true ↔ 48≤c∧c≤57:=by simp [oO]
theorem DY {s:ByteArray}:∀ (k:Nat),k≤s.size→(∀ j (hj:j<s.size),j<k→oO (s[j].toNat)=true)→fF s k<10 ^ k
 | 0,_,_=>by simp [fF]
 | k+1,hk,h=>by
  have ih:=DY k (by omega) (fun j hj hjk=>h j hj (by omega))
  have hd:=oN.1 (h k (by omega) (by omega))
  rw [fF,cm (by omega),Nat.pow_succ]
  omega
theorem vG {s:ByteArray} (k:Nat) (hs:s.size≤7) (hk:k≤s.size) (h:∀ j (hj:j<s.size),j<k→oO (s[j].toNat)=true):fF s k<10000000 :=
 Nat.lt_of_lt_of_le (DY k hk h) (Nat.pow_le_pow_right (by omega) (by omega:k≤7))
theorem wu (c:UInt8):(((c.toNat:Nat):Int)==48)=(c.toNat==48):=by
 rw [Bool.eq_iff_iff];simp only [beq_iff_eq];omega
theorem bW (s:ByteArray) (w:World) (hs:s.size≤maxLen) :
  Calls Tryz.prog 208 #[.string s] w fun e w'=>e=.returned (.tuple #[.int .i64 (bif eu s then (fF s s.size:Int) else 0),.bool (eu s)])∧Below w.heap.size w w':=by
 unfold maxLen at hs
 by_cases h1:(s.size:Int)<1
 ·have e:eu s=false:=by simp [eu,eB];omega
  rw [e];clear e
  go_enter Tryz.func208,Tryz.ntmps208
  go_wp2
  go_ret2
  exact ⟨rfl,Below.refl _ _⟩
 by_cases h2:(7:Int)<s.size
 ·have e:eu s=false:=by simp [eu,eB];omega
  rw [e];clear e
  go_enter Tryz.func208,Tryz.ntmps208
  go_wp2
  go_ret2
  exact ⟨rfl,Below.refl _ _⟩
 have hin:eB s.size 1 7=true:=by simp [eB];omega
 have hz:0<s.size:=by omega
 cases hl:mJ s
 ·have e:eu s=ik s:=by simp [eu,hin,hl]
  have HL:Hid (mJ s=false):=hl;rw [e];clear e hin
  have hsz7:s.size≤7:=by omega
  by_cases h3:(1:Int)<s.size
  focus
   have h4:(((s[0].toNat:Nat):Int)==48)=false:=by
    rw [wu]
    have:1<s.size:=by omega
    simp only [mJ,this,decide_true,Bool.true_and,cm hz] at hl
    exact hl
   clear hl
  rotate_left
  focus
   clear hl
  rotate_left
  all_goals
   go_enter Tryz.func208,Tryz.ntmps208
   go_wp2
   go_loopw [4,6] (fun n _ wr=>∃ k:Nat,k≤s.size∧wr=w.iter s k∧n=.int .i64 (fF s k:Int)∧Hid (∀ j (hj:j<s.size),j<k→oO (s[j].toNat)=true)) (fun _ _ wr=>s.size-wr.iterPos w.heap.size)
   case atStart=>exact ⟨0,Nat.zero_le _,rfl,rfl,fun j _ hj=>absurd hj (Nat.not_lt_zero _)⟩
   case round =>
    obtain ⟨k,hk,rfl,rfl,HA⟩:=hrel
    by_cases hlt:k<s.size
    ·have hn7:fF s k<10000000:=vG k hsz7 hk HA.out
     have HS:Hid (fF s (k+1)=fF s k*10+(s[k].toNat-48)):=by
      show fF s (k+1)=_
      rw [fF,cm hlt]
     by_cases ha:s[k].toNat<128
     ·have hnx:∀ ty,(Instr.next (.pointer (some ⟨w.heap.size,0,none⟩)) true ty).run Tryz.prog (w.iter s k)=_:=fun ty=>run_next_ascii w s k ty hlt ha
      generalize hc:s[k].toNat=c at hnx ha HS;have HC:Hid (s[k].toNat=c):=hc;clear hc;generalize fF s k=nk at hn7 HS
      by_cases h5:(c:Int)<48
      ·go_wp2
       go_ret2
       have e:ik s=false:=cD hlt (by rw [HC.out];simp [oO];omega)
       rw [e];exact ⟨rfl,cH _ _ _⟩
      ·by_cases h6:(57:Int)<(c:Int)
       ·go_wp2
        go_ret2
        have e:ik s=false:=cD hlt (by rw [HC.out];simp [oO];omega)
        rw [e];exact ⟨rfl,cH _ _ _⟩
       ·go_wp2
        go_roundw
        case rel=>exact ⟨k+1,by omega,rfl,by rw [HS.out];congr 1;omega,fun j hj hjk=>if h:j=k then by subst h;rw [HC.out,oN];omega else HA.out j hj (by omega)⟩
        case measure=>simp;omega
     ·have hnx:∀ ty,(Instr.next (.pointer (some ⟨w.heap.size,0,none⟩)) true ty).run Tryz.prog (w.iter s k)=_:=fun ty=>run_next_any w s k ty hlt
      have hd:=(decode_high s k hlt (by omega)).1
      generalize Utf8.decode s k=d at hnx hd
      have h5:¬ (d.1:Int)<48:=by omega
      have h6:(57:Int)<(d.1:Int):=by omega
      have HD:Hid (ik s=false):=cD hlt (by simp [oO];omega)
      go_wp2
      go_ret2
      rw [HD.out];exact ⟨rfl,cH _ _ _⟩
    ·have hnx:∀ ty,(Instr.next (.pointer (some ⟨w.heap.size,0,none⟩)) true ty).run Tryz.prog (w.iter s k)=_:=fun ty=>run_next_end w s k ty hlt
     have HT:Hid (ik s=true):=sS fun j hj=>HA.out j hj (by omega)
     have HK:Hid (k=s.size):=by show k=s.size;omega
     go_wp2
     go_ret2
     rw [HT.out,HK.out];exact ⟨rfl,cH _ _ _⟩
 ·have e:eu s=false:=by simp [eu,hl]
  have h3:(1:Int)<s.size:=by
   have:1<s.size:=by simp [mJ] at hl;exact hl.1
   omega
  have h4:(((s[0].toNat:Nat):Int)==48)=true:=by
   rw [wu]
   simp only [mJ,Bool.and_eq_true,cm hz] at hl
   exact hl.2
  rw [e];clear e hl hin
  go_enter Tryz.func208,Tryz.ntmps208
  go_wp2
  go_ret2
  exact ⟨rfl,Below.refl _ _⟩
open Go.RowKit
def dn (s:ByteArray):List ByteArray:=(iw [] (bytes s)).map fun l=>⟨⟨l⟩⟩
theorem Cu {s:ByteArray} {ws:List ByteArray} (h:ws.map bytes=iw [] (bytes s)):ws=dn s:=by
 unfold dn;rw [← h,List.map_map]
 have:((fun l=>(⟨⟨l⟩⟩:ByteArray)) ∘ bytes)=id:=by funext x;rfl
 rw [this,List.map_id]
theorem get!_eq (s:ByteArray) (k:Nat) (h:k<s.size):s.get! k=s[k]:=get_at s k h
theorem E8 (s:ByteArray) (pos:Nat) (h:pos<s.size) (ha:128≤(s[pos]'h).toNat) :
  pos+(Utf8.decode s pos).2≤s.size∧∀ j (hj:j<s.size),pos≤j→j<pos+(Utf8.decode s pos).2→128≤(s[j]'hj).toNat:=by
 have hn:¬ (s[pos]'h).toNat<128:=by omega
 have one:∀ j (hj:j<s.size),pos≤j→j<pos+1→128≤(s[j]'hj).toNat:=fun j hj h1 h2=>by
  have:j=pos:=by omega
  subst this;exact ha
 have more:∀ k,pos+k<s.size→(s.get! (pos+k)).toNat / 64=2→∀ (hj:pos+k<s.size),128≤(s[pos+k]'hj).toNat:=fun k hk hq hj=>by
  rw [get!_eq s _ hj] at hq;omega
 simp only [Utf8.decode,get_at s pos h,hn,if_false]
 split
 ·next hc =>
  simp only [Bool.and_eq_true,decide_eq_true_eq,beq_iff_eq] at hc
  obtain ⟨_,h1,q1⟩:=hc
  split
  ·refine ⟨by show pos+2≤_;omega,fun j hj a b=>?_⟩
   have b':j<pos+2:=b
   by_cases e:j=pos
   ·exact one j hj a (by omega)
   ·obtain rfl:j=pos+1:=by omega
    exact more 1 h1 q1 hj
  ·exact ⟨by show pos+1≤_;omega,fun j hj a b=>one j hj a b⟩
 ·split
  ·next hc =>
   simp only [Bool.and_eq_true,decide_eq_true_eq,beq_iff_eq] at hc
   obtain ⟨⟨_,h1,q1⟩,h2,q2⟩:=hc
   split
   ·refine ⟨by show pos+3≤_;omega,fun j hj a b=>?_⟩
    have b':j<pos+3:=b
    by_cases e:j=pos
    ·exact one j hj a (by omega)
    ·by_cases e2:j=pos+1
     ·subst e2;exact more 1 h1 q1 hj
     ·obtain rfl:j=pos+2:=by omega
      exact more 2 h2 q2 hj
   ·exact ⟨by show pos+1≤_;omega,fun j hj a b=>one j hj a b⟩
  ·split
   ·next hc =>
    simp only [Bool.and_eq_true,decide_eq_true_eq,beq_iff_eq] at hc
    obtain ⟨⟨⟨_,h1,q1⟩,h2,q2⟩,h3,q3⟩:=hc
    split
    ·refine ⟨by show pos+4≤_;omega,fun j hj a b=>?_⟩
     have b':j<pos+4:=b
     by_cases e:j=pos
     ·exact one j hj a (by omega)
     ·by_cases e2:j=pos+1
      ·subst e2;exact more 1 h1 q1 hj
      ·by_cases e3:j=pos+2
       ·subst e3;exact more 2 h2 q2 hj
       ·obtain rfl:j=pos+3:=by omega
        exact more 3 h3 q3 hj
    ·exact ⟨by show pos+1≤_;omega,fun j hj a b=>one j hj a b⟩
   ·exact ⟨by show pos+1≤_;omega,fun j hj a b=>one j hj a b⟩
theorem gQ.skip {s:ByteArray} {fr k:Nat} {P:List ByteArray} (h:gQ s fr k P) (ha:fr≤k):∀ n,k+n≤s.size→(∀ j (hj:j<s.size),k≤j→j<k+n→¬ s[j]=32)→gQ s fr (k+n) P
 | 0,_,_=>h
 | n+1,hk,hc=>(gQ.skip h ha n (by omega) (fun j hj a b=>hc j hj a (by omega))).other (by omega) (by omega:k+n<s.size) (hc _ _ (by omega) (by omega))
theorem Jm {c:UInt8} (h:128≤c.toNat):¬ c=32:=fun e=>by rw [e] at h;simp at h
theorem nW (s:ByteArray) (w:World) (hs:s.size≤1048576) :
  Calls Tryz.prog 140 #[.string s] w fun e w'=>∃ v,e=.returned v∧dV w' v (dn s)∧Below w.heap.size w w':=by
 obtain ⟨i0,hi,hz0,hz1,hz2⟩:=info_parts pG
 go_enter Tryz.func140,Tryz.ntmps140
 go_wp2
 go_loopw [3,4,5,6] (fun o f _ _ wr=>∃ (k fr:Nat) (P:List ByteArray),fr≤k∧k≤s.size∧f=.int .i64 fr∧P.length≤k∧wr.ownsRow (w.heap.size+1) 9 1 o P.length (P.map Value.string)∧wr.heap[w.heap.size]?=some (.stringIter s k)∧Below w.heap.size w wr∧Hid (gQ s fr k P)) (fun _ _ _ _ wr=>s.size-wr.iterPos w.heap.size)
 case atStart=>exact ⟨0,0,[],Nat.le_refl _,Nat.zero_le _,rfl,Nat.le_refl _,⟨rfl,.inl ⟨rfl,rfl⟩⟩,World.iter_heap w s 0,(Below.refl _ _).alloc (Nat.le_refl _) _,gQ.start s⟩
 case round =>
  obtain ⟨k,fr,P,hfk,hk,rfl,hpl,hown,hit,hb,HI⟩:=hrel;have hsz:w.heap.size<wr.heap.size:=(Array.getElem?_eq_some_iff.1 hit).1
  by_cases hlt:k<s.size
  ·by_cases ha:s[k].toNat<128
   ·have hnx:∀ ty,(Instr.next (.pointer (some ⟨w.heap.size,0,none⟩)) true ty).run Tryz.prog wr=_:=fun ty=>Lib.run_next_ascii_at wr w.heap.size s k ty hit hlt ha
    have hit2:=Lib.iterAt_heap wr w.heap.size s k (k+1) hit;have hb2:=Lib.below_iterAt hb (k:=w.heap.size) (Nat.le_refl _) s (k+1);have hown2:=ownsRow_iterAt hown (k:=w.heap.size) (Nat.lt_succ_self _) s (k+1);have HP:Hid (wr.iterPos w.heap.size=k):=iterPos_of hit
    by_cases hc:s[k]=32
    ·have h1:(((s[k].toNat:Nat):Int)==32)=true:=by rw [mg];simpa using hc
     have HC:Hid (s[k]=32):=hc;clear hc;generalize hW:wr.iterAt w.heap.size s (k+1)=W at hnx hit2 hb2 hown2;have hszW:w.heap.size<W.heap.size:=(Array.getElem?_eq_some_iff.1 hit2).1;clear hW
     go_wp2_with (at_builtin;refine wpList_append_own _ rfl _ _ 46 rfl (w.heap.size+1) 9 i0 (.string ByteArray.empty) 1 16 Tryz.underlying46 hi hz0 hz1 hz2 rfl (by decide) _ _ _ rfl (hown2.alloc _) ⟨W.heap.size,0,none⟩ 1 1 [.string (s.extract fr k)] rfl rfl (cell_one_new _ _ _) (fun x hx=>by simp at hx;subst hx;rfl) (by unfold maxLen;omega) (by omega) (by have:=hb.size;simp;omega) ?_;intro v' w3 hown' hgrow3 hnil3)
     have hit3:w3.heap[w.heap.size]?=some (.stringIter s (k+1)):=(hgrow3.block w.heap.size (by simp;omega) (fun hj=>by have:=aw hown2 _ hj.symm;omega)).trans ((Below.heap_alloc _ _ _ hszW).trans hit2)
     refine ⟨⟨k+1,k+1,P++[s.extract fr k],Nat.le_refl _,by omega,by go_num,by simp;omega,by simpa using hown',hit3,(hb2.alloc hb2.size _).grown hgrow3 (by have:=hb2.size;simp;omega) (fun j hj=>by have:=aw hown2 _ hj;omega),HI.out.space hlt HC.out⟩,?_⟩
     rw [iterPos_of hit3,HP.out];omega
    ·have h1:(((s[k].toNat:Nat):Int)==32)=false:=by rw [mg];simpa using hc
     have HC:Hid (¬ s[k]=32):=hc;clear hc;go_wp2
     refine ⟨⟨k+1,fr,P,by omega,by omega,rfl,by omega,hown2,hit2,hb2,HI.out.other hfk hlt HC.out⟩,?_⟩
     rw [iterPos_of hit2,HP.out];omega
   ·have hnx:∀ ty,(Instr.next (.pointer (some ⟨w.heap.size,0,none⟩)) true ty).run Tryz.prog wr=_:=fun ty=>Lib.run_next_any_at wr w.heap.size s k ty hit hlt
    have hd:=decode_high s k hlt (by omega)
    have HS:Hid (k+(Utf8.decode s k).2≤s.size∧∀ j (hj:j<s.size),k≤j→j<k+(Utf8.decode s k).2→128≤(s[j]'hj).toNat):=E8 s k hlt (by omega)
    have HP:Hid (wr.iterPos w.heap.size=k):=iterPos_of hit;generalize Utf8.decode s k=d at hnx hd HS;obtain ⟨d1,d2⟩:=d;dsimp only at hnx hd HS;have hit2:=Lib.iterAt_heap wr w.heap.size s k (k+d2) hit;have hb2:=Lib.below_iterAt hb (k:=w.heap.size) (Nat.le_refl _) s (k+d2);have hown2:=ownsRow_iterAt hown (k:=w.heap.size) (Nat.lt_succ_self _) s (k+d2)
    have h1:((d1:Int)==32)=false:=by simp;omega
    go_wp2;have hS:=HS.out
    refine ⟨⟨k+d2,fr,P,by omega,hS.1,rfl,by omega,hown2,hit2,hb2,HI.out.skip hfk d2 hS.1 fun j hj a b=>Jm (hS.2 j hj a b)⟩,?_⟩
    rw [iterPos_of hit2,HP.out];omega
  ·have hnx:∀ ty,(Instr.next (.pointer (some ⟨w.heap.size,0,none⟩)) true ty).run Tryz.prog wr=_:=fun ty=>Lib.run_next_end_at wr w.heap.size s k ty hit hlt
   have HK:Hid (k=s.size):=by show k=s.size;omega
   go_wp2_with (at_builtin;refine wpList_append_own _ rfl _ _ 46 rfl (w.heap.size+1) 9 i0 (.string ByteArray.empty) 1 16 Tryz.underlying46 hi hz0 hz1 hz2 rfl (by decide) _ _ _ rfl (hown.alloc _) ⟨wr.heap.size,0,none⟩ 1 1 [.string (s.extract fr s.size)] rfl rfl (cell_one_new _ _ _) (fun x hx=>by simp at hx;subst hx;rfl) (by unfold maxLen;omega) (by omega) (by have:=hb.size;simp;omega) ?_;intro v' w3 hown' hgrow3 hnil3)
   go_ret;have h2:=HI.out;rw [HK.out] at h2
   have h3:dV w3 v' (P++[s.extract fr s.size]):=bO (base:=w.heap.size+1) (e:=9) (by simpa using hown') (by simp)
   rw [Cu h2.fin] at h3
   exact ⟨v',rfl,h3,(hb.alloc hb.size _).grown hgrow3 (by have:=hb.size;simp;omega) (fun j hj=>by have:=aw hown _ hj;omega)⟩
open Go.RowKit
theorem pR:∀ a:List UInt8,Op.bytesLess a a=false
 | []=>rfl
 | a::x=>by
  have:¬ a<a:=UInt8.lt_irrefl a
  simp [Op.bytesLess,pR x]
theorem yV:∀ a b c:List UInt8,Op.bytesLess a b=true→Op.bytesLess b c=true→Op.bytesLess a c=true
 | a,b,[],h,k=>by cases b <;> simp [Op.bytesLess] at k
 | a,[],c::z,h,k=>by cases a <;> simp [Op.bytesLess] at h
 | [],b::y,c::z,h,k=>rfl
 | a::x,b::y,c::z,h,k=>by
  simp only [Op.bytesLess,Bool.or_eq_true,Bool.and_eq_true,decide_eq_true_eq,beq_iff_eq] at h k ⊢
  rcases h with h | ⟨rfl,h⟩
  ·rcases k with k | ⟨rfl,k⟩
   ·exact .inl (UInt8.lt_trans h k)
   ·exact .inl h
  ·rcases k with k | ⟨rfl,k⟩
   ·exact .inl k
   ·exact .inr ⟨rfl,yV x y z h k⟩
theorem yX:∀ a b:List UInt8,Op.bytesLess a b=false→Op.bytesLess b a=false→a=b
 | [],[],_,_=>rfl
 | [],b::y,h,_=>by simp [Op.bytesLess] at h
 | a::x,[],_,k=>by simp [Op.bytesLess] at k
 | a::x,b::y,h,k=>by
  simp only [Op.bytesLess,Bool.or_eq_false_iff,decide_eq_false_iff_not,Bool.and_eq_false_iff,beq_eq_false_iff_ne] at h k
  have e:a=b:=by
   have h1:b≤a:=UInt8.not_lt.1 h.1;have h2:a≤b:=UInt8.not_lt.1 k.1;exact UInt8.le_antisymm h2 h1
  subst e
  have h2:Op.bytesLess x y=false:=by rcases h.2 with h | h;exact absurd rfl h;exact h
  have k2:Op.bytesLess y x=false:=by rcases k.2 with k | k;exact absurd rfl k;exact k
  rw [yX x y h2 k2]
def iU (a b:ByteArray):Bool:=Op.bytesLess a.toList b.toList
theorem cG (a:ByteArray):iU a a=false:=pR _
theorem cK {a b c:ByteArray} (h:iU a b=true) (k:iU b c=true):iU a c=true:=yV _ _ _ h k
theorem mR {a b:ByteArray} (h:iU a b=false) (k:iU b a=false):a=b:=by
 have:=yX _ _ h k;rw [ByteArray.toList_eq,ByteArray.toList_eq] at this;exact bq this
open Go.RowKit
theorem cA {a b:ByteArray} (h:a=b):(a.toList==b.toList)=true:=by subst h;simp
theorem b9 {a b:ByteArray} (h:¬ a=b):(a.toList==b.toList)=false:=by
 rw [ByteArray.toList_eq,ByteArray.toList_eq]
 simp only [beq_eq_false_iff_ne,ne_eq]
 exact fun e=>h (bq e)
def sj (l:List dx) (v:ByteArray):Bool:=!fw l.length fun i=>!decide ((at' l i).s=v)
theorem uE {l:List dx} {v:ByteArray} {k:Nat} (hk:k<l.length) (h:(at' l k).s=v):sj l v=true:=by
 unfold sj;rw [bc hk (by simp [h])];rfl
theorem xR {l:List dx} {v:ByteArray} (h:∀ j,j<l.length→¬ (at' l j).s=v):sj l v=false:=by
 unfold sj;rw [aX fun j hj=>by simp [h j hj]];rfl
def iH (l:List dx) (v:ByteArray):Nat:=l.findIdx fun t=>kz t.s v
def hasB (l:List dx) (v:ByteArray):Bool:=decide (iH l v<l.length)&&decide ((at' l (iH l v)).s=v)
theorem xB {l:List dx} {v:ByteArray} {k:Nat} (hk:k<l.length) (h:kz (at' l k).s v=true) (hn:∀ j,j<k→kz (at' l j).s v=false):iH l v=k:=by
 have e:∀ j (hj:j<l.length),at' l j=l[j]:=fun j hj=>by simp [at',hj]
 unfold iH;rw [List.findIdx_eq hk]
 exact ⟨by rw [← e k hk];exact h,fun j hj=>by rw [← e j (by omega)];exact hn j hj⟩
theorem rR {l:List dx} {v:ByteArray} (h:∀ j,j<l.length→kz (at' l j).s v=false):iH l v=l.length:=by
 unfold iH;rw [List.findIdx_eq_length];intro t ht;obtain ⟨j,hj,rfl⟩:=List.getElem_of_mem ht;have:=h j hj
 simpa [at',hj] using this
theorem Cg {l:List dx} {v:ByteArray} {k:Nat} (hk:k<l.length) (h:kz (at' l k).s v=true) (hn:∀ j,j<k→kz (at' l j).s v=false):hasB l v=decide ((at' l k).s=v):=by
 unfold hasB;rw [xB hk h hn];simp [hk]
theorem EI {l:List dx} {v:ByteArray} (h:∀ j,j<l.length→kz (at' l j).s v=false):hasB l v=false:=by
 unfold hasB;rw [rR h];simp
theorem l7 (a b:ByteArray):kz a b=!iU a b:=rfl
theorem MB {l:List dx} (h:∀ i,i<l.length→gY l i=true):∀ i j,i<j→j<l.length→iU (at' l i).s (at' l j).s=true:=by
 have one:∀ i,i+1<l.length→iU (at' l i).s (at' l (i+1)).s=true:=fun i hi=>by
  have:=h (i+1) hi;unfold gY at this;rw [l7] at this
  simpa using this
 intro i j hij
 induction j with
 | zero=>omega
 | succ j ih =>
  intro hj
  by_cases e:i=j
  ·subst e;exact one i hj
  ·exact cK (ih (by omega) (by omega)) (one j hj)
theorem sM {l:List dx} {v:ByteArray} (h:∀ i,i<l.length→gY l i=true):hasB l v=sj l v:=by
 by_cases hm:∃ k,k<l.length∧(at' l k).s=v
 ·obtain ⟨k,hk,he⟩:=hm
  rw [uE hk he,Cg hk (by rw [he,l7,cG];rfl) fun j hj=>by rw [← he,l7,MB h j k hj hk];rfl]
  simp [he]
 ·rw [xR fun j hj he=>hm ⟨j,hj,he⟩]
  unfold hasB;rw [Bool.and_eq_false_iff]
  by_cases hp:iH l v<l.length
  ·right;exact decide_eq_false fun he=>hm ⟨_,hp,he⟩
  ·left;exact decide_eq_false hp
theorem uC {l:List dx} {m:Nat} (h:eO l m=true):∀ i,i<l.length→gY l i=true:=fun i hi=>by
 unfold eO at h;rw [Bool.and_eq_true] at h;have:=bH h.2 i hi;rw [Bool.and_eq_true] at this;exact this.2
theorem Jz {l:List dx} (h:dM l=true):∀ i,i<l.length→gY l i=true:=by
 unfold dM at h;rw [Bool.and_eq_true] at h;exact uC h.1
theorem Gm {l:List dx} (h:dH l=true):∀ i,i<l.length→gY l i=true:=by
 unfold dH at h;rw [Bool.and_eq_true] at h;exact uC h.1
def dE (ws:List ByteArray) (i:Nat):ByteArray:=ws.getD i ⟨#[]⟩
theorem bA {ws:List ByteArray} {i:Nat} (h:i<ws.length):ws[i]?=some (dE ws i):=by simp [dE,h]
def lI (s:ByteArray):Nat:=fF s s.size
def ja (ws:List ByteArray):Bool:=decide (ws.length=2)&&(eu (dE ws 0)&&(eu (dE ws 1)&&(decide (lI (dE ws 0)≤lI (dE ws 1))&&decide (lI (dE ws 1)≤10000))))
def kD (s:ByteArray):Bool:=eu s&&eB (lI s) 1 6
def gT (ps:List dx) (ws:List ByteArray) (i:Nat):Bool:=hasB ps (dE ws i)&&!(decide (0<i)&&decide (dE ws (i-1)=dE ws i))
def gL (ps:List dx) (ws:List ByteArray):Bool:=eB ws.length 2 8&&fw ws.length (gT ps ws)
def DW:ByteArray:=⟨#[111,112,101,110]⟩
def pJ:ByteArray:=⟨#[99,108,111,115,101,100]⟩
def iq (s:ByteArray):Bool:=decide (s=DW)||decide (s=pJ)
def gU (ks ps:List dx) (what:Int) (s:ByteArray):Bool :=
 if what=1 then hasB ks s else if what=2 then ja (dn s) else if what=3 then kD s else if what=4 then gL ps (dn s) else if what=5 then iq s else false
def eF (ks ps:List dx):Bool:=dM ks&&dH ps
def gy (ks ps:List dx) (c:dP):Bool:=dD c.f&&(eB c.num 1 1000000&&gU ks ps c.what c.v)
theorem rf:∀ (r cur:List UInt8) (x:List UInt8),x∈iw cur r→x.length≤cur.length+r.length
 | [],cur,x,h=>by simp [iw] at h;subst h;simp
 | c::r,cur,x,h=>by
  rw [iw] at h
  split at h
  ·rcases List.mem_cons.1 h with rfl | h
   ·simp
   ·have:=rf r [] x h;simp at this ⊢;omega
  ·have:=rf r (cur++[c]) x h;simp at this ⊢;omega
theorem AO (s:ByteArray):∀ x∈dn s,x.size≤s.size:=fun x hx=>by
 unfold dn at hx;obtain ⟨l,hl,rfl⟩:=List.mem_map.1 hx;have:=rf _ _ _ hl;rw [aK,List.length_nil,Nat.zero_add] at this;exact this
theorem kY {s:ByteArray} {i:Nat} (h:i<(dn s).length):(dE (dn s) i).size≤s.size:=AO s _ (List.mem_of_getElem? (bA h))
open Go.RowKit
theorem cg (s:ByteArray) (w:World) (hs:s.size≤maxLen) :
  Calls Tryz.prog 120 #[.string s] w fun e w'=>e=.returned (.int .i64 (bif eu s then (fF s s.size:Int) else -1))∧w'=w:=by
 unfold maxLen at hs
 cases hin:eB s.size 1 7
 ·have e:eu s=false:=by simp [eu,hin]
  have HI:Hid (eB s.size 1 7=false):=hin;rw [e];clear e hin
  go_enter Tryz.func120,Tryz.ntmps120
  go_wp2_with fail;refine (bi _ _ _ _).mono ?_;rw [HI.out];rintro e w' ⟨rfl,rfl⟩;go_wp2;go_ret;exact ⟨rfl,rfl⟩
 have HI:Hid (eB s.size 1 7=true):=hin
 have hz:0<s.size:=by simp [eB] at hin;omega
 have hsz7:s.size≤7:=by simp [eB] at hin;omega
 cases hl:mJ s
 ·have e:eu s=ik s:=by simp [eu,hin,hl]
  rw [e];clear e hin
  by_cases h3:(1:Int)<s.size
  focus
   have h4:(((s[0].toNat:Nat):Int)==48)=false:=by
    rw [wu]
    have:1<s.size:=by omega
    simp only [mJ,this,decide_true,Bool.true_and,cm hz] at hl
    exact hl
   clear hl
  rotate_left
  focus
   clear hl
  rotate_left
  all_goals
   go_enter Tryz.func120,Tryz.ntmps120
   go_wp2_with fail;refine (bi _ _ _ _).mono ?_;rw [HI.out];rintro e w' ⟨rfl,rfl⟩;go_wp2
   go_loop [3,4] (fun n i=>∃ k:Nat,k≤s.size∧i=.int .i64 k∧n=.int .i64 (fF s k:Int)∧Hid (∀ j (hj:j<s.size),j<k→oO (s[j].toNat)=true)) (fun _ i=>s.size-(intOf i).toNat)
   case atStart=>exact ⟨0,Nat.zero_le _,rfl,rfl,fun j _ hj=>absurd hj (Nat.not_lt_zero _)⟩
   case round =>
    obtain ⟨k,hk,rfl,rfl,HA⟩:=hrel
    by_cases hlt:k<s.size
    ·have hn7:fF s k<10000000:=vG k hsz7 hk HA.out
     have HS:Hid (fF s (k+1)=fF s k*10+(s[k].toNat-48)):=by
      show fF s (k+1)=_
      rw [fF,cm hlt]
     have hc8:s[k].toNat<256:=s[k].toNat_lt;generalize fF s k=nk at hn7 HS
     by_cases h5:((s[k].toNat:Nat):Int)<48
     ·go_wp2
      go_ret
      have e:ik s=false:=cD hlt (by simp [oO];omega)
      rw [e];exact ⟨rfl,rfl⟩
     ·by_cases h6:(57:Int)<((s[k].toNat:Nat):Int)
      ·go_wp2
       go_ret
       have e:ik s=false:=cD hlt (by simp [oO];omega)
       rw [e];exact ⟨rfl,rfl⟩
      ·go_wp2
       go_round
       case rel=>exact ⟨k+1,by omega,by go_num,by rw [HS.out];congr 1;omega,fun j hj hjk=>if h:j=k then by subst h;rw [oN];omega else HA.out j hj (by omega)⟩
       case measure=>simp [intOf];omega
    ·have HT:Hid (ik s=true):=sS fun j hj=>HA.out j hj (by omega)
     have HK:Hid (k=s.size):=by show k=s.size;omega
     go_wp2;go_ret;rw [HT.out,HK.out];exact ⟨rfl,rfl⟩
 ·have e:eu s=false:=by simp [eu,hl]
  have h3:(1:Int)<s.size:=by
   have:1<s.size:=by simp [mJ] at hl;exact hl.1
   omega
  have h4:(((s[0].toNat:Nat):Int)==48)=true:=by
   rw [wu]
   simp only [mJ,Bool.and_eq_true,cm hz] at hl
   exact hl.2
  rw [e];clear e hl hin
  go_enter Tryz.func120,Tryz.ntmps120
  go_wp2_with fail;refine (bi _ _ _ _).mono ?_;rw [HI.out];rintro e w' ⟨rfl,rfl⟩;go_wp2;go_ret;exact ⟨rfl,rfl⟩
end Go.Proofs.YtcmgddnckohdaaaGreatDoor
