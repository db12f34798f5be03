import Derived.Test.YtolokangldmodaaGreatDoorLater
import Derived.Test.YtolokangldmodaaGreatDoorShelf2
set_option maxHeartbeats 400000
open Go.Proofs.Tryz
namespace Go.Proofs.YtolokangldmodaaGreatDoor
open Go.RowKit
attribute [local go_sem] Later.cell Later.frozen
def yu(s:ByteArray):Bool:=s.data.toList.any λc=>c==10
theorem Qi{s:ByteArray}{k:Nat}(hk:k<s.size)(h:s[k]=10):yu s=true:=by
 unfold yu;rw[List.any_eq_true]
 exact⟨s[k],by simp[ByteArray.getElem_eq_getElem_data],by simp[h]⟩
theorem Nf{s:ByteArray}(h:∀k (hk:k<s.size),s[k]≠10):yu s=false:=by
 unfold yu;rw[List.any_eq_false];intro c hc;obtain⟨k,hk,rfl⟩:=List.getElem_of_mem hc
 have:=h k (by simpa using hk)
 simpa[ByteArray.getElem_eq_getElem_data] using this
theorem RY(c:UInt8):(((c.toNat:Nat):Int)==10)=(c==10):=by
 rw[Bool.eq_iff_iff]
 simp only[beq_iff_eq]
 constructor
 .intro h
  apply UInt8.toNat_inj.1
  have:c.toNat=10:=by omega
  simpa using this
 .rintro rfl;rfl
theorem FK(s:ByteArray)(w:World)(hs:s.size<=maxLen) :
  Rs 75 #[.string s] w (.bool (yu s)):=by
 unfold maxLen at hs
 go_enter func75,ntmps75
 go_wp2
 go_loop [3] (λi=>∃k:Nat,k<=s.size/\i=.int .i64 k/\Hid (∀j (hj:j<s.size),j<k->s[j]≠10)) (λi=>s.size-(intOf i).toNat)
 case atStart=>exact⟨0,Nat.zero_le _,rfl,λj _ hj=>absurd hj (Nat.not_lt_zero _)⟩
 case round =>
  obtain⟨k,hk,rfl,HA⟩:=hrel
  by_cases ab:k<s.size
  .by_cases hc:s[k]=10
   .have h1:(((s[k].toNat:Nat):Int)==10)=true:=by rw[RY];simpa using hc
    have HC:Hid (s[k]=10):=hc;clear hc;go_wp2;go_ret;exact⟨aw (Qi ab HC.out).symm,rfl⟩
   .have h1:(((s[k].toNat:Nat):Int)==10)=false:=by rw[RY];simpa using hc
    have HC:Hid (¬s[k]=10):=hc;clear hc;go_wp2
    go_round
    case rel=>exact⟨k+1,by omega,by go_num,λj hj hjk=>if e:j=k then by subst e;exact HC.out else HA.out j hj (by omega)⟩
    case measure=>simp[intOf];omega
  .go_wp2
   go_ret
   exact⟨aw (Nf λj hj=>HA.out j hj (by omega)).symm,rfl⟩
theorem QM(l:List UInt8):0<=Lib.indexByte l 10↔(l.any λc=>c==10)=true:=by
 induction l with
 |nil=>simp[Lib.indexByte]
 |cons b l ih =>
  have hg:=Lib.indexByte_ge l 10;rw[Lib.indexByte,List.any_cons]
  by_cases h:b=10
  .simp [h]
  .have hb:(b==10)=false:=by simpa using h
   rw[hb,Bool.false_or,<-ih]
   simp only[Bool.false_eq_true,if_false]
   split
   .rename_i h2
    have:Lib.indexByte l 10=-1:=by simpa using h2
    omega
   .rename_i h2
    have:Lib.indexByte l 10≠-1:=by simpa using h2
    omega
theorem QL(s:ByteArray):decide (0<=Lib.indexByte s.data.toList 10)=yu s:=by
 rw[Bool.eq_iff_iff,decide_eq_true_iff];exact QM _
def rz(s:ByteArray):Bool:=!s.toList.isEmpty&&!yu s
theorem xR(s:ByteArray)(w:World) :
  Rs 184 #[.string s] w (.bool (rz s)):=by
 cases h1:s.toList.isEmpty
 .have e:rz s=!yu s:=by simp[rz,h1]
  rw[e];clear e
  go_enter func184,ntmps184
  go_wp2_with fail;refine(strings_Contains_one s 10 _).mono ?_;rw[QL];rintro e w'⟨rfl,rfl⟩;go_wp2;go_ret;exact⟨rfl,rfl⟩
 .have e:rz s=false:=by simp[rz,h1]
  rw[e];clear e
  go_enter func184,ntmps184
  go_wp2;go_ret;exact⟨rfl,rfl⟩
end Go.Proofs.YtolokangldmodaaGreatDoor
