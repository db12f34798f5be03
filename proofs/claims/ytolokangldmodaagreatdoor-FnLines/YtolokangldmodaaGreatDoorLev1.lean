import Derived.Test.YtolokangldmodaaGreatDoorApp
import Derived.Test.YtolokangldmodaaGreatDoorLater
import Derived.Test.YtolokangldmodaaGreatDoorWay0
set_option maxRecDepth 100000
set_option maxHeartbeats 6400000
set_option linter.unusedSimpArgs false
set_option linter.unusedVariables false
open Go.Value renaming int->J,slice->j
open Go.Obj renaming cells->U
open Option renaming some->R
open Go.IntKind renaming i64->I
open Go.World renaming news_of_block->AK
open Go Go.Proofs.YtolokangldmodaaGreatDoor
variable {w:World} {base size n B:Nat} {e:TypeId} {v:Value} {xs:List Value} {l:List Int} {lo hi:Int}
open Go.Proofs.Tryz
namespace Go.Proofs.YtolokangldmodaaGreatDoor.Lv
open Go.RowKit
theorem dx{P:Prop}(h:P):Hid P:=h
theorem aS(w:World)(o:Obj):(w.alloc o).heap[w.heap.size]?=R o:=by show(w.heap.push o)[w.heap.size]?=R o;simp
def lU(w:World)(base:Nat)(v:Value)(l:List Int):Prop:=w.ownsRow base 3 1 v l.length (l.map (J I))
def IAt(w:World)(v:Value)(l:List Int):Prop:=∃a cap,v=j a l.length cap/\l.length<=cap/\cap<=maxLen/\∀i t,l[i]?=R t->∃g,a=R ⟨g,0,none⟩/\w.cell? ⟨g,i,none⟩=R (J I t)
theorem wW:(prog.info? 3).map (λi=>(i.zero,i.size,i.bytes))=R (R (J I 0),1,8):=by kernel_rfl
theorem dY(h:w.ownsRow base e size v n xs):∀k,v.ownBlock=R k->base<=k:=by
 intro k hk
 rcases h.2 with⟨rfl,_⟩|⟨g,cap,cur,rfl,hg,_⟩
 .cases hk
 .cases hk;exact hg
theorem cV(h:w.ownsRow base e size v n xs):∀k,v.ownBlock=R k->k<w.heap.size:=by
 intro k hk
 rcases h.2 with⟨rfl,_⟩|⟨g,cap,cur,rfl,hg,hc,_⟩
 .cases hk
 .cases hk;exact(Array.getElem?_eq_some_iff.1 hc).1
theorem dH(h:w.ownsRow base e size v n xs):∃a c,v=j a n c:=by
 rcases h.2 with⟨rfl,h0⟩|⟨g,cap,cur,rfl,_⟩
 .exact ⟨none,0,by rw[h0]⟩
 .exact ⟨_,cap,rfl⟩
theorem iC{w':World}(h:w.ownsRow base e size v n xs)(hb:Bw w w'):w'.ownsRow base e size v n xs:=by
 obtain⟨h1,h2⟩:=h;refine⟨h1,?_⟩
 rcases h2 with h2|⟨g,cap,cur,hv,hg,hh,rest⟩
 .exact .inl h2
 .exact .inr ⟨g,cap,cur,hv,hg,(hb.block g (Array.getElem?_eq_some_iff.1 hh).1).trans hh,rest⟩
theorem Aq{W W':World}{row:Option Nat}(h:W.ownsRow base e size v n xs)(hg:W.grownBy W' row)(hr:∀k,v.ownBlock=R k->R k≠row):W'.ownsRow base e size v n xs:=by
 refine⟨h.1,?_⟩
 rcases h.2 with h2|⟨g,cap,cur,hv,hb,hc,rest⟩
 .exact .inl h2
 .refine .inr ⟨g,cap,cur,hv,hb,?_,rest⟩
  exact(hg.block g (Array.getElem?_eq_some_iff.1 hc).1 (hr g (by rw[hv];rfl))).trans hc
theorem lU.at(h:lU w B v l):IAt w v l:=by
 obtain⟨h1,h2⟩:=h
 rcases h2 with⟨rfl,h0⟩|⟨g,cap,cur,rfl,hB,hb,hn,hc,hs,ht⟩
 .refine ⟨none,0,by rw[h0],by omega,Nat.zero_le _,λi t hi=>?_⟩
  have:=(List.getElem?_eq_some_iff.1 hi).1
  omega
 .refine ⟨_,cap,rfl,hn,hc,λi t hi=>⟨g,rfl,?_⟩⟩
  have hil:=(List.getElem?_eq_some_iff.1 hi).1
  have hx:cur.toList[i]?=R (J I t):=by
   have e1:(cur.toList.take (l.length*1))[i]?=cur.toList[i]?:=by rw[List.getElem?_take,if_pos (by omega)]
   rw[<-e1,ht,List.getElem?_map,hi]
   rfl
  simp only[World.cell?,hb,Option.isSome_none,Bool.false_eq_true,if_false]
  simpa using hx
theorem lU.snoc{x:Int}(h:w.ownsRow B 3 1 v (l.length+1) (l.map (J I)++[J I x])):lU w B v (l++[x]):=by
 unfold lU;rw[List.length_append,List.map_append];exact h
open Go.RowKit
theorem zH{n l:Int}(h:¬(1<=n/\n<=40/\1<=l/\l<=6)):gT n l=[]:=by
 unfold gT;rw[decide_eq_false h];rfl
def lvl(N:Nat)(l:Int)(k:Nat):Int:=jJ l (jJ (k:Int) ((N:Int)-1-(k:Int)))
theorem zG{N:Nat}{l:Int}(h:1<=(N:Int)/\(N:Int)<=40/\1<=l/\l<=6):gT N l=(List.range N).map (lvl N l):=by
 unfold gT;rw[decide_eq_true h];rfl
def uW(N:Nat)(l:Int)(k:Nat):List Int:=(List.range k).map (lvl N l)
theorem wQ(N:Nat)(l:Int)(k:Nat):(uW N l k).length=k:=by simp[uW]
theorem FD(N:Nat)(l:Int)(k:Nat):uW N l (k+1)=uW N l k++[lvl N l k]:=by
 unfold uW;rw[List.range_succ,List.map_append];rfl
theorem zN{w1 w2:World}{r:Option Nat}(h:Bw w w1)(hg:w1.grownBy w2 r)(hr:∀k,r=R k->w.heap.size<=k):Bw w w2:=h.grown hg h.size hr
theorem BJ(n l:Int)(w:World) :
 Calls prog 167 #[J I n,J I l] w λe w'=>∃v,e=.returned v/\lU w' w.heap.size v (gT n l)/\Bw w w':=by
 obtain⟨i0,an,ak,ai,af⟩:=info_parts wW
 by_cases ae:1<=n/\n<=40/\1<=l/\l<=6
 .obtain ⟨N,rfl⟩:∃N:Nat,n=N:=⟨n.toNat,by omega⟩
  have HE:Hid (gT N l=uW N l N):=zG ae;obtain⟨h1,h2,h3,h4⟩:=ae
  go_enter func167,ntmps167
  go_wp2
  go_loopw [5,6,22] (λv _ i wr=>∃k:Nat,k<=N/\i=J I k/\(∃a c,v=j a k c)/\Hid (lU wr w.heap.size v (uW N l k)/\Bw w wr)) (λ_ _ i _=>N-(intOf i).toNat)
  case atStart=>exact⟨0,Nat.zero_le _,rfl,⟨_,_,rfl⟩,⟨rfl,.inl ⟨rfl,rfl⟩⟩,Below.refl _ _⟩
  case round =>
   obtain⟨k,hk,rfl,⟨a,c,rfl⟩,HI⟩:=hrel
   by_cases aT:k<N
   .have hid:=HI.out.1
    unfold lU at hid;rw[wQ] at hid;have aL:=HI.out.2.size
    rcases(show((k:Int)<l/\(N:Int)-1-(k:Int)<(k:Int))\/((k:Int)<l/\¬(N:Int)-1-(k:Int)<(k:Int))\/(¬(k:Int)<l/\(N:Int)-1-(k:Int)<l)\/(¬(k:Int)<l/\¬(N:Int)-1-(k:Int)<l) by omega) with⟨c1,c2⟩|⟨c1,c2⟩|⟨c1,c2⟩|⟨c1,c2⟩
    focus
     have HX:Hid (lvl N l k=(N:Int)-1-(k:Int)):=by show _=_;unfold lvl jJ;split<;>(try split)<;>omega
     go_wp2_with (at_builtin;(refine az _ rfl _ _ 95 rfl w.heap.size 3 i0 _ 1 8 underlying95 an ak ai af rfl (by decide) _ k _ rfl (iC hid (aG)) _ 1 1 [J I ((N:Int)-1-(k:Int))] rfl (.inr ⟨_,rfl,AK (aS wr (U #[J I ((N:Int)-1-(k:Int))] 3))⟩) rfl (λu hu=>by simp at hu;subst hu;rfl) (by unfold maxLen;omega) (by omega) (by simp;omega) ?_);intro vq wx ad ab ao)
    rotate_left
    focus
     have HX:Hid (lvl N l k=(k:Int)):=by show _=_;unfold lvl jJ;split<;>(try split)<;>omega
     go_wp2_with (at_builtin;(refine az _ rfl _ _ 95 rfl w.heap.size 3 i0 _ 1 8 underlying95 an ak ai af rfl (by decide) _ k _ rfl (iC hid (aG)) _ 1 1 [J I ((k:Int))] rfl (.inr ⟨_,rfl,AK (aS wr (U #[J I ((k:Int))] 3))⟩) rfl (λu hu=>by simp at hu;subst hu;rfl) (by unfold maxLen;omega) (by omega) (by simp;omega) ?_);intro vq wx ad ab ao)
    rotate_left
    focus
     have HX:Hid (lvl N l k=(N:Int)-1-(k:Int)):=by show _=_;unfold lvl jJ;split<;>(try split)<;>omega
     go_wp2_with (at_builtin;(refine az _ rfl _ _ 95 rfl w.heap.size 3 i0 _ 1 8 underlying95 an ak ai af rfl (by decide) _ k _ rfl (iC hid (aG)) _ 1 1 [J I ((N:Int)-1-(k:Int))] rfl (.inr ⟨_,rfl,AK (aS wr (U #[J I ((N:Int)-1-(k:Int))] 3))⟩) rfl (λu hu=>by simp at hu;subst hu;rfl) (by unfold maxLen;omega) (by omega) (by simp;omega) ?_);intro vq wx ad ab ao)
    rotate_left
    focus
     have HX:Hid (lvl N l k=l):=by show _=_;unfold lvl jJ;split<;>(try split)<;>omega
     go_wp2_with (at_builtin;(refine az _ rfl _ _ 95 rfl w.heap.size 3 i0 _ 1 8 underlying95 an ak ai af rfl (by decide) _ k _ rfl (iC hid (aG)) _ 1 1 [J I (l)] rfl (.inr ⟨_,rfl,AK (aS wr (U #[J I (l)] 3))⟩) rfl (λu hu=>by simp at hu;subst hu;rfl) (by unfold maxLen;omega) (by omega) (by simp;omega) ?_);intro vq wx ad ab ao)
    rotate_left
    all_goals
     have HN:Hid (lU wx w.heap.size vq (uW N l (k+1))/\Bw w wx):=by
      refine⟨?_,zN (HI.out.2.trans ((aG).mono HI.out.2.size)) ab (λq hq=>dY hid q hq)⟩;rw[FD,HX.out]
      exact lU.snoc (by rw[wQ];exact ad)
     obtain⟨qa,qc,rfl⟩:=dH ad
     exact⟨⟨k+1,by omega,by go_num,⟨_,_,rfl⟩,HN⟩,by simp[intOf];omega⟩
   .have HF:Hid (k=N):=by show k=N;omega
    go_wp2;go_ret
    exact⟨j a k c,rfl,by rw[HE.out];have h:=HI.out.1;rw[show uW N l k=uW N l N by rw[HF.out]] at h;exact h,HI.out.2⟩
 .have HE:Hid (gT n l=[]):=zH ae
  rcases(show n<1\/(¬n<1/\40<n)\/(¬n<1/\¬40<n/\l<1)\/(¬n<1/\¬40<n/\¬l<1/\6<l) by omega) with h1|⟨h1,h2⟩|⟨h1,h2,h3⟩|⟨h1,h2,h3,h4⟩
  focus
   go_enter func167,ntmps167
  rotate_left
  focus
   go_enter func167,ntmps167
  rotate_left
  focus
   go_enter func167,ntmps167
  rotate_left
  focus
   go_enter func167,ntmps167
  rotate_left
  all_goals
   go_wp2;go_ret
   exact⟨_,rfl,by rw[HE.out];exact⟨rfl,.inl ⟨rfl,rfl⟩⟩,Below.refl _ _⟩
theorem yH(a b:Int)(w:World) :
 Rs 58 #[J I a,J I b] w (J I (jJ a b)):=by
 by_cases h:a<b
 .have e:jJ a b=a:=by unfold jJ;rw[if_pos h]
  rw[e];clear e
  go_enter func58,ntmps58
  go_wp2;go_ret;exact⟨rfl,rfl⟩
 .have e:jJ a b=b:=by unfold jJ;rw[if_neg h]
  rw[e];clear e
  go_enter func58,ntmps58
  go_wp2;go_ret;exact⟨rfl,rfl⟩
theorem Ih{n:Int}(h:lo<=n/\n<=hi):fE n lo hi=true:=by simp[fE,h.1,h.2]
theorem KV{n:Int}(h:¬(lo<=n/\n<=hi)):fE n lo hi=false:=by simp[fE];omega
theorem Bg(n l:Int)(w:World) :
 Calls prog 57 #[J I n,J I l] w λe w'=>∃v,e=.returned v/\lU w' w.heap.size v (gT n l)/\Bw w w':=by
 obtain⟨i0,an,ak,ai,af⟩:=info_parts wW;have I0:Hid (lU (w.alloc (U #[] 3)) w.heap.size (j (R ⟨w.heap.size,0,none⟩) 0 0) []):=⟨rfl,.inr ⟨w.heap.size,0,#[],rfl,Nat.le_refl _,aS w _,Nat.le_refl _,Nat.zero_le _,rfl,rfl⟩⟩;have B0:Hid (Bw w (w.alloc (U #[] 3))):=(aG)
 have hs0:w.heap.size<(w.alloc (U #[] 3)).heap.size:=by simp
 by_cases ae:1<=n/\n<=40/\1<=l/\l<=6
 .obtain ⟨N,rfl⟩:∃N:Nat,n=N:=⟨n.toNat,by omega⟩
  have HE:Hid (gT N l=uW N l N):=zG ae;obtain⟨h1,h2,h3,h4⟩:=ae
  have IU:Hid (∀wx:World,Rs 74 #[J I (N:Int),J I 1,J I 40] wx (.bool true)):=λwx=>by
   have h:=bh (N:Int) 1 40 wx;rw[Ih ⟨h1,h2⟩] at h;exact h
  have au:Hid (∀wx:World,Rs 74 #[J I l,J I 1,J I 6] wx (.bool true)):=λwx=>by
   have h:=bh l 1 6 wx;rw[Ih ⟨h3,h4⟩] at h;exact h
  go_enter func57,ntmps57
  go_wp2_with fail;generalize(w.alloc (U #[] 3))=w1 at *;refine(IU.out w1).mono ?_;rintro e w2⟨rfl,rfl⟩;go_wp2_with fail;refine(au.out _).mono ?_;rintro e w3⟨rfl,rfl⟩;go_wp2
  go_loopw [5,6] (λv i wr=>∃k:Nat,k<=N/\i=J I k/\(∃a c,v=j a k c)/\Hid (lU wr w.heap.size v (uW N l k)/\Bw w wr)) (λ_ i _=>N-(intOf i).toNat)
  case atStart=>exact⟨0,Nat.zero_le _,rfl,⟨_,_,rfl⟩,I0.out,B0.out⟩
  case round =>
   obtain⟨k,hk,rfl,⟨a,c,rfl⟩,HI⟩:=hrel
   by_cases aT:k<N
   .have hid:=HI.out.1
    unfold lU at hid;rw[wQ] at hid;have aL:=HI.out.2.size;go_wp2_with fail;refine(yH _ _ _).mono ?_;rintro e w2⟨rfl,ay⟩;rw[ay];clear ay w2;go_wp2_with fail;refine(yH _ _ _).mono ?_;rintro e w3⟨rfl,ax⟩;rw[ax];clear ax w3;obtain⟨x,hx⟩:∃x,x=lvl N l k:=⟨_,rfl⟩;have HX:Hid (lvl N l k=x):=hx.symm;have av:jJ l (jJ (k:Int) ((N:Int)-1-(k:Int)))=x:=hx.symm;rw[av];clear hx av
    go_wp2_with (at_builtin;(refine az _ rfl _ _ 95 rfl w.heap.size 3 i0 _ 1 8 underlying95 an ak ai af rfl (by decide) _ k _ rfl (iC hid (aG)) _ 1 1 [J I (x)] rfl (.inr ⟨_,rfl,AK (aS wr (U #[J I (x)] 3))⟩) rfl (λu hu=>by simp at hu;subst hu;rfl) (by unfold maxLen;omega) (by omega) (by simp;omega) ?_);intro vq wx ad ab ao)
    have HN:Hid (lU wx w.heap.size vq (uW N l (k+1))/\Bw w wx):=by
     refine⟨?_,zN (HI.out.2.trans ((aG).mono HI.out.2.size)) ab (λq hq=>dY hid q hq)⟩;rw[FD,HX.out]
     exact lU.snoc (by rw[wQ];exact ad)
    obtain⟨qa,qc,rfl⟩:=dH ad
    exact⟨⟨k+1,by omega,by go_num,⟨_,_,rfl⟩,HN⟩,by simp[intOf];omega⟩
   .have HF:Hid (k=N):=by show k=N;omega
    go_wp2;go_ret
    exact⟨j a k c,rfl,by rw[HE.out];have h:=HI.out.1;rw[show uW N l k=uW N l N by rw[HF.out]] at h;exact h,HI.out.2⟩
 .have HE:Hid (gT n l=[]):=zH ae
  by_cases hn:1<=n/\n<=40
  .have hl:¬(1<=l/\l<=6):=by omega
   have IU:Hid (∀wx:World,Rs 74 #[J I n,J I 1,J I 40] wx (.bool true)):=λwx=>by
    have h:=bh n 1 40 wx;rw[Ih hn] at h;exact h
   have au:Hid (∀wx:World,Rs 74 #[J I l,J I 1,J I 6] wx (.bool false)):=λwx=>by
    have h:=bh l 1 6 wx;rw[KV hl] at h;exact h
   go_enter func57,ntmps57
   go_wp2_with fail;generalize(w.alloc (U #[] 3))=w1 at *;refine(IU.out w1).mono ?_;rintro e w2⟨rfl,rfl⟩;go_wp2_with fail;refine(au.out _).mono ?_;rintro e w3⟨rfl,rfl⟩;go_wp2;go_ret
   exact⟨_,rfl,by rw[HE.out];exact I0.out,B0.out⟩
  .have IU:Hid (∀wx:World,Rs 74 #[J I n,J I 1,J I 40] wx (.bool false)):=λwx=>by
    have h:=bh n 1 40 wx;rw[KV hn] at h;exact h
   go_enter func57,ntmps57
   go_wp2_with fail;generalize(w.alloc (U #[] 3))=w1 at *;refine(IU.out w1).mono ?_;rintro e w2⟨rfl,rfl⟩;go_wp2;go_ret
   exact⟨_,rfl,by rw[HE.out];exact I0.out,B0.out⟩
end Go.Proofs.YtolokangldmodaaGreatDoor.Lv
