import Derived.Test.YtolokangldmodaaGreatDoorBxr
import Derived.Test.YtolokangldmodaaGreatDoorCp3
import Derived.Lib.Overlaps
set_option maxRecDepth 100000
set_option maxHeartbeats 6400000
set_option linter.unusedSimpArgs false
set_option linter.unusedVariables false
open Go.Value renaming int->I,string->o,slice->AD
open Go.Obj renaming cells->AE
open Option renaming none->U,some->R
open Go.IntKind renaming i64->J
open List renaming length_take->AK,size_toArray->AL,not_mem_nil->AM,take_append_of_le_length->AN,drop_append_of_le_length->AO,length_append->AS,mem_cons->AF,drop_of_length_le->AH,take_append_drop->AI,toList_toArray->AW,length_drop->An,take_length->At,drop_length->Aw
open Go.Proofs.Tryz
namespace Go.Proofs.YtolokangldmodaaGreatDoor
open Go.RowKit
theorem cC(a b:List dE):dw (a++b)=dw a++dw b:=by simp[dw]
theorem vQ(l:List dE)(i:Nat)(hi:i<=l.length):(dw l).take (i*3)=dw (l.take i):=by
 have e:dw l=dw (l.take i)++dw (l.drop i):=by rw[<-cC,AI]
 rw[e,AN (by rw[aI,AK];omega),List.take_of_length_le (by rw[aI,AK];omega)]
theorem pY(l:List dE)(i:Nat)(hi:i<=l.length):(dw l).drop (i*3)=dw (l.drop i):=by
 have e:dw l=dw (l.take i)++dw (l.drop i):=by rw[<-cC,AI]
 rw[e,AO (by rw[aI,AK];omega),AH (by rw[aI,AK];omega),List.nil_append]
theorem MU{C X tc:List Value}{i n:Nat}(hX:X.length=(n-i)*3)(ht:tc.length=3)(hi:i<=n)(hC:(n+1)*3<=C.length) :
  (splice (splice C ((i+1)*3) X) (i*3) tc).take ((n+1)*3)=C.take (i*3)++(tc++X)/\(splice (splice C ((i+1)*3) X) (i*3) tc).length=C.length:=by
 have e1:(splice C ((i+1)*3) X).take (i*3)=C.take (i*3):=by
  unfold splice
  rw[AN (by rw[AK];omega),List.take_take]
  congr 1
  omega
 have e2:(splice C ((i+1)*3) X).drop (i*3+tc.length)=X++C.drop ((i+1)*3+X.length):=by
  unfold splice
  rw[ht,show i*3+3=(i+1)*3 by omega,AO (by rw[AK];omega),AH (by rw[AK];omega),List.nil_append]
 have e3:splice (splice C ((i+1)*3) X) (i*3) tc=(C.take (i*3)++(tc++X))++C.drop ((i+1)*3+X.length):=by
  conv=>lhs;unfold splice
  have b4:=e1;have b3:=e2;unfold splice at b4 b3;rw[b4,b3]
  simp
 have hlen:(C.take (i*3)++(tc++X)).length=(n+1)*3:=by
  rw[AS,AS,AK,ht,hX]
  omega
 constructor
 .rw [e3,<-hlen,List.take_left]
 .rw [e3,AS,hlen,An,hX]
  omega
theorem SG(w:World):(Go.sizeOf 79).run prog w=.ok 3 w:=by kernel_rfl
theorem PV(w:World):(Go.sizeOf 101).run prog w=.ok 3 w:=by kernel_rfl
theorem mf:(∀(B g cap vb i:Nat) (l:List dE) (t:dE) (cur:Array Value) (w:World) (hi:i<l.length) (hr:l.length+1<=cap) (ae:cap<=maxLen) (hl:l.length<=1000) (af:B<=g) (hg:w.heap[g]?=R (AE cur 79 (0,0))) (ai:cur.size=cap*3) (ak:cur.toList.take (l.length*3)=dw l) (hv:w.heap[vb]?=R (AE #[o t.s,I J t.x,I J t.y] 79 (0,0))) (NH:vb≠g),Calls prog 141 #[AD (R ⟨g,0,U⟩) l.length cap,I J i,AD (R ⟨vb,0,U⟩) 1 1] w λe w'=>∃u,e=.returned u/\w'.ownsRow B 79 3 u (l.length+1) (dw (gI l i t))/\Below B w w')/\(∀(B g cap vb i:Nat) (l:List dE) (t:dE) (cur:Array Value) (w:World) (hi:i<l.length) (hr:l.length+1<=cap) (ae:cap<=maxLen) (hl:l.length<=1000) (af:B<=g) (hg:w.heap[g]?=R (AE cur 101 (0,0))) (ai:cur.size=cap*3) (ak:cur.toList.take (l.length*3)=dw l) (hv:w.heap[vb]?=R (AE #[o t.s,I J t.x,I J t.y] 101 (0,0))) (NH:vb≠g),Calls prog 145 #[AD (R ⟨g,0,U⟩) l.length cap,I J i,AD (R ⟨vb,0,U⟩) 1 1] w λe w'=>∃u,e=.returned u/\w'.ownsRow B 101 3 u (l.length+1) (dw (gI l i t))/\Below B w w'):=by
 constructor
 focus(intro B g cap vb i l t cur w hi hr ae hl af hg ai ak hv NH;have IA:=True.intro)
 rotate_left
 focus intro B g cap vb i l t cur w hi hr ae hl af hg ai ak hv NH
 rotate_left
 all_goals
  first
  |have _:=IA
   have b5:∀lb cb,(callFunc 175 #[AD (R ⟨vb,0,U⟩) 1 1,AD (R ⟨g,(i+1)*3,U⟩) lb cb]).run prog w=.ok (.value (.bool false)) w:=λlb cb=>by
    rw[run_callFunc_extern func175 (by kernel_rfl) (by kernel_rfl) (by kernel_rfl) (e:=Extern.SlicesOverlaps.overlaps #[35,35] #[4]) (by kernel_rfl),
     Lib.run_overlaps_apart w 35 4 79 underlying35 3 SG ⟨vb,0,U⟩ ⟨g,(i+1)*3,U⟩ 1 1 lb cb NH 79 79 3 (cap*3) (by simp[World.shape?,hv]) (by simp[World.shape?,hg,ai]) (by omega) (by simp[World.frozen?,hv]) (by simp[World.frozen?,hv])]
    rfl
  |have b5:∀lb cb,(callFunc 179 #[AD (R ⟨vb,0,U⟩) 1 1,AD (R ⟨g,(i+1)*3,U⟩) lb cb]).run prog w=.ok (.value (.bool false)) w:=λlb cb=>by
    rw[run_callFunc_extern func179 (by kernel_rfl) (by kernel_rfl) (by kernel_rfl) (e:=Extern.SlicesOverlaps.overlaps #[36,36] #[4]) (by kernel_rfl),
     Lib.run_overlaps_apart w 36 4 101 underlying36 3 PV ⟨vb,0,U⟩ ⟨g,(i+1)*3,U⟩ 1 1 lb cb NH 101 101 3 (cap*3) (by simp[World.shape?,hv]) (by simp[World.shape?,hg,ai]) (by omega) (by simp[World.frozen?,hv]) (by simp[World.frozen?,hv])]
    rfl
  unfold maxLen at ae
  first|(have _:=IA;go_enter func141,ntmps141)|(go_enter func145,ntmps145)
  go_wp2_with fail
  have hX:(dw (l.drop i)).length=(l.length-i)*3:=by rw[aI,An]
  have an:cur.toList.length=cap*3:=by rw[Array.length_toList];exact ai
  have hdr:∀j v,(dw (l.drop i))[j]?=R v->cur.toList[i*3+j]?=R v:=λj v hj=>by
   rw[<-pY l i (by omega),List.getElem?_drop,<-ak,List.getElem?_take] at hj
   split at hj
   .exact hj
   .cases hj
  have hw3:IntKind.i64.wrap ((i:Int)+1)=(i:Int)+1:=by rw[IntKind.wrap_i64];omega
  have hi2:(0:Int)<=(i:Int)+1/\(i:Int)+1<=(l.length:Int)+1:=by omega
  have hi3:(i:Int)<=(l.length:Int)+1:=by omega
  have htn:((i:Int)+1).toNat=i+1:=by omega
  have hc1:¬cap=i+1:=by omega
  have hc0:¬cap=i:=by omega
  refine wp_region_noPanic ?_
  refine wp_region_held_drew (S:=λ_=>True) (by kernel_rfl) trivial (λbY=>?_)
  first
  |have _:=IA
   have au:w.drew.heap[g]?=R (AE cur.toList.toArray 79 (0,0)):=by rw[Array.toArray_toList];exact hg
   have aL:w.drew.heap[vb]?=R (AE #[o t.s,I J t.x,I J t.y] 79 (0,0)):=hv
  |have au:w.drew.heap[g]?=R (AE cur.toList.toArray 101 (0,0)):=by rw[Array.toArray_toList];exact hg
   have aL:w.drew.heap[vb]?=R (AE #[o t.s,I J t.x,I J t.y] 101 (0,0)):=hv
  have B0:Hid (Below B w w.drew):=(Below.refl _ _).drew;generalize w.drew=W0 at *;refine aZ 0 ?_;refine aZ 1 ?_;refine aZ 2 ?_;refine aZ 3 ?_;refine aZ 4 ?_;refine aZ 5 ?_;refine aZ 6 ?_;refine aZ 7 ?_
  simp only[Act.put,aK]
  refine be 8 (λK hK=>?_)
  have bn:(dw (l.drop i)).length=Nat.min (l.length+1-i) (l.length-i)*3:=by
   rw[hX]
   congr 1
   exact(Nat.min_eq_right (by omega)).symm
  first
  |have _:=IA
   refine p9 rfl _ _ 35 35 rfl 79 3 underlying35 (by kernel_rfl) g ((i+1)*3) _ _ ⟨g,i*3,U⟩ _ _ rfl rfl cur.toList 79 au (dw (l.drop i)) bn (λj v hj=>?_) (by rw[hX,an];omega) ch ?_
  |refine p9 rfl _ _ 36 36 rfl 101 3 underlying36 (by kernel_rfl) g ((i+1)*3) _ _ ⟨g,i*3,U⟩ _ _ rfl rfl cur.toList 101 au (dw (l.drop i)) bn (λj v hj=>?_) (by rw[hX,an];omega) ch ?_
  .have h1:=hdr j v hj
   rw[bW]
   simp only[World.cell?]
   rw[au]
   simpa using h1
  refine hK _ _ trivial (λ_=>?_);have g1:=setRow_heap W0 g _ (splice cur.toList ((i+1)*3) (dw (l.drop i))).toArray _ _ au
  first|(have _:=IA;have v1:(W0.setRow g (splice cur.toList ((i+1)*3) (dw (l.drop i))).toArray).heap[vb]?=R (AE #[o t.s,I J t.x,I J t.y] 79 (0,0)):=(ni NH).trans aL)|(have v1:(W0.setRow g (splice cur.toList ((i+1)*3) (dw (l.drop i))).toArray).heap[vb]?=R (AE #[o t.s,I J t.x,I J t.y] 101 (0,0)):=(ni NH).trans aL)
  have B1:Hid (Below B w (W0.setRow g (splice cur.toList ((i+1)*3) (dw (l.drop i))).toArray)):=below_setRow B0 af _
  have bV:(splice cur.toList ((i+1)*3) (dw (l.drop i))).length=cap*3:=by rw[length_splice _ _ _ (by rw[hX,an];omega),an]
  have Ut:=MU (C:=cur.toList) (X:=dw (l.drop i)) (tc:=[o t.s,I J t.x,I J t.y]) (i:=i) (n:=l.length) hX rfl (by omega) (by rw[an];omega)
  have aT:cur.toList.take (i*3)=dw (l.take i):=by
   rw[<-vQ l i (by omega),<-ak,List.take_take]
   congr 1
   omega
  have uz:Hid ((splice (splice cur.toList ((i+1)*3) (dw (l.drop i))) (i*3) [o t.s,I J t.x,I J t.y]).take ((l.length+1)*3)=dw (gI l i t)/\(splice (splice cur.toList ((i+1)*3) (dw (l.drop i))) (i*3) [o t.s,I J t.x,I J t.y]).length=cap*3):=by
   refine⟨?_,Ut.2.trans an⟩;rw[Ut.1,aT];unfold gI;rw[cC]
   rfl
  generalize(splice cur.toList ((i+1)*3) (dw (l.drop i)))=S1 at *;generalize W0.setRow _ _=W1 at *;refine vI ?_;refine NoPanic.normal ?_
  have bP:([o t.s,I J t.x,I J t.y]:List Value).length=Nat.min 1 (l.length+1-i)*3:=by
   have h1:Nat.min 1 (l.length+1-i)=1:=Nat.min_eq_left (by omega)
   rw[h1]
   rfl
  have ao:Nat.min 1 (l.length+1-i)=1:=Nat.min_eq_left (by omega)
  first
  |have _:=IA
   have ca:(Builtin.copy_ #[35,35] 3 #[AD (R ⟨g,i*3,U⟩) (l.length+1-i) (cap-i),AD (R ⟨vb,0,U⟩) 1 1]).run prog W1=.ok (goInt 1) (W1.setRow g (splice S1 (i*3) [o t.s,I J t.x,I J t.y]).toArray):=by
    have h:=o6 (P:=prog) W1 35 35 3 79 3 g (i*3) (l.length+1-i) (cap-i) ⟨vb,0,U⟩ 1 1 S1.toArray 79 [o t.s,I J t.x,I J t.y] underlying35 (by kernel_rfl) g1 bP (λj v hj=>by rw[bW,Nat.zero_add];simp only[World.cell?];rw[v1];simpa using hj) (by rw[AL,bV];simp;omega) (λv hv=>by simp only[AF,AM,or_false] at hv;rcases hv with rfl|rfl|rfl<;>rfl)
    rw[ao] at h;rw[h]
    simp[splice]
  |have ca:(Builtin.copy_ #[36,36] 3 #[AD (R ⟨g,i*3,U⟩) (l.length+1-i) (cap-i),AD (R ⟨vb,0,U⟩) 1 1]).run prog W1=.ok (goInt 1) (W1.setRow g (splice S1 (i*3) [o t.s,I J t.x,I J t.y]).toArray):=by
    have h:=o6 (P:=prog) W1 36 36 3 101 3 g (i*3) (l.length+1-i) (cap-i) ⟨vb,0,U⟩ 1 1 S1.toArray 101 [o t.s,I J t.x,I J t.y] underlying36 (by kernel_rfl) g1 bP (λj v hj=>by rw[bW,Nat.zero_add];simp only[World.cell?];rw[v1];simpa using hj) (by rw[AL,bV];simp;omega) (λv hv=>by simp only[AF,AM,or_false] at hv;rcases hv with rfl|rfl|rfl<;>rfl)
    rw[ao] at h;rw[h]
    simp[splice]
  go_wp2_with fail;have g2:=setRow_heap W1 g _ (splice S1 (i*3) [o t.s,I J t.x,I J t.y]).toArray _ _ g1;have B2:Hid (Below B w (W1.setRow g (splice S1 (i*3) [o t.s,I J t.x,I J t.y]).toArray)):=below_setRow B1 af _
  first
  |have _:=IA
   have OW:Hid ((W1.setRow g (splice S1 (i*3) [o t.s,I J t.x,I J t.y]).toArray).ownsRow B 79 3 (AD (R ⟨g,0,U⟩) (l.length+1) cap) (l.length+1) (dw (gI l i t))):=by
    refine⟨?_,.inr ⟨g,cap,_,rfl,af,g2,hr,by unfold maxLen;omega,?_,?_⟩⟩
    .rw [aI]
     unfold gI
     simp
     omega
    .rw [AL]
     exact uz.2
    .rw [AW]
     exact uz.1
  |have OW:Hid ((W1.setRow g (splice S1 (i*3) [o t.s,I J t.x,I J t.y]).toArray).ownsRow B 101 3 (AD (R ⟨g,0,U⟩) (l.length+1) cap) (l.length+1) (dw (gI l i t))):=by
    refine⟨?_,.inr ⟨g,cap,_,rfl,af,g2,hr,by unfold maxLen;omega,?_,?_⟩⟩
    .rw [aI]
     unfold gI
     simp
     omega
    .rw [AL]
     exact uz.2
    .rw [AW]
     exact uz.1
  go_ret;exact⟨_,rfl,OW,B2⟩
theorem Ad(B g cap vb i:Nat)(l:List dE)(t:dE)(cur:Array Value)(w:World)(hi:i<l.length)(hr:l.length+1<=cap)(ae:cap<=maxLen)(hl:l.length<=1000)(af:B<=g)(hg:w.heap[g]?=R (AE cur 79 (0,0)))(ai:cur.size=cap*3)(ak:cur.toList.take (l.length*3)=dw l)(hv:w.heap[vb]?=R (AE #[o t.s,I J t.x,I J t.y] 79 (0,0)))(NH:vb≠g):Calls prog 141 #[AD (R ⟨g,0,U⟩) l.length cap,I J i,AD (R ⟨vb,0,U⟩) 1 1] w λe w'=>∃u,e=.returned u/\w'.ownsRow B 79 3 u (l.length+1) (dw (gI l i t))/\Below B w w':=mf.1 B g cap vb i l t cur w hi hr ae hl af hg ai ak hv NH
theorem yJ(B g cap vb i:Nat)(l:List dE)(t:dE)(cur:Array Value)(w:World)(hi:i<l.length)(hr:l.length+1<=cap)(ae:cap<=maxLen)(hl:l.length<=1000)(af:B<=g)(hg:w.heap[g]?=R (AE cur 101 (0,0)))(ai:cur.size=cap*3)(ak:cur.toList.take (l.length*3)=dw l)(hv:w.heap[vb]?=R (AE #[o t.s,I J t.x,I J t.y] 101 (0,0)))(NH:vb≠g):Calls prog 145 #[AD (R ⟨g,0,U⟩) l.length cap,I J i,AD (R ⟨vb,0,U⟩) 1 1] w λe w'=>∃u,e=.returned u/\w'.ownsRow B 101 3 u (l.length+1) (dw (gI l i t))/\Below B w w':=mf.2 B g cap vb i l t cur w hi hr ae hl af hg ai ak hv NH
open Go.RowKit
theorem sw(B vb:Nat)(a:Option Addr)(cap:Nat)(l:List dE)(t:dE)(w:World)(hl:l.length<=1000)(hBw:B<=w.heap.size)(ae:cap<=maxLen)(hown:w.ownsRow B 79 3 (AD a l.length cap) l.length (dw l))(hv:w.heap[vb]?=R (AE #[o t.s,I J t.x,I J t.y] 79 (0,0))) :
  Calls prog 141 #[AD a l.length cap,I J (l.length:Nat),AD (R ⟨vb,0,U⟩) 1 1] w λe w'=>∃u,e=.returned u/\w'.ownsRow B 79 3 u (l.length+1) (dw (gI l l.length t))/\Below B w w':=by
 obtain⟨i0,hi,ay,ax,av⟩:=info_parts lL;have HO:=ag hown
 have HE:Hid (dw (gI l l.length t)=dw l++[o t.s,I J t.x,I J t.y]):=by
  show _=_
  unfold gI;rw[At,Aw,cC]
  rfl
 unfold maxLen at ae
 have b6:(0:Int)<=(l.length:Int):=by omega
 go_enter func141,ntmps141
 go_wp2_with (at_builtin;refine az _ rfl _ _ 35 rfl B 79 i0 _ 3 32 underlying35 hi ay ax av rfl (by decide) _ l.length _ rfl hown _ 1 1 [o t.s,I J t.x,I J t.y] rfl (.inr ⟨_,rfl,World.news_of_block hv⟩) rfl (λu hu=>by simp only[AF,AM,or_false] at hu;rcases hu with rfl|rfl|rfl<;>rfl) (by unfold maxLen;omega) (by omega) hBw ?_;intro vq wx ab ad ba)
 all_goals
  have bb:Hid (Below B w wx):=(Below.refl B w).grown ad hBw (λq e=>dY HO.out q e);have DR:=ag ab;clear ab ad ba;go_ret
  exact⟨_,rfl,by rw[HE.out];exact DR.out,bb.out⟩
theorem qQ(B vb:Nat)(a:Option Addr)(cap:Nat)(l:List dE)(t:dE)(w:World)(hl:l.length<=1000)(hBw:B<=w.heap.size)(ae:cap<=maxLen)(hown:w.ownsRow B 101 3 (AD a l.length cap) l.length (dw l))(hv:w.heap[vb]?=R (AE #[o t.s,I J t.x,I J t.y] 101 (0,0))) :
  Calls prog 145 #[AD a l.length cap,I J (l.length:Nat),AD (R ⟨vb,0,U⟩) 1 1] w λe w'=>∃u,e=.returned u/\w'.ownsRow B 101 3 u (l.length+1) (dw (gI l l.length t))/\Below B w w':=by
 obtain⟨i0,hi,ay,ax,av⟩:=info_parts cW;have HO:=ag hown
 have HE:Hid (dw (gI l l.length t)=dw l++[o t.s,I J t.x,I J t.y]):=by
  show _=_
  unfold gI;rw[At,Aw,cC]
  rfl
 unfold maxLen at ae
 have b6:(0:Int)<=(l.length:Int):=by omega
 go_enter func145,ntmps145
 go_wp2_with (at_builtin;refine az _ rfl _ _ 36 rfl B 101 i0 _ 3 32 underlying36 hi ay ax av rfl (by decide) _ l.length _ rfl hown _ 1 1 [o t.s,I J t.x,I J t.y] rfl (.inr ⟨_,rfl,World.news_of_block hv⟩) rfl (λu hu=>by simp only[AF,AM,or_false] at hu;rcases hu with rfl|rfl|rfl<;>rfl) (by unfold maxLen;omega) (by omega) hBw ?_;intro vq wx ab ad ba)
 all_goals
  have bb:Hid (Below B w wx):=(Below.refl B w).grown ad hBw (λq e=>dY HO.out q e);have DR:=ag ab;clear ab ad ba;go_ret
  exact⟨_,rfl,by rw[HE.out];exact DR.out,bb.out⟩
end Go.Proofs.YtolokangldmodaaGreatDoor
