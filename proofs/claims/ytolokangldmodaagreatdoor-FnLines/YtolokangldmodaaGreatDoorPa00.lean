import Derived.Test.YtolokangldmodaaGreatDoorSame
import Derived.Test.YtolokangldmodaaGreatDoorLev1
import Derived.Test.YtolokangldmodaaGreatDoorWr
import Derived.Test.YtolokangldmodaaGreatDoorRead1
set_option maxRecDepth 100000
set_option maxHeartbeats 12800000
set_option linter.unusedSimpArgs false
set_option linter.unusedVariables false
open Go.Value renaming int->I,string->R,slice->AF,pointer->AK,bool->AH,agg->AG,tuple->AI
open Go.Obj renaming cells->U
open Go.Ending renaming returned->AJ
open Option renaming none->AD,some->AE
open Go.IntKind renaming i64->J,wrap_i64->A2
open Go.World renaming cell?->AM,news_of_block->A5,frozen?->A6
open Bool renaming and_eq_true->AN
open Go.RowKit.Below renaming refl->AO,heap_setCell->As
open Nat renaming zero_le->AS,lt_of_lt_of_le->At,le_trans->A4,strongRecOn->BD
open List renaming mem_of_getElem?->AT,take_succ_eq_append_getElem->AW,take_of_length_le->Aj,length_append->An,zipWith->Aw,length_take->A0,length_cons->BB,length_map->BC,size_toArray->BE,length->BF
open Go.Act renaming put->Ax
open Go Go.Proofs.YtolokangldmodaaGreatDoor
variable {w w' W wr z:World} {b B n base size B' k Fb i g off:Nat} {v u x rt:Value} {t e:TypeId} {o:Option eT} {l ws:List ByteArray} {ks:List dE} {f:eT} {S:Nat->Prop} {xs:List Value} {C cs:Array Value} {fs:List eT} {what:Int} {a0 a1 a2 a3 r:List UInt8} {s0 s1 s2 s3:ByteArray} {c:eH}
open Go.Proofs.Tryz
namespace Go.Proofs.YtolokangldmodaaGreatDoor.Sd
open Go.RowKit
theorem jQ(s:ByteArray)(w:World)(hs:s.size<=1048576) :
 Rb 172 #[R s] w (R s):=by
 go_enter func172,ntmps172
 go_wp2_with fail
 refine(stringslite_Clone s _ (by omega)).mono ?_
 rintro e w'⟨rfl,hb⟩;go_wp2;go_ret;exact⟨rfl,hb⟩
theorem bA(h:w.heap[b]?=AE (U #[v,u] t (0,0))):w.cell? ⟨b,0,AD⟩=AE v/\w.cell? ⟨b,1,AD⟩=AE u:=by simp[AM,h]
theorem ah{o:Obj}(hb:Bw w w')(h:w.heap[b]?=AE o):w'.heap[b]?=AE o:=(hb.block b (lt_of_block h)).trans h
def gY(w:World)(B:Nat)(v:Value)(l:List ByteArray):Prop:=w.ownsRow B 9 1 v l.length (l.map R)
theorem gY.snoc{x:ByteArray}(hn:l.length=n)(h:w.ownsRow B 9 1 v (n+1) (l.map R++[R x])):gY w B v (l++[x]):=by
 unfold gY;rw[An,List.map_append];subst hn;exact h
theorem UI(s:ByteArray):(dA s).length<=s.size+1:=by
 unfold dA;rw[BC]
 have:∀(r cur:List UInt8),(gU cur r).length<=r.length+1:=by
  intro r
  induction r with
  |nil=>intro cur;simp[gU]
  |cons c r ih =>
   intro cur;rw[gU]
   split
   .have:=ih [];simp;omega
   .have:=ih (cur++[c]);simp;omega
 have h:=this (bytes s) [];rw[aF] at h;exact h
theorem Ez(s:ByteArray)(w:World)(hs:s.size<=1048576) :
 Calls prog 211 #[R s] w λe w'=>∃u,e=AJ u/\gY w' w.heap.size u (dA s)/\Bw w w':=by
 obtain⟨i0,cp,du,dt,ds⟩:=info_parts og;have gv:=UI s;have tq:Hid (∀i,i<(dA s).length->(dC (dA s) i).size<=s.size):=λi hi=>dh hi;have gE:Hid (∀wx:World,Calls prog 49 #[R s] wx λe w'=>∃v,e=AJ v/\dR w' v (dA s)/\Bw wx w'):=λwx=>l5 s wx hs;generalize dA s=ws at *
 go_enter func211,ntmps211
 go_wp2_with fail;refine(gE.out _).mono ?_;rintro e w1⟨v,rfl,fc,ay⟩;have gS:Hid (dR w1 v ws):=fc;obtain⟨g,off,cap,rfl,eK,ct,-⟩:=fc;unfold maxLen at ct;have B1:Hid (Bw w w1):=ay;clear ay;go_wp2_with fail
 go_loopw [3,9] (λv i wr=>∃k:Nat,k<=ws.length/\i=I J k/\(∃a c,v=AF a k c)/\Hid (gY wr w1.heap.size v (ws.take k)/\Bw w1 wr)) (λ_ i _=>ws.length-(intOf i).toNat)
 case atStart=>exact⟨0,AS _,rfl,⟨_,_,rfl⟩,⟨rfl,.inl ⟨rfl,rfl⟩⟩,AO _ _⟩
 case round =>
  obtain⟨k,hk,rfl,⟨a,c,rfl⟩,HI⟩:=hrel
  by_cases ad:k<ws.length
  .have c0:wr.cell? ⟨g,off+k,AD⟩=AE (R (dC ws k)):=(gS.out.keep HI.out.2).cell k ad
   have eb:(0:Int)<=(k:Int):=by omega
   have dk:(k:Int)<(ws.length:Int):=by omega
   have ga:=tq.out k ad;go_wp2_with fail
   refine(jQ (dC ws k) _ (by omega)).mono ?_
   rintro e w2⟨rfl,ab⟩;have cb:Hid (gY w2 w1.heap.size (AF a k c) (ws.take k)/\Bw w1 w2):=⟨Lv.iC HI.out.1 ab,aa HI.out.2 ab⟩;clear HI c0 ab
   have vK:Hid ((ws.take k).length=k):=by show _=_;rw[A0];omega
   have DX:Hid (ws.take (k+1)=ws.take k++[dC ws k]):=by
    show _=_
    rw[AW ad]
    simp[dC,ad]
   have hid:=cb.out.1;unfold gY at hid;rw[vK.out] at hid;have dd:=cb.out.2.size;generalize dC ws k=x at *
   go_wp2_with (at_builtin;refine az _ rfl _ _ 28 rfl w1.heap.size 9 i0 _ 1 16 underlying28 cp du dt ds rfl (by decide) _ k _ rfl (Lv.iC hid (aG)) _ 1 1 [R x] rfl (.inr ⟨_,rfl,A5 (Lv.aS w2 (U #[R x] 9))⟩) rfl (λu hu=>by simp at hu;subst hu;rfl) (by unfold maxLen;omega) (by omega) (by simp;omega) ?_;intro vq wx ai ae eP)
   have eg:=aa cb.out.2 ((AO _ _).alloc aE (U #[R x] 9))
   have HN:Hid (gY wx w1.heap.size vq (ws.take (k+1))/\Bw w1 wx):=by
    refine⟨?_,eg.grown ae eg.size (λq hq=>Lv.dY hid q hq)⟩;rw[DX.out];exact gY.snoc vK.out ai
   obtain⟨qa,qc,rfl⟩:=Lv.dH ai
   exact⟨⟨k+1,by omega,by go_num,⟨_,_,rfl⟩,HN⟩,by simp[intOf];omega⟩
  .have HF:Hid (ws.take k=ws):=Aj (by omega)
   have hs1:=B1.out.size;go_wp2;go_ret;refine⟨AF a k c,rfl,?_,aa B1.out HI.out.2⟩;have h:=HI.out.1;rw[HF.out] at h;refine⟨h.1,?_⟩
   rcases h.2 with h2|⟨g,cap,cur,hv,hg,rest⟩
   .exact .inl h2
   .exact .inr ⟨g,cap,cur,hv,by omega,rest⟩
theorem Nw(vk vp:Value)(ks:List dE)(s:ByteArray)(w:World)(hk:dF w vk ks)(hb:hasB ks s=true)(hn:∀t∈ks,t.s.size<=1048576) :
 Rb 209 #[AG #[vk,vp],R s] w (AG #[R (at' ks (fG ks s)).s,I J (at' ks (fG ks s)).x,I J (at' ks (fG ks s)).y]):=by
 have fh:fG ks s<ks.length:=by
  unfold hasB at hb;rw[AN] at hb;exact of_decide_eq_true hb.1
 have hy:Hid (∀wx:World,Bw w wx->Rb 139 #[vk,R s,.func (.func 140) #[] #[]] wx (AI #[I J (fG ks s:Nat),AH true])):=λwx hx=>by
  have h:=oF vk ks s wx (hk.keep hx);rw[hb] at h;exact h
 have dd:(at' ks (fG ks s)).s.size<=1048576:=hn _ (AT (bG fh));have qX:Hid (∀wx:World,Bw w wx->dF wx vk ks):=λwx hx=>hk.keep hx;obtain⟨ak,ck,rfl,dk,gi,-⟩:=hk;unfold maxLen at gi
 have HB:Hid (Bw w ((w.alloc (U #[AF ak ks.length ck,vp] 38)).alloc (U #[R ⟨#[]⟩,I J 0,I J 0] 79))):=(aG).alloc (by simp) _
 have HR:Hid (((w.alloc (U #[AF ak ks.length ck,vp] 38)).alloc (U #[R ⟨#[]⟩,I J 0,I J 0] 79)).heap[w.heap.size+1]?=AE (U #[R ⟨#[]⟩,I J 0,I J 0] 79 (0,0))):=by
  have h:=Lv.aS (w.alloc (U #[AF ak ks.length ck,vp] 38)) (U #[R ⟨#[]⟩,I J 0,I J 0] 79)
  rw[show(w.alloc (U #[AF ak ks.length ck,vp] 38)).heap.size=w.heap.size+1 by simp] at h
  exact h
 have Q0:Hid (∀wx:World,Bw ((w.alloc (U #[AF ak ks.length ck,vp] 38)).alloc (U #[R ⟨#[]⟩,I J 0,I J 0] 79)) wx->wx.cell? ⟨w.heap.size,0,AD⟩=AE (AF ak ks.length ck)/\wx.cell? ⟨w.heap.size,1,AD⟩=AE vp):=λwx hx=>⟨ac hx aE (by simp[go_sem]),ac hx aE (by simp[go_sem])⟩
 obtain⟨p0,p1⟩:=Q0.out _ (AO _ _)
 go_enter func209,ntmps209
 go_wp2_with fail;generalize((w.alloc (U #[AF ak ks.length ck,vp] 38)).alloc (U #[R ⟨#[]⟩,I J 0,I J 0] 79))=w1 at *;refine(hy.out _ HB.out).mono ?_;rintro e w2⟨rfl,ab⟩;have B2:Hid (Bw w1 w2):=ab;have R2:Hid (w2.heap[w.heap.size+1]?=AE (U #[R ⟨#[]⟩,I J 0,I J 0] 79 (0,0))):=ah ab HR.out;clear p0 p1 ab HR;obtain⟨p0,p1⟩:=Q0.out _ B2.out;obtain⟨a9,c9,he,-,-,fi⟩:=qX.out _ (aa HB.out B2.out);obtain⟨bP,oP,eR,d0,d1,d2⟩:=fi _ _ (bG fh)
 cases he
 subst eR;clear fi
 have hj0:(0:Int)<=((fG ks s:Nat):Int):=by omega
 have hj1:((fG ks s:Nat):Int)<(ks.length:Int):=by omega
 obtain⟨tr,c7⟩:∃tr,at' ks (fG ks s)=tr:=⟨_,rfl⟩;rw[c7] at d0 d1 d2 dd;have HC:Hid (at' ks (fG ks s)=tr):=c7;clear c7;have X3:Hid ((w2.alloc (U #[R tr.s,I J tr.x,I J tr.y] 79)).heap[w2.heap.size]?=AE (U #[R tr.s,I J tr.x,I J tr.y] 79 (0,0))):=Lv.aS w2 _;have B3:Hid (Bw w2 (w2.alloc (U #[R tr.s,I J tr.x,I J tr.y] 79))):=(aG);go_wp2_with fail;refine(jQ tr.s _ dd).mono ?_;rintro e w4⟨rfl,bY⟩;have hX:=ah bY X3.out;have hR:=ah bY (ah B3.out R2.out);have B4:Hid (Bw w w4/\w.heap.size+1<w2.heap.size):=⟨aa (aa (aa HB.out B2.out) B3.out) bY,lt_of_block R2.out⟩;clear bY X3 R2 B3 B2 p0 p1 d0 d1 d2;generalize w2.heap.size=X at *
 have y0:w4.cell? ⟨X,0,AD⟩=AE (R tr.s):=by simp[AM,hX]
 have y1:w4.cell? ⟨X,1,AD⟩=AE (I J tr.x):=by simp[AM,hX]
 have y2:w4.cell? ⟨X,2,AD⟩=AE (I J tr.y):=by simp[AM,hX]
 have yf:w4.frozen? ⟨X,0,AD⟩=false:=by simp[A6,hX]
 have fo:(w4.setCell ⟨X,0,AD⟩ (R tr.s)).heap[w.heap.size+1]?=AE (U #[R ⟨#[]⟩,I J 0,I J 0] 79 (0,0)):=(As _ ⟨X,0,AD⟩ _ _ (by have:=B4.out.2;simp;omega)).trans hR
 have B5:Hid (Bw w (w4.setCell ⟨X,0,AD⟩ (R tr.s))):=B4.out.1.setCell (p:=⟨X,0,AD⟩) (by have:=B4.out.2;simp;omega) _
 clear hX hR
 go_wp2_with (refine wpList_store_row rfl 79 _ _ rfl (w.heap.size+1) #[R tr.s,I J tr.x,I J tr.y] rfl rfl 79 _ fo (by kernel_rfl) rfl (by simp[Value.oneCell']) ?_)
 exact bodyPost_ret (v:=AG #[R tr.s,I J tr.x,I J tr.y]) (by simp[results,results209,go_sem,cell_setRow_same _ _ _ _ _ _ _ fo]) rfl ⟨by rw[HC.out],below_setRow B5.out (by omega) _⟩
open Go.RowKit
def pv(ks:List dE)(f:eT)(u:Value):Value :=
 if f.what=1 then .iface 270 (AG #[R (at' ks (fG ks f.v)).s,I J (at' ks (fG ks f.v)).x,I J (at' ks (fG ks f.v)).y])
 else if f.what=2 then .iface 272 (AG #[I J (ER (dA f.v)),I J (EO (dA f.v))])
 else if f.what=3 then .iface 275 (AG #[I J (uS f.v)])
 else if f.what=4 then .iface 278 (AG #[u])
 else .iface 267 (AG #[AH (decide (f.v=jb))])
theorem pv1(ks:List dE)(n:Int)(v:ByteArray)(u:Value):pv ks ⟨1,n,v⟩ u=.iface 270 (AG #[R (at' ks (fG ks v)).s,I J (at' ks (fG ks v)).x,I J (at' ks (fG ks v)).y]):=rfl
theorem pv2(ks:List dE)(n:Int)(v:ByteArray)(u:Value):pv ks ⟨2,n,v⟩ u=.iface 272 (AG #[I J (ER (dA v)),I J (EO (dA v))]):=rfl
theorem pv3(ks:List dE)(n:Int)(v:ByteArray)(u:Value):pv ks ⟨3,n,v⟩ u=.iface 275 (AG #[I J (uS v)]):=rfl
theorem pv4(ks:List dE)(n:Int)(v:ByteArray)(u:Value):pv ks ⟨4,n,v⟩ u=.iface 278 (AG #[u]):=rfl
theorem pv5(ks:List dE)(n:Int)(v:ByteArray)(u:Value):pv ks ⟨5,n,v⟩ u=.iface 267 (AG #[AH (decide (v=jb))]):=rfl
theorem vM{ps:List dE}(h:eX ks ps f.what f.v=true):f.what=1\/f.what=2\/f.what=3\/f.what=4\/f.what=5:=by
 unfold eX at h
 by_cases h1:f.what=1
 .exact .inl h1
 by_cases h2:f.what=2
 .exact .inr (.inl h2)
 by_cases h3:f.what=3
 .exact .inr (.inr (.inl h3))
 by_cases h4:f.what=4
 .exact .inr (.inr (.inr (.inl h4)))
 by_cases h5:f.what=5
 .exact .inr (.inr (.inr (.inr h5)))
 simp[h1,h2,h3,h4,h5] at h
theorem Na(vk vp:Value)(ks ps:List dE)(f:eT)(w:World)(hk:dF w vk ks)(hf:eX ks ps f.what f.v=true)(hn:∀t∈ks,t.s.size<=1048576)(hs:f.v.size<=1048576) :
 Calls prog 190 #[AG #[vk,vp],fldV f] w λe w'=>∃u,e=AJ (pv ks f u)/\(f.what=4->gY w' w.heap.size u (dA f.v))/\Bw w w':=by
 obtain⟨wh,nm,vl⟩:=f;dsimp only[fldV] at hf hs ⊢
 have HB:Hid (Bw w ((w.alloc (U #[vk,vp] 38)).alloc (U #[I J wh,I J nm,R vl] 107))):=(aG).alloc (by simp) _
 have HK:Hid (∀wx:World,Bw w wx->dF wx vk ks):=λwx hx=>hk.keep hx
 have p0:((w.alloc (U #[vk,vp] 38)).alloc (U #[I J wh,I J nm,R vl] 107)).cell? ⟨w.heap.size,0,AD⟩=AE vk:=by simp[go_sem]
 have p1:((w.alloc (U #[vk,vp] 38)).alloc (U #[I J wh,I J nm,R vl] 107)).cell? ⟨w.heap.size,1,AD⟩=AE vp:=by simp[go_sem]
 have p2:((w.alloc (U #[vk,vp] 38)).alloc (U #[I J wh,I J nm,R vl] 107)).cell? ⟨w.heap.size+1,0,AD⟩=AE (I J wh):=by simp[go_sem]
 have p3:((w.alloc (U #[vk,vp] 38)).alloc (U #[I J wh,I J nm,R vl] 107)).cell? ⟨w.heap.size+1,2,AD⟩=AE (R vl):=by simp[go_sem]
 clear hk
 rcases vM (f:=⟨wh,nm,vl⟩) hf with h|h|h|h|h
 .dsimp only at h
  subst h
  simp only[pv1]
  have hb:hasB ks vl=true:=by simpa[eX] using hf
  go_enter func190,ntmps190
  go_wp2_with fail;generalize((w.alloc (U #[vk,vp] 38)).alloc (U #[I J 1,I J nm,R vl] 107))=w1 at *;refine(Nw vk vp ks vl _ (HK.out _ HB.out) hb hn).mono ?_;rintro e w2⟨rfl,ab⟩;go_wp2;go_ret
  exact⟨AF AD 0 0,rfl,λh=>absurd h (by decide),aa HB.out ab⟩
 .dsimp only at h
  subst h
  simp only[pv2]
  go_enter func190,ntmps190
  go_wp2_with fail;generalize((w.alloc (U #[vk,vp] 38)).alloc (U #[I J 2,I J nm,R vl] 107))=w1 at *;refine(uF vl _ hs).mono ?_;rintro e w2⟨rfl,ab⟩;go_wp2;go_ret
  exact⟨AF AD 0 0,rfl,λh=>absurd h (by decide),aa HB.out ab⟩
 .dsimp only at h
  subst h
  simp only[pv3]
  have LW:Hid (∀wx:World,Rb 171 #[R vl] wx (AI #[I J (uS vl),AH (eY vl)])):=λwx=>bQ vl wx (by unfold maxLen;omega)
  go_enter func190,ntmps190
  go_wp2_with fail;generalize((w.alloc (U #[vk,vp] 38)).alloc (U #[I J 3,I J nm,R vl] 107))=w1 at *;refine(LW.out _).mono ?_;rintro e w2⟨rfl,ab⟩;go_wp2;go_ret
  exact⟨AF AD 0 0,rfl,λh=>absurd h (by decide),aa HB.out ab⟩
 .dsimp only at h
  subst h
  simp only[pv4]
  go_enter func190,ntmps190
  go_wp2_with fail;generalize((w.alloc (U #[vk,vp] 38)).alloc (U #[I J 4,I J nm,R vl] 107))=w1 at *;refine(Ez vl _ hs).mono ?_;rintro e w2⟨u,rfl,hu,ab⟩;obtain⟨a,c,rfl⟩:=Lv.dH hu;have hz:=HB.out.size
  have HU:Hid (gY w2 w.heap.size (.slice a (dA vl).length c) (dA vl)):=by
   refine⟨hu.1,?_⟩
   rcases hu.2 with h2|⟨g,cap,cur,hv,hg,rest⟩
   .exact .inl h2
   .exact .inr ⟨g,cap,cur,hv,by omega,rest⟩
  clear hu;go_wp2;go_ret;exact⟨_,rfl,λ_=>HU.out,aa HB.out ab⟩
 .dsimp only at h
  subst h
  simp only[pv5]
  have gv:(vl.toList==[99,108,111,115,101,100])=decide (vl=jb):=by
   have gq:jb.toList=[99,108,111,115,101,100]:=by rw[ByteArray.toList_eq];rfl
   rw[<-gq]
   by_cases h:vl=jb
   .rw [decide_eq_true h];exact ci h
   .rw [decide_eq_false h];exact bw h
  go_enter func190,ntmps190
  go_wp2
  all_goals(go_ret;exact⟨AF AD 0 0,rfl,λh=>absurd h (by decide),HB.out⟩)
open Go.RowKit
theorem S9(ks:List dE)(f:eT)(u:Value):∃T q,pv ks f u=.iface T q:=by
 unfold pv;split;exact⟨_,_,rfl⟩;split;exact⟨_,_,rfl⟩;split;exact⟨_,_,rfl⟩;split;exact⟨_,_,rfl⟩;exact⟨_,_,rfl⟩
structure Gj (w w':World) (S:Nat->Prop):Prop where
 os:w'.os=w.os
 tape:w'.tape=w.tape
 output:w'.output=w.output
 size:w.heap.size<=w'.heap.size
 block:∀j,j<w.heap.size->¬S j->w'.heap[j]?=w.heap[j]?
theorem Gj.below{w0:World}(h0:Below B w0 w)(h:Gj w w' S)(hB:B<=w.heap.size)(hS:∀j,S j->B<=j):Below B w0 w' :=
 ⟨h.os.trans h0.os,h.tape.trans h0.tape,h.output.trans h0.output,A4 h0.size h.size,λk hk=>(h.block k (by omega) (λhs=>by have:=hS k hs;omega)).trans (h0.block k hk)⟩
theorem Qf(h:w.ownsRow base e size v n xs)(hk:Gj w w' S)(hs:∀k,v.ownBlock=AE k->¬S k):w'.ownsRow base e size v n xs:=by
 refine⟨h.1,?_⟩
 rcases h.2 with h2|⟨g,cap,cur,hv,hb,hc,rest⟩
 .exact .inl h2
 .exact .inr ⟨g,cap,cur,hv,hb,(hk.block g (Array.getElem?_eq_some_iff.1 hc).1 (hs g (by rw[hv];rfl))).trans hc,rest⟩
theorem jo(h:w.ownsRow base e size v n xs)(hB:w.heap[B]?=AE (U C t (0,0)))(eI:e≠t):AE B≠v.ownBlock:=by
 rcases h.2 with⟨rfl,_⟩|⟨g,cap,cur,rfl,hg,hc,_⟩
 .intro e;cases e
 .intro e
  simp only[Value.ownBlock,Option.some.injEq] at e
  subst e;rw[hc] at hB
  simp at hB
  exact eI hB.2
theorem Jh(h:w.heap[b]?=AE (U #[v,u] t (0,0))):(w.setCell ⟨b,0,AD⟩ x).heap[b]?=AE (U #[x,u] t (0,0)):=by
 have ad:=lt_of_block h
 have h':w.heap[b]=U #[v,u] t (0,0):=by simpa[Array.getElem?_eq_getElem ad] using h
 show(w.heap.modify b _)[b]?=_
 rw[Array.getElem?_eq_getElem (by simpa using ad),Array.getElem_modify_self,h']
 rfl
theorem gsD(w:World)(b:Nat)(v:Value):w.grownBy (w.setCell ⟨b,0,none⟩ v) (some b):=
 ⟨rfl,rfl,rfl,by simp,λj _ hr=>Below.heap_setCell w ⟨b,0,none⟩ v j (λe=>hr (by rw[e]))⟩
theorem TZ:(prog.info? 261).map (λi=>(i.zero,i.size,i.bytes))=AE (AE .nilIface,1,16):=by kernel_rfl
theorem add_any(D B n:Nat)(v nm q:Value)(T:TypeId)(xs:List Value)(w:World)(hD:w.heap[D]?=AE (U #[v,nm] 236 (0,0)))(ai:w.ownsRow B 261 1 v n xs)(hn:n<=1048576)(hB:B<=w.heap.size) :
 Calls prog 189 #[AK (AE ⟨D,0,AD⟩),.iface T q] w λe w'=>e=AJ (AI #[])/\∃v',w'.heap[D]?=AE (U #[v',nm] 236 (0,0))/\w'.ownsRow B 261 1 v' (n+1) (xs++[.iface T q])/\Gj w w' (λj=>j=D\/AE j=v.ownBlock)/\(v'.ownBlock=v.ownBlock \/ ∃z,v'.ownBlock=AE z/\w.heap.size<=z):=by
 obtain⟨i0,cp,du,dt,ds⟩:=info_parts TZ;obtain⟨a,c,rfl⟩:=Lv.dH ai;obtain⟨d0,d1⟩:=bA hD;have hDl:=lt_of_block hD;have zW:Hid (Bw w (w.alloc (U #[.iface T q] 261))):=(aG)
 have fN:Hid (∀wx:World,(w.alloc (U #[.iface T q] 261)).grownBy wx (AF a n c).ownBlock->wx.heap[D]?=AE (U #[AF a n c,nm] 236 (0,0))):=λwx hx=>by
  have h:=ah zW.out hD
  exact(hx.block D (lt_of_block h) (jo (Lv.iC ai zW.out) h (by decide))).trans h
 have ew:Hid (w.ownsRow B 261 1 (AF a n c) n xs):=ai
 go_enter func189,ntmps189
 go_wp2_with (at_builtin;refine az _ rfl _ _ 232 rfl B 261 i0 _ 1 16 underlying232 cp du dt ds rfl (by decide) _ n _ rfl (Lv.iC ai (aG)) _ 1 1 [.iface T q] rfl (.inr ⟨_,rfl,A5 (Lv.aS w (U #[.iface T q] 261))⟩) rfl (λu hu=>by simp at hu;subst hu;rfl) (by unfold maxLen;omega) (by omega) (by simp;omega) ?_;intro vq wx hq ae eP;have ef:=fN.out wx ae;have e0:wx.cell? ⟨D,0,AD⟩=AE (AF a n c):=(by simp[AM,ef]);have f0:wx.frozen? ⟨D,0,AD⟩=false:=(by simp[A6,ef]);obtain⟨qa,qc,rfl⟩:=Lv.dH hq)
 have ef:=fN.out wx ae;have hg1:=ae.size;have hal:=zW.out.size
 go_end0
 refine⟨rfl,_,?_,Lv.Aq hq (gsD wx D _) (λk hk e=>?_),⟨?_,?_,?_,?_,λj hj hs=>?_⟩,?_⟩
 .exact Jh ef
 .exact jo hq ef (by decide) (by rw[hk,e])
 .exact ae.1.trans zW.out.1
 .exact ae.2.trans zW.out.2
 .exact ae.3.trans zW.out.3
 .simp;omega
 .refine (As _ ⟨D,0,AD⟩ _ j (λe=>hs (.inl e))).trans ?_
  exact(ae.block j (by simp;omega) (λe=>hs (.inr e))).trans (zW.out.block j hj)
 .rcases eP with e|e
  .exact .inl e
  .exact .inr ⟨_,e,by simp⟩
open Go.RowKit
def fZ(w:World)(B:Nat)(v:Value)(ks:List dE)(fs:List eT):Prop :=
 ∃us:List Value,us.length=fs.length/\w.ownsRow B 261 1 v fs.length (Aw (pv ks) fs us)/\∀(i:Nat) (f:eT) (u:Value),fs[i]?=AE f->us[i]?=AE u->f.what=4->gY w B u (dA f.v)
theorem fZ.keep(h:fZ w B v ks fs)(hb:Bw w w'):fZ w' B v ks fs:=by
 obtain⟨us,h1,h2,h3⟩:=h;exact⟨us,h1,Lv.iC h2 hb,λi f u hf hu h4=>Lv.iC (h3 i f u hf hu h4) hb⟩
theorem fZ.slice(h:fZ w B v ks fs):∃a c,v=AF a fs.length c:=by
 obtain⟨us,h1,h2,h3⟩:=h;exact Lv.dH h2
theorem cX(w:World)(g:Nat)(cs:Array Value):w.grownBy (w.setRow g cs) (AE g):=⟨rfl,rfl,rfl,by simp,λk _ hk=>ni (λe=>hk (by rw[e]))⟩
theorem IV(ks:List dE):∀(fs:List eT) (us:List Value) (f:eT) (u:Value),us.length=fs.length->Aw (pv ks) (fs++[f]) (us++[u])=Aw (pv ks) fs us++[pv ks f u]
 |[],[],f,u,_=>rfl
 |[],_::_,f,u,h=>by simp at h
 |_::_,[],f,u,h=>by simp at h
 |a::fs,b::us,f,u,h=>by simp[IV ks fs us f u (by simpa using h)]
theorem gY.mono(h:gY w B v l)(hb:B'<=B):gY w B' v l:=by
 refine⟨h.1,?_⟩
 rcases h.2 with h2|⟨g,cap,cur,hv,hg,rest⟩
 .exact .inl h2
 .exact .inr ⟨g,cap,cur,hv,by omega,rest⟩
theorem fZ.snoc{D:Nat}{v':Value}{us:List Value}(h1:us.length=fs.length)(h3:∀(i:Nat) (f:eT) (u:Value),fs[i]?=AE f->us[i]?=AE u->f.what=4->gY w B u (dA f.v))(hu:f.what=4->gY w B u (dA f.v))(hD:w.heap[D]?=AE (U #[v,R ⟨#[]⟩] 236 (0,0)) \/ ∃nm,w.heap[D]?=AE (U #[v,nm] 236 (0,0)))(ai:w.ownsRow B 261 1 v fs.length (Aw (pv ks) fs us))(hk:Gj w w' (λj=>j=D\/AE j=v.ownBlock))(hn:w'.ownsRow B 261 1 v' (fs.length+1) (Aw (pv ks) fs us++[pv ks f u])):fZ w' B v' ks (fs++[f]):=by
 have e6:∃nm,w.heap[D]?=AE (U #[v,nm] 236 (0,0)):=by
  rcases hD with h|h
  .exact ⟨_,h⟩
  .exact h
 obtain⟨nm,e6⟩:=e6
 have far:∀(x:Value) (l:List ByteArray),gY w B x l->gY w' B x l:=λx l hx=>by
  refine Qf hx hk (λk ek hs=>?_)
  rcases hs with rfl|hs
  .exact jo hx e6 (by decide) ek.symm
  .rcases hx.2 with⟨rfl,_⟩|⟨g,cap,cur,rfl,hg,hc,_⟩
   .cases ek
   .simp only [Value.ownBlock,Option.some.injEq] at ek
    subst ek
    exact jo ai hc (by decide) hs
 refine⟨us++[u],by simp[h1],?_,λi f' u' hf c6 h4=>?_⟩
 .rw [IV ks fs us f u h1,An]
  exact hn
 .by_cases hi:i<fs.length
  .rw [List.getElem?_append_left hi] at hf
   rw[List.getElem?_append_left (by omega)] at c6
   exact far _ _ (h3 i f' u' hf c6 h4)
  .rw [List.getElem?_append_right (by omega)] at hf
   rw[List.getElem?_append_right (by omega),h1] at c6
   have cp:i-fs.length=0:=by
    have:=(List.getElem?_eq_some_iff.1 hf).1
    simp at this;omega
   rw[cp] at hf c6
   simp at hf c6
   subst hf c6;exact far _ _ (hu h4)
theorem Lf(vk vp fv:Value)(ks ps:List dE)(nm:ByteArray)(fs:List eT)(w:World)(hk:dF w vk ks)(hf:iY w fv fs)(hfit:∀f∈fs,eX ks ps f.what f.v=true/\f.v.size<=1048576)(hn:∀t∈ks,t.s.size<=1048576)(hl:fs.length<=1048576) :
 Calls prog 158 #[AG #[vk,vp],AG #[R nm,fv]] w λe w'=>∃v,e=AJ (AG #[v,R nm])/\fZ w' w.heap.size v ks fs/\Bw w w':=by
 have HK:Hid (∀wx:World,Bw w wx->dF wx vk ks):=λwx hx=>hk.keep hx;have HF:Hid (∀wx:World,Bw w wx->iY wx fv fs):=λwx hx=>hf.keep hx;have nS:Hid _:=hfit;have hE:Hid _:=hn;obtain⟨af,cf,rfl,hf1,gn,-⟩:=hf;unfold maxLen at gn
 have HB:Hid (Bw w ((((w.alloc (U #[vk,vp] 38)).alloc (U #[R nm,AF af fs.length cf] 105)).alloc (U #[AF AD 0 0,R ⟨#[]⟩] 236)).alloc (U #[AF AD 0 0,R nm] 236))):=(((aG).alloc (by simp) _).alloc (by simp;omega) _).alloc (by simp;omega) _
 have HZ:Hid (((((w.alloc (U #[vk,vp] 38)).alloc (U #[R nm,AF af fs.length cf] 105)).alloc (U #[AF AD 0 0,R ⟨#[]⟩] 236)).alloc (U #[AF AD 0 0,R nm] 236)).heap.size=w.heap.size+4):=by show _=_;simp
 have HD:Hid (((((w.alloc (U #[vk,vp] 38)).alloc (U #[R nm,AF af fs.length cf] 105)).alloc (U #[AF AD 0 0,R ⟨#[]⟩] 236)).alloc (U #[AF AD 0 0,R nm] 236)).heap[w.heap.size+3]?=AE (U #[AF AD 0 0,R nm] 236 (0,0))):=by
  have h:=Lv.aS (((w.alloc (U #[vk,vp] 38)).alloc (U #[R nm,AF af fs.length cf] 105)).alloc (U #[AF AD 0 0,R ⟨#[]⟩] 236)) (U #[AF AD 0 0,R nm] 236)
  rw[show(((w.alloc (U #[vk,vp] 38)).alloc (U #[R nm,AF af fs.length cf] 105)).alloc (U #[AF AD 0 0,R ⟨#[]⟩] 236)).heap.size=w.heap.size+3 by simp] at h
  exact h
 have HR:Hid (((((w.alloc (U #[vk,vp] 38)).alloc (U #[R nm,AF af fs.length cf] 105)).alloc (U #[AF AD 0 0,R ⟨#[]⟩] 236)).alloc (U #[AF AD 0 0,R nm] 236)).heap[w.heap.size+2]?=AE (U #[AF AD 0 0,R ⟨#[]⟩] 236 (0,0))):=by
  have h:=Lv.aS ((w.alloc (U #[vk,vp] 38)).alloc (U #[R nm,AF af fs.length cf] 105)) (U #[AF AD 0 0,R ⟨#[]⟩] 236)
  rw[show((w.alloc (U #[vk,vp] 38)).alloc (U #[R nm,AF af fs.length cf] 105)).heap.size=w.heap.size+2 by simp] at h
  exact ah (aG) h
 have Q0:Hid (((((w.alloc (U #[vk,vp] 38)).alloc (U #[R nm,AF af fs.length cf] 105)).alloc (U #[AF AD 0 0,R ⟨#[]⟩] 236)).alloc (U #[AF AD 0 0,R nm] 236)).cell? ⟨w.heap.size,0,AD⟩=AE vk/\((((w.alloc (U #[vk,vp] 38)).alloc (U #[R nm,AF af fs.length cf] 105)).alloc (U #[AF AD 0 0,R ⟨#[]⟩] 236)).alloc (U #[AF AD 0 0,R nm] 236)).cell? ⟨w.heap.size,1,AD⟩=AE vp):=⟨by simp[go_sem],by simp[go_sem]⟩
 go_enter func158,ntmps158
 go_wp2_with fail;generalize(((w.alloc _).alloc _).alloc _).alloc _=w1 at *
 go_loopw [14] (λi wr=>∃(k:Nat) (v:Value),k<=fs.length/\i=I J k/\Hid (wr.heap[w.heap.size+3]?=AE (U #[v,R nm] 236 (0,0))/\fZ wr (w.heap.size+4) v ks (fs.take k)/\Below (w.heap.size+3) w1 wr/\w.heap.size+4<=wr.heap.size)) (λi _=>fs.length-(intOf i).toNat)
 case atStart=>exact⟨0,_,AS _,rfl,HD.out,⟨[],rfl,⟨rfl,.inl ⟨rfl,rfl⟩⟩,λi f u hf=>by simp at hf⟩,AO _ _,by have:=HZ.out;omega⟩
 case round =>
  obtain⟨k,v,hk,rfl,HI⟩:=hrel
  have BW:Hid _:=HB.trans (HI.2.2.1.mono (by omega))
  by_cases ad:k<fs.length
  .obtain ⟨af',cf',he,-,-,gl⟩:=HF.out _ BW.out
   obtain⟨b,off,eR,d0,d1,d2⟩:=gl k _ (bK ad)
   cases he
   subst eR;have gk:=nS _ (AT (bK ad))
   have DX:Hid (fs.take (k+1)=fs.take k++[eQ fs k]):=by
    show _=_
    rw[AW ad]
    simp[eQ,ad]
   have vK:Hid ((fs.take k).length=k):=by show _=_;rw[A0];omega
   generalize eQ fs k=f at *;obtain⟨eN,eM⟩:=gk
   have dk:(k:Int)<(fs.length:Int):=by omega
   have AL:Hid (Bw wr (wr.alloc (U #[I J f.what,I J f.num,R f.v] 107))):=(aG)
   have I1:Hid ((wr.alloc (U #[I J f.what,I J f.num,R f.v] 107)).heap[w.heap.size+3]?=AE (U #[v,R nm] 236 (0,0))/\fZ (wr.alloc (U #[I J f.what,I J f.num,R f.v] 107)) (w.heap.size+4) v ks (fs.take k)/\Below (w.heap.size+3) w1 (wr.alloc (U #[I J f.what,I J f.num,R f.v] 107))/\w.heap.size+4<=(wr.alloc (U #[I J f.what,I J f.num,R f.v] 107)).heap.size):=⟨ah AL HI.1,HI.2.1.keep AL,HI.2.2.1.trans (AL.mono (by have:=HI.2.2.2;omega)),A4 HI.2.2.2 AL.size⟩
   have p0:=(I1.2.2.1.cell (p:=⟨w.heap.size,0,AD⟩) (by show w.heap.size<_;omega)).trans Q0.1
   have p1:=(I1.2.2.1.cell (p:=⟨w.heap.size,1,AD⟩) (by show w.heap.size<_;omega)).trans Q0.2
   go_wp2_with fail;refine(Na vk vp ks ps f _ (HK _ (aa BW AL)) eN hE eM).mono ?_;rintro e w2⟨u,rfl,hu,ab⟩
   have I2:Hid (w2.heap[w.heap.size+3]?=AE (U #[v,R nm] 236 (0,0))/\fZ w2 (w.heap.size+4) v ks (fs.take k)/\Below (w.heap.size+3) w1 w2/\w.heap.size+4<=w2.heap.size):=⟨ah ab I1.1,I1.2.1.keep ab,I1.2.2.1.trans (ab.mono (by have:=I1.2.2.2;omega)),A4 I1.2.2.2 ab.size⟩
   have HU:Hid (f.what=4->gY w2 (w.heap.size+4) u (dA f.v)):=λh4=>gY.mono (hu h4) I1.2.2.2;obtain⟨T,q,fk⟩:=S9 ks f u;have gO:Hid _:=fk;rw[fk];obtain⟨us,fY,ai,ez⟩:=I2.2.1;have ew:Hid _:=ai;have e7:Hid _:=ez;go_wp2_with fail
   refine(add_any (w.heap.size+3) (w.heap.size+4) (fs.take k).length v (R nm) q T _ w2 I2.1 ew (by rw[vK.out];omega) I2.2.2.2).mono ?_
   rintro e w3⟨rfl,v',gB,ea,hK,-⟩
   have HN:Hid (w3.heap[w.heap.size+3]?=AE (U #[v',R nm] 236 (0,0))/\fZ w3 (w.heap.size+4) v' ks (fs.take (k+1))/\Below (w.heap.size+3) w1 w3/\w.heap.size+4<=w3.heap.size):=by
    refine⟨gB,?_,Gj.below I2.2.2.1 hK (by have:=I2.2.2.2;omega) (λj hj=>?_),A4 I2.2.2.2 hK.size⟩
    .rw [DX.out]
     exact fZ.snoc fY e7 HU (.inr ⟨_,I2.1⟩) ew hK (by rw[gO.out];exact ea)
    .rcases hj with rfl|hj
     .exact Nat.le_refl _
     .have:=Lv.dY ew.out j hj.symm
      omega
   go_wp2_with fail
   exact⟨⟨k+1,v',by omega,by go_num,HN⟩,by simp[intOf];omega⟩
  .have ze:Hid (fs.take k=fs):=Aj (by omega)
   obtain⟨e0,e1⟩:=bA HI.1
   have hR:=(HI.2.2.1.block _ (by omega)).trans HR
   obtain⟨av,cv,fj⟩:=HI.2.1.slice
   rw[show(fs.take k).length=k by rw[A0];omega] at fj
   subst fj
   go_wp2_with (refine cS (w.heap.size+2) #[AF av k cv,R nm] hR ?_)
   refine bv (AG #[AF av k cv,R nm]) ⟨_,rfl,?_,bL BW⟩ (by simp[results,results158,go_sem,bU hR])
   have h:=HI.out.2.1;rw[ze.out] at h;obtain⟨us,h1,h2,h3⟩:=h
   have far:∀{e:TypeId} {x:Value} {n:Nat} {xs:List Value},wr.ownsRow (w.heap.size+4) e 1 x n xs->(wr.setRow (w.heap.size+2) #[AF av k cv,R nm]).ownsRow w.heap.size e 1 x n xs:=λ{e x n xs} hx=>by
    have e8:=Lv.Aq hx (cX wr (w.heap.size+2) #[AF av k cv,R nm]) (λq hq e=>by have:=Lv.dY hx q hq;injection e;omega)
    refine⟨e8.1,?_⟩
    rcases e8.2 with h2|⟨g,cap,cur,hv,hg,rest⟩
    .exact .inl h2
    .exact .inr ⟨g,cap,cur,hv,by omega,rest⟩
   exact⟨us,h1,far h2,λi f u hf hu h4=>far (h3 i f u hf hu h4)⟩
open Go.RowKit
theorem fZ.cells(h:fZ w B v ks fs):∃a c,v=AF a fs.length c/\fs.length<=c/\c<=maxLen/\∀i,i<fs.length->∃g u,a=AE ⟨g,0,AD⟩/\w.cell? ⟨g,i,AD⟩=AE (pv ks (eQ fs i) u)/\((eQ fs i).what=4->gY w B u (dA (eQ fs i).v)):=by
 obtain⟨us,h1,⟨h2,h3⟩,h4⟩:=h
 rcases h3 with⟨rfl,h0⟩|⟨g,cap,cur,rfl,hB,hb,hn,hc,hs,ht⟩
 .exact ⟨AD,0,by rw[h0],by omega,AS _,λi hi=>by omega⟩
 .refine ⟨_,cap,rfl,hn,hc,λi hi=>⟨g,us.getD i (AF AD 0 0),rfl,?_,λhw=>?_⟩⟩
  .have hu:us[i]?=AE (us.getD i (AF AD 0 0)):=by simp[show i<us.length by omega]
   have hz:(Aw (pv ks) fs us)[i]?=AE (pv ks (eQ fs i) (us.getD i (AF AD 0 0))):=by
    rw[List.getElem?_zipWith,bK hi,hu]
   rw[<-ht,List.getElem?_take,if_pos (by omega)] at hz
   simp only[AM,hb,Option.isSome_none,Bool.false_eq_true,if_false]
   simpa using hz
  .exact h4 i _ _ (bK hi) (by simp[show i<us.length by omega]) hw
def jD(fs:List eT)(what:Int):Bool:=!gu fs.length λi=>!decide ((eQ fs i).what=what)
theorem lG(hk:k<fs.length)(h:(eQ fs k).what=what):jD fs what=true:=by
 unfold jD;rw[bm hk (by simp[h])];rfl
theorem zm(h:∀j,j<fs.length->¬(eQ fs j).what=what):jD fs what=false:=by
 unfold jD;rw[bg λj hj=>by simp[h j hj]];rfl
theorem mw1(a b c:Value):∀w:World,(method 477 270 (AG #[a,b, c]) "loop.example/lapplan/impl.what").run prog w=.ok (288,AG #[a,b,c]) w:=λ_=>by kernel_rfl
theorem EN(a b c:Value)(w:World):Rb 288 #[AG #[a,b,c]] w (I J 1):=by
 have HB:Hid (Bw w (w.alloc (U #[a,b,c] 270))):=(aG)
 go_enter func288,ntmps288
 go_wp2;go_ret;exact⟨rfl,HB.out⟩
theorem mw2(a b:Value):∀w:World,(method 477 272 (AG #[a, b]) "loop.example/lapplan/impl.what").run prog w=.ok (289,AG #[a,b]) w:=λ_=>by kernel_rfl
theorem EJ(a b:Value)(w:World):Rb 289 #[AG #[a,b]] w (I J 2):=by
 have HB:Hid (Bw w (w.alloc (U #[a,b] 272))):=(aG)
 go_enter func289,ntmps289
 go_wp2;go_ret;exact⟨rfl,HB.out⟩
theorem mw3(a:Value):∀w:World,(method 477 275 (AG #[a]) "loop.example/lapplan/impl.what").run prog w=.ok (290,AG #[a]) w:=λ_=>by kernel_rfl
theorem EI(a:Value)(w:World):Rb 290 #[AG #[a]] w (I J 3):=by
 have HB:Hid (Bw w (w.alloc (U #[a] 275))):=(aG)
 go_enter func290,ntmps290
 go_wp2;go_ret;exact⟨rfl,HB.out⟩
theorem mw4(a:Value):∀w:World,(method 477 278 (AG #[a]) "loop.example/lapplan/impl.what").run prog w=.ok (291,AG #[a]) w:=λ_=>by kernel_rfl
theorem EH(a:Value)(w:World):Rb 291 #[AG #[a]] w (I J 4):=by
 have HB:Hid (Bw w (w.alloc (U #[a] 278))):=(aG)
 go_enter func291,ntmps291
 go_wp2;go_ret;exact⟨rfl,HB.out⟩
theorem mw5(a:Value):∀w:World,(method 477 267 (AG #[a]) "loop.example/lapplan/impl.what").run prog w=.ok (287,AG #[a]) w:=λ_=>by kernel_rfl
theorem EG(a:Value)(w:World):Rb 287 #[AG #[a]] w (I J 5):=by
 have HB:Hid (Bw w (w.alloc (U #[a] 267))):=(aG)
 go_enter func287,ntmps287
 go_wp2;go_ret;exact⟨rfl,HB.out⟩
theorem has_any(D B:Nat)(v nm:Value)(ks ps:List dE)(fs:List eT)(what:Int)(w:World)(hD:w.heap[D]?=AE (U #[v,nm] 236 (0,0)))(hP:fZ w B v ks fs)(hfit:∀f∈fs,eX ks ps f.what f.v=true) :
 Rb 191 #[AK (AE ⟨D,0,AD⟩),I J what] w (AH (jD fs what)):=by
 obtain⟨a,c,rfl,eK,ct,hc⟩:=hP.cells;unfold maxLen at ct;obtain⟨d0,d1⟩:=bA hD
 have HC:Hid (∀i,i<fs.length->∃g u,a=AE ⟨g,0,AD⟩/\w.cell? ⟨g,i,AD⟩=AE (pv ks (eQ fs i) u)):=λi hi=>by
  obtain⟨g,u,h1,h2,_⟩:=hc i hi;exact⟨g,u,h1,h2⟩
 have nS:Hid (∀i,i<fs.length->(eQ fs i).what=1\/(eQ fs i).what=2\/(eQ fs i).what=3\/(eQ fs i).what=4\/(eQ fs i).what=5):=λi hi=>vM (hfit _ (AT (bK hi)));clear hc hP hfit hD
 go_enter func191,ntmps191
 go_wp2;clear d0 d1
 go_loopw [12] (λi wr=>∃k:Nat,k<=fs.length/\i=I J k/\Hid (Bw w wr/\∀j,j<k->¬(eQ fs j).what=what)) (λi _=>fs.length-(intOf i).toNat)
 case atStart=>exact⟨0,AS _,rfl,AO _ _,λj hj=>absurd hj (Nat.not_lt_zero _)⟩
 case round =>
  obtain⟨k,hk,rfl,HI⟩:=hrel
  by_cases ad:k<fs.length
  .obtain ⟨g,u,rfl,e0⟩:=HC.out k ad
   have c0:=ac HI.out.1 aE e0
   have eb:(0:Int)<=(k:Int):=by omega
   have dk:(k:Int)<(fs.length:Int):=by omega
   obtain⟨f,hf⟩:∃f,eQ fs k=f:=⟨_,rfl⟩;have IJ:Hid (eQ fs k=f):=hf;have hw:=nS.out k ad;rw[hf] at c0 hw;clear hf e0;obtain⟨wh,num,vl⟩:=f;dsimp only at hw
   rcases hw with rfl|rfl|rfl|rfl|rfl
   .rw [pv1] at c0
    have hm:=mw1
    by_cases hq:(1:Int)=what
    .have Mq:((1:Int)==what)=true:=by simp[hq]
     go_wp2_with fail;refine(EN _ _ _ _).mono ?_;rintro e w2⟨rfl,ab⟩;go_wp2;go_ret
     exact⟨aw (lG ad (by rw[IJ.out];exact hq)).symm,aa HI.out.1 ab⟩
    .have Mq:((1:Int)==what)=false:=by simp[hq]
     have HN:Hid (∀j,j<k+1->¬(eQ fs j).what=what):=λj hj=>if e:j=k then by rw[e,IJ.out];exact hq else HI.out.2 j (by omega)
     go_wp2_with fail;refine(EN _ _ _ _).mono ?_;rintro e w2⟨rfl,ab⟩;have ax:Hid (Bw w w2):=aa HI.out.1 ab;go_wp2
     exact⟨⟨k+1,by omega,by go_num,ax.out,HN.out⟩,by simp[intOf];omega⟩
   .rw [pv2] at c0
    have hm:=mw2
    by_cases hq:(2:Int)=what
    .have Mq:((2:Int)==what)=true:=by simp[hq]
     go_wp2_with fail;refine(EJ _ _ _).mono ?_;rintro e w2⟨rfl,ab⟩;go_wp2;go_ret
     exact⟨aw (lG ad (by rw[IJ.out];exact hq)).symm,aa HI.out.1 ab⟩
    .have Mq:((2:Int)==what)=false:=by simp[hq]
     have HN:Hid (∀j,j<k+1->¬(eQ fs j).what=what):=λj hj=>if e:j=k then by rw[e,IJ.out];exact hq else HI.out.2 j (by omega)
     go_wp2_with fail;refine(EJ _ _ _).mono ?_;rintro e w2⟨rfl,ab⟩;have ax:Hid (Bw w w2):=aa HI.out.1 ab;go_wp2
     exact⟨⟨k+1,by omega,by go_num,ax.out,HN.out⟩,by simp[intOf];omega⟩
   .rw [pv3] at c0
    have hm:=mw3
    by_cases hq:(3:Int)=what
    .have Mq:((3:Int)==what)=true:=by simp[hq]
     go_wp2_with fail;refine(EI _ _).mono ?_;rintro e w2⟨rfl,ab⟩;go_wp2;go_ret
     exact⟨aw (lG ad (by rw[IJ.out];exact hq)).symm,aa HI.out.1 ab⟩
    .have Mq:((3:Int)==what)=false:=by simp[hq]
     have HN:Hid (∀j,j<k+1->¬(eQ fs j).what=what):=λj hj=>if e:j=k then by rw[e,IJ.out];exact hq else HI.out.2 j (by omega)
     go_wp2_with fail;refine(EI _ _).mono ?_;rintro e w2⟨rfl,ab⟩;have ax:Hid (Bw w w2):=aa HI.out.1 ab;go_wp2
     exact⟨⟨k+1,by omega,by go_num,ax.out,HN.out⟩,by simp[intOf];omega⟩
   .rw [pv4] at c0
    have hm:=mw4
    by_cases hq:(4:Int)=what
    .have Mq:((4:Int)==what)=true:=by simp[hq]
     go_wp2_with fail;refine(EH _ _).mono ?_;rintro e w2⟨rfl,ab⟩;go_wp2;go_ret
     exact⟨aw (lG ad (by rw[IJ.out];exact hq)).symm,aa HI.out.1 ab⟩
    .have Mq:((4:Int)==what)=false:=by simp[hq]
     have HN:Hid (∀j,j<k+1->¬(eQ fs j).what=what):=λj hj=>if e:j=k then by rw[e,IJ.out];exact hq else HI.out.2 j (by omega)
     go_wp2_with fail;refine(EH _ _).mono ?_;rintro e w2⟨rfl,ab⟩;have ax:Hid (Bw w w2):=aa HI.out.1 ab;go_wp2
     exact⟨⟨k+1,by omega,by go_num,ax.out,HN.out⟩,by simp[intOf];omega⟩
   .rw [pv5] at c0
    have hm:=mw5
    by_cases hq:(5:Int)=what
    .have Mq:((5:Int)==what)=true:=by simp[hq]
     go_wp2_with fail;refine(EG _ _).mono ?_;rintro e w2⟨rfl,ab⟩;go_wp2;go_ret
     exact⟨aw (lG ad (by rw[IJ.out];exact hq)).symm,aa HI.out.1 ab⟩
    .have Mq:((5:Int)==what)=false:=by simp[hq]
     have HN:Hid (∀j,j<k+1->¬(eQ fs j).what=what):=λj hj=>if e:j=k then by rw[e,IJ.out];exact hq else HI.out.2 j (by omega)
     go_wp2_with fail;refine(EG _ _).mono ?_;rintro e w2⟨rfl,ab⟩;have ax:Hid (Bw w w2):=aa HI.out.1 ab;go_wp2
     exact⟨⟨k+1,by omega,by go_num,ax.out,HN.out⟩,by simp[intOf];omega⟩
  .go_wp2
   go_ret
   exact⟨aw (zm λj hj=>HI.out.2 j (by omega)).symm,HI.out.1⟩
open Go.RowKit
def Ty:Array Value:=#[I J 1,I J 2,I J 3,I J 4]
def gM(w:World):Prop:=∃t fr,w.heap[5]?=AE (U Ty t fr)
theorem gM.lt(h:gM w):5<w.heap.size:=by
 obtain⟨t,fr,h⟩:=h;exact(Array.getElem?_eq_some_iff.1 h).1
theorem gM.keep(h:gM w)(hb:Bw w w'):gM w':=by
 have hl:=h.lt;obtain⟨t,fr,h⟩:=h;exact⟨t,fr,(hb.block _ hl).trans h⟩
theorem gM.cells(h:gM w):(w.cell? ⟨5,0,AD⟩=AE (I J 1)/\w.cell? ⟨5,1,AD⟩=AE (I J 2))/\w.cell? ⟨5,2,AD⟩=AE (I J 3)/\w.cell? ⟨5,3,AD⟩=AE (I J 4):=by
 obtain⟨t,fr,h⟩:=h
 refine⟨⟨?_,?_⟩,?_,?_⟩<;>simp[AM,h,Ty]
def iD(fs:List eT)(k:Nat):List Int:=(([1,2,3,4]:List Int).take k).filter λx=>!jD fs x
theorem Fw(fs:List eT)(k:Nat):(iD fs k).length<=4:=by
 unfold iD
 exact A4 (List.length_filter_le _ _) (by rw[A0];simp;omega)
theorem Fu(h:k<4):iD fs (k+1)=bif jD fs ((k:Int)+1) then iD fs k else iD fs k++[(k:Int)+1]:=by
 rcases(show k=0\/k=1\/k=2\/k=3 by omega) with rfl|rfl|rfl|rfl<;>cases h1:jD fs 1<;>cases h2:jD fs 2<;>cases h3:jD fs 3<;>cases h4:jD fs 4<;>simp_all[iD]
theorem nidx(h:k<4)(w:World):(Instr.index 264 (AG #[I J 1,I J 2,I J 3,I J 4]) (I J (k:Int))).run prog w=.ok (I J ((k:Int)+1)) w:=by
 rcases(show k=0\/k=1\/k=2\/k=3 by omega) with rfl|rfl|rfl|rfl<;>kernel_rfl
theorem Kj(D B:Nat)(v nm:Value)(ks ps:List dE)(fs:List eT)(w:World)(hD:w.heap[D]?=AE (U #[v,nm] 236 (0,0)))(hP:fZ w B v ks fs)(hfit:∀f∈fs,eX ks ps f.what f.v=true)(hN:gM w) :
 Calls prog 159 #[AK (AE ⟨D,0,AD⟩)] w λe w'=>∃u,e=AJ u/\Lv.lU w' w.heap.size u (iD fs 4)/\Bw w w':=by
 obtain⟨i0,cp,du,dt,ds⟩:=info_parts Lv.wW;have HH:Hid (∀(what:Int) (wx:World),Bw w wx->Rb 191 #[AK (AE ⟨D,0,AD⟩),I J what] wx (AH (jD fs what))):=λwhat wx hx=>has_any D B v nm ks ps fs what wx (ah hx hD) (hP.keep hx) hfit;obtain⟨⟨n0,n1⟩,n2,n3⟩:=hN.cells;clear hD hP hfit
 go_enter func159,ntmps159
 go_wp2_with fail;clear n0 n1 n2 n3
 go_loopw [3,7] (λv i wr=>∃k:Nat,k<=4/\i=I J k/\(∃a c,v=.slice a (iD fs k).length c)/\Hid (Lv.lU wr w.heap.size v (iD fs k)/\Bw w wr)) (λ_ i _=>4-(intOf i).toNat)
 case atStart=>exact⟨0,AS _,rfl,⟨_,_,rfl⟩,⟨rfl,.inl ⟨rfl,rfl⟩⟩,AO _ _⟩
 case round =>
  obtain⟨k,hk,rfl,⟨a,c,rfl⟩,HI⟩:=hrel;have gg:=Fw fs k
  have eb:(0:Int)<=(k:Int):=by omega
  by_cases ad:k<4
  .have dk:(k:Int)<4:=by omega
   have hix:=nidx ad
   cases hb:jD fs ((k:Int)+1)
   .have HE:Hid (iD fs (k+1)=iD fs k++[(k:Int)+1]):=by show _=_;rw[Fu ad,hb];rfl
    have HS:Hid (jD fs ((k:Int)+1)=false):=hb;clear hb;generalize iD fs k=P at *;go_wp2_with fail;refine(HH.out ((k:Int)+1) _ HI.out.2).mono ?_;rw[HS.out];rintro e w2⟨rfl,ab⟩;have cb:Hid (Lv.lU w2 w.heap.size (AF a P.length c) P/\Bw w w2):=⟨Lv.iC HI.out.1 ab,aa HI.out.2 ab⟩;clear HI ab;have hid:=cb.out.1;unfold Lv.lU at hid;have dd:=cb.out.2.size
    go_wp2_with (at_builtin;refine az _ rfl _ _ 95 rfl w.heap.size 3 i0 _ 1 8 underlying95 cp du dt ds rfl (by decide) _ P.length _ rfl (Lv.iC hid (aG)) _ 1 1 [I J ((k:Int)+1)] rfl (.inr ⟨_,rfl,A5 (Lv.aS w2 (U #[I J ((k:Int)+1)] 3))⟩) rfl (λu hu=>by simp at hu;subst hu;rfl) (by unfold maxLen;omega) (by omega) (by simp;omega) ?_;intro vq wx ai ae eP)
    have eg:=aa cb.out.2 ((AO _ _).alloc aE (U #[I J ((k:Int)+1)] 3))
    have HN:Hid (Lv.lU wx w.heap.size vq (iD fs (k+1))/\Bw w wx):=by
     refine⟨?_,eg.grown ae eg.size (λq hq=>Lv.dY hid q hq)⟩;rw[HE.out];exact Lv.lU.snoc ai
    obtain⟨qa,qc,rfl⟩:=Lv.dH ai
    have HL:Hid ((iD fs (k+1)).length=P.length+1):=by show _=_;rw[HE.out];simp
    refine⟨⟨k+1,by omega,by go_num,⟨qa,qc,?_⟩,HN⟩,by simp[intOf];omega⟩
    rw[HL.out]
   .have HE:Hid (iD fs (k+1)=iD fs k):=by show _=_;rw[Fu ad,hb];rfl
    have HS:Hid (jD fs ((k:Int)+1)=true):=hb;clear hb;go_wp2_with fail;refine(HH.out ((k:Int)+1) _ HI.out.2).mono ?_;rw[HS.out];rintro e w2⟨rfl,ab⟩
    have cb:Hid (Lv.lU w2 w.heap.size (.slice a (iD fs (k+1)).length c) (iD fs (k+1))/\Bw w w2):=by
     have h:Lv.lU w2 w.heap.size (.slice a (iD fs k).length c) (iD fs k)/\Bw w w2:=⟨Lv.iC HI.out.1 ab,aa HI.out.2 ab⟩;rw[HE.out];exact h
    clear HI ab;rw[<-HE.out];go_wp2
    exact⟨⟨k+1,by omega,by go_num,⟨a,c,rfl⟩,cb⟩,by simp[intOf];omega⟩
  .obtain rfl:k=4:=by omega
   go_wp2;go_ret;exact⟨.slice a (iD fs 4).length c,rfl,HI.out.1,HI.out.2⟩
open Go.RowKit
def kC(fs:List eT):Bool:=match fs.find? λf=>decide (f.what=5) with
 |some f=>decide (f.v=jb)
 |none=>false
theorem NY(hk:k<fs.length)(h:eQ fs k=f)(h5:f.what=5)(hn:∀j,j<k->¬(eQ fs j).what=5):kC fs=decide (f.v=jb):=by
 have hf:fs.find? (λf=>decide (f.what=5))=AE f:=by
  have hg:=bK hk;rw[h] at hg;obtain⟨ad,rfl⟩:=List.getElem?_eq_some_iff.1 hg;rw[List.find?_eq_some_iff_getElem]
  exact⟨by simp[h5],k,ad,rfl,λj hj=>by
   have:=hn j hj
   have e:eQ fs j=fs[j]:=by simp[eQ,show j<fs.length by omega]
   rw[e] at this
   simp[this]⟩
 unfold kC;rw[hf]
theorem NW(hn:∀j,j<fs.length->¬(eQ fs j).what=5):kC fs=false:=by
 have hf:fs.find? (λf=>decide (f.what=5))=AD:=by
  rw[List.find?_eq_none];intro x hx;obtain⟨i,hi,rfl⟩:=List.getElem_of_mem hx;have:=hn i hi
  have e:eQ fs i=fs[i]:=by simp[eQ,hi]
  rw[e] at this
  simp[this]
 unfold kC;rw[hf]
theorem as1_1(v:Value)(w:World):(Instr.typeAssert (.iface 270 v) 261 270 true).run prog w=.ok (AI #[v,AH true]) w:=by kernel_rfl
theorem as1_2(v:Value)(w:World):(Instr.typeAssert (.iface 270 v) 261 272 true).run prog w=.ok (AI #[AG #[I J 0,I J 0],AH false]) w:=by kernel_rfl
theorem as1_3(v:Value)(w:World):(Instr.typeAssert (.iface 270 v) 261 275 true).run prog w=.ok (AI #[AG #[I J 0],AH false]) w:=by kernel_rfl
theorem as1_4(v:Value)(w:World):(Instr.typeAssert (.iface 270 v) 261 278 true).run prog w=.ok (AI #[AG #[AF AD 0 0],AH false]) w:=by kernel_rfl
theorem as1_5(v:Value)(w:World):(Instr.typeAssert (.iface 270 v) 261 267 true).run prog w=.ok (AI #[AG #[AH false],AH false]) w:=by kernel_rfl
theorem as2_1(v:Value)(w:World):(Instr.typeAssert (.iface 272 v) 261 270 true).run prog w=.ok (AI #[AG #[R ⟨#[]⟩,I J 0,I J 0],AH false]) w:=by kernel_rfl
theorem as2_2(v:Value)(w:World):(Instr.typeAssert (.iface 272 v) 261 272 true).run prog w=.ok (AI #[v,AH true]) w:=by kernel_rfl
theorem as2_3(v:Value)(w:World):(Instr.typeAssert (.iface 272 v) 261 275 true).run prog w=.ok (AI #[AG #[I J 0],AH false]) w:=by kernel_rfl
theorem as2_4(v:Value)(w:World):(Instr.typeAssert (.iface 272 v) 261 278 true).run prog w=.ok (AI #[AG #[AF AD 0 0],AH false]) w:=by kernel_rfl
theorem as2_5(v:Value)(w:World):(Instr.typeAssert (.iface 272 v) 261 267 true).run prog w=.ok (AI #[AG #[AH false],AH false]) w:=by kernel_rfl
theorem as3_1(v:Value)(w:World):(Instr.typeAssert (.iface 275 v) 261 270 true).run prog w=.ok (AI #[AG #[R ⟨#[]⟩,I J 0,I J 0],AH false]) w:=by kernel_rfl
theorem as3_2(v:Value)(w:World):(Instr.typeAssert (.iface 275 v) 261 272 true).run prog w=.ok (AI #[AG #[I J 0,I J 0],AH false]) w:=by kernel_rfl
theorem as3_3(v:Value)(w:World):(Instr.typeAssert (.iface 275 v) 261 275 true).run prog w=.ok (AI #[v,AH true]) w:=by kernel_rfl
theorem as3_4(v:Value)(w:World):(Instr.typeAssert (.iface 275 v) 261 278 true).run prog w=.ok (AI #[AG #[AF AD 0 0],AH false]) w:=by kernel_rfl
theorem as3_5(v:Value)(w:World):(Instr.typeAssert (.iface 275 v) 261 267 true).run prog w=.ok (AI #[AG #[AH false],AH false]) w:=by kernel_rfl
theorem as4_1(v:Value)(w:World):(Instr.typeAssert (.iface 278 v) 261 270 true).run prog w=.ok (AI #[AG #[R ⟨#[]⟩,I J 0,I J 0],AH false]) w:=by kernel_rfl
theorem as4_2(v:Value)(w:World):(Instr.typeAssert (.iface 278 v) 261 272 true).run prog w=.ok (AI #[AG #[I J 0,I J 0],AH false]) w:=by kernel_rfl
theorem as4_3(v:Value)(w:World):(Instr.typeAssert (.iface 278 v) 261 275 true).run prog w=.ok (AI #[AG #[I J 0],AH false]) w:=by kernel_rfl
theorem as4_4(v:Value)(w:World):(Instr.typeAssert (.iface 278 v) 261 278 true).run prog w=.ok (AI #[v,AH true]) w:=by kernel_rfl
theorem as4_5(v:Value)(w:World):(Instr.typeAssert (.iface 278 v) 261 267 true).run prog w=.ok (AI #[AG #[AH false],AH false]) w:=by kernel_rfl
theorem as5_1(v:Value)(w:World):(Instr.typeAssert (.iface 267 v) 261 270 true).run prog w=.ok (AI #[AG #[R ⟨#[]⟩,I J 0,I J 0],AH false]) w:=by kernel_rfl
theorem as5_2(v:Value)(w:World):(Instr.typeAssert (.iface 267 v) 261 272 true).run prog w=.ok (AI #[AG #[I J 0,I J 0],AH false]) w:=by kernel_rfl
theorem as5_3(v:Value)(w:World):(Instr.typeAssert (.iface 267 v) 261 275 true).run prog w=.ok (AI #[AG #[I J 0],AH false]) w:=by kernel_rfl
theorem as5_4(v:Value)(w:World):(Instr.typeAssert (.iface 267 v) 261 278 true).run prog w=.ok (AI #[AG #[AF AD 0 0],AH false]) w:=by kernel_rfl
theorem as5_5(v:Value)(w:World):(Instr.typeAssert (.iface 267 v) 261 267 true).run prog w=.ok (AI #[v,AH true]) w:=by kernel_rfl
theorem NV(D B:Nat)(v nm:Value)(ks ps:List dE)(fs:List eT)(w:World)(hD:w.heap[D]?=AE (U #[v,nm] 236 (0,0)))(hP:fZ w B v ks fs)(hfit:∀f∈fs,eX ks ps f.what f.v=true) :
 Rb 160 #[AK (AE ⟨D,0,AD⟩)] w (AH (kC fs)):=by
 obtain⟨a,c,rfl,eK,ct,hc⟩:=hP.cells;unfold maxLen at ct;obtain⟨d0,d1⟩:=bA hD
 have HC:Hid (∀i,i<fs.length->∃g u,a=AE ⟨g,0,AD⟩/\w.cell? ⟨g,i,AD⟩=AE (pv ks (eQ fs i) u)):=λi hi=>by
  obtain⟨g,u,h1,h2,_⟩:=hc i hi;exact⟨g,u,h1,h2⟩
 have nS:Hid (∀i,i<fs.length->(eQ fs i).what=1\/(eQ fs i).what=2\/(eQ fs i).what=3\/(eQ fs i).what=4\/(eQ fs i).what=5):=λi hi=>vM (hfit _ (AT (bK hi)));clear hc hP hfit hD
 go_enter func160,ntmps160
 go_wp2;clear d0 d1
 go_loopw [13] (λi wr=>∃k:Nat,k<=fs.length/\i=I J k/\Hid (Bw w wr/\∀j,j<k->¬(eQ fs j).what=5)) (λi _=>fs.length-(intOf i).toNat)
 case atStart=>exact⟨0,AS _,rfl,AO _ _,λj hj=>absurd hj (Nat.not_lt_zero _)⟩
 case round =>
  obtain⟨k,hk,rfl,HI⟩:=hrel
  by_cases ad:k<fs.length
  .obtain ⟨g,u,rfl,e0⟩:=HC.out k ad
   have c0:=ac HI.out.1 aE e0
   have eb:(0:Int)<=(k:Int):=by omega
   have dk:(k:Int)<(fs.length:Int):=by omega
   obtain⟨f,hf⟩:∃f,eQ fs k=f:=⟨_,rfl⟩;have IJ:Hid (eQ fs k=f):=hf;have hw:=nS.out k ad;rw[hf] at c0 hw;clear hf e0;obtain⟨wh,num,vl⟩:=f;dsimp only at hw
   rcases hw with rfl|rfl|rfl|rfl|rfl
   .rw [pv1] at c0
    have ei:=as1_5
    have HN:Hid (∀j,j<k+1->¬(eQ fs j).what=5):=λj hj=>if e:j=k then by rw[e,IJ.out];simp else HI.out.2 j (by omega)
    have ax:Hid (Bw w (wr.alloc (U #[AH false] 267))):=aa HI.out.1 (aG);go_wp2
    exact⟨⟨k+1,by omega,by go_num,ax.out,HN.out⟩,by simp[intOf];omega⟩
   .rw [pv2] at c0
    have ei:=as2_5
    have HN:Hid (∀j,j<k+1->¬(eQ fs j).what=5):=λj hj=>if e:j=k then by rw[e,IJ.out];simp else HI.out.2 j (by omega)
    have ax:Hid (Bw w (wr.alloc (U #[AH false] 267))):=aa HI.out.1 (aG);go_wp2
    exact⟨⟨k+1,by omega,by go_num,ax.out,HN.out⟩,by simp[intOf];omega⟩
   .rw [pv3] at c0
    have ei:=as3_5
    have HN:Hid (∀j,j<k+1->¬(eQ fs j).what=5):=λj hj=>if e:j=k then by rw[e,IJ.out];simp else HI.out.2 j (by omega)
    have ax:Hid (Bw w (wr.alloc (U #[AH false] 267))):=aa HI.out.1 (aG);go_wp2
    exact⟨⟨k+1,by omega,by go_num,ax.out,HN.out⟩,by simp[intOf];omega⟩
   .rw [pv4] at c0
    have ei:=as4_5
    have HN:Hid (∀j,j<k+1->¬(eQ fs j).what=5):=λj hj=>if e:j=k then by rw[e,IJ.out];simp else HI.out.2 j (by omega)
    have ax:Hid (Bw w (wr.alloc (U #[AH false] 267))):=aa HI.out.1 (aG);go_wp2
    exact⟨⟨k+1,by omega,by go_num,ax.out,HN.out⟩,by simp[intOf];omega⟩
   .rw [pv5] at c0
    have ei:=as5_5;have ax:Hid (Bw w (wr.alloc (U #[AH (decide (vl=jb))] 267))):=aa HI.out.1 (aG);have HE:Hid (kC fs=decide (vl=jb)):=NY ad IJ.out rfl HI.out.2;generalize decide (vl=jb)=bb at *;go_wp2;go_ret;exact⟨aw HE.out.symm,ax.out⟩
  .go_wp2
   go_ret
   exact⟨aw (NW λj hj=>HI.out.2 j (by omega)).symm,HI.out.1⟩
open Go.RowKit
def dG:List eT->Int->Option eT
 |[],_=>AD
 |f::r,x=>match dG r x with
  |some g=>AE g
  |none=>if f.what=x then AE f else AD
theorem b9(x:Int):∀(l:List eT) (f:eT),dG (l++[f]) x=if f.what=x then AE f else dG l x
 |[],f=>by simp[dG]
 |g::l,f=>by
  rw[List.cons_append,dG,b9 x l f,dG]
  by_cases h:f.what=x
  .simp [h]
  .simp [h]
def jc(ks:List dE):Option eT->dE
 |some f=>at' ks (fG ks f.v)
 |none=>⟨⟨#[]⟩,0,0⟩
def l9:Option eT->Int
 |some f=>ER (dA f.v)
 |none=>0
def kK:Option eT->Int
 |some f=>EO (dA f.v)
 |none=>0
def mF:Option eT->Int
 |some f=>uS f.v
 |none=>0
theorem lM(w:World)(b i:Nat)(v:Value):w.grownBy (w.setCell ⟨b,i,AD⟩ v) (AE b) :=
 ⟨rfl,rfl,rfl,by simp,λj _ hr=>As w ⟨b,i,AD⟩ v j (λe=>hr (by rw[e]))⟩
def jr(w:World)(B:Nat)(rt:Value):Option eT->Prop
 |some f=>gY w B rt (dA f.v)
 |none=>rt=AF AD 0 0
theorem jr.keep(h:jr w B rt o)(hb:Bw w w'):jr w' B rt o:=by
 cases o with
 |none=>exact h
 |some f=>exact Lv.iC (show gY w B rt (dA f.v) from h) hb
theorem jr.slice(h:jr w B rt o):∃a n c,rt=AF a n c:=by
 cases o with
 |none=>exact⟨AD,0,0,h⟩
 |some f =>
  obtain⟨a,c,e⟩:=Lv.dH (show gY w B rt (dA f.v) from h)
  exact⟨a,_,c,e⟩
theorem jr.set(h:jr w B rt o)(hF:w.heap[Fb]?=AE (U cs 81 (0,0))):jr (w.setCell ⟨Fb,i,AD⟩ x) B rt o:=by
 cases o with
 |none=>exact h
 |some f =>
  have h':gY w B rt (dA f.v):=h
  exact Lv.Aq h' (row:=AE Fb) (lM w Fb i x) (λk hk e=>jo h' hF (by decide) (by rw[hk,e]))
theorem jr.row{cs':Array Value}(h:jr w B rt o)(hF:w.heap[Fb]?=AE (U cs 81 (0,0))):jr (w.setRow Fb cs') B rt o:=by
 cases o with
 |none=>exact h
 |some f =>
  have h':gY w B rt (dA f.v):=h
  exact Lv.Aq h' (cX w Fb cs') (λk hk e=>jo h' hF (by decide) (by rw[hk,e]))
def Im(nm:ByteArray)(k:dE)(fr b l:Int)(rt:Value):Array Value:=#[R nm,R k.s,I J k.x,I J k.y,I J fr,I J b,I J l,rt]
theorem cK{o:Nat}(h:w.heap[b]?=AE (U cs t (0,0))):(w.setCell ⟨b,o,AD⟩ x).heap[b]?=AE (U (cs.setIfInBounds o x) t (0,0)):=by
 have ad:=lt_of_block h
 have h':w.heap[b]=U cs t (0,0):=by simpa[Array.getElem?_eq_getElem ad] using h
 show(w.heap.modify b _)[b]?=_
 rw[Array.getElem?_eq_getElem (by simpa using ad),Array.getElem_modify_self,h']
 rfl
theorem qG(h:W.heap[b]?=AE (U cs t (0,0)))(hs:cs.size=8)(hi:i<8):(∃v,W.cell? ⟨b,i,AD⟩=AE v)/\W.frozen? ⟨b,i,AD⟩=false:=by
 simp[AM,A6,h,hs,hi]
def rf(ks:List dE)(nm:ByteArray)(l:List eT)(rt:Value):Array Value:=Im nm (jc ks (dG l 1)) (l9 (dG l 2)) (kK (dG l 2)) (mF (dG l 3)) rt
structure FI (w:World) (B Fb:Nat) (C:Array Value) (rt:Value) (o:Option eT) (wr:World):Prop where
 c:wr.heap[Fb]?=AE (U C 81 (0,0))
 r:jr wr B rt o
 b:Bw w wr
 z:wr.heap[w.heap.size]?=AE (U #[R ⟨#[]⟩,R ⟨#[]⟩,I J 0,I J 0,I J 0,I J 0,I J 0,AF AD 0 0] 81 (0,0))
 n:w.heap.size<Fb
theorem FI.call{wx:World}(h:FI w B Fb C rt o wr)(hb:Bw wr wx):FI w B Fb C rt o wx:=⟨ah hb h.c,h.r.keep hb,aa h.b hb,ah hb h.z,h.n⟩
theorem FI.al(h:FI w B Fb C rt o wr)(x:Array Value)(t:TypeId):FI w B Fb C rt o (wr.alloc (U x t)):=h.call (aG)
theorem FI.set(h:FI w B Fb C rt o wr)(i:Nat)(x:Value):FI w B Fb (C.setIfInBounds i x) rt o (wr.setCell ⟨Fb,i,AD⟩ x):=⟨cK h.c,h.r.set h.c,h.b.setCell (p:=⟨Fb,i,AD⟩) (Nat.le_of_lt h.n) _,(As wr ⟨Fb,i,AD⟩ x w.heap.size (Nat.ne_of_lt h.n)).trans h.z,h.n⟩
theorem FI.as{C':Array Value}{o':Option eT}(h:FI w B Fb C rt o wr)(e:C=C')(e':o=o'):FI w B Fb C' rt o' wr:=e▸e'▸h
theorem NU(D B:Nat)(v:Value)(nm:ByteArray)(ks ps:List dE)(fs:List eT)(w:World)(hD:w.heap[D]?=AE (U #[v,R nm] 236 (0,0)))(hP:fZ w B v ks fs)(hfit:∀f∈fs,eX ks ps f.what f.v=true)(hnm:nm.size<=1048576) :
 Calls prog 161 #[AK (AE ⟨D,0,AD⟩)] w λe w'=>∃rt,e=AJ (AG (rf ks nm fs rt))/\jr w' B rt (dG fs 4)/\Bw w w':=by
 obtain⟨a,c,rfl,eK,ct,hc⟩:=hP.cells;unfold maxLen at ct;obtain⟨d0,d1⟩:=bA hD;have HC:Hid _:=hc;have nS:Hid (∀i,i<fs.length->(eQ fs i).what=1\/(eQ fs i).what=2\/(eQ fs i).what=3\/(eQ fs i).what=4\/(eQ fs i).what=5):=λi hi=>vM (hfit _ (AT (bK hi)));have hH:Hid _:=hD;have A1:Hid (Bw w (w.alloc (U #[R ⟨#[]⟩,R ⟨#[]⟩,I J 0,I J 0,I J 0,I J 0,I J 0,AF AD 0 0] 81))):=(aG);have R1:Hid ((w.alloc (U #[R ⟨#[]⟩,R ⟨#[]⟩,I J 0,I J 0,I J 0,I J 0,I J 0,AF AD 0 0] 81)).heap[w.heap.size]?=AE (U #[R ⟨#[]⟩,R ⟨#[]⟩,I J 0,I J 0,I J 0,I J 0,I J 0,AF AD 0 0] 81 (0,0))):=Lv.aS w _;obtain⟨d0,d1⟩:=bA (ah A1 hD)
 go_enter func161,ntmps161
 go_wp2_with fail;generalize w.alloc _=w1 at *;refine(jQ nm _ hnm).mono ?_;rintro e w2⟨rfl,ab⟩;have B2:Hid _:=aa A1 ab;have R2:Hid _:=ah ab R1;have A3:Hid (Bw w2 (w2.alloc (U #[R nm,R ⟨#[]⟩,I J 0,I J 0,I J 0,I J 0,I J 0,AF AD 0 0] 81))):=(aG);have F3:Hid ((w2.alloc (U #[R nm,R ⟨#[]⟩,I J 0,I J 0,I J 0,I J 0,I J 0,AF AD 0 0] 81)).heap[w2.heap.size]?=AE (U #[R nm,R ⟨#[]⟩,I J 0,I J 0,I J 0,I J 0,I J 0,AF AD 0 0] 81 (0,0))):=Lv.aS w2 _;have B3:Hid _:=aa B2 A3;have R3:Hid _:=ah A3 R2;have N3:Hid _:=lt_of_block R2;obtain⟨d0,d1⟩:=bA (ah B3 hH);go_wp2_with fail;generalize w2.alloc _=w3 at *;generalize w2.heap.size=Fb at *
 go_loopw [26] (λi wr=>∃(k:Nat) (rt:Value),k<=fs.length/\i=I J k/\Hid (FI w B Fb (rf ks nm (fs.take k) rt) rt (dG (fs.take k) 4) wr)) (λi _=>fs.length-(intOf i).toNat)
 case atStart=>exact⟨0,AF AD 0 0,AS _,rfl,F3.out,rfl,B3.out,R3.out,N3.out⟩
 case round =>
  obtain⟨k,rt,hk,rfl,HI⟩:=hrel
  by_cases ad:k<fs.length
  .obtain ⟨g,u,rfl,e0,dv⟩:=HC.out k ad
   have c0:=ac HI.b aE e0
   have eb:(0:Int)<=(k:Int):=by omega
   have dk:(k:Int)<(fs.length:Int):=by omega
   obtain⟨f,hf⟩:∃f,eQ fs k=f:=⟨_,rfl⟩
   have DX:Hid (fs.take (k+1)=fs.take k++[f]):=by
    show _=_
    rw[AW ad,<-hf]
    simp[eQ,ad]
   have hw:=nS k ad;rw[hf] at c0 hw dv;have gR:Hid _:=dv;obtain⟨wh,num,vl⟩:=f;dsimp only at hw
   rcases hw with rfl|rfl|rfl|rfl|rfl
   .rw [pv1] at c0
    have er:=as1_1;have ep:=as1_2;have eo:=as1_3;have en:=as1_4;obtain⟨tr,c7⟩:∃tr,at' ks (fG ks vl)=tr:=⟨_,rfl⟩;rw[c7] at c0;have H0:=Lv.dx (HI.al #[R tr.s,I J tr.x,I J tr.y] 270)
    obtain⟨⟨v1,g1⟩,z1⟩:=qG (i:=1) H0.c (by simp[rf,Im]) (by omega)
    have H1:=Lv.dx (H0.set 1 (R tr.s))
    obtain⟨⟨v2,g2⟩,z2⟩:=qG (i:=2) H1.c (by simp[rf,Im]) (by omega)
    have H2:=Lv.dx (H1.set 2 (I J tr.x))
    obtain⟨⟨v3,g3⟩,z3⟩:=qG (i:=3) H2.c (by simp[rf,Im]) (by omega)
    have H3:=Lv.dx (H2.set 3 (I J tr.y))
    have HN:Hid (FI w B Fb (rf ks nm (fs.take (k+1)) rt) rt (dG (fs.take (k+1)) 4) _):=(((H3.al #[I J 0,I J 0] 272).al #[I J 0] 275).al #[AF AD 0 0] 278).as (by rw[DX.out];simp[rf,Im,b9,jc,l9,kK,mF,c7]) (by rw[DX.out,b9];simp)
    go_wp2
    exact⟨⟨k+1,rt,by omega,by go_num,HN⟩,by simp[intOf];omega⟩
   .rw [pv2] at c0
    have er:=as2_1;have ep:=as2_2;have eo:=as2_3;have en:=as2_4;obtain⟨qf,fg⟩:∃q,ER (dA vl)=q:=⟨_,rfl⟩;obtain⟨qb,Mq⟩:∃q,EO (dA vl)=q:=⟨_,rfl⟩;rw[fg,Mq] at c0
    have fX:((wr.alloc (U #[R ⟨#[]⟩,I J 0,I J 0] 270)).alloc (U #[I J qf,I J qb] 272)).cell? ⟨wr.heap.size+1,0,AD⟩=AE (I J qf)/\((wr.alloc (U #[R ⟨#[]⟩,I J 0,I J 0] 270)).alloc (U #[I J qf,I J qb] 272)).cell? ⟨wr.heap.size+1,1,AD⟩=AE (I J qb):=⟨by simp[go_sem],by simp[go_sem]⟩
    have fp:=Lv.dx fX;have H1:=Lv.dx ((HI.al #[R ⟨#[]⟩,I J 0,I J 0] 270).al #[I J qf,I J qb] 272);have gA:=lt_of_block HI.c;go_wp2_with fail;generalize(wr.alloc _).alloc _=W1 at *;refine wp_region_noPanic ?_
    refine wp_region_held_drew (S:=λw'=>w'.cell? ⟨wr.heap.size+1,0,AD⟩=AE (I J qf)/\w'.cell? ⟨wr.heap.size+1,1,AD⟩=AE (I J qb)) (by kernel_rfl) ?_ (λan=>?_)
    .exact ⟨ac (AO _ _).drew aE fp.1,ac (AO _ _).drew aE fp.2⟩
    have H2:=Lv.dx (H1.call (AO _ _).drew);generalize W1.drew=W at *;have H3:=Lv.dx (H2.set 4 (I J qf));have H4:=Lv.dx (H3.set 5 (I J qb))
    obtain⟨⟨v4,g4⟩,z4⟩:=qG (i:=4) H2.c (by simp[rf,Im]) (by omega)
    obtain⟨⟨v5,g5⟩,z5⟩:=qG (i:=5) H3.c (by simp[rf,Im]) (by omega)
    have et:Hid ((W.setCell ⟨Fb,4,AD⟩ (I J qf)).cell? ⟨wr.heap.size+1,0,AD⟩=AE (I J qf)/\(W.setCell ⟨Fb,4,AD⟩ (I J qf)).cell? ⟨wr.heap.size+1,1,AD⟩=AE (I J qb)):=⟨(World.cell?_setCell_other _ _ _ _ (by first|(simp;done)|(simp;omega))).trans an.1,(World.cell?_setCell_other _ _ _ _ (by first|(simp;done)|(simp;omega))).trans an.2⟩
    have ho:Hid (((W.setCell ⟨Fb,4,AD⟩ (I J qf)).setCell ⟨Fb,5,AD⟩ (I J qb)).cell? ⟨wr.heap.size+1,0,AD⟩=AE (I J qf)/\((W.setCell ⟨Fb,4,AD⟩ (I J qf)).setCell ⟨Fb,5,AD⟩ (I J qb)).cell? ⟨wr.heap.size+1,1,AD⟩=AE (I J qb)):=⟨(World.cell?_setCell_other _ _ _ _ (by first|(simp;done)|(simp;omega))).trans et.1,(World.cell?_setCell_other _ _ _ _ (by first|(simp;done)|(simp;omega))).trans et.2⟩
    refine aZ 0 ?_;refine aZ 1 ?_;refine aZ 2 ?_;refine aZ 3 ?_;refine aZ 4 ?_
    simp only[Ax,aK]
    refine be 5 (λK hK=>?_);go_simp;refine hK _ _ et (λ_=>?_);have an:=et.out;refine aM 6 ?_ rfl ?_ ?_;rotate_left
    .intro w ca;(try dsimp only at ca);go_simp;try with_reducible rfl
    simp only[Ax,aK]
    refine be 7 (λK hK=>?_);go_simp;refine hK _ _ ho (λ_=>?_);generalize(W.setCell _ _).setCell _ _=W3 at *;refine vI ?_;refine NoPanic.normal ?_
    have HN:Hid (FI w B Fb (rf ks nm (fs.take (k+1)) rt) rt (dG (fs.take (k+1)) 4) _):=((H4.al #[I J 0] 275).al #[AF AD 0 0] 278).as (by rw[DX.out];simp[rf,Im,b9,jc,l9,kK,mF,fg,Mq]) (by rw[DX.out,b9];simp)
    go_wp2
    exact⟨⟨k+1,rt,by omega,by go_num,HN⟩,by simp[intOf];omega⟩
   .rw [pv3] at c0
    have er:=as3_1;have ep:=as3_2;have eo:=as3_3;have en:=as3_4;obtain⟨ql,ff⟩:∃q,uS vl=q:=⟨_,rfl⟩;rw[ff] at c0;have H0:=Lv.dx (((HI.al #[R ⟨#[]⟩,I J 0,I J 0] 270).al #[I J 0,I J 0] 272).al #[I J ql] 275)
    obtain⟨⟨v6,g6⟩,z6⟩:=qG (i:=6) H0.c (by simp[rf,Im]) (by omega)
    have H1:=Lv.dx (H0.set 6 (I J ql))
    have HN:Hid (FI w B Fb (rf ks nm (fs.take (k+1)) rt) rt (dG (fs.take (k+1)) 4) _):=(H1.al #[AF AD 0 0] 278).as (by rw[DX.out];simp[rf,Im,b9,jc,l9,kK,mF,ff]) (by rw[DX.out,b9];simp)
    go_wp2
    exact⟨⟨k+1,rt,by omega,by go_num,HN⟩,by simp[intOf];omega⟩
   .rw [pv4] at c0
    have er:=as4_1;have ep:=as4_2;have eo:=as4_3;have en:=as4_4;have dv:=gR rfl;obtain⟨au,cu,gw⟩:=Lv.dH dv;subst gw;have HJ:Hid (FI w B Fb (rf ks nm (fs.take k) rt) (.slice au (dA vl).length cu) (AE ⟨4,num,vl⟩) wr):=⟨HI.c,Lv.iC dv HI.b,HI.b,HI.z,HI.n⟩;have H0:=Lv.dx ((((HJ.al #[R ⟨#[]⟩,I J 0,I J 0] 270).al #[I J 0,I J 0] 272).al #[I J 0] 275).al #[.slice au (dA vl).length cu] 278)
    obtain⟨⟨v7,g7⟩,z7⟩:=qG (i:=7) H0.c (by simp[rf,Im]) (by omega)
    have H1:=Lv.dx (H0.set 7 (.slice au (dA vl).length cu))
    have HN:Hid (FI w B Fb (rf ks nm (fs.take (k+1)) (.slice au (dA vl).length cu)) (.slice au (dA vl).length cu) (dG (fs.take (k+1)) 4) _):=H1.as (by rw[DX.out];simp[rf,Im,b9,jc,l9,kK,mF]) (by rw[DX.out,b9];simp)
    go_wp2
    exact⟨⟨k+1,(.slice au (dA vl).length cu),by omega,by go_num,HN⟩,by simp[intOf];omega⟩
   .rw [pv5] at c0
    have er:=as5_1;have ep:=as5_2;have eo:=as5_3;have en:=as5_4;have H0:=Lv.dx ((((HI.al #[R ⟨#[]⟩,I J 0,I J 0] 270).al #[I J 0,I J 0] 272).al #[I J 0] 275).al #[AF AD 0 0] 278)
    have HN:Hid (FI w B Fb (rf ks nm (fs.take (k+1)) rt) rt (dG (fs.take (k+1)) 4) _):=H0.as (by rw[DX.out];simp[rf,Im,b9,jc,l9,kK,mF]) (by rw[DX.out,b9];simp)
    go_wp2
    exact⟨⟨k+1,rt,by omega,by go_num,HN⟩,by simp[intOf];omega⟩
  .have ze:Hid (fs.take k=fs):=Aj (by omega)
   have hF:=HI.out.c;rw[ze.out] at hF;have eS:=HI.out.r;rw[ze.out] at eS;have hR:=HI.out.z;obtain⟨ra,rn,rc,ej⟩:=eS.slice;subst ej;have Ot:Hid (jr wr B (AF ra rn rc) (dG fs 4)/\Bw w wr):=⟨eS,HI.b⟩;unfold rf Im at hF;obtain⟨k1,e1⟩:∃t,jc ks (dG fs 1)=t:=⟨_,rfl⟩;obtain⟨k2,e2⟩:∃t,l9 (dG fs 2)=t:=⟨_,rfl⟩;obtain⟨k3,e3⟩:∃t,kK (dG fs 2)=t:=⟨_,rfl⟩;obtain⟨k4,e4⟩:∃t,mF (dG fs 3)=t:=⟨_,rfl⟩;rw[e1,e2,e3,e4] at hF
   have Vd:Hid (rf ks nm fs (AF ra rn rc)=#[R nm,R k1.s,I J k1.x,I J k1.y,I J k2,I J k3,I J k4,AF ra rn rc]):=by show _=_;unfold rf Im;rw[e1,e2,e3,e4]
   have y0:wr.cell? ⟨Fb,0,AD⟩=AE (R nm):=by simp[AM,hF]
   have y1:wr.cell? ⟨Fb,1,AD⟩=AE (R k1.s):=by simp[AM,hF]
   have y2:wr.cell? ⟨Fb,2,AD⟩=AE (I J k1.x):=by simp[AM,hF]
   have y3:wr.cell? ⟨Fb,3,AD⟩=AE (I J k1.y):=by simp[AM,hF]
   have y4:wr.cell? ⟨Fb,4,AD⟩=AE (I J k2):=by simp[AM,hF]
   have y5:wr.cell? ⟨Fb,5,AD⟩=AE (I J k3):=by simp[AM,hF]
   have y6:wr.cell? ⟨Fb,6,AD⟩=AE (I J k4):=by simp[AM,hF]
   have y7:wr.cell? ⟨Fb,7,AD⟩=AE (AF ra rn rc):=by simp[AM,hF]
   go_wp2_with (refine cS w.heap.size #[R nm,R k1.s,I J k1.x,I J k1.y,I J k2,I J k3,I J k4,AF ra rn rc] hR ?_)
   refine bv (AG #[R nm,R k1.s,I J k1.x,I J k1.y,I J k2,I J k3,I J k4,AF ra rn rc]) ⟨AF ra rn rc,by rw[Vd.out],?_,bL Ot.2⟩ (by simp[results,results161,go_sem,bU hR])
   exact jr.row Ot.1 hR
open Go.RowKit
def mX(fs:List eT):Bool:=decide ((iD fs 4).length=0)&&!kC fs
def EF:Array Value:=#[R ⟨#[]⟩,R ⟨#[]⟩,I J 0,I J 0,I J 0,I J 0,I J 0,AF AD 0 0]
def pX(ks:List dE)(nm:ByteArray)(fs:List eT)(rt:Value):Array Value:=bif mX fs then rf ks nm fs rt else EF
theorem jr.mono(h:jr w B rt o)(hb:B'<=B):jr w B' rt o:=by
 cases o with
 |none=>exact h
 |some f=>exact gY.mono (show gY w B rt (dA f.v) from h) hb
theorem vV(vk vp fv:Value)(ks ps:List dE)(nm:ByteArray)(fs:List eT)(w:World)(hk:dF w vk ks)(hf:iY w fv fs)(hfit:∀f∈fs,eX ks ps f.what f.v=true/\f.v.size<=1048576)(hn:∀t∈ks,t.s.size<=1048576)(hl:fs.length<=1048576)(hnm:nm.size<=1048576)(hN:gM w) :
 Calls prog 126 #[AG #[vk,vp],AG #[R nm,fv]] w λe w'=>∃rt,e=AJ (AI #[AG (pX ks nm fs rt),AH (mX fs)])/\(mX fs=true->jr w' w.heap.size rt (dG fs 4))/\Bw w w':=by
 have nS:Hid (∀f∈fs,eX ks ps f.what f.v=true):=λf h=>(hfit f h).1;have GD:Hid (∀wx:World,Bw w wx->Calls prog 158 #[AG #[vk,vp],AG #[R nm,fv]] wx λe w'=>∃v,e=AJ (AG #[v,R nm])/\fZ w' wx.heap.size v ks fs/\Bw wx w'):=λwx hx=>Lf vk vp fv ks ps nm fs wx (hk.keep hx) (hf.keep hx) hfit hn hl;have hG:Hid (∀wx:World,Bw w wx->gM wx):=λwx hx=>hN.keep hx
 have HB:Hid (Bw w (((w.alloc (U #[vk,vp] 38)).alloc (U #[R nm,fv] 105)).alloc (U #[R ⟨#[]⟩,R ⟨#[]⟩,I J 0,I J 0,I J 0,I J 0,I J 0,AF AD 0 0] 81))):=((aG).alloc (by simp) _).alloc (by simp;omega) _
 have HR:Hid ((((w.alloc (U #[vk,vp] 38)).alloc (U #[R nm,fv] 105)).alloc (U #[R ⟨#[]⟩,R ⟨#[]⟩,I J 0,I J 0,I J 0,I J 0,I J 0,AF AD 0 0] 81)).heap[w.heap.size+2]?=AE (U #[R ⟨#[]⟩,R ⟨#[]⟩,I J 0,I J 0,I J 0,I J 0,I J 0,AF AD 0 0] 81 (0,0))):=by
  have h:=Lv.aS ((w.alloc (U #[vk,vp] 38)).alloc (U #[R nm,fv] 105)) (U #[R ⟨#[]⟩,R ⟨#[]⟩,I J 0,I J 0,I J 0,I J 0,I J 0,AF AD 0 0] 81)
  rw[show((w.alloc (U #[vk,vp] 38)).alloc (U #[R nm,fv] 105)).heap.size=w.heap.size+2 by simp] at h
  exact h
 go_enter func126,ntmps126
 go_wp2_with fail;generalize((w.alloc _).alloc _).alloc _=w1 at *;refine(GD _ HB).mono ?_;rintro e w2⟨v,rfl,hP,ab⟩;obtain⟨av,cv,rfl⟩:=hP.slice;have AL:Hid (Bw w2 (w2.alloc (U #[AF av fs.length cv,R nm] 236))):=(aG);have D3:Hid ((w2.alloc (U #[AF av fs.length cv,R nm] 236)).heap[w2.heap.size]?=AE (U #[AF av fs.length cv,R nm] 236 (0,0))):=Lv.aS w2 _;have I3:Hid (fZ (w2.alloc (U #[AF av fs.length cv,R nm] 236)) w1.heap.size (AF av fs.length cv) ks fs/\Bw w (w2.alloc (U #[AF av fs.length cv,R nm] 236))/\(w2.alloc (U #[AF av fs.length cv,R nm] 236)).heap[w.heap.size+2]?=AE (U #[R ⟨#[]⟩,R ⟨#[]⟩,I J 0,I J 0,I J 0,I J 0,I J 0,AF AD 0 0] 81 (0,0))):=⟨hP.keep AL,aa (aa HB ab) AL,ah AL (ah ab HR)⟩;have fa:=HB.out.size;have cL:=ab.size;go_wp2_with fail;generalize w2.alloc _=w3 at *;generalize w2.heap.size=D at *;refine(Kj D _ _ _ ks ps fs _ D3 I3.1 nS (hG _ I3.2.1)).mono ?_;rintro e w4⟨u,rfl,hu,bY⟩;obtain⟨au,cu,rfl⟩:=Lv.dH hu;have gg:=Fw fs 4;have I4:Hid ((w4.heap[D]?=AE (U #[AF av fs.length cv,R nm] 236 (0,0))/\fZ w4 w1.heap.size (AF av fs.length cv) ks fs)/\Bw w w4/\w4.heap[w.heap.size+2]?=AE (U #[R ⟨#[]⟩,R ⟨#[]⟩,I J 0,I J 0,I J 0,I J 0,I J 0,AF AD 0 0] 81 (0,0))):=⟨⟨ah bY D3,I3.1.keep bY⟩,aa I3.2.1 bY,ah bY I3.2.2⟩
 by_cases hz:(iD fs 4).length=0
 case neg =>
  have HE:Hid (mX fs=false/\∀rt,pX ks nm fs rt=#[R ⟨#[]⟩,R ⟨#[]⟩,I J 0,I J 0,I J 0,I J 0,I J 0,AF AD 0 0]):=by
   have h:mX fs=false:=by unfold mX;rw[decide_eq_false hz];rfl
   exact⟨h,λrt=>by unfold pX;rw[h];rfl⟩
  have gf:(0:Int)<((iD fs 4).length:Int):=by omega
  have hR:=I4.out.2.2;generalize(iD fs 4).length=nl at *
  go_wp2_with (refine cS (w.heap.size+2) #[R ⟨#[]⟩,R ⟨#[]⟩,I J 0,I J 0,I J 0,I J 0,I J 0,AF AD 0 0] hR ?_)
  exact bv (AI #[AG #[R ⟨#[]⟩,R ⟨#[]⟩,I J 0,I J 0,I J 0,I J 0,I J 0,AF AD 0 0],AH false]) ⟨AF AD 0 0,by rw[HE.out.1,HE.out.2],(λh=>by rw[HE.out.1] at h;cases h),bL I4.2.1⟩ (by simp[results,results126,go_sem,bU hR])
 have eE:¬(0:Int)<((iD fs 4).length:Int):=by omega
 have HZ:Hid _:=hz;generalize(iD fs 4).length=nl at eE ⊢;go_wp2_with fail;refine(NV D _ _ _ ks ps fs _ I4.1.1 I4.1.2 nS).mono ?_;rintro e w5⟨rfl,b4⟩;have I5:Hid ((w5.heap[D]?=AE (U #[AF av fs.length cv,R nm] 236 (0,0))/\fZ w5 w1.heap.size (AF av fs.length cv) ks fs)/\Bw w w5/\w5.heap[w.heap.size+2]?=AE (U #[R ⟨#[]⟩,R ⟨#[]⟩,I J 0,I J 0,I J 0,I J 0,I J 0,AF AD 0 0] 81 (0,0))):=⟨⟨ah b4 I4.1.1,I4.1.2.keep b4⟩,aa I4.2.1 b4,ah b4 I4.2.2⟩
 cases hc:kC fs
 .have HS:Hid (mX fs=true/\∀rt,pX ks nm fs rt=rf ks nm fs rt):=by
   have h:mX fs=true:=by unfold mX;rw[decide_eq_true HZ.out,hc];rfl
   exact⟨h,λrt=>by unfold pX;rw[h];rfl⟩
  go_wp2_with fail;refine(NU D _ _ nm ks ps fs _ I5.1.1 I5.1.2 nS hnm).mono ?_;rintro e w6⟨rt,rfl,ej,cx⟩;have hR:=ah cx I5.2.2;obtain⟨ra,rn,rc,gb⟩:=ej.slice;subst gb;have I6:Hid (jr w6 w1.heap.size (AF ra rn rc) (dG fs 4)/\Bw w w6):=⟨ej,aa I5.2.1 cx⟩;have Vd:Hid (pX ks nm fs (AF ra rn rc)=rf ks nm fs (AF ra rn rc)):=HS.2 _;unfold rf Im at Vd ⊢;obtain⟨k1,e1⟩:∃t,jc ks (dG fs 1)=t:=⟨_,rfl⟩;obtain⟨k2,e2⟩:∃t,l9 (dG fs 2)=t:=⟨_,rfl⟩;obtain⟨k3,e3⟩:∃t,kK (dG fs 2)=t:=⟨_,rfl⟩;obtain⟨k4,e4⟩:∃t,mF (dG fs 3)=t:=⟨_,rfl⟩;rw[e1,e2,e3,e4] at Vd ⊢
  go_wp2_with (refine cS (w.heap.size+2) #[R nm,R k1.s,I J k1.x,I J k1.y,I J k2,I J k3,I J k4,AF ra rn rc] hR ?_)
  exact bv (AI #[AG #[R nm,R k1.s,I J k1.x,I J k1.y,I J k2,I J k3,I J k4,AF ra rn rc],AH true]) ⟨AF ra rn rc,by rw[HS.out.1,Vd.out],λ_=>jr.row (I6.1.mono (by omega)) hR,bL I6.2⟩ (by simp[results,results126,go_sem,bU hR])
 .have HE:Hid (mX fs=false/\∀rt,pX ks nm fs rt=#[R ⟨#[]⟩,R ⟨#[]⟩,I J 0,I J 0,I J 0,I J 0,I J 0,AF AD 0 0]):=by
   have h:mX fs=false:=by unfold mX;rw[hc];simp
   exact⟨h,λrt=>by unfold pX;rw[h];rfl⟩
  have hR:=I5.out.2.2
  go_wp2_with (refine cS (w.heap.size+2) #[R ⟨#[]⟩,R ⟨#[]⟩,I J 0,I J 0,I J 0,I J 0,I J 0,AF AD 0 0] hR ?_)
  exact bv (AI #[AG #[R ⟨#[]⟩,R ⟨#[]⟩,I J 0,I J 0,I J 0,I J 0,I J 0,AF AD 0 0],AH false]) ⟨AF AD 0 0,by rw[HE.out.1,HE.out.2],(λh=>by rw[HE.out.1] at h;cases h),bL I5.2.1⟩ (by simp[results,results126,go_sem,bU hR])
end Go.Proofs.YtolokangldmodaaGreatDoor.Sd
namespace Go.Proofs.YtolokangldmodaaGreatDoor
open Go.RowKit
set_option maxRecDepth 20000
def yT(c:eH):Value:=AG #[R c.f,I J c.what,I J c.num,R c.v]
def j3:eH:=⟨⟨#[]⟩,0,0,⟨#[]⟩⟩
def jF(b:Bool)(c:eH):Value:=AI #[bif b then yT c else yT j3,AH b]
def jP(w:World):Prop:=∃m:Int,w.cell? ⟨2,0,AD⟩=AE (I J m)
theorem jP.keep(h:jP w)(hb:Bw w w'):jP w':=by
 obtain⟨m,h⟩:=h;exact⟨m,ac hb aE h⟩
theorem lZ(f v:ByteArray)(a n:Int):(#[R f,I J a,I J n,R v]:Array Value).all (·.oneCell')=true:=by simp[Value.oneCell']
theorem Be(s:ByteArray)(w:World)(hs:s.size<=1048576)(hm:jP w) :
 Calls prog 181 #[R s,R ⟨#[32]⟩,I J 5] w λe w' =>
 e=AJ (.slice (AE ⟨w.heap.size,0,AD⟩) (Lib.splitB IM 0 (min 5 (s.size+1)-1) s).length (min 5 (s.size+1)))/\w'=w.alloc (U (Lib.cellsOf (Lib.splitB IM 0 (min 5 (s.size+1)-1) s) (min 5 (s.size+1))) 9):=by
 obtain⟨m,hm⟩:=hm
 exact strings_SplitN s IM 5 m w (by omega) hm (by decide) (by decide) (by decide)
theorem BH(s:ByteArray)(w:World)(hs:s.size<=1048576)(hm:jP w)(h5:(gU [] (bytes s)).length<5) :
 Rb 147 #[R s] w (jF false j3):=by
 have hlen:(Lib.splitB IM 0 (min 5 (s.size+1)-1) s).length<5:=Nat.lt_of_le_of_lt (Jt _ s) h5;have HM:Hid (jP w):=hm;clear hm h5
 go_enter func147,ntmps147
 go_wp2_with fail;refine(Be s _ hs (HM.out.keep (aG))).mono ?_;rintro e w1⟨rfl,fa⟩
 have ay:Bw w w1:=by rw[fa];exact(aG).alloc (by simp) _
 generalize(Lib.splitB IM 0 (min 5 (s.size+1)-1) s).length=n at hlen
 have h1:(((n:Nat):Int)==5)=false:=by simp;omega
 go_wp2
 refine bv (jF false j3) ⟨rfl,(aG).alloc (by simp) _⟩ (by simp[results,results147,go_sem,jF,yT,j3])
theorem uG(s:ByteArray)(w:World)(hs:s.size<=1048576)(hm:jP w)(hsaid:jh w)(h5:bytes s=a0++32::(a1++32::(a2++32::(a3++32::r))))(h0:iW a0)(h1:iW a1)(h2:iW a2)(h3:iW a3) :
 Rb 147 #[R s] w (jF (Mm a0 a1 a2 a3 r) ⟨mkS a1,gP (mkS a2),jO (mkS a3),mkS r⟩):=by
 have hL:=MR s h5 h0 h1 h2 h3;have hz:=congrArg BF h5;rw[aF] at hz
 simp at hz
 have z1:(mkS a1).size<=1048576:=by rw[cM];omega
 have z3:(mkS a3).size<=maxLen:=by rw[cM];unfold maxLen;omega
 have z4:(mkS r).size<=1048576:=by rw[cM];omega
 have fR:(mkS a1).size<=maxLen:=by unfold maxLen;omega
 have eJ:min 5 (s.size+1)=5:=by omega
 have HM:Hid (jP w):=hm;have HS:Hid (jh w):=hsaid;have HR:Hid (Mm a0 a1 a2 a3 r=(decide (a0=zZ)&&(fE (gP (mkS a2)) 1 5&&(dJ (mkS a1)&&(fE (jO (mkS a3)) 1 1000000&&rz (mkS r)))))):=rfl
 have fz:Hid (a0=zZ↔mkS a0=mkS zZ):=⟨λe=>congrArg mkS e,λe=>by simpa[b8] using congrArg bytes e⟩
 generalize mkS a0=s0 at *;generalize mkS a1=s1 at *;generalize mkS a2=s2 at *;generalize mkS a3=s3 at *;generalize mkS r=s4 at *;have fm:=Be s;rw[hL,eJ] at fm;have gX:Hid (∀(w:World),s.size<=1048576->jP w->Calls prog 181 #[R s,R ⟨#[32]⟩,I J 5] w λe w'=>e=AJ (AF (AE ⟨w.heap.size,0,AD⟩) 5 5)/\w'=w.alloc (U #[R s0,R s1,R s2,R s3,R s4] 9)):=fm
 go_enter func147,ntmps147
 go_wp2_with fail;refine(gX.out _ hs (HM.out.keep (aG))).mono ?_;rintro e w1⟨rfl,rfl⟩
 by_cases b5:a0=zZ
 .have e0:s0=⟨#[115,101,116]⟩:=fz.out.1 b5
  have HE:Hid _:=decide_eq_true b5;subst e0;go_wp2_with fail
  refine(ME s2 _ (HS.out.keep ((aG).alloc (by simp) _))).mono ?_
  rintro e w1⟨rfl,ay⟩
  have p0:w1.cell? ⟨w.heap.size,0,AD⟩=AE (R ⟨#[]⟩):=ac ay aE (by simp[go_sem])
  have p2:w1.cell? ⟨w.heap.size,2,AD⟩=AE (I J 0):=ac ay aE (by simp[go_sem])
  have p3:w1.cell? ⟨w.heap.size,3,AD⟩=AE (R ⟨#[]⟩):=ac ay aE (by simp[go_sem])
  have bn:w1.heap[w.heap.size]?=AE (U #[R ⟨#[]⟩,I J 0,I J 0,R ⟨#[]⟩] 94):=by
   rw[ay.block _ (by simp;omega),Below.heap_alloc _ _ _ (by simp)]
   show(w.heap.push _)[w.heap.size]?=_
   simp
  have c1:w1.cell? ⟨w.heap.size+1,1,AD⟩=AE (R s1):=ac ay aE (by simp[go_sem])
  have c3:w1.cell? ⟨w.heap.size+1,3,AD⟩=AE (R s3):=ac ay aE (by simp[go_sem])
  have c4:w1.cell? ⟨w.heap.size+1,4,AD⟩=AE (R s4):=ac ay aE (by simp[go_sem])
  have dr:Hid _:=aa ((aG).alloc (by simp) _) ay
  go_wp2_with fail;refine(bQ s3 _ z3).mono ?_;rintro e w2⟨rfl,ab⟩
  have aL:w2.heap[w.heap.size]?=AE (U #[R ⟨#[]⟩,I J 0,I J 0,R ⟨#[]⟩] 94):=by rw[ab.block _ (am p0)];exact bn
  have d1:=ac ab aE c1;have d4:=ac ab aE c4;have ee:=At (am p0) ab.size;have ax:Hid _:=aa dr ab;have fL:Hid (jO s3=bif eY s3 then(fV s3 s3.size:Int) else -1):=rfl
  cases hk:fE (gP s2) 1 5
  .have HK:Hid (fE (gP s2) 1 5=false):=hk
   go_wp2_with (refine cS w.heap.size #[R ⟨#[]⟩,I J 0,I J 0,R ⟨#[]⟩] aL ?_ (h1:=(lZ _ _ _ _)))
   have e:Mm a0 a1 a2 a3 r=false:=by rw[HR.out,HK.out];simp
   rw[e]
   exact bv (jF false j3) ⟨rfl,bL ax⟩ (by simp[results,results147,go_sem,jF,yT,j3,bU aL])
  have HK:Hid _:=hk
  cases hd:eY s3
  .have HD:Hid (fE (jO s3) 1 1000000=false):=by show fE (jO s3) 1 1000000=false;rw[fL.out,hd];rfl
   simp only[cond_false]
   go_wp2_with (refine cS w.heap.size #[R ⟨#[]⟩,I J 0,I J 0,R ⟨#[]⟩] aL ?_ (h1:=(lZ _ _ _ _)))
   have e:Mm a0 a1 a2 a3 r=false:=by rw[HR.out,HD.out];simp
   rw[e]
   exact bv (jF false j3) ⟨rfl,bL ax⟩ (by simp[results,results147,go_sem,jF,yT,j3,bU aL])
  have HD:Hid (jO s3=(fV s3 s3.size:Int)):=by show jO s3=_;rw[fL.out,hd];rfl
  simp only[cond_true]
  rw[HD.out] at HR;generalize((fV s3 s3.size:Nat):Int)=n at HR HD ⊢;go_wp2_with fail;refine(nD s1 _ fR).mono ?_;rintro e w3⟨rfl,cy⟩
  have ao:w3.heap[w.heap.size]?=AE (U #[R ⟨#[]⟩,I J 0,I J 0,R ⟨#[]⟩] 94):=by rw[cy.block _ ee];exact aL
  have f1:=ac cy aE d1;have f4:=ac cy aE d4;have ec:=At ee cy.size;have ey:Hid _:=aa ax cy
  cases hn:dJ s1
  .have HN:Hid (dJ s1=false):=hn
   go_wp2_with (refine cS w.heap.size #[R ⟨#[]⟩,I J 0,I J 0,R ⟨#[]⟩] ao ?_ (h1:=(lZ _ _ _ _)))
   have e:Mm a0 a1 a2 a3 r=false:=by rw[HR.out,HN.out];simp
   rw[e]
   exact bv (jF false j3) ⟨rfl,bL ey⟩ (by simp[results,results147,go_sem,jF,yT,j3,bU ao])
  have HN:Hid _:=hn;go_wp2_with fail;refine(wL _ _).mono ?_;rintro e w4⟨rfl,rfl⟩
  cases hu:fE n 1 1000000
  .have HU:Hid (fE n 1 1000000=false):=hu
   go_wp2_with (refine cS w.heap.size #[R ⟨#[]⟩,I J 0,I J 0,R ⟨#[]⟩] ao ?_ (h1:=(lZ _ _ _ _)))
   have e:Mm a0 a1 a2 a3 r=false:=by rw[HR.out,HU.out];simp
   rw[e]
   exact bv (jF false j3) ⟨rfl,bL ey⟩ (by simp[results,results147,go_sem,jF,yT,j3,bU ao])
  have HU:Hid _:=hu;go_wp2_with fail;refine(xR _ _).mono ?_;rintro e w4⟨rfl,rfl⟩
  cases hv:rz s4
  .have HV:Hid (rz s4=false):=hv
   go_wp2_with (refine cS w.heap.size #[R ⟨#[]⟩,I J 0,I J 0,R ⟨#[]⟩] ao ?_ (h1:=(lZ _ _ _ _)))
   have e:Mm a0 a1 a2 a3 r=false:=by rw[HR.out,HV.out];simp
   rw[e]
   exact bv (jF false j3) ⟨rfl,bL ey⟩ (by simp[results,results147,go_sem,jF,yT,j3,bU ao])
  have HV:Hid _:=hv
  have e:Mm a0 a1 a2 a3 r=true:=by rw[HR.out,HE.out,HK.out,HN.out,HU.out,HV.out];rfl
  have hA:Hid _:=e;go_wp2;refine wp_region_noPanic ?_
  refine wp_region_held_drew (S:=λw'=>w'.cell? ⟨w.heap.size+1,1,AD⟩=AE (R s1)/\w'.cell? ⟨w.heap.size+1,4,AD⟩=AE (R s4)/\∃cs:Array Value,w'.heap[w.heap.size]?=AE (U cs 94)/\cs.size=4) (by kernel_rfl) ?_ (λan=>?_)
  .exact ⟨by simpa using f1,by simpa using f4,_,ao,rfl⟩
  refine aZ 0 ?_;refine aZ 1 ?_;refine aZ 2 ?_;refine aZ 4 ?_;refine aZ 5 ?_;refine aZ 6 ?_;refine aZ 7 ?_;refine aZ 8 ?_
  simp only[Ax,aK]
  refine be 3 (λK hK=>?_);go_simp;refine(Dk s1 _ z1).mono ?_;rintro e w5⟨rfl,b4⟩;have Uk:Bw w4 w5:=⟨b4.os,b4.tape,b4.output,b4.size,b4.block⟩
  have cg:w5.heap[w.heap.size]?=AE (U #[R ⟨#[]⟩,I J 0,I J 0,R ⟨#[]⟩] 94):=by rw[Uk.block _ ec];exact ao
  have g1:=ac Uk aE f1;have g4:=ac Uk aE f4;have eL:=At ec Uk.size;have hJ:Hid _:=aa ey Uk;refine hK _ _ ⟨g1,g4,_,cg,rfl⟩ (λeW=>?_);refine be 9 (λK hK=>?_);go_simp;refine(Dk s4 _ z4).mono ?_;rintro e w6⟨rfl,cx⟩
  have O9:w6.heap[w.heap.size]?=AE (U #[R ⟨#[]⟩,I J 0,I J 0,R ⟨#[]⟩] 94):=by rw[cx.block _ eL];exact cg
  have k1:=ac cx aE g1;have k4:=ac cx aE g4;have hI:Hid _:=aa hJ cx;refine hK _ _ ⟨k1,k4,_,O9,rfl⟩ (λUs=>?_);refine aM 10 ?_ rfl ?_ ?_;rotate_left
  .intro w ca;(try dsimp only at ca);go_simp;try with_reducible rfl
  simp only[Ax,aK]
  refine be 11 (λK hK=>?_)
  refine wp_store_row 94 _ _ rfl w.heap.size #[R s1,I J (gP s2),I J n,R s4] rfl rfl 94 _ O9 (by kernel_rfl) rfl (lZ _ _ _ _) ?_
  have dz:=setRow_heap _ _ _ #[R s1,I J (gP s2),I J n,R s4] _ _ O9
  refine hK _ _ ⟨by rw[cell_setRow_other _ _ _ _ (by simp)];exact k1,by rw[cell_setRow_other _ _ _ _ (by simp)];exact k4,_,dz,rfl⟩ (λUr=>?_)
  refine aM 12 ?_ rfl ?_ ?_;rotate_left
  .intro w ca;(try dsimp only at ca);go_simp;try with_reducible rfl
  simp only[Ax,aK]
  refine vI ?_;refine NoPanic.normal ?_;go_wp2;rw[hA.out,HD.out]
  exact bv (jF true ⟨s1,gP s2,n,s4⟩) ⟨rfl,bL hI⟩ (by simp[results,results147,go_sem,jF,yT,bU O9])
 .have eI:¬s0=mkS zZ:=λe=>b5 (fz.out.2 e)
  have eC:=Am eI;have HE:Hid _:=decide_eq_false b5
  have e1:(mkS zZ).toList=[115,101,116]:=by rw[ByteArray.toList_eq];rfl
  rw[e1] at eC;go_wp2;rw[HR.out,HE.out]
  refine bv (jF false j3) ⟨rfl,(aG).alloc (by simp) _⟩ (by simp[results,results147,go_sem,jF,yT,j3])
open Go.RowKit
theorem Bf(s:ByteArray)(w:World)(hs:s.size<=1048576)(h5:(gU [] (bytes s)).length<5) :
 Rb 65 #[R s] w (jF false j3):=by
 go_enter func65,ntmps65
 go_wp2_with fail;refine(yI s _ hs).mono ?_;rintro e w1⟨v,ws,rfl,⟨g,off,cap,rfl,_,_,_⟩,ba,ay⟩
 have hlen:ws.length<5:=by rw[<-ba,BC] at h5;exact h5
 clear ba h5;generalize ws.length=n at *
 have bn:w1.heap[w.heap.size]?=AE (U #[R ⟨#[]⟩,I J 0,I J 0,R ⟨#[]⟩] 94):=by
  rw[ay.block _ (by simp)]
  show(w.heap.push _)[w.heap.size]?=_
  simp
 have dr:Hid (Bw w w1):=aa (aG) ay
 have h1:((n:Nat):Int)<5:=by omega
 clear ay
 go_wp2_with (refine wpList_store_row rfl 94 _ _ rfl w.heap.size #[R ⟨#[]⟩,I J 0,I J 0,R ⟨#[]⟩] rfl rfl 94 _ bn (by kernel_rfl) rfl (lZ _ _ _ _) ?_)
 exact bv (jF false j3) ⟨rfl,bL dr.out⟩ (by simp[results,results65,go_sem,jF,yT,j3,bU bn])
def mo:Nat->ByteArray->Int
 |0,_=>0
 |k+1,b=>if iA k=b then(k:Int)+1 else mo k b
theorem Jg(b:ByteArray):mo 5 b=gP b:=by
 have h01:¬lC=ik:=by decide
 have h02:¬lC=oQ:=by decide
 have h03:¬lC=lF:=by decide
 have h04:¬lC=lD:=by decide
 have h11:¬lD=ik:=by decide
 have h12:¬lD=oQ:=by decide
 have h13:¬lD=lF:=by decide
 have h21:¬lF=ik:=by decide
 have h22:¬lF=oQ:=by decide
 have h31:¬oQ=ik:=by decide
 rcases uN b with⟨e,e0,e1,e2,e3,e4⟩|⟨e,rfl⟩|⟨e,rfl⟩|⟨e,rfl⟩|⟨e,rfl⟩|⟨e,rfl⟩
 .rw [e]
  simp only[mo,iA]
  rw[if_neg (Ne.symm e4),if_neg (Ne.symm e3),if_neg (Ne.symm e2),if_neg (Ne.symm e1),if_neg (Ne.symm e0)]
 all_goals(rw[e];simp[mo,iA, *])
theorem wC{l:List (List UInt8)}(h:ws.map bytes=l){a:List UInt8}(ha:l[i]?=AE a):ws[i]?=AE (mkS a):=by
 rw[<-h,List.getElem?_map] at ha
 cases hx:ws[i]? with
 |none=>rw[hx] at ha;cases ha
 |some x =>
  rw[hx] at ha
  have e:bytes x=a:=by simpa using ha
  rw[<-e,cA]
theorem ws_five{s:ByteArray}(ba:ws.map bytes=gU [] (bytes s))(h5:bytes s=a0++32::(a1++32::(a2++32::(a3++32::r))))(h0:iW a0)(h1:iW a1)(h2:iW a2)(h3:iW a3) :
 5<=ws.length/\ws[0]?=AE (mkS a0)/\ws[1]?=AE (mkS a1)/\ws[2]?=AE (mkS a2)/\ws[3]?=AE (mkS a3):=by
 rw[h5,bi _ _ _ h0,bi _ _ _ h1,bi _ _ _ h2,bi _ _ _ h3] at ba
 simp only[List.nil_append] at ba
 refine⟨?_,wC ba rfl,wC ba rfl,wC ba rfl,wC ba rfl⟩;have h4:=oh r [];have h6:=congrArg BF ba;rw[BC] at h6
 simp only[BB] at h6
 omega
theorem OA{P:Program}{c:Code}{Q:Exit->Act->World->Prop}{a:Act}(F:World->Prop)(a':Act)(h:c.wp P (λe b z=>e=.normal/\b=a'/\F z) a w)(k:∀z,F z->Q .normal a' z):c.wp P Q a w :=
 Code.wp_mono (λe b z ⟨he,hb,hz⟩=>by subst he;subst hb;exact k z hz) h
structure pR (w:World) (g off C:Nat) (s0 s1 s2 s3:ByteArray) (cs:Array Value) (z:World):Prop where
 gC:g≠C
 bC:w.heap.size<C
 c0:z.cell? ⟨g,off,AD⟩=AE (R s0)
 c1:z.cell? ⟨g,off+1,AD⟩=AE (R s1)
 c2:z.cell? ⟨g,off+2,AD⟩=AE (R s2)
 c3:z.cell? ⟨g,off+3,AD⟩=AE (R s3)
 rowB:z.heap[w.heap.size]?=AE (U #[R ⟨#[]⟩,I J 0,I J 0,R ⟨#[]⟩] 94)
 GY:z.heap[C]?=AE (U cs 94)
 bel:Bw w z
theorem SS{C:Nat}{o:Obj}(h:z.heap[C]?=AE o):C<z.heap.size:=(Array.getElem?_eq_some_iff.1 h).1
theorem pR.step{z':World}{C:Nat}(h:pR w g off C s0 s1 s2 s3 cs z)(hb:Bw z z'):pR w g off C s0 s1 s2 s3 cs z' :=
 ⟨h.gC,h.bC,ac hb aE h.c0,ac hb aE h.c1,ac hb aE h.c2,ac hb aE h.c3,by rw[hb.block _ (SS h.rowB)];exact h.rowB,by rw[hb.block _ (SS h.GY)];exact h.GY,aa h.bel hb⟩
theorem pR.set{C:Nat}(h:pR w g off C s0 s1 s2 s3 cs z)(cs':Array Value):pR w g off C s0 s1 s2 s3 cs' (z.setRow C cs') :=
 ⟨h.gC,h.bC,by rw[cell_setRow_other _ _ _ _ h.gC];exact h.c0,by rw[cell_setRow_other _ _ _ _ h.gC];exact h.c1,by rw[cell_setRow_other _ _ _ _ h.gC];exact h.c2,by rw[cell_setRow_other _ _ _ _ h.gC];exact h.c3,by rw[ni (by have:=h.bC;omega)];exact h.rowB,oN h.GY,below_setRow h.bel (Nat.le_of_lt h.bC) _⟩
theorem pR.cell{C:Nat}(h:pR w g off C s0 s1 s2 s3 cs z)(j:Nat):z.cell? ⟨C,j,AD⟩=cs[j]?:=by
 simp[AM,h.GY]
theorem pR.open{C:Nat}(h:pR w g off C s0 s1 s2 s3 cs z)(j:Nat):z.frozen? ⟨C,j,AD⟩=false:=by
 simp[A6,h.GY]
theorem OX(s:ByteArray)(w:World)(hs:s.size<=maxLen) :
 Rs 61 #[R s] w (I J (jO s)):=bN s w hs
theorem uC(s:ByteArray)(w:World)(hs:s.size<=1048576)(h5:bytes s=a0++32::(a1++32::(a2++32::(a3++32::r))))(h0:iW a0)(h1:iW a1)(h2:iW a2)(h3:iW a3) :
 Rb 65 #[R s] w (jF (Mm a0 a1 a2 a3 r) ⟨mkS a1,gP (mkS a2),jO (mkS a3),mkS r⟩):=by
 have ft:Hid (∀ws:List ByteArray,ws.map bytes=gU [] (bytes s)->5<=ws.length/\ws[0]?=AE (mkS a0)/\ws[1]?=AE (mkS a1)/\ws[2]?=AE (mkS a2)/\ws[3]?=AE (mkS a3)):=λws ba=>ws_five ba h5 h0 h1 h2 h3;have tu:Hid _:=K5 h5 h0;have hz:=congrArg BF h5;rw[aF] at hz
 simp at hz
 have z1:(mkS a1).size<=1048576:=by rw[cM];omega
 have z3:(mkS a3).size<=maxLen:=by rw[cM];unfold maxLen;omega
 have z4:(mkS r).size<=1048576:=by rw[cM];omega
 have dd:(mkS a0).size+(mkS a1).size+(mkS a2).size+(mkS a3).size+4<=s.size:=by simp only[cM];omega
 have HX:Hid (s.extract ((mkS a0).size+(mkS a1).size+(mkS a2).size+(mkS a3).size+4) s.size=mkS r):=by
  show s.extract _ _=_
  apply bd
  rw[aP,b8,h5]
  simp only[cM]
  have e:a0++32::(a1++32::(a2++32::(a3++32::r)))=(a0++[32]++a1++[32]++a2++[32]++a3++[32])++r:=by simp
  rw[e,List.drop_left' (by simp;omega),Aj (by omega)]
 clear hz h5 h0 h1 h2 h3;generalize Mm a0 a1 a2 a3 r=fW at *;generalize mkS a0=s0 at *;generalize mkS a1=s1 at *;generalize mkS a2=s2 at *;generalize mkS a3=s3 at *;generalize mkS r=s4 at *
 go_enter func65,ntmps65
 go_wp2_with fail;refine(yI s _ hs).mono ?_;rintro e w1⟨v,ws,rfl,⟨g,off,cap,rfl,_,_,aT⟩,ba,ay⟩;obtain⟨hlen,q0,q1,q2,q3⟩:=ft ws ba;have c0:=aT 0 s0 q0;have c1:=aT 1 s1 q1;have c2:=aT 2 s2 q2;have c3:=aT 3 s3 q3;clear ba aT q0 q1 q2 q3 ft;generalize ws.length=n at *
 have bn:w1.heap[w.heap.size]?=AE (U #[R ⟨#[]⟩,I J 0,I J 0,R ⟨#[]⟩] 94):=by
  rw[ay.block _ (by simp)]
  show(w.heap.push _)[w.heap.size]?=_
  simp
 have ee:w.heap.size<w1.heap.size:=At (by simp) ay.size
 have dr:Hid _:=aa (aG) ay
 have n5:¬((n:Nat):Int)<5:=by omega
 have n0:(0:Int)<n:=by omega
 have n1:(1:Int)<n:=by omega
 have n2:(2:Int)<n:=by omega
 have n3:(3:Int)<n:=by omega
 clear ay;go_wp2;have gj:=am c0
 apply OA (pR w g off w1.heap.size s0 s1 s2 s3 #[R s1,I J 0,I J (jO s3),R ⟨#[]⟩])
 .refine wp_region_noPanic ?_
  refine wp_region_held_drew (S:=λw'=>w'.cell? ⟨g,off+1,AD⟩=AE (R s1)/\w'.cell? ⟨g,off+3,AD⟩=AE (R s3)) (by kernel_rfl) ?_ (λan=>?_)
  .exact ⟨by simpa using c1,by simpa using c3⟩
  refine aZ 0 ?_;refine aZ 1 ?_;refine aZ 2 ?_;refine aZ 3 ?_;refine aZ 4 ?_;refine aZ 5 ?_
  simp only[Ax,aK]
  have NL:(w1.drew.alloc (U #[R ⟨#[]⟩,I J 0,I J 0,R ⟨#[]⟩] 94)).cell? ⟨g,off+1,AD⟩=AE (R s1)/\(w1.drew.alloc (U #[R ⟨#[]⟩,I J 0,I J 0,R ⟨#[]⟩] 94)).cell? ⟨g,off+3,AD⟩=AE (R s3) :=
   ⟨ac (aG) aE an.1,ac (aG) aE an.2⟩
  have cc:(w1.drew.alloc (U #[R ⟨#[]⟩,I J 0,I J 0,R ⟨#[]⟩] 94)).heap[w1.heap.size]?=AE (U #[R ⟨#[]⟩,I J 0,I J 0,R ⟨#[]⟩] 94):=by
   show(w1.heap.push _)[w1.heap.size]?=_
   simp
  have gx:pR w g off w1.heap.size s0 s1 s2 s3 #[R ⟨#[]⟩,I J 0,I J 0,R ⟨#[]⟩] (w1.drew.alloc (U #[R ⟨#[]⟩,I J 0,I J 0,R ⟨#[]⟩] 94)):=by
   have dm:Bw w1 (w1.drew.alloc (U #[R ⟨#[]⟩,I J 0,I J 0,R ⟨#[]⟩] 94)):=(AO _ _).drew.alloc aE _
   exact⟨by omega,ee,ac dm aE c0,ac dm aE c1,ac dm aE c2,ac dm aE c3,by rw[dm.block _ ee];exact bn,cc,aa dr dm⟩
  have eV:=gx.set #[R s1,I J 0,I J (jO s3),R ⟨#[]⟩];refine ny 6 8 rfl rfl (λK hK=>?_) (λK hK=>?_)
  focus
   go_simp;refine(OX s3 _ z3).mono ?_;rintro e w2⟨rfl,rfl⟩;refine hK _ _ an (λ_=>?_);clear hK K;refine aM 7 ?_ rfl ?_ ?_;rotate_left
   .intro w ca;(try dsimp only at ca);go_simp;try with_reducible rfl
   simp only[Ax,aK]
   refine be 8 (λK hK=>?_);go_simp;refine hK _ _ NL (λ_=>?_);clear hK K
  rotate_left
  focus
   go_simp;refine hK _ _ NL (λ_=>?_);clear hK K;refine be 6 (λK hK=>?_);go_simp;refine(OX s3 _ z3).mono ?_;rintro e w2⟨rfl,rfl⟩;refine hK _ _ NL (λ_=>?_);clear hK K;refine aM 7 ?_ rfl ?_ ?_;rotate_left
   .intro w ca;(try dsimp only at ca);go_simp;try with_reducible rfl
   simp only[Ax,aK]
  rotate_left
  all_goals
   refine be 9 (λK hK=>?_)
   refine wp_store_row 94 _ _ rfl w1.heap.size #[R s1,I J 0,I J (jO s3),R ⟨#[]⟩] rfl rfl 94 _ cc (by kernel_rfl) rfl (lZ _ _ _ _) ?_
   refine hK.out _ _ ⟨eV.c1,eV.c3⟩ (λ_=>?_);clear hK K
   refine wpAnyH_done (by kernel_rfl) ?_ _
   refine NoPanic.normal ?_;refine⟨rfl,?_,eV⟩
   simp only[Ax,List.getElem_toArray,List.getElem_cons_succ,List.getElem_cons_zero]
   all_goals rfl
 .intro z hR
  clear c0 c1 c2 c3 bn dr;generalize w1.heap.size=C at *;have xQ:Hid (pR w g off C s0 s1 s2 s3 #[R s1,I J (mo 0 s2),I J (jO s3),R ⟨#[]⟩] z):=hR;clear hR gj;go_wp2
  go_loopw [6] (λi wr=>∃k:Nat,k<=5/\i=I J k/\Hid (pR w g off C s0 s1 s2 s3 #[R s1,I J (mo k s2),I J (jO s3),R ⟨#[]⟩] wr)) (λi _=>5-(intOf i).toNat)
  case atStart=>exact⟨0,AS _,rfl,xQ⟩
  case round =>
   obtain⟨k,hk,rfl,HR⟩:=hrel;clear xQ
   by_cases ad:k<5
   .have gh:(k:Int)<5:=by omega
    go_wp2_with fail;refine(nX _).mono ?_;rintro e w2⟨rfl,cL⟩
    have b3:Hid (pR w g off C s0 s1 s2 s3 #[R s1,I J (mo k s2),I J (jO s3),R ⟨#[]⟩] w2):=HR.out.step (by rw[cL];exact(aG))
    clear cL HR;have c2:=b3.out.c2
    have eh:∀w3:World,w3=w2.drew.alloc (U #[R ik,R oQ,R lF,R lD,R lC] 9)->Bw w2 w3:=by
     rintro w3 rfl;exact(AO _ _).drew.alloc aE _
    have HL:Hid (∀w3:World,w3=w2.drew.alloc (U #[R ik,R oQ,R lF,R lD,R lC] 9)->Bw w2 w3):=eh;clear eh
    have eb:(0:Int)<=(k:Int):=by omega
    go_wp2
    apply OA (λw3=>pR w g off C s0 s1 s2 s3 #[R s1,I J (mo k s2),I J (jO s3),R ⟨#[]⟩] w3)
    .refine wp_region_noPanic ?_
     refine wp_region_held_drew (S:=λw'=>w'.cell? ⟨g,off+2,AD⟩=AE (R s2)) (by kernel_rfl) (by simpa using c2) (λan=>?_)
     refine aZ 1 ?_;refine aZ 4 ?_;refine aZ 5 ?_;refine aZ 6 ?_
     simp only[Ax,aK]
     refine be 0 (λK hK=>?_);go_simp;refine(nX _).mono ?_;rintro e w3⟨rfl,e9⟩;have cy:Bw w2 w3:=HL.out w3 e9
     have t0:w3.cell? ⟨w2.heap.size,k,AD⟩=AE (R (iA k)):=by
      rw[e9]
      have h5:k=0\/k=1\/k=2\/k=3\/k=4:=by omega
      rcases h5 with rfl|rfl|rfl|rfl|rfl<;>simp[go_sem,iA]
     have bV:=b3.step cy;have d2:=bV.c2;refine hK _ _ d2 (λ_=>?_);refine ry (T:=λw'=>w'.cell? ⟨g,off+2,AD⟩=AE (R s2)/\w'.cell? ⟨w2.heap.size,k,AD⟩=AE (R (iA k))) (λ_ h=>h.1) _ _ _ _ ?_;have e5:=And.intro d2 t0;refine aZ 2 ?_;refine aZ 3 ?_;refine aZ 7 ?_
     simp only[Ax,aK]
     refine vI ?_;refine NoPanic.normal ?_;exact⟨rfl,rfl,bV⟩
    .intro w3 dq
     clear c2 b3 HL;have bV:Hid _:=dq
     by_cases hw:iA k=s2
     .have h1:((iA k).toList==s2.toList)=true:=GG hw
      have HW:Hid (mo (k+1) s2=(k:Int)+1):=if_pos hw;have x0:=dq.cell 0;have x1:=dq.cell 1;have x2:=dq.open 1;clear hw dq;rw[h1];go_wp2
      refine⟨⟨k+1,by omega,by go_num,?_⟩,by simp[intOf];omega⟩
      rw[HW.out,setCell_eq_setRow _ _ _ _ _ _ _ bV.out.GY];exact bV.set _
     .have h1:((iA k).toList==s2.toList)=false:=Am hw
      have HW:Hid (mo (k+1) s2=mo k s2):=if_neg hw;clear hw dq;rw[h1];go_wp2
      exact⟨⟨k+1,by omega,by go_num,by rw[HW.out];exact bV⟩,by simp[intOf];omega⟩
   .have HK:Hid (k=5):=by show k=5;omega
    have gh:¬(k:Int)<5:=by omega
    go_wp2_with fail;refine(nX _).mono ?_;rintro e w2⟨rfl,cL⟩
    have b3:Hid (pR w g off C s0 s1 s2 s3 #[R s1,I J (mo k s2),I J (jO s3),R ⟨#[]⟩] w2):=HR.out.step (by rw[cL];exact(aG))
    clear cL HR;rw[HK.out,Jg] at b3;have c0:=b3.out.c0;have c1:=b3.out.c1;have c2:=b3.out.c2;have c3:=b3.out.c3
    have v1:IntKind.i64.wrap ((s0.size:Int)+(s1.size:Int))=(s0.size:Int)+(s1.size:Int):=by rw[A2];omega
    have v2:IntKind.i64.wrap ((s0.size:Int)+(s1.size:Int)+(s2.size:Int))=(s0.size:Int)+(s1.size:Int)+(s2.size:Int):=by rw[A2];omega
    have v3:IntKind.i64.wrap ((s0.size:Int)+(s1.size:Int)+(s2.size:Int)+(s3.size:Int))=(s0.size:Int)+(s1.size:Int)+(s2.size:Int)+(s3.size:Int):=by rw[A2];omega
    have v4:IntKind.i64.wrap ((s0.size:Int)+(s1.size:Int)+(s2.size:Int)+(s3.size:Int)+4)=(s0.size:Int)+(s1.size:Int)+(s2.size:Int)+(s3.size:Int)+4:=by rw[A2];omega
    go_wp2
    go_quiet (fail)
    have bV:Hid (pR w g off C s0 s1 s2 s3 #[R s1,I J (gP s2),I J (jO s3),R ⟨#[]⟩] (w2.drewN nq)):=b3.step (below_drewN (AO _ _) _);clear c0 c1 c2 c3 v1 v2 v3 v4 b3;generalize w2.drewN nq=w3 at bV ⊢;obtain⟨m,hm⟩:∃m:Nat,m=s0.size+s1.size+s2.size+s3.size+4:=⟨_,rfl⟩
    have cl:((s0.size:Int)+(s1.size:Int)+(s2.size:Int)+(s3.size:Int)+4)=(m:Int):=by omega
    rw[cl];rw[<-hm] at HX dd;have hX:=HX.out;have HM:Hid (m=s0.size+s1.size+s2.size+s3.size+4):=hm;clear hm cl HX;have x0:w3.cell? ⟨C,0,AD⟩=AE (R s1):=bV.out.cell 0;have x1:w3.cell? ⟨C,1,AD⟩=AE (I J (gP s2)):=bV.out.cell 1;have x2:w3.cell? ⟨C,2,AD⟩=AE (I J (jO s3)):=bV.out.cell 2;have x3:w3.cell? ⟨C,3,AD⟩=AE (R ⟨#[]⟩):=bV.out.cell 3;have x4:w3.frozen? ⟨C,3,AD⟩=false:=bV.out.open 3
    have fA:Hid (pR w g off C s0 s1 s2 s3 #[R s1,I J (gP s2),I J (jO s3),R s4] (w3.setCell ⟨C,3,AD⟩ (R s4))):=by
     show pR _ _ _ _ _ _ _ _ _ _
     rw[setCell_eq_setRow _ _ _ _ _ _ _ bV.out.GY];exact bV.out.set _
    have dT:=fA.out.GY
    go_wp2_with (refine wpList_load_row rfl 94 _ rfl C rfl 94 _ _ _ dT underlying94 rfl (by kernel_rfl) ?_)
    refine(vX ⟨s1,gP s2,jO s3,s4⟩ _ z1 z4).mono ?_;rintro e w4⟨rfl,bY⟩;have ev:Hid _:=fA.step bY;have O8:=ev.out.rowB;have dy:=ev.out.GY
    cases fW
    .have h1:((fe ⟨s1,gP s2,jO s3,s4⟩).toList==s.toList)=false:=Am λe=>by cases tu.out.1 e
     go_wp2_with (refine cS w.heap.size #[R ⟨#[]⟩,I J 0,I J 0,R ⟨#[]⟩] O8 ?_ (h1:=(lZ _ _ _ _)))
     exact bv (jF false j3) ⟨rfl,bL ev.bel⟩ (by simp[results,results65,go_sem,jF,yT,j3,bU O8])
    .have h1:((fe ⟨s1,gP s2,jO s3,s4⟩).toList==s.toList)=true:=GG (tu.out.2 rfl)
     go_wp2_with (first|refine wpList_load_row rfl 94 _ rfl C rfl 94 _ _ _ dy underlying94 rfl (by kernel_rfl) ?_|refine cS w.heap.size #[R s1,I J (gP s2),I J (jO s3),R s4] O8 ?_ (h1:=(lZ _ _ _ _)))
     exact bv (jF true ⟨s1,gP s2,jO s3,s4⟩) ⟨rfl,bL ev.bel⟩ (by simp[results,results65,go_sem,jF,yT,bU O8])
open Go.RowKit
open Go.RowKit
theorem C9(h:i<10):(UInt8.ofNat (48+i)).toNat=48+i:=by
 rw[UInt8.toNat_ofNat']
 exact Nat.mod_eq_of_lt (by omega)
theorem pJ:∀n:Nat,∀c∈Lib.decDigits n,48<=c.toNat/\c.toNat<=57:=by
 intro n
 induction n using BD with
 |_ n ih =>
  intro c hc
  by_cases h:n<10
  .rw [Lib.decDigits_one h] at hc
   rw[List.mem_singleton.1 hc,C9 h];omega
  .rw [Lib.decDigits,dif_neg h] at hc
   rcases List.mem_append.1 hc with hc|hc
   .exact ih (n / 10) (by omega) c hc
   .rw [List.mem_singleton.1 hc,C9 (by omega)];omega
theorem UF(n:Nat):Lib.decDigits n≠[]:=by
 by_cases h:n<10
 .rw [Lib.decDigits_one h];simp
 .rw [Lib.decDigits,dif_neg h];simp
theorem UG:∀n:Nat,1<=n->((Lib.decDigits n).getD 0 0).toNat≠48:=by
 intro n
 induction n using BD with
 |_ n ih =>
  intro hn
  by_cases h:n<10
  .rw [Lib.decDigits_one h]
   show(UInt8.ofNat (48+n)).toNat≠48
   rw[C9 h];omega
  .rw [Lib.decDigits,dif_neg h]
   have h1:=ih (n / 10) (by omega) (by omega)
   have h2:=UF (n / 10)
   cases hl:Lib.decDigits (n / 10) with
   |nil=>exact absurd hl h2
   |cons a l=>rw[hl] at h1;exact h1
theorem Fp(l m:List UInt8):∀k,k<=l.length->fV (mkS (l++m)) k=fV (mkS l) k
 |0,_=>rfl
 |k+1,h=>by
  show fV (mkS (l++m)) k*10+(((l++m).getD k 0).toNat-48)=fV (mkS l) k*10+((l.getD k 0).toNat-48)
  rw[Fp l m k (by omega)]
  congr 3
  simp[List.getD,List.getElem?_append_left (show k<l.length by omega)]
theorem Fj:∀n:Nat,fV (mkS (Lib.decDigits n)) (Lib.decDigits n).length=n:=by
 intro n
 induction n using BD with
 |_ n ih =>
  by_cases h:n<10
  .rw [Lib.decDigits_one h]
   show 0*10+((UInt8.ofNat (48+n)).toNat-48)=n
   rw[C9 h];omega
  .have h1:=ih (n / 10) (by omega)
   rw[Lib.decDigits,dif_neg h];rw[An,List.length_singleton]
   show fV (mkS (Lib.decDigits (n / 10)++[UInt8.ofNat (48+n % 10)])) (Lib.decDigits (n / 10)).length*10+(((Lib.decDigits (n / 10)++[UInt8.ofNat (48+n % 10)]).getD (Lib.decDigits (n / 10)).length 0).toNat-48)=n
   rw[Fp _ _ _ aE,h1]
   rw[show(Lib.decDigits (n / 10)++[UInt8.ofNat (48+n % 10)]).getD (Lib.decDigits (n / 10)).length 0=UInt8.ofNat (48+n % 10) by simp[List.getD]]
   rw[C9 (by omega)]
   omega
theorem Lh(h1:1<=n)(h2:n<10000000):eY (dL n)=true:=by
 have hz:=aR n h2
 have hp:0<(dL n).size:=by
  show 0<(Lib.decDigits n).toArray.size
  rw[BE];exact List.length_pos_iff.2 (UF n)
 unfold eY;rw[AN,AN]
 refine⟨by simp[fE];omega,?_,?_⟩
 .unfold pz
  rw[Bool.not_eq_true',Bool.and_eq_false_iff]
  right
  have:=UG n h1
  show(((Lib.decDigits n).getD 0 0).toNat==48)=false
  exact beq_eq_false_iff_ne.2 this
 .unfold ja
  rw[List.all_eq_true];intro c hc;have:=pJ n c hc;unfold q8
  simp
  omega
theorem Qk{n:Int}(h:fE n 1 1000000=true):jO (dL n.toNat)=n:=by
 have hn:1<=n/\n<=1000000:=by simpa[fE] using h
 unfold jO
 rw[Lh (by omega) (by omega)]
 show((fV (dL n.toNat) (dL n.toNat).size:Nat):Int)=n
 have h1:=Fj n.toNat
 rw[show(dL n.toNat).size=(Lib.decDigits n.toNat).length from BE,show dL n.toNat=mkS (Lib.decDigits n.toNat) from rfl,h1]
 omega
theorem lJ{f:ByteArray}(h:dJ f=true):iW (bytes f):=by
 intro c hc e;unfold dJ at h;rw[AN] at h;have h2:=List.all_eq_true.1 h.2 c hc;rw[e] at h2
 revert h2
 decide
theorem l7(n:Nat):iW (bytes (dL n)):=by
 intro c hc e;have:=pJ n c hc;rw[e] at this
 revert this
 decide
theorem Fq(what:Int):iW (bytes (kN what)):=by
 unfold kN
 split
 .generalize (what-1).toNat=k
  match k with
  |0|1|2|3|4=>exact λc hc e=>by subst e;revert hc;decide
  |k+5=>exact λc hc=>by cases hc
 .exact λc hc=>by cases hc
theorem J9:iW zZ:=λc hc e=>by subst e;revert hc;decide
theorem what_of(h:fE what 1 5=true):gP (kN what)=what:=by
 have h1:1<=what/\what<=5:=by simpa[fE] using h
 rcases(show what=1\/what=2\/what=3\/what=4\/what=5 by omega) with rfl|rfl|rfl|rfl|rfl<;>decide
theorem FW(h:jA c=true)(h5:bytes (jE c)=a0++32::(a1++32::(a2++32::(a3++32::r))))(h0:iW a0)(h1:iW a1)(h2:iW a2)(h3:iW a3) :
 (⟨mkS a1,gP (mkS a2),jO (mkS a3),mkS r⟩:eH)=c/\Mm a0 a1 a2 a3 r=true:=by
 have hB:=h;unfold jA at h;rw[AN,AN,AN] at h;obtain⟨hw,hf,hn,hv⟩:=h;rw[cE] at h5;obtain⟨e0,h6⟩:=xX J9 h0 h5;obtain⟨e1,h7⟩:=xX (lJ hf) h1 h6;obtain⟨e2,h8⟩:=xX (Fq _) h2 h7;obtain⟨e3,e4⟩:=xX (l7 _) h3 h8;clear h5 h6 h7 h8;subst e0 e1 e2 e3 e4
 have he:(⟨mkS (bytes c.f),gP (mkS (bytes (kN c.what))),jO (mkS (bytes (dL c.num.toNat))),mkS (bytes c.v)⟩:eH)=c:=by
  rw[cA,cA,cA,cA,what_of hw,Qk hn]
 refine⟨he,?_⟩;unfold Mm;rw[he,hB]
 simp
theorem QW(h:jA c=true):5<=(gU [] (bytes (jE c))).length:=by
 unfold jA at h;rw[AN,AN,AN] at h;obtain⟨hw,hf,hn,hv⟩:=h;rw[cE,bi _ _ _ J9,bi _ _ _ (lJ hf),bi _ _ _ (Fq _),bi _ _ _ (l7 _)];have:=oh (bytes c.v) []
 simp only[BB]
 omega
theorem rO(s:ByteArray)(hs:s.size<=1048576):∃(d:eH) (b:Bool),
 (∀w:World,Rb 65 #[R s] w (AI #[AG #[R d.f,I J d.what,I J d.num,R d.v],AH b])) /\
 (∀w:World,jh w->jP w->Rb 147 #[R s] w (AI #[AG #[R d.f,I J d.what,I J d.num,R d.v],AH b])) /\
 (b=true->jA d=true/\fe d=s)/\(∀c,jA c=true->jE c=s->b=true/\d=c)/\d.f.size<=s.size/\d.v.size<=s.size:=by
 rcases five (bytes s) with h|⟨a0,a1,a2,a3,r,h5,h0,h1,h2,h3⟩
 .refine ⟨j3,false,λw=>?_,λw _ hm=>?_,(λe=>by cases e),λc hc e=>?_,AS _,AS _⟩
  .exact Bf s w hs h
  .exact BH s w hs hm h
  .have:=QW hc
   rw[e] at this
   omega
 .have hl:s.size=a0.length+1+(a1.length+1+(a2.length+1+(a3.length+1+r.length))):=by
   rw[<-aF,h5]
   simp only[An,BB]
   omega
  cases b6:Mm a0 a1 a2 a3 r
  .refine ⟨j3,false,λw=>?_,λw eA hm=>?_,(λe=>by cases e),λc hc e=>?_,AS _,AS _⟩
   .have hh:=uC s w hs h5 h0 h1 h2 h3
    rw[b6] at hh;exact hh
   .have hh:=uG s w hs hm eA h5 h0 h1 h2 h3
    rw[b6] at hh;exact hh
   .subst e
    have:=(FW hc h5 h0 h1 h2 h3).2;rw[b6] at this
    cases this
  .refine ⟨⟨mkS a1,gP (mkS a2),jO (mkS a3),mkS r⟩,true,λw=>?_,λw eA hm=>?_,λ_=>⟨?_,(K5 h5 h0).2 b6⟩,λc hc e=>⟨rfl,?_⟩,?_,?_⟩
   .have hh:=uC s w hs h5 h0 h1 h2 h3
    rw[b6] at hh;exact hh
   .have hh:=uG s w hs hm eA h5 h0 h1 h2 h3
    rw[b6] at hh;exact hh
   .unfold Mm at b6
    rw[AN] at b6;exact b6.2
   .subst e
    exact(FW hc h5 h0 h1 h2 h3).1
   .show (mkS a1).size<=_
    rw[cM];omega
   .show (mkS r).size<=_
    rw[cM];omega
end Go.Proofs.YtolokangldmodaaGreatDoor
namespace Go.Proofs.YtolokangldmodaaGreatDoor.Pa
open Go.RowKit Sd
theorem da(h:w.ownsRow base e size v n xs)(hb:Bw w w'):w'.ownsRow base e size v n xs:=by
 obtain⟨h1,h2⟩:=h;refine⟨h1,?_⟩
 rcases h2 with h2|⟨g,cap,cur,hv,hg,hh,rest⟩
 .exact .inl h2
 .exact .inr ⟨g,cap,cur,hv,hg,(hb.block g (Array.getElem?_eq_some_iff.1 hh).1).trans hh,rest⟩
theorem He(h:w.ownsRow base e size v n xs):∀k,v.ownBlock=AE k->base<=k:=by
 intro k hk
 rcases h.2 with⟨rfl,_⟩|⟨g,cap,cur,rfl,hg,_⟩
 .cases hk
 .cases hk;exact hg
theorem OQ(h:w.ownsRow base e size v n xs):∀k,v.ownBlock=AE k->k<w.heap.size:=by
 intro k hk
 rcases h.2 with⟨rfl,_⟩|⟨g,cap,cur,rfl,hg,hc,_⟩
 .cases hk
 .cases hk;exact(Array.getElem?_eq_some_iff.1 hc).1
theorem nC(h:w.ownsRow base e size v n xs):∃a c,v=AF a n c:=by
 rcases h.2 with⟨rfl,h0⟩|⟨g,cap,cur,rfl,_⟩
 .exact ⟨AD,0,by rw[h0]⟩
 .exact ⟨_,cap,rfl⟩
theorem Tp{W':World}{row:Option Nat}(h:W.ownsRow base e size v n xs)(hg:W.grownBy W' row)(hr:∀k,v.ownBlock=AE k->AE k≠row):W'.ownsRow base e size v n xs:=by
 refine⟨h.1,?_⟩
 rcases h.2 with h2|⟨g,cap,cur,hv,hb,hc,rest⟩
 .exact .inl h2
 .refine .inr ⟨g,cap,cur,hv,hb,?_,rest⟩
  exact(hg.block g (Array.getElem?_eq_some_iff.1 hc).1 (hr g (by rw[hv];rfl))).trans hc
theorem tL{base':Nat}(h:w.ownsRow base e size v n xs)(hb:base'<=base):w.ownsRow base' e size v n xs:=by
 refine⟨h.1,?_⟩
 rcases h.2 with h2|⟨g,cap,cur,hv,hg,rest⟩
 .exact .inl h2
 .exact .inr ⟨g,cap,cur,hv,by omega,rest⟩
def o8(e:eF):List ByteArray:=match dG e.fs 4 with
 |some f=>dA f.v
 |none=>[]
theorem dM{T:TypeId}(h:w.heap[b]?=AE (U C T (0,0)))(hc:C[i]?=AE u):w.cell? ⟨b,i,AD⟩=AE u:=by simp[AM,h,hc]
end Go.Proofs.YtolokangldmodaaGreatDoor.Pa
