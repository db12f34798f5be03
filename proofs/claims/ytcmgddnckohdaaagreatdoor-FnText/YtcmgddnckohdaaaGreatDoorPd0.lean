import Derived.Test.YtcmgddnckohdaaaGreatDoorLs2
import Derived.Test.YtcmgddnckohdaaaGreatDoorFo
import Derived.Test.YtcmgddnckohdaaaGreatDoorPrint3
set_option maxRecDepth 100000
set_option maxHeartbeats 6400000
set_option linter.unusedSimpArgs false
set_option linter.unusedVariables false
namespace Go.Proofs.YtcmgddnckohdaaaGreatDoor.Tx
open Go.RowKit Sd
noncomputable def fV (s:ByteArray):Bk×Nat×Int:=bif jg s then (([],[],[]),0,1) else ed eH ([],[],[]) 0 (fe s)
theorem vF {rd:ByteArray→dP×Bool}:∀ (L:List ByteArray) (b:Bk) (i:Nat),(ed rd b i L).2.2≠0→(ed rd b i L).1=([],[],[])
  | [],b,i,h=>absurd rfl h
  | l::r,b,i,h=>by
    by_cases h0:eU rd b l=0
    · rw [bT h0] at h ⊢
      exact vF r _ _ h
    · rw [mZ h0]
theorem vE {rd:ByteArray→dP×Bool}:∀ (L:List ByteArray) (b:Bk) (i:Nat),(ed rd b i L).2.2=0→(ed rd b i L).2.1=0
  | [],b,i,h=>rfl
  | l::r,b,i,h=>by
    by_cases h0:eU rd b l=0
    · rw [bT h0] at h ⊢
      exact vE r _ _ h
    · rw [mZ h0] at h
      exact absurd h h0
theorem Ab {s:ByteArray} (h:(fV s).2.2≠0):(fV s).1=([],[],[]):=by
  unfold fV at h ⊢
  cases hl:jg s
  · rw [hl] at h;exact vF _ _ _ h
  · rfl
theorem Jh {s:ByteArray} (h:(fV s).2.2=0):(fV s).2.1=0:=by
  unfold fV at h ⊢
  cases hl:jg s
  · rw [hl] at h;exact vE _ _ _ h
  · rfl
theorem Hw {L:List ByteArray} {k:Nat} (h:k<L.length):dE L k=L[k]:=by simp [dE,h]
theorem Di {w:World} {v:Value} {L:List ByteArray} {X:Nat} {T:TypeId} {a1 a3 a5:Option Addr} {n1 n2 n3 a2 a4 a6:Nat} {C:Array Value} (h:dV w v L) (hX:w.heap[X]?=some (.cells #[.slice a1 n1 a2,.slice a3 n2 a4,.slice a5 n3 a6] T (0,0))):dV (w.setRow X C) v L:=by
  obtain ⟨g,off,cap,rfl,h1,h2,h3⟩:=h;refine ⟨g,off,cap,rfl,h1,h2,fun i x hx=>?_⟩;have hc:=h3 i x hx
  have hne:g≠X:=fun e=>by
    subst e
    simp only [World.cell?,hX] at hc
    generalize off+i=q at hc
    match q,hc with
    | 0,hc=>simp at hc
    | 1,hc=>simp at hc
    | 2,hc=>simp at hc
    | q+3,hc=>simp at hc
  have:(w.setRow X C).heap[g]?=w.heap[g]?:=setRow_other _ _ _ _ hne
  simp only [World.cell?,this] at hc ⊢
  exact hc
structure RT (w:World) (X:Nat) (vl:Value) (L:List ByteArray) (R:Bk×Nat×Int) (k:Nat) (b:Bk) (x y z:Value) (wr:World):Prop where
  below:Below w.heap.size w wr
  r:wr.heap[w.heap.size]?=some (.cells #[.slice none 0 0,.slice none 0 0,.slice none 0 0] 30 (0,0))
  bk:wr.heap[X]?=some (.cells #[x,y,z] 30 (0,0))
  lt:w.heap.size<X
  new:df w.heap.size wr x y z b.1 b.2.1 b.2.2
  str:dV wr vl L
  gd:Gd b
  par:R=ed eH b k (L.drop k)
theorem RT.call {w wr wr':World} {X:Nat} {vl:Value} {L:List ByteArray} {R:Bk×Nat×Int} {k:Nat} {b:Bk} {x y z:Value} (h:RT w X vl L R k b x y z wr) (hb:Below wr.heap.size wr wr'):RT w X vl L R k b x y z wr' :=
  ⟨aa h.below hb,(hb.block _ (Array.getElem?_eq_some_iff.1 h.r).1).trans h.r,(hb.block _ (Array.getElem?_eq_some_iff.1 h.bk).1).trans h.bk,h.lt,h.new.keep hb,h.str.keep hb,h.gd,h.par⟩
theorem RT.put {w wr:World} {X:Nat} {vl:Value} {L:List ByteArray} {R:Bk×Nat×Int} {k:Nat} {b b':Bk} {x y z x' y' z':Value} (h:RT w X vl L R k b x y z wr) (hn:df w.heap.size wr x' y' z' b'.1 b'.2.1 b'.2.2) (hg:Gd b') (hp:R=ed eH b' (k+1) (L.drop (k+1))):RT w X vl L R (k+1) b' x' y' z' (wr.setRow X #[x',y',z']):=by
  have hlt:=h.lt;obtain ⟨a1,a2,a3,a4,a5,a6,rfl,rfl,rfl⟩:=h.new.slices
  refine ⟨below_setRow h.below (by omega) _,?_,setRow_heap _ _ _ _ _ _ h.bk,hlt,hn.box h.bk (aD _ X _),Di h.str h.bk,hg,hp⟩
  rw [setRow_other _ _ _ _ (by omega)]
  exact h.r
theorem q9:∀ (l cur x:List UInt8),x∈kM cur l→x.length≤cur.length+l.length
  | [],cur,x,h=>by simp [kM] at h;subst h;simp
  | c::r,cur,x,h=>by
    rw [kM] at h
    split at h
    · rcases List.mem_cons.1 h with rfl | h
      · simp
      · have:=q9 r [] x h
        simp at this ⊢
        omega
    · have:=q9 r (cur++[c]) x h
      simp at this ⊢
      omega
theorem qU (s:ByteArray):∀ l∈fe s,l.size≤s.size:=fun x hx=>by
  have hx:x∈fB s:=by
    unfold fe at hx
    split at hx
    · exact List.dropLast_subset _ hx
    · exact hx
  unfold fB at hx;obtain ⟨l,hl,rfl⟩:=List.mem_map.1 hx;have:=q9 _ _ _ hl;rw [aK,List.length_nil,Nat.zero_add] at this;exact this
theorem Bv (s : ByteArray) (w : World) (hs : s.size ≤ 1048576) (hsa : ib w) (IG : jo w) :
    Calls Tryz.prog 30 #[.string s] w fun e w'=>Below w.heap.size w w' ∧
      (((fV s).2.2≠0∧e=.returned (eY (fV s).2.1 (fV s).2.2)) ∨
       ((fV s).2.2=0∧∃ x y z,e=.returned (.tuple #[.agg #[x,y,z],.nilIface])∧df w.heap.size w' x y z (fV s).1.1 (fV s).1.2.1 (fV s).1.2.2)):=by
  have Hl:=aq hsa;have MU:=aq IG;clear hsa IG;have HTL:Hid (∀ wx:World,Below w.heap.size w wx→Calls Tryz.prog 50 #[.string s] wx fun e w'=>e=.returned (.bool (jg s))∧Below wx.heap.size wx w'):=fun wx hx=>C9 s wx hs (MU.out.keep hx);have FK:Hid (fV s=bif jg s then (([],[],[]),0,1) else ed eH ([],[],[]) 0 (fe s)):=rfl;generalize fV s=R at *;generalize jg s=lb at *
  go_enter Tryz.func30,Tryz.ntmps30
  go_wp2_with fail;refine (HTL.out _ (aM)).mono ?_;rintro e w1 ⟨rfl,hb1⟩
  have H1:Hid (Below w.heap.size w w1∧w1.heap[w.heap.size]?=some (.cells #[.slice none 0 0,.slice none 0 0,.slice none 0 0] 30 (0,0))):=⟨aa (aM) hb1,(hb1.block _ (by simp)).trans (am w _)⟩
  clear hb1;have g2:=H1.out.2
  cases lb
  · have HP:Hid (R=ed eH ([],[],[]) 0 (fe s)):=FK.out
    clear FK g2;go_wp2_with fail;have HA1:Hid (Below w1.heap.size w1 (w1.alloc (.cells #[.slice none 0 0,.slice none 0 0,.slice none 0 0] 30))):=(aM);refine (vI s _ hs (MU.out.keep (aa H1.out.1 HA1.out))).mono ?_;rintro e w2 ⟨v,rfl,hv2,hb2⟩;have o5:=aq hv2;obtain ⟨g,off,cap,rfl,hlc,hcm,-⟩:=hv2;unfold maxLen at hcm;have HX:Hid (w.heap.size<w1.heap.size):=(Array.getElem?_eq_some_iff.1 H1.out.2).1
    have HI0:Hid (RT w w1.heap.size (.slice (some ⟨g,off,none⟩) (fe s).length cap) (fe s) R 0 ([],[],[]) (.slice none 0 0) (.slice none 0 0) (.slice none 0 0) w2):=by
      have b1:=aa H1.out.1 HA1.out
      exact ⟨aa b1 hb2,(hb2.block _ (by rw [World.size_alloc];have:=HX.out;omega)).trans ((HA1.out.block _ HX.out).trans H1.out.2),(hb2.block _ (by rw [World.size_alloc];omega)).trans (am w1 _),HX.out,df.none _ _,o5.out,Gd.none,HP.out⟩
    have HLS:Hid (∀ l∈fe s,l.size≤s.size):=qU s;clear hb2 o5 HA1 H1 HP;generalize fe s=L at *;generalize w1.heap.size=X at *;go_wp2_with fail
    go_loopw [17] (fun i wr=>∃ (k:Nat) (b:Bk) (a1 a3 a5:Option Addr) (a2 a4 a6:Nat),k≤L.length∧i=.int .i64 k∧Hid (RT w X (.slice (some ⟨g,off,none⟩) L.length cap) L R k b (.slice a1 b.1.length a2) (.slice a3 b.2.1.length a4) (.slice a5 b.2.2.length a6) wr)) (fun i _=>L.length-(intOf i).toNat)
    case atStart=>exact ⟨0,([],[],[]),none,none,none,0,0,0,Nat.zero_le _,rfl,HI0.out⟩
    case round =>
      obtain ⟨k,b,a1,a3,a5,a2,a4,a6,hk,rfl,HI⟩:=hrel
      by_cases hlt:k<L.length
      · have c0:wr.cell? ⟨g,off+k,none⟩=some (.string (dE L k)):=HI.out.str.cell k hlt
        have hk0:(0:Int)≤(k:Int):=by omega
        have hk1:(k:Int)<(L.length:Int):=by omega
        have hbk:=HI.out.bk
        obtain ⟨d0,d1,d2⟩:wr.cell? ⟨X,0,none⟩=some (.slice a1 b.1.length a2)∧wr.cell? ⟨X,1,none⟩=some (.slice a3 b.2.1.length a4)∧wr.cell? ⟨X,2,none⟩=some (.slice a5 b.2.2.length a6):=by simp [World.cell?,hbk]
        go_wp2_with fail
        have HDR:Hid (L.drop k=dE L k::L.drop (k+1)):=by
          show _=_
          rw [List.drop_eq_getElem_cons hlt]
          simp [dE,hlt]
        have hsz:(dE L k).size≤1048576:=Nat.le_trans (HLS.out _ (by rw [Hw hlt];exact List.getElem_mem hlt)) hs
        refine (Bf ((k:Int)+1) (dE L k) _ _ _ b w.heap.size wr HI.out.new HI.out.below.size HI.out.gd hsz (Hl.out.keep HI.out.below) (MU.out.keep HI.out.below)).mono ?_;rintro e w3 ⟨hb3,⟨hc,rfl⟩ | ⟨hc,x,y,z,rfl,hn⟩⟩
        · have HI3:Hid (RT w X (.slice (some ⟨g,off,none⟩) L.length cap) L R k b (.slice a1 b.1.length a2) (.slice a3 b.2.1.length a4) (.slice a5 b.2.2.length a6) (w3.alloc (.cells #[.slice none 0 0,.slice none 0 0,.slice none 0 0] 30))):=(HI.out.call hb3).call (aM)
          have HP:Hid (R=(([],[],[]),k+1,eU eH b (dE L k))):=HI.out.par.trans (by rw [HDR.out,mZ hc])
          have HC:=aq hc;unfold eY;clear d0 d1 d2 c0 HI hb3 hc hbk;generalize eU eH b (dE L k)=lc at *;have g2:=HI3.out.r
          go_wp2_with (refine wpList_store_row rfl 30 _ _ rfl (w.heap.size) #[.slice none 0 0,.slice none 0 0,.slice none 0 0] rfl rfl 30 _ g2 (by kernel_rfl) rfl (by simp [Value.oneCell']) ?_)
          exact bodyPost_ret (v:=eY ((k:Int)+1) lc) (by simp [results,Tryz.results30,go_sem,cell_setRow_same _ _ _ _ _ _ _ g2,eY]) rfl ⟨below_setRow HI3.out.below aG _,.inl ⟨by rw [HP.out];exact HC.out,by rw [HP.out];rfl⟩⟩
        · have HI3:Hid (RT w X (.slice (some ⟨g,off,none⟩) L.length cap) L R k b (.slice a1 b.1.length a2) (.slice a3 b.2.1.length a4) (.slice a5 b.2.2.length a6) w3):=HI.out.call hb3
          have HP:Hid (R=ed eH (dX eH b (dE L k)) (k+1) (L.drop (k+1))):=HI.out.par.trans (by rw [HDR.out,bT hc])
          have HGD:Hid (Gd (dX eH b (dE L k))):=HI.out.gd.line hsz (o8 _ hsz).2.2.2.2 hc;have HN:=aq hn;obtain ⟨e1,e2,e3,e4,e5,e6,rfl,rfl,rfl⟩:=hn.slices;have HA3:Hid (Below w3.heap.size w3 (w3.alloc (.cells #[.slice e1 (dX eH b (dE L k)).1.length e2,.slice e3 (dX eH b (dE L k)).2.1.length e4,.slice e5 (dX eH b (dE L k)).2.2.length e6] 30))):=(aM);have HI4:Hid (RT w X (.slice (some ⟨g,off,none⟩) L.length cap) L R (k+1) (dX eH b (dE L k)) (.slice e1 (dX eH b (dE L k)).1.length e2) (.slice e3 (dX eH b (dE L k)).2.1.length e4) (.slice e5 (dX eH b (dE L k)).2.2.length e6) ((w3.alloc (.cells #[.slice e1 (dX eH b (dE L k)).1.length e2,.slice e3 (dX eH b (dE L k)).2.1.length e4,.slice e5 (dX eH b (dE L k)).2.2.length e6] 30)).setRow X #[.slice e1 (dX eH b (dE L k)).1.length e2,.slice e3 (dX eH b (dE L k)).2.1.length e4,.slice e5 (dX eH b (dE L k)).2.2.length e6])):=(HI3.out.call HA3.out).put (HN.out.keep HA3.out) HGD.out HP.out;have ku:Hid ((w3.alloc (.cells #[.slice e1 (dX eH b (dE L k)).1.length e2,.slice e3 (dX eH b (dE L k)).2.1.length e4,.slice e5 (dX eH b (dE L k)).2.2.length e6] 30)).heap[X]?=some (.cells #[.slice a1 b.1.length a2,.slice a3 b.2.1.length a4,.slice a5 b.2.2.length a6] 30 (0,0))):=(HI3.out.call HA3.out).bk;clear d0 d1 d2 c0 HI hb3 hc hbk HN hn HP HGD;have g3:=ku.out
          go_wp2_with (refine wpList_store_row rfl 30 _ _ rfl X #[.slice e1 (dX eH b (dE L k)).1.length e2,.slice e3 (dX eH b (dE L k)).2.1.length e4,.slice e5 (dX eH b (dE L k)).2.2.length e6] rfl rfl 30 _ g3 (by kernel_rfl) rfl (by simp [Value.oneCell']) ?_)
          exact ⟨⟨k+1,_,_,_,_,_,_,_,by omega,by go_num,HI4.out⟩,by simp [intOf];omega⟩
      · have HP:Hid (R=(b,0,0)):=HI.out.par.trans (by rw [List.drop_of_length_le (by omega)];rfl)
        have hbk:=HI.out.bk;have g2:=HI.out.r
        obtain ⟨d0,d1,d2⟩:wr.cell? ⟨X,0,none⟩=some (.slice a1 b.1.length a2)∧wr.cell? ⟨X,1,none⟩=some (.slice a3 b.2.1.length a4)∧wr.cell? ⟨X,2,none⟩=some (.slice a5 b.2.2.length a6):=by simp [World.cell?,hbk]
        have hk1:¬ (k:Int)<(L.length:Int):=by omega
        go_wp2_with (refine wpList_store_row rfl 30 _ _ rfl (w.heap.size) #[.slice a1 b.1.length a2,.slice a3 b.2.1.length a4,.slice a5 b.2.2.length a6] rfl rfl 30 _ g2 (by kernel_rfl) rfl (by simp [Value.oneCell']) ?_)
        exact bodyPost_ret (v:=.tuple #[.agg #[.slice a1 b.1.length a2,.slice a3 b.2.1.length a4,.slice a5 b.2.2.length a6],.nilIface]) (by simp [results,Tryz.results30,go_sem,cell_setRow_same _ _ _ _ _ _ _ g2]) rfl ⟨below_setRow HI.out.below aG _,.inr ⟨by rw [HP.out],_,_,_,rfl,by rw [HP.out];exact HI.out.new.box g2 (aD _ w.heap.size _)⟩⟩
  · have HP:Hid (R=(([],[],[]),0,1)):=FK.out
    clear FK
    go_wp2_with (refine wpList_store_row rfl 30 _ _ rfl (w.heap.size) #[.slice none 0 0,.slice none 0 0,.slice none 0 0] rfl rfl 30 _ g2 (by kernel_rfl) rfl (by simp [Value.oneCell']) ?_)
    exact bodyPost_ret (v:=eY 0 1) (by simp [results,Tryz.results30,go_sem,cell_setRow_same _ _ _ _ _ _ _ g2,eY]) rfl ⟨below_setRow H1.out.1 aG _,.inl ⟨by rw [HP.out];decide,by rw [HP.out];rfl⟩⟩
theorem qi (s : ByteArray) (w : World) (hs : s.size ≤ 1048576) (hsa : ib w) (IG : jo w) (her : tT w) :
    Calls Tryz.prog 8 #[.string s] w fun e w'=>∃ x y z,e=.returned (.tuple #[.agg #[x,y,z],.agg #[.int .i64 (fV s).2.1,.int .i64 (fV s).2.2]])∧df w.heap.size w' x y z (fV s).1.1 (fV s).1.2.1 (fV s).1.2.2∧Below w.heap.size w w':=by
  have HER:=aq her;have HRT:Hid (∀ wx:World,Below w.heap.size w wx→_):=fun wx hx=>Bv s wx hs (hsa.keep hx) (IG.keep hx);have HNO:Hid ((fV s).2.2≠0→(fV s).1=([],[],[])):=Ab;have HZE:Hid ((fV s).2.2=0→(fV s).2.1=0):=Jh;clear hsa IG her;generalize fV s=R at *;obtain ⟨b,l,c⟩:=R;dsimp only at *
  go_enter Tryz.func8,Tryz.ntmps8
  go_wp2_with fail
  have B0:Below w.heap.size w ((w.alloc (.cells #[.slice none 0 0,.slice none 0 0,.slice none 0 0] 30)).alloc (.cells #[.int .i64 0,.int .i64 0] 32)):=(aM).alloc (by simp) _
  refine (HRT.out _ B0).mono ?_;rintro e w1 ⟨hb1,⟨hc,rfl⟩ | ⟨hc,x,y,z,rfl,hn⟩⟩
  · have hno:=HNO.out hc
    unfold eY;go_wp2_with fail;have HA:Hid (Below w1.heap.size w1 (w1.alloc (.cells #[.slice none 0 0,.slice none 0 0,.slice none 0 0] 30))):=(aM)
    have HZ:Hid (w.heap.size+1<w1.heap.size):=by have:=hb1.size;simp only [World.size_alloc] at this;show _<_;omega
    have HX:Hid ((w1.alloc (.cells #[.slice none 0 0,.slice none 0 0,.slice none 0 0] 30)).heap[w1.heap.size]?=some (.cells #[.slice none 0 0,.slice none 0 0,.slice none 0 0] 30 (0,0))):=am w1 _
    have jH:Hid ((w1.alloc (.cells #[.slice none 0 0,.slice none 0 0,.slice none 0 0] 30)).heap[w.heap.size]?=some (.cells #[.slice none 0 0,.slice none 0 0,.slice none 0 0] 30 (0,0))):=(HA.out.block _ (by have:=HZ.out;omega)).trans ((hb1.block _ (by simp;omega)).trans (j4 w _ _))
    have HR1:Hid ((w1.alloc (.cells #[.slice none 0 0,.slice none 0 0,.slice none 0 0] 30)).heap[w.heap.size+1]?=some (.cells #[.int .i64 0,.int .i64 0] 32 (0,0))):=(HA.out.block _ HZ.out).trans ((hb1.block _ (by simp)).trans (by have h:=am (w.alloc (.cells #[.slice none 0 0,.slice none 0 0,.slice none 0 0] 30)) (.cells #[.int .i64 0,.int .i64 0] 32);rw [World.size_alloc] at h;exact h))
    have HB:Hid (Below w.heap.size w (w1.alloc (.cells #[.slice none 0 0,.slice none 0 0,.slice none 0 0] 30))):=aa (aa B0 hb1) HA.out;clear B0 HA hb1;generalize (w1.alloc (.cells #[.slice none 0 0,.slice none 0 0,.slice none 0 0] 30))=W at *;generalize w1.heap.size=X at *
    have dK:Hid (∀ w':World,w'.heap[X]?=some (.cells #[.slice none 0 0,.slice none 0 0,.slice none 0 0] 30 (0,0))→(w'.cell? ⟨X,0,none⟩=some (.slice none 0 0)∧w'.cell? ⟨X,1,none⟩=some (.slice none 0 0)∧w'.cell? ⟨X,2,none⟩=some (.slice none 0 0))):=fun w' hx=>⟨by simp [World.cell?,hx],by simp [World.cell?,hx],by simp [World.cell?,hx]⟩
    refine wp_region_noPanic ?_
    refine wp_region_held_drew (S:=fun w'=>w'.cell? ⟨X,0,none⟩=some (.slice none 0 0)∧w'.cell? ⟨X,1,none⟩=some (.slice none 0 0)∧w'.cell? ⟨X,2,none⟩=some (.slice none 0 0)) (by kernel_rfl) ?_ (fun hHeld=>?_)
    · exact dK.out _ HX.out
    have jF:Hid (W.drew.heap[X]?=some (.cells #[.slice none 0 0,.slice none 0 0,.slice none 0 0] 30 (0,0))):=HX.out;have uV:Hid (W.drew.heap[w.heap.size]?=some (.cells #[.slice none 0 0,.slice none 0 0,.slice none 0 0] 30 (0,0))):=jH.out;have rz:Hid (W.drew.heap[w.heap.size+1]?=some (.cells #[.int .i64 0,.int .i64 0] 32 (0,0))):=HR1.out;have HB2:Hid (Below w.heap.size w W.drew):=HB.out.drew;clear HX jH HR1 HB;generalize W.drew=W0 at *;refine aO 0 ?_ rfl ?_ ?_;rotate_left
    · intro w hSw;(try dsimp only at hSw);go_simp;try with_reducible rfl
    simp only [Act.put,aU]
    refine aO 1 ?_ rfl ?_ ?_;rotate_left
    · intro w hSw;(try dsimp only at hSw);go_simp;try with_reducible rfl
    simp only [Act.put,aU]
    clear hHeld;refine bE 2 rfl (fun K hK=>?_);go_simp;refine (EX (l:Int) c _ (HER.out.keep HB2.out)).mono ?_;rintro e W1 ⟨rfl,hbb⟩;have HX:Hid (W1.heap[X]?=some (.cells #[.slice none 0 0,.slice none 0 0,.slice none 0 0] 30 (0,0))):=(hbb.block _ (Array.getElem?_eq_some_iff.1 jF.out).1).trans jF.out;have jH:Hid (W1.heap[w.heap.size]?=some (.cells #[.slice none 0 0,.slice none 0 0,.slice none 0 0] 30 (0,0))):=(hbb.block _ (Array.getElem?_eq_some_iff.1 uV.out).1).trans uV.out;have HR1:Hid (W1.heap[w.heap.size+1]?=some (.cells #[.int .i64 0,.int .i64 0] 32 (0,0))):=(hbb.block _ (Array.getElem?_eq_some_iff.1 rz.out).1).trans rz.out;have HB:Hid (Below w.heap.size w W1):=aa HB2.out hbb;refine hK.out _ _ (dK.out _ HX.out) (fun _=>?_);clear hK K hbb jF uV rz HB2;have MK:Hid (w.heap.size+1<X):=HZ.out;refine bE 3 rfl (fun K hK=>?_)
    refine aF rfl 30 _ _ rfl (w.heap.size) #[.slice none 0 0,.slice none 0 0,.slice none 0 0] rfl rfl 30 _ jH.out (by kernel_rfl) rfl (by simp [Value.oneCell']) ?_
    have jF:Hid ((W1.setRow w.heap.size #[.slice none 0 0,.slice none 0 0,.slice none 0 0]).heap[X]?=some (.cells #[.slice none 0 0,.slice none 0 0,.slice none 0 0] 30 (0,0))):=(setRow_other _ _ _ _ (by have:=MK.out;omega)).trans HX.out
    have uV:Hid ((W1.setRow w.heap.size #[.slice none 0 0,.slice none 0 0,.slice none 0 0]).heap[w.heap.size]?=some (.cells #[.slice none 0 0,.slice none 0 0,.slice none 0 0] 30 (0,0))):=setRow_heap _ _ _ _ _ _ jH.out
    have rz:Hid ((W1.setRow w.heap.size #[.slice none 0 0,.slice none 0 0,.slice none 0 0]).heap[w.heap.size+1]?=some (.cells #[.int .i64 0,.int .i64 0] 32 (0,0))):=(setRow_other _ _ _ _ (by omega)).trans HR1.out
    have HB2:Hid (Below w.heap.size w (W1.setRow w.heap.size #[.slice none 0 0,.slice none 0 0,.slice none 0 0])):=below_setRow HB.out aG _;refine hK.out _ _ (dK.out _ jF.out) (fun _=>?_);clear hK K HX jH HR1 HB;generalize (W1.setRow w.heap.size #[.slice none 0 0,.slice none 0 0,.slice none 0 0])=W2 at *;refine bE 4 rfl (fun K hK=>?_)
    refine aF rfl 32 _ _ rfl (w.heap.size+1) #[.int .i64 l,.int .i64 c] rfl rfl 32 _ rz.out (by kernel_rfl) rfl (by simp [Value.oneCell']) ?_
    have HX:Hid ((W2.setRow (w.heap.size+1) #[.int .i64 l,.int .i64 c]).heap[X]?=some (.cells #[.slice none 0 0,.slice none 0 0,.slice none 0 0] 30 (0,0))):=(setRow_other _ _ _ _ (by have:=MK.out;omega)).trans jF.out
    have jH:Hid ((W2.setRow (w.heap.size+1) #[.int .i64 l,.int .i64 c]).heap[w.heap.size]?=some (.cells #[.slice none 0 0,.slice none 0 0,.slice none 0 0] 30 (0,0))):=(setRow_other _ _ _ _ (by omega)).trans uV.out
    have HR1:Hid ((W2.setRow (w.heap.size+1) #[.int .i64 l,.int .i64 c]).heap[w.heap.size+1]?=some (.cells #[.int .i64 l,.int .i64 c] 32 (0,0))):=setRow_heap _ _ _ _ _ _ rz.out
    have HB:Hid (Below w.heap.size w (W2.setRow (w.heap.size+1) #[.int .i64 l,.int .i64 c])):=below_setRow HB2.out (by omega) _
    refine hK.out _ _ (dK.out _ HX.out) (fun _=>?_);clear hK K jF uV rz HB2;generalize (W2.setRow (w.heap.size+1) #[.int .i64 l,.int .i64 c])=W3 at *
    refine wpAnyH_done (by kernel_rfl) ?_ _
    refine NoPanic.normal ?_
    have r0:W3.cell? ⟨w.heap.size,0,none⟩=some (.slice none 0 0):=by simp [World.cell?,jH.out]
    have r1:W3.cell? ⟨w.heap.size,1,none⟩=some (.slice none 0 0):=by simp [World.cell?,jH.out]
    have r2:W3.cell? ⟨w.heap.size,2,none⟩=some (.slice none 0 0):=by simp [World.cell?,jH.out]
    have q0:W3.cell? ⟨w.heap.size+1,0,none⟩=some (.int .i64 l):=by simp [World.cell?,HR1.out]
    have q1:W3.cell? ⟨w.heap.size+1,1,none⟩=some (.int .i64 c):=by simp [World.cell?,HR1.out]
    go_wp2_with fail
    exact bodyPost_ret (v:=.tuple #[.agg #[.slice none 0 0,.slice none 0 0,.slice none 0 0],.agg #[.int .i64 l,.int .i64 c]]) (by simp [results,Tryz.results8,go_sem,r0,r1,r2,q0,q1]) rfl ⟨_,_,_,rfl,by rw [hno];exact df.none _ _,HB.out⟩
  · have hze:=HZE.out hc
    subst hze;subst hc
    have hn2:=hn.mono (lo':=w.heap.size+2) (by simp)
    obtain ⟨e1,e2,e3,e4,e5,e6,rfl,rfl,rfl⟩:=hn.slices;have HN:=aq (hn2.keep ((Below.refl _ _).alloc aG (.cells #[.slice e1 b.1.length e2,.slice e3 b.2.1.length e4,.slice e5 b.2.2.length e6] 30)));clear hn hn2;go_wp2_with fail;have HA:Hid (Below w1.heap.size w1 (w1.alloc (.cells #[.slice e1 b.1.length e2,.slice e3 b.2.1.length e4,.slice e5 b.2.2.length e6] 30))):=(aM)
    have HZ:Hid (w.heap.size+1<w1.heap.size):=by have:=hb1.size;simp only [World.size_alloc] at this;show _<_;omega
    have HX:Hid ((w1.alloc (.cells #[.slice e1 b.1.length e2,.slice e3 b.2.1.length e4,.slice e5 b.2.2.length e6] 30)).heap[w1.heap.size]?=some (.cells #[.slice e1 b.1.length e2,.slice e3 b.2.1.length e4,.slice e5 b.2.2.length e6] 30 (0,0))):=am w1 _
    have jH:Hid ((w1.alloc (.cells #[.slice e1 b.1.length e2,.slice e3 b.2.1.length e4,.slice e5 b.2.2.length e6] 30)).heap[w.heap.size]?=some (.cells #[.slice none 0 0,.slice none 0 0,.slice none 0 0] 30 (0,0))):=(HA.out.block _ (by have:=HZ.out;omega)).trans ((hb1.block _ (by simp;omega)).trans (j4 w _ _))
    have HR1:Hid ((w1.alloc (.cells #[.slice e1 b.1.length e2,.slice e3 b.2.1.length e4,.slice e5 b.2.2.length e6] 30)).heap[w.heap.size+1]?=some (.cells #[.int .i64 0,.int .i64 0] 32 (0,0))):=(HA.out.block _ HZ.out).trans ((hb1.block _ (by simp)).trans (by have h:=am (w.alloc (.cells #[.slice none 0 0,.slice none 0 0,.slice none 0 0] 30)) (.cells #[.int .i64 0,.int .i64 0] 32);rw [World.size_alloc] at h;exact h))
    have HB:Hid (Below w.heap.size w (w1.alloc (.cells #[.slice e1 b.1.length e2,.slice e3 b.2.1.length e4,.slice e5 b.2.2.length e6] 30))):=aa (aa B0 hb1) HA.out;clear B0 HA hb1;generalize (w1.alloc (.cells #[.slice e1 b.1.length e2,.slice e3 b.2.1.length e4,.slice e5 b.2.2.length e6] 30))=W at *;generalize w1.heap.size=X at *
    have dK:Hid (∀ w':World,w'.heap[X]?=some (.cells #[.slice e1 b.1.length e2,.slice e3 b.2.1.length e4,.slice e5 b.2.2.length e6] 30 (0,0))→(w'.cell? ⟨X,0,none⟩=some (.slice e1 b.1.length e2)∧w'.cell? ⟨X,1,none⟩=some (.slice e3 b.2.1.length e4)∧w'.cell? ⟨X,2,none⟩=some (.slice e5 b.2.2.length e6))):=fun w' hx=>⟨by simp [World.cell?,hx],by simp [World.cell?,hx],by simp [World.cell?,hx]⟩
    refine wp_region_noPanic ?_
    refine wp_region_held_drew (S:=fun w'=>w'.cell? ⟨X,0,none⟩=some (.slice e1 b.1.length e2)∧w'.cell? ⟨X,1,none⟩=some (.slice e3 b.2.1.length e4)∧w'.cell? ⟨X,2,none⟩=some (.slice e5 b.2.2.length e6)) (by kernel_rfl) ?_ (fun hHeld=>?_)
    · exact dK.out _ HX.out
    have jF:Hid (W.drew.heap[X]?=some (.cells #[.slice e1 b.1.length e2,.slice e3 b.2.1.length e4,.slice e5 b.2.2.length e6] 30 (0,0))):=HX.out;have uV:Hid (W.drew.heap[w.heap.size]?=some (.cells #[.slice none 0 0,.slice none 0 0,.slice none 0 0] 30 (0,0))):=jH.out;have rz:Hid (W.drew.heap[w.heap.size+1]?=some (.cells #[.int .i64 0,.int .i64 0] 32 (0,0))):=HR1.out;have HB2:Hid (Below w.heap.size w W.drew):=HB.out.drew;have nT:=aq (Mi HN.out);clear HX jH HR1 HB HN;generalize W.drew=W0 at *;refine aO 0 ?_ rfl ?_ ?_;rotate_left
    · intro w hSw;(try dsimp only at hSw);go_simp;try with_reducible rfl
    simp only [Act.put,aU]
    refine aO 1 ?_ rfl ?_ ?_;rotate_left
    · intro w hSw;(try dsimp only at hSw);go_simp;try with_reducible rfl
    simp only [Act.put,aU]
    clear hHeld;refine bE 2 rfl (fun K hK=>?_);go_simp;refine (EW _).mono ?_;rintro e W1 ⟨rfl,hbb⟩;have HX:Hid (W1.heap[X]?=some (.cells #[.slice e1 b.1.length e2,.slice e3 b.2.1.length e4,.slice e5 b.2.2.length e6] 30 (0,0))):=(hbb.block _ (Array.getElem?_eq_some_iff.1 jF.out).1).trans jF.out;have jH:Hid (W1.heap[w.heap.size]?=some (.cells #[.slice none 0 0,.slice none 0 0,.slice none 0 0] 30 (0,0))):=(hbb.block _ (Array.getElem?_eq_some_iff.1 uV.out).1).trans uV.out;have HR1:Hid (W1.heap[w.heap.size+1]?=some (.cells #[.int .i64 0,.int .i64 0] 32 (0,0))):=(hbb.block _ (Array.getElem?_eq_some_iff.1 rz.out).1).trans rz.out;have HB:Hid (Below w.heap.size w W1):=aa HB2.out hbb;have HN:=aq (nT.out.keep hbb);refine hK.out _ _ (dK.out _ HX.out) (fun _=>?_);clear hK K hbb jF uV rz HB2 nT;have MK:Hid (w.heap.size+1<X):=HZ.out;refine bE 3 rfl (fun K hK=>?_)
    refine aF rfl 30 _ _ rfl (w.heap.size) #[.slice e1 b.1.length e2,.slice e3 b.2.1.length e4,.slice e5 b.2.2.length e6] rfl rfl 30 _ jH.out (by kernel_rfl) rfl (by simp [Value.oneCell']) ?_
    have jF:Hid ((W1.setRow w.heap.size #[.slice e1 b.1.length e2,.slice e3 b.2.1.length e4,.slice e5 b.2.2.length e6]).heap[X]?=some (.cells #[.slice e1 b.1.length e2,.slice e3 b.2.1.length e4,.slice e5 b.2.2.length e6] 30 (0,0))):=(setRow_other _ _ _ _ (by have:=MK.out;omega)).trans HX.out
    have uV:Hid ((W1.setRow w.heap.size #[.slice e1 b.1.length e2,.slice e3 b.2.1.length e4,.slice e5 b.2.2.length e6]).heap[w.heap.size]?=some (.cells #[.slice e1 b.1.length e2,.slice e3 b.2.1.length e4,.slice e5 b.2.2.length e6] 30 (0,0))):=setRow_heap _ _ _ _ _ _ jH.out
    have rz:Hid ((W1.setRow w.heap.size #[.slice e1 b.1.length e2,.slice e3 b.2.1.length e4,.slice e5 b.2.2.length e6]).heap[w.heap.size+1]?=some (.cells #[.int .i64 0,.int .i64 0] 32 (0,0))):=(setRow_other _ _ _ _ (by omega)).trans HR1.out
    have HB2:Hid (Below w.heap.size w (W1.setRow w.heap.size #[.slice e1 b.1.length e2,.slice e3 b.2.1.length e4,.slice e5 b.2.2.length e6])):=below_setRow HB.out aG _;have nT:=aq (HN.out.box jH.out (aD W1 w.heap.size #[.slice e1 b.1.length e2,.slice e3 b.2.1.length e4,.slice e5 b.2.2.length e6]));refine hK.out _ _ (dK.out _ jF.out) (fun _=>?_);clear hK K HX jH HR1 HB HN;generalize (W1.setRow w.heap.size #[.slice e1 b.1.length e2,.slice e3 b.2.1.length e4,.slice e5 b.2.2.length e6])=W2 at *;refine bE 4 rfl (fun K hK=>?_)
    refine aF rfl 32 _ _ rfl (w.heap.size+1) #[.int .i64 ((0:Nat):Int),.int .i64 0] rfl rfl 32 _ rz.out (by kernel_rfl) rfl (by simp [Value.oneCell']) ?_
    have HX:Hid ((W2.setRow (w.heap.size+1) #[.int .i64 ((0:Nat):Int),.int .i64 0]).heap[X]?=some (.cells #[.slice e1 b.1.length e2,.slice e3 b.2.1.length e4,.slice e5 b.2.2.length e6] 30 (0,0))):=(setRow_other _ _ _ _ (by have:=MK.out;omega)).trans jF.out
    have jH:Hid ((W2.setRow (w.heap.size+1) #[.int .i64 ((0:Nat):Int),.int .i64 0]).heap[w.heap.size]?=some (.cells #[.slice e1 b.1.length e2,.slice e3 b.2.1.length e4,.slice e5 b.2.2.length e6] 30 (0,0))):=(setRow_other _ _ _ _ (by omega)).trans uV.out
    have HR1:Hid ((W2.setRow (w.heap.size+1) #[.int .i64 ((0:Nat):Int),.int .i64 0]).heap[w.heap.size+1]?=some (.cells #[.int .i64 ((0:Nat):Int),.int .i64 0] 32 (0,0))):=setRow_heap _ _ _ _ _ _ rz.out
    have HB:Hid (Below w.heap.size w (W2.setRow (w.heap.size+1) #[.int .i64 ((0:Nat):Int),.int .i64 0])):=below_setRow HB2.out (by omega) _
    have HN:Hid (df w.heap.size (W2.setRow (w.heap.size+1) #[.int .i64 ((0:Nat):Int),.int .i64 0]) _ _ _ b.1 b.2.1 b.2.2):=(nT.out.far (aD W2 (w.heap.size+1) #[.int .i64 ((0:Nat):Int),.int .i64 0]) (by omega)).mono (by omega)
    refine hK.out _ _ (dK.out _ HX.out) (fun _=>?_);clear hK K jF uV rz HB2;generalize (W2.setRow (w.heap.size+1) #[.int .i64 ((0:Nat):Int),.int .i64 0])=W3 at *
    refine wpAnyH_done (by kernel_rfl) ?_ _
    refine NoPanic.normal ?_
    have r0:W3.cell? ⟨w.heap.size,0,none⟩=some (.slice e1 b.1.length e2):=by simp [World.cell?,jH.out]
    have r1:W3.cell? ⟨w.heap.size,1,none⟩=some (.slice e3 b.2.1.length e4):=by simp [World.cell?,jH.out]
    have r2:W3.cell? ⟨w.heap.size,2,none⟩=some (.slice e5 b.2.2.length e6):=by simp [World.cell?,jH.out]
    have q0:W3.cell? ⟨w.heap.size+1,0,none⟩=some (.int .i64 ((0:Nat):Int)):=by simp [World.cell?,HR1.out]
    have q1:W3.cell? ⟨w.heap.size+1,1,none⟩=some (.int .i64 0):=by simp [World.cell?,HR1.out]
    go_wp2_with fail
    exact bodyPost_ret (v:=.tuple #[.agg #[.slice e1 b.1.length e2,.slice e3 b.2.1.length e4,.slice e5 b.2.2.length e6],.agg #[.int .i64 ((0:Nat):Int),.int .i64 0]]) (by simp [results,Tryz.results8,go_sem,r0,r1,r2,q0,q1]) rfl ⟨_,_,_,rfl,HN.out,HB.out⟩
open Go.RowKit Sd
theorem xW:∀ (L:List ByteArray),(∀ l∈L,kN (bytes l))→fB ⟨(joinL L).toArray⟩=L++[⟨#[]⟩]
 | [],_=>by
  have h:kN (bytes (⟨(joinL []).toArray⟩:ByteArray)):=fun c hc=>by simp [bytes,joinL] at hc
  rw [xV h]
  rfl
 | l::r,h=>by
  have hs:bytes (⟨(joinL (l::r)).toArray⟩:ByteArray)=bytes l++10::joinL r:=by simp [bytes,joinL]
  rw [qV hs (h l (by simp)),bI]
  rw [show mkS (joinL r)=(⟨(joinL r).toArray⟩:ByteArray) from rfl,xW r (fun x hx=>h x (by simp [hx]))]
  rfl
theorem xU (L:List ByteArray) (h:∀ l∈L,kN (bytes l)):fe ⟨(joinL L).toArray⟩=L:=by
 unfold fe;rw [xW L h]
 simp
theorem JZ {a0 a1 a2 a3:List UInt8} (h0:gZ a0) (h1:gZ a1) (h2:gZ a2) (h3:gZ a3) {s:ByteArray} (hs:bytes s=a0++32::(a1++32::(a2++32::a3))):dn s=[mkS a0,mkS a1,mkS a2,mkS a3]:=by
 unfold dn;rw [hs,bt _ _ _ h0,bt _ _ _ h1,bt _ _ _ h2,lu _ _ h3]
 rfl
theorem uT (a b:ByteArray):bytes (cat a b)=bytes a++bytes b:=by
 simp [bytes,cat]
theorem lW (word:ByteArray) (t:dx):bytes (dC word t)=bytes word++32::(bytes t.s++32::(bytes (dW t.x.toNat)++32::bytes (dW t.y.toNat))):=by
 unfold dC
 simp only [uT,List.append_assoc]
 rfl
theorem JY:eu (dW 0)=true:=by decide +kernel
theorem DX {n:Int} (h0:0≤n) (h1:n<10000000):jc (dW n.toNat)=n:=by
 have hd:eu (dW n.toNat)=true:=by
  by_cases hz:n=0
  ·subst hz;exact JY
  ·exact E9 (by omega) (by omega)
 unfold jc;rw [hd]
 show ((fF (dW n.toNat) (dW n.toNat).size:Nat):Int)=n
 have h2:=Ac n.toNat
 rw [show (dW n.toNat).size=(Lib.decDigits n.toNat).length from List.size_toArray,show dW n.toNat=mkS (Lib.decDigits n.toNat) from rfl,h2]
 omega
theorem oD (n:Nat):gZ (bytes (dW n)):=fun c hc e=>by
 have:=sU n c hc;rw [e] at this
 simp at this
theorem xN (n:Nat):kN (bytes (dW n)):=fun c hc e=>by
 have:=sU n c hc;rw [e] at this
 simp at this
theorem Af {f:ByteArray} (h:dD f=true):kN (bytes f):=fun c hc e=>by
 unfold dD at h;rw [Bool.and_eq_true] at h;have h2:=List.all_eq_true.1 h.2 c hc;rw [e] at h2
 revert h2
 decide
theorem Ah {word:ByteArray} {t:dx} (hw:gZ (bytes word)) (hn:dD t.s=true) (hx0:0≤t.x) (hx:t.x<10000000) (hy0:0≤t.y) (hy:t.y<10000000):(dn (dC word t)).length=4∧dE (dn (dC word t)) 0=word∧fC (dn (dC word t))=t:=by
 rw [JZ hw (uz hn) (oD t.x.toNat) (oD t.y.toNat) (lW word t)];refine ⟨rfl,bI word,?_⟩;unfold fC
 show (⟨mkS (bytes t.s),jc (mkS (bytes (dW t.x.toNat))),jc (mkS (bytes (dW t.y.toNat)))⟩:dx)=t
 rw [bI,bI,bI,DX hx0 hx,DX hy0 hy]
theorem Ee {word:ByteArray} {t:dx} (hw:kN (bytes word)) (hn:dD t.s=true):kN (bytes (dC word t)):=by
 rw [lW];intro c hc e;subst e
 simp only [List.mem_append,List.mem_cons] at hc
 rcases hc with h | h | h | h | h | h | h
 ·exact hw _ h rfl
 ·exact absurd h (by decide)
 ·exact Af hn _ h rfl
 ·exact absurd h (by decide)
 ·exact xN _ _ h rfl
 ·exact absurd h (by decide)
 ·exact xN _ _ h rfl
open Go.RowKit Sd
theorem Ih {l:List dx} {t:dx} (h:∀ a∈l,iU a.s t.s=true):iH l t.s=l.length:=by
 refine rR fun j hj=>?_;rw [bK hj,l7,h _ (List.getElem_mem hj)]
 rfl
theorem IJ {l:List dx} {t:dx} (h:∀ a∈l,iU a.s t.s=true):hasB l t.s=false:=by
 unfold hasB;rw [Ih h]
 simp
theorem Iy {l:List dx} {t:dx} (h:∀ a∈l,iU a.s t.s=true):fD l (iH l t.s) t=l++[t]:=by
 rw [Ih h]
 simp [fD]
theorem Iq {pre nY:List dx} {t:dx} (h:(pre++t::nY).Pairwise fun a b=>iU a.s b.s=true):∀ a∈pre,iU a.s t.s=true:=fun a ha =>
 (List.pairwise_append.1 h).2.2 a ha t (by simp)
theorem wE (w:ByteArray) (h:w=fZ∨w=eG):gZ (bytes w)∧kN (bytes w):=by
 rcases h with rfl | rfl
 ·exact ⟨fun c hc e=>by subst e;revert hc;decide,fun c hc e=>by subst e;revert hc;decide⟩
 ·exact ⟨fun c hc e=>by subst e;revert hc;decide,fun c hc e=>by subst e;revert hc;decide⟩
theorem vD (rd:ByteArray→dP×Bool) (ps:List dx) (es:List dU) (R:List ByteArray):∀ (nY pre:List dx) (i:Nat),dM (pre++nY)=true→ed rd (pre,ps,es) i (jR nY++R)=ed rd (pre++nY,ps,es) (i+nY.length) R
 | [],pre,i,h=>by simp [jR]
 | t::nY,pre,i,h=>by
  obtain ⟨hl,ha,hs⟩:=(cz _).1 h
  obtain ⟨hn,hp⟩:=ha t (by simp)
  have hpp:1≤t.x∧t.x≤t.y∧t.y≤50:=by
   unfold gI at hp
   simpa using hp
  have hlt:=Iq hs
  obtain ⟨c4,c0,ct⟩:=Ah (wE fZ (.inl rfl)).1 hn (t:=t) (by omega) (by omega) (by omega) (by omega)
  have hC:eU rd (pre,ps,es) (dC fZ t)=0:=by
   unfold eU;rw [if_pos c0];unfold gV;rw [ct,decide_eq_true c4,hn,hp,IJ hlt]
   have:¬ 6≤pre.length:=by simp at hl;omega
   rw [decide_eq_false this]
   rfl
  have hB:dX rd (pre,ps,es) (dC fZ t)=(pre++[t],ps,es):=by
   unfold dX;rw [if_pos c0,ct,Iy hlt]
  show ed rd (pre,ps,es) i (dC fZ t::(jR nY++R))=_
  rw [bT hC,hB,vD rd ps es R nY (pre++[t]) (i+1) (by simpa using h)]
  simp only [List.append_assoc,List.cons_append,List.nil_append,List.length_cons]
  rw [show i+1+nY.length=i+(nY.length+1) by omega]
theorem any_end {pre nY:List dx} {t:dx} (h:(pre++t::nY).Pairwise fun a b=>jb a b=false):gK pre t=false:=by
 unfold gK;rw [List.any_eq_false];intro a ha
 have:=(List.pairwise_append.1 h).2.2 a ha t (by simp)
 unfold jb at this;rw [this]
 decide
theorem rU (rd:ByteArray→dP×Bool) (ks:List dx) (es:List dU) (R:List ByteArray):∀ (nY pre:List dx) (i:Nat),dH (pre++nY)=true→ed rd (ks,pre,es) i (jQ nY++R)=ed rd (ks,pre++nY,es) (i+nY.length) R
 | [],pre,i,h=>by simp [jQ]
 | t::nY,pre,i,h=>by
  obtain ⟨hl,ha,hs,hq⟩:=(ca _).1 h
  obtain ⟨hn,hp⟩:=ha t (by simp)
  have hpp:(0≤t.x∧t.x≤15)∧0≤t.y∧t.y≤15:=by
   unfold eQ eB at hp
   simpa using hp
  have hlt:=Iq hs
  obtain ⟨c4,c0,ct⟩:=Ah (wE eG (.inr rfl)).1 hn (t:=t) (by omega) (by omega) (by omega) (by omega)
  have hne:dE (dn (dC eG t)) 0≠fZ:=by
   rw [show dE (dn (dC eG t)) 0=eG from c0]
   decide
  have hC:eU rd (ks,pre,es) (dC eG t)=0:=by
   unfold eU;rw [if_neg hne,if_pos c0];unfold fO;rw [ct,decide_eq_true c4,hn,hp,IJ hlt,any_end hq]
   have:¬ 16≤pre.length:=by simp at hl;omega
   rw [decide_eq_false this]
   rfl
  have hB:dX rd (ks,pre,es) (dC eG t)=(ks,pre++[t],es):=by
   unfold dX;rw [if_neg hne,if_pos c0,ct,Iy hlt]
  show ed rd (ks,pre,es) i (dC eG t::(jQ nY++R))=_
  rw [bT hC,hB,rU rd ks es R nY (pre++[t]) (i+1) (by simpa using h)]
  simp only [List.append_assoc,List.cons_append,List.nil_append,List.length_cons]
  rw [show i+1+nY.length=i+(nY.length+1) by omega]
open Go.RowKit Sd
theorem addE_le (es:List dU) (c:dP):es.length≤(gN es c).length:=by
 unfold gN
 split
 ·split
  ·rename_i e he hn
   have:es≠[]:=fun h=>by subst h;simp at he
   have:=List.length_pos_iff.2 this
   simp
   omega
  ·simp
 ·rename_i he
  have:es=[]:=by simpa using he
  subst this
  simp
theorem IK:∀ (m:List dP) (es:List dU),es.length≤(m.foldl gN es).length
 | [],es=>Nat.le_refl _
 | c::m,es=>Nat.le_trans (addE_le es c) (IK m (gN es c))
theorem pI {c:dP} (h:gm c=true):dR c=gB c∧dE (dn (gB c)) 0=jY:=by
 refine ⟨by unfold dR;rw [h];rfl,?_⟩
 unfold dn
 rw [cF,bt _ _ _ (fun c hc e=>by subst e;revert hc;decide)]
 rfl
theorem xG {ks ps:List dx} (hb:eF ks ps=true):∀ (nY:List dP) (es:List dU) (i:Nat),dJ ks ps es=true→gF (dh es++nY)→(∀ c∈nY,gy ks ps c=true∧(gB c).size≤1048576)→((dh es++nY).foldl gN []).length≤12 →
  ∃ es',ed eH (ks,ps,es) i (kC nY)=((ks,ps,es'),0,0)∧dJ ks ps es'=true∧dh es'=dh es++nY
 | [],es,i,hk,hs,hf,hl=>⟨es,rfl,hk,by simp⟩
 | c::nY,es,i,hk,hs,hf,hl=>by
  obtain ⟨hfit,hsz⟩:=hf c (by simp)
  have hfo:=ES hb hfit;obtain ⟨e1,e2⟩:=pI hfo;obtain ⟨r1,r2⟩:=(o8 (gB c) hsz).2.2.2.1 c hfo rfl
  have hlt:∀ a∈dh es,gz a c=true:=fun a ha=>(List.pairwise_append.1 hs).2.2 a ha c (by simp)
  have hput:gp (dh es) (dO c.f (dZ c))=dh es++[c]:=zZ hlt;have hch:=AR c.f (dZ c) (bJ hk);rw [hput] at hch;have hen:=uZ c.f (dZ c) (bJ hk) (pQ hk);rw [hput] at hen
  have h12:(dS es c.f (dZ c)).length≤12:=by
   rw [← hen];refine Nat.le_trans ?_ hl
   have e:(dh es++c::nY).foldl gN []=nY.foldl gN ((dh es++[c]).foldl gN []):=by
    rw [← List.foldl_append]
    simp
   rw [e];exact IK nY _
  have hd:decide (12<(dS es c.f (dZ c)).length)=false:=decide_eq_false (by omega)
  have hT:takeC ks ps es c=0:=by unfold takeC;rw [hk,hfit,hd];rfl
  have hE:eT ks ps es c=dS es c.f (dZ c):=by unfold eT;rw [hk,hfit,hd];rfl
  have n1:dE (dn (gB c)) 0≠fZ:=by rw [e2];decide
  have n2:dE (dn (gB c)) 0≠eG:=by rw [e2];decide
  have hC:eU eH (ks,ps,es) (dR c)=0:=by
   rw [e1];unfold eU;rw [if_neg n1,if_neg n2,if_pos e2];unfold kI;rw [r1,r2]
   show (bif true then (if takeC ks ps es c=2 then 7 else if takeC ks ps es c=3 then 6 else 0) else 3)=(0:Int)
   rw [hT]
   rfl
  have hB:dX eH (ks,ps,es) (dR c)=(ks,ps,dS es c.f (dZ c)):=by
   rw [e1];unfold dX;rw [if_neg n1,if_neg n2,r2]
   show (dN ks ps es ks,dN ks ps es ps,eT ks ps es c)=_
   rw [jX hk,jX hk,hE]
  obtain ⟨es',q1,q2,q3⟩:=xG hb nY (dS es c.f (dZ c)) (i+1) (Fh hk hfit h12) (by rw [hch];simpa using hs) (fun x hx=>hf x (by simp [hx])) (by rw [hch];simpa using hl)
  refine ⟨es',?_,q2,by rw [q3,hch];simp⟩
  show ed eH (ks,ps,es) i (dR c::kC nY)=_
  rw [bT hC,hB,q1]
theorem yU {ks ps:List dx} (h:eF ks ps=true):dJ ks ps []=true :=
 IQ h (by simp) (fun e he=>by cases he) List.Pairwise.nil (fun e he=>by cases he)
theorem DR {ks ps:List dx} {es:List dU} (h:dJ ks ps es=true) (hsz:∀ c∈dh es,(gB c).size≤1048576):ed eH ([],[],[]) 0 (fG ks ps (dh es))=((ks,ps,es),0,0):=by
 have hb:=mQ h
 have hk:dM ks=true∧dH ps=true:=by
  unfold eF at hb
  simpa using hb
 unfold fG
 rw [List.append_assoc,vD eH [] [] _ ks [] 0 (by simpa using hk.1),rU eH _ [] _ ps [] _ (by simpa using hk.2)]
 obtain ⟨es',q1,q2,q3⟩:=xG hb (dh es) [] (0+ks.length+ps.length) (yU hb) (by simpa [dh] using oW h) (fun c hc=>⟨yT h c hc,hsz c hc⟩) (by
  have e:dh []++dh es=dh es:=by simp [dh]
  rw [e,oM (pQ h) (mY (bJ h))]
  exact tC h)
 simp only [List.nil_append] at q1 ⊢
 rw [q1]
 have e3:dh es'=dh es:=by rw [q3];simp [dh]
 have e4:es'=es:=by rw [← oM (pQ q2) (mY (bJ q2)),e3,oM (pQ h) (mY (bJ h))]
 rw [e4]
open Go.RowKit Sd
theorem uP:∀ (l cur:List UInt8),((iw cur l).map List.length).sum+(iw cur l).length=cur.length+l.length+1
 | [],cur=>by simp [iw]
 | c::r,cur=>by
  rw [iw]
  split
  ·have:=uP r []
   simp at this ⊢
   omega
  ·have:=uP r (cur++[c])
   simp at this ⊢
   omega
theorem KJ (m:Nat):∀ (l:List (List UInt8)),(∀ x∈l,x.length≤m)→(l.map List.length).sum≤l.length*m
 | [],_=>by simp
 | x::l,h=>by
  have h1:=h x (by simp)
  have h2:=KJ m l (fun y hy=>h y (by simp [hy]))
  simp only [List.map_cons,List.sum_cons,List.length_cons]
  have:(l.length+1)*m=l.length*m+m:=by rw [Nat.add_mul];omega
  omega
theorem wH {s:ByteArray} {n m:Nat} (hn:(dn s).length≤n) (h:∀ x∈dn s,x.size≤m):s.size≤n*m+n:=by
 have h1:=uP (bytes s) []
 have h2:∀ x∈iw [] (bytes s),x.length≤m:=fun x hx=>h ⟨⟨x⟩⟩ (by unfold dn;exact List.mem_map.2 ⟨x,hx,rfl⟩)
 have h3:=KJ m _ h2
 have h4:(iw [] (bytes s)).length≤n:=by unfold dn at hn;rwa [List.length_map] at hn
 have h5:=Nat.mul_le_mul_right m h4;rw [aK] at h1
 simp at h1
 omega
theorem yJ {s:ByteArray} (h:eu s=true):s.size≤7:=by
 unfold eu eB at h
 simp at h
 omega
theorem pg {s:ByteArray} (h:dD s=true):s.size≤8:=by
 unfold dD eB at h
 simp at h
 omega
theorem Md {ks ps:List dx} {c:dP} (hb:eF ks ps=true) (h:gy ks ps c=true):c.f.size≤8∧c.v.size≤72:=by
 unfold eF dM dH at hb
 simp only [Bool.and_eq_true] at hb
 obtain ⟨⟨hk,-⟩,hp,-⟩:=hb;unfold gy at h;rw [Bool.and_eq_true,Bool.and_eq_true] at h;obtain ⟨hf,hn,hv⟩:=h;refine ⟨pg hf,?_⟩;unfold gU at hv
 split at hv
 ·have:=pg (sK hk hv)
  omega
 split at hv
 ·unfold ja at hv
  simp only [Bool.and_eq_true,decide_eq_true_eq] at hv
  obtain ⟨hl,h0,h1,-⟩:=hv
  have:=wH (s:=c.v) (n:=2) (m:=7) (by omega) (fun x hx=>by
   obtain ⟨i,hi,rfl⟩:=wm hx
   rcases (show i=0∨i=1 by omega) with rfl | rfl
   ·exact yJ h0
   ·exact yJ h1)
  omega
 split at hv
 ·unfold kD at hv
  rw [Bool.and_eq_true] at hv;have:=yJ hv.1
  omega
 split at hv
 ·unfold gL at hv
  rw [Bool.and_eq_true] at hv
  have hl:(dn c.v).length≤8:=by have:=hv.1;simp [eB] at this;omega
  have:=wH (s:=c.v) (n:=8) (m:=8) hl (fun x hx=>by
   obtain ⟨i,hi,rfl⟩:=wm hx;have h2:=bH hv.2 i hi;unfold gT at h2;rw [Bool.and_eq_true] at h2
   exact pg (sK hp h2.1))
  omega
 split at hv
 ·unfold iq at hv
  rw [Bool.or_eq_true] at hv
  rcases hv with h | h <;> (rw [of_decide_eq_true h];decide)
 ·cases hv
theorem JP {c:dP} (h:gm c=true) (hf:c.f.size≤8) (hv:c.v.size≤72):(gB c).size≤99:=by
 unfold gm at h;rw [Bool.and_eq_true,Bool.and_eq_true,Bool.and_eq_true] at h;obtain ⟨h1,-,h3,-⟩:=h
 have hn:1≤c.num∧c.num≤1000000:=by simpa [eB] using h3
 have hw:(iQ c.what).size≤5:=by
  have:1≤c.what∧c.what≤5:=by simpa [eB] using h1
  rcases (show c.what=1∨c.what=2∨c.what=3∨c.what=4∨c.what=5 by omega) with e | e | e | e | e <;> (rw [e];decide)
 have hd:=aR c.num.toNat (by omega)
 have e:=congrArg List.length (cF c)
 simp only [List.length_append,List.length_cons,aK] at e
 have:rM.length=3:=rfl
 omega
theorem form_nl {c:dP} (h:gm c=true):kN (bytes (gB c)):=by
 unfold gm at h;rw [Bool.and_eq_true,Bool.and_eq_true,Bool.and_eq_true] at h;obtain ⟨h1,h2,h3,h4⟩:=h;rw [cF];intro x hx e;subst e
 simp only [List.mem_append,List.mem_cons] at hx
 rcases hx with h | h | h | h | h | h | h | h | h
 ·exact absurd h (by decide)
 ·exact absurd h (by decide)
 ·exact Af h2 _ h rfl
 ·exact absurd h (by decide)
 ·have:1≤c.what∧c.what≤5:=by simpa [eB] using h1
  rcases (show c.what=1∨c.what=2∨c.what=3∨c.what=4∨c.what=5 by omega) with e | e | e | e | e <;> (rw [e] at h;exact absurd h (by decide))
 ·exact absurd h (by decide)
 ·exact xN _ _ h rfl
 ·exact absurd h (by decide)
 ·unfold lY uy at h4
  rw [Bool.and_eq_true] at h4;have h5:=h4.2
  simp only [Bool.not_eq_true',List.any_eq_false] at h5
  exact h5 10 h (by decide)
theorem nu {word:ByteArray} {t:dx} (hw:word.size≤5) (hn:dD t.s=true) (hx:t.x<10000000) (hy:t.y<10000000):(dC word t).size≤30:=by
 have h1:=pg hn
 have h2:=aR t.x.toNat (by omega)
 have h3:=aR t.y.toNat (by omega)
 have e:=congrArg List.length (lW word t)
 simp only [List.length_append,List.length_cons,aK] at e
 omega
theorem join_le (m:Nat):∀ (L:List ByteArray),(∀ l∈L,l.size≤m)→(joinL L).length≤L.length*(m+1)
 | [],_=>by simp [joinL]
 | x::l,h=>by
  have h1:=h x (by simp)
  have h2:=join_le m l (fun y hy=>h y (by simp [hy]))
  simp only [joinL,List.length_append,List.length_cons,List.length_nil,aK]
  have:(l.length+1)*(m+1)=l.length*(m+1)+(m+1):=by rw [Nat.add_mul];omega
  omega
theorem vH {ks ps:List dx} {es:List dU} (h:dJ ks ps es=true):(∀ l∈fG ks ps (dh es),l.size≤99∧1≤l.size∧kN (bytes l))∧(fG ks ps (dh es)).length≤82∧(∀ c∈dh es,(gB c).size≤99)∧fe (fU ks ps es)=fG ks ps (dh es):=by
 have hb:=mQ h
 obtain ⟨hk,hp⟩:dM ks=true∧dH ps=true:=by
  unfold eF at hb
  simpa using hb
 obtain ⟨kl,ka,-⟩:=(cz _).1 hk;obtain ⟨pl,pa,-,-⟩:=(ca _).1 hp
 have cl:(dh es).length≤60:=by
  rw [lC];have:=nX (fun e:dU=>e.fs.length) 5 es (tF h);have:=Nat.mul_le_mul_right 5 (tC h)
  omega
 have kx:∀ t∈ks,dD t.s=true∧t.x<10000000∧t.y<10000000:=fun t ht=>by
  obtain ⟨a,b⟩:=ka t ht;unfold gI at b
  simp at b
  exact ⟨a,by omega,by omega⟩
 have px:∀ t∈ps,dD t.s=true∧t.x<10000000∧t.y<10000000:=fun t ht=>by
  obtain ⟨a,b⟩:=pa t ht;unfold eQ eB at b
  simp at b
  exact ⟨a,by omega,by omega⟩
 have cx:∀ c∈dh es,gm c=true∧(gB c).size≤99:=fun c hc=>by
  have hf:=yT h c hc;have ho:=ES hb hf;obtain ⟨s1,s2⟩:=Md hb hf;exact ⟨ho,JP ho s1 s2⟩
 have hsz:∀ l∈fG ks ps (dh es),l.size≤99:=fun l hl=>by
  unfold fG jR jQ kC at hl
  simp only [List.mem_append,List.mem_map] at hl
  rcases hl with (⟨t,ht,rfl⟩ | ⟨t,ht,rfl⟩) | ⟨c,hc,rfl⟩
  ·have:=nu (word:=dY) (by decide) (kx t ht).1 (kx t ht).2.1 (kx t ht).2.2
   omega
  ·have:=nu (word:=fq) (by decide) (px t ht).1 (px t ht).2.1 (px t ht).2.2
   omega
  ·rw [(pI (cx c hc).1).1]
   exact (cx c hc).2
 have hnl:∀ l∈fG ks ps (dh es),kN (bytes l):=fun l hl=>by
  unfold fG jR jQ kC at hl
  simp only [List.mem_append,List.mem_map] at hl
  rcases hl with (⟨t,ht,rfl⟩ | ⟨t,ht,rfl⟩) | ⟨c,hc,rfl⟩
  ·exact Ee (wE fZ (.inl rfl)).2 (kx t ht).1
  ·exact Ee (wE eG (.inr rfl)).2 (px t ht).1
  ·rw [(pI (cx c hc).1).1]
   exact form_nl (cx c hc).1
 have hlen:(fG ks ps (dh es)).length≤82:=by
  unfold fG jR jQ kC
  simp only [List.length_append,List.length_map]
  omega
 have hpo:∀ l∈fG ks ps (dh es),1≤l.size:=fun l hl=>by
  unfold fG jR jQ kC at hl
  simp only [List.mem_append,List.mem_map] at hl
  have hnm:∀ (word:ByteArray) (t:dx),1≤(dC word t).size:=fun word t=>by
   show 1≤(bytes (dC word t)).length
   rw [lW]
   simp only [List.length_append,List.length_cons]
   omega
  rcases hl with (⟨t,ht,rfl⟩ | ⟨t,ht,rfl⟩) | ⟨c,hc,rfl⟩
  ·exact hnm _ t
  ·exact hnm _ t
  ·obtain ⟨e1,e2⟩:=pI (cx c hc).1
   rw [e1]
   by_cases h0:(gB c).size=0
   ·have hm:gB c=⟨#[]⟩:=by rw [← bI (gB c),List.eq_nil_of_length_eq_zero (show (bytes (gB c)).length=0 from h0)];rfl
    rw [hm] at e2
    exact absurd e2 (by decide +kernel)
   ·omega
 have e:fU ks ps es=⟨(joinL (fG ks ps (dh es))).toArray⟩:=by unfold fU;rw [h];rfl
 exact ⟨fun l hl=>⟨hsz l hl,hpo l hl,hnl l hl⟩,hlen,fun c hc=>(cx c hc).2,by rw [e];exact xU _ hnl⟩
theorem vC {ks ps:List dx} {es:List dU} (h:dJ ks ps es=true):fV (fU ks ps es)=((ks,ps,es),0,0)∧(fU ks ps es).size≤10000:=by
 obtain ⟨hl,hlen,cx,hL⟩:=vH h;have hj:=join_le 99 _ (fun l h=>(hl l h).1);have hj2:=Nat.mul_le_mul_right (99+1) hlen
 have e:fU ks ps es=⟨(joinL (fG ks ps (dh es))).toArray⟩:=by unfold fU;rw [h];rfl
 have hs:(fU ks ps es).size=(joinL (fG ks ps (dh es))).length:=by rw [e];rfl
 refine ⟨?_,by omega⟩
 have hlb:jg (fU ks ps es)=false:=by
  unfold jg
  rw [hL,decide_eq_false (by omega),decide_eq_false (by omega)]
  rfl
 unfold fV;rw [hlb,hL]
 exact DR h (fun c hc=>by have:=cx c hc;omega)
end Go.Proofs.YtcmgddnckohdaaaGreatDoor.Tx
namespace Go.Proofs.YtcmgddnckohdaaaGreatDoor.Dr
open Go.RowKit Sd Tx
attribute [local go_sem] Later.cell Later.frozen
theorem KU {w:World} {B g c:Nat} {l:List ByteArray} (h:kr w B (.slice (some ⟨g,0,none⟩) l.length c) l):kr w B (.slice (some ⟨g,0,none⟩) l.dropLast.length c) l.dropLast:=by
 obtain ⟨h1,h2⟩:=h
 rcases h2 with ⟨h0,hn⟩ | ⟨g',cap',cur,hv,hg,hc,hn,hm,hs,ht⟩
 ·cases h0
 ·cases hv
  refine ⟨by simp,.inr ⟨g,c,cur,rfl,hg,hc,by rw [List.length_dropLast];omega,hm,hs,?_⟩⟩
  have e:cur.toList.take (l.dropLast.length*1)=(cur.toList.take (l.length*1)).take (l.dropLast.length*1):=by rw [List.take_take,List.length_dropLast,Nat.min_eq_left (by omega)]
  rw [e,ht,List.dropLast_eq_take,List.map_take,List.length_take,Nat.mul_one,Nat.min_eq_left (by omega)]
theorem Eu (s:ByteArray) (w:World) (hs:s.size≤1048576) :
  Calls Tryz.prog 32 #[.string s] w fun e w'=>∃ v,e=.returned v∧kr w' w.heap.size v (fe s)∧Below w.heap.size w w':=by
 have HC:=cn (yg s w hs)
 go_enter Tryz.func32,Tryz.ntmps32
 go_wp2_with fail;refine HC.out.mono ?_;rintro e w1 ⟨v,rfl,hv,hb⟩;have HB:=cn hb;have hpos:=pE s
 have HS:=cn (bO hv (fun e=>by rw [e] at hpos;simp at hpos))
 have HL:Hid (fe s=if dE (fB s) ((fB s).length-1)=⟨#[]⟩ then (fB s).dropLast else fB s):=by
  show _=_
  unfold fe;rw [wK hpos]
  simp only [Option.some.injEq]
 obtain ⟨g,c,rfl,hlc0,hcm⟩:=mF hv hpos;have HO:=cn hv;have HP:=cn (KU hv);unfold maxLen at hcm;clear hv hb HC;generalize fB s=l at *
 obtain ⟨n1,hn1⟩:∃ n1,l.length=n1+1:=⟨l.length-1,by omega⟩
 have hlc:n1+1≤c:=by omega
 have hq:w1.cell? ⟨g,n1,none⟩=some (.string (dE l n1)):=by
  obtain ⟨g',o',c',e,h1,h2,h4⟩:=HS.out
  injection e with e1 e2 e3
  injection e1 with e1
  injection e1 with e1 e5
  have:=h4 n1 _ (bA (by omega))
  rw [← e1,← e5,Nat.zero_add] at this;exact this
 have hw1:IntKind.i64.wrap ((n1:Int)+1-1)=(n1:Int):=by rw [IntKind.wrap_i64];omega
 have hi0:(0:Int)≤(n1:Int):=by omega
 rw [List.length_dropLast] at HP;rw [hn1] at HO HP HL;rw [hn1];rw [Nat.add_sub_cancel] at HP HL
 have hi1:(n1:Int)<(n1:Int)+1:=by omega
 clear hpos hn1 HS hlc0
 by_cases hx:dE l n1=⟨#[]⟩
 ·rw [if_pos hx] at HL
  rw [hx] at hq;go_wp2_with fail;go_ret
  exact ⟨_,rfl,by rw [HL.out];exact HP.out,HB.out⟩
 ·rw [if_neg hx] at HL
  have hxn:((dE l n1).toList==[])=false:=(show (⟨#[]⟩:ByteArray).toList=[] by decide +kernel) ▸ b9 (b:=⟨#[]⟩) hx
  generalize dE l n1=x at *;go_wp2_with fail;go_ret
  exact ⟨_,rfl,by rw [HL.out];exact HO.out,HB.out⟩
theorem sw (v:Value) (l:List ByteArray) (w:World) (hv:w.ownsRow 0 9 1 v l.length (l.map Value.string)) (hl:l.length≤1000) (hx:∀ x∈l,x.size≤1000) :
  Calls Tryz.prog 27 #[v] w fun e w'=>∃ s:ByteArray,e=.returned (.string s)∧s.size≤1001*l.length∧w'=w:=by
 have HV:Hid (∀ k,k<l.length→∃ g cap,v=.slice (some ⟨g,0,none⟩) l.length cap∧w.cell? ⟨g,k,none⟩=some (.string (dE l k))∧(dE l k).size≤1000):=fun k hk=>by
  obtain ⟨g,o,c,rfl,h1,h2,h3⟩:=bO hv (fun e=>by rw [e] at hk;simp at hk)
  obtain ⟨g',c',e,-⟩:=mF hv (by omega)
  injection e with e1 e2 e3
  injection e1 with e1
  injection e1 with e1 e5
  subst e1 e5;have:=h3 k _ (bA hk);rw [Nat.zero_add] at this;exact ⟨_,c,rfl,this,hx _ (List.mem_of_getElem? (bA hk))⟩
 obtain ⟨a,c,rfl⟩:=bU hv;clear hv hx
 go_enter Tryz.func27,Tryz.ntmps27
 go_wp2_with fail
 go_loopw [3,4] (fun o i wr=>∃ (k:Nat) (s:ByteArray),k≤l.length∧i=.int .i64 k∧o=.string s∧s.size≤1001*k∧wr=w) (fun _ i _=>l.length-(intOf i).toNat)
 case atStart=>exact ⟨0,⟨#[]⟩,Nat.zero_le _,rfl,rfl,by simp [ByteArray.size],rfl⟩
 case round =>
  obtain ⟨k,s,hk,rfl,rfl,hs,rfl⟩:=hrel
  by_cases hlt:k<l.length
  ·obtain ⟨g,cap,he,hc,hz⟩:=HV.out k hlt
   cases he
   have hk0:(0:Int)≤(k:Int):=by omega
   have hk1:(k:Int)<(l.length:Int):=by omega
   generalize dE l k=x at *;go_wp2_with fail
   exact ⟨⟨k+1,_,by omega,by go_num,rfl,by (have h1:(⟨#[10]⟩:ByteArray).size=1:=rfl);simp only [ByteArray.size_append,h1];omega,by first | trivial | rfl⟩,by simp [intOf];omega⟩
  ·have hke:k=l.length:=by omega
   go_wp2_with fail;go_ret
   exact ⟨_,rfl,by subst hke;exact hs,rfl⟩
theorem Gz (s:ByteArray) (n:Nat) (w:World) (hs:s.size*n≤20000) (hn:n≤20000) (hs1:s.size≤20000) :
  Calls Tryz.prog 29 #[.string s,.int .i64 n] w fun e w'=>∃ t:ByteArray,e=.returned (.string t)∧t.size≤s.size*n∧w'=w:=by
 go_enter Tryz.func29,Tryz.ntmps29
 go_wp2
 go_loopw [0,1,5] (fun sv nv ov wr=>∃ (a b:ByteArray) (m:Nat),sv=.string a∧nv=.int .i64 m∧ov=.string b∧Hid (wr=w)∧Hid (a.size*m+b.size=s.size*n∧m≤n∧(m=0∨a.size≤20000))) (fun _ nv _ _=>(intOf nv).toNat)
 case atStart=>exact ⟨s,⟨#[]⟩,n,rfl,rfl,rfl,rfl,(by show s.size*n+0=_;omega),Nat.le_refl _,.inr hs1⟩
 case round =>
  obtain ⟨a,b,m,rfl,rfl,rfl,HW,HI⟩:=hrel
  by_cases hm:m=0
  ·subst hm
   have hb:=HI.out.1
   have HB:Hid (b.size≤s.size*n):=by show _≤_;omega
   clear HI;go_wp2;go_ret;exact ⟨b,rfl,HB.out,HW.out⟩
  ·have hm0:(0:Int)<(m:Int):=by omega
   have hmn:(0:Int)≤(m:Int):=by omega
   obtain ⟨h1,h2,h3⟩:=HI.out
   have ha:a.size≤20000:=by omega
   have hb:b.size≤20000:=by omega
   obtain ⟨q,r,hq,hr⟩:∃ q r:Nat,m=2*q+r∧r<2:=⟨m / 2,m % 2,by omega,by omega⟩
   have hdiv:((m:Int) / 2)=(q:Int):=by omega
   have hmod:((m:Int) % 2)=(r:Int):=by omega
   have HQW:Hid (wrap64 (q:Int)=(q:Int)):=by show _=_;unfold wrap64;omega
   have e1:a.size*m=(a.size+a.size)*q+a.size*r:=by rw [hq,Nat.mul_add,← Nat.mul_assoc,Nat.mul_comm a.size 2,Nat.two_mul]
   by_cases hr1:r=1
   ·have hrb:((r:Int)==1)=true:=by simp [hr1]
    have HN:Hid ((a++a).size*q+(b++a).size=s.size*n∧q≤n∧(q=0∨(a++a).size≤20000)):=by
     rw [hr1] at e1
     refine ⟨by simp only [ByteArray.size_append];omega,by omega,?_⟩
     by_cases hq0:q=0
     ·exact .inl hq0
     ·right
      simp only [ByteArray.size_append]
      have:=Nat.le_mul_of_pos_right (a.size+a.size) (show 0<q by omega)
      omega
    have HQ:Hid (q<m):=by show q<m;omega
    clear h1 h2 h3 e1 hq hr hr1 HI;go_wp2
    exact ⟨⟨a++a,b++a,q,rfl,by rw [HQW.out],rfl,HW,HN⟩,by have:=HQ.out;rw [HQW.out];simp only [intOf];omega⟩
   ·have hrb:((r:Int)==1)=false:=by simp;omega
    have HN:Hid ((a++a).size*q+b.size=s.size*n∧q≤n∧(q=0∨(a++a).size≤20000)):=by
     have hr0:r=0:=by omega
     rw [hr0] at e1
     refine ⟨by simp only [ByteArray.size_append];omega,by omega,?_⟩
     by_cases hq0:q=0
     ·exact .inl hq0
     ·right
      simp only [ByteArray.size_append]
      have:=Nat.le_mul_of_pos_right (a.size+a.size) (show 0<q by omega)
      omega
    have HQ:Hid (q<m):=by show q<m;omega
    clear h1 h2 h3 e1 hq hr hr1 HI;go_wp2
    exact ⟨⟨a++a,b,q,rfl,by rw [HQW.out],rfl,HW,HN⟩,by have:=HQ.out;rw [HQW.out];simp only [intOf];omega⟩
end Go.Proofs.YtcmgddnckohdaaaGreatDoor.Dr
