import Derived.Test.YtcmgddnckohdaaaGreatDoorLs2
import Derived.Test.YtcmgddnckohdaaaGreatDoorFo
import Derived.Test.YtcmgddnckohdaaaGreatDoorPrint4
import Derived.Test.YtcmgddnckohdaaaGreatDoorSp2
set_option maxRecDepth 100000
set_option maxHeartbeats 6400000
set_option linter.unusedSimpArgs false
set_option linter.unusedVariables false
namespace Go.Proofs.YtcmgddnckohdaaaGreatDoor.Tx
open Go.RowKit Sd
noncomputable def parR (s:ByteArray):Bk×Nat×Int:=bif longB s then (([],[],[]),0,1) else parseL rdS ([],[],[]) 0 (linesL s)
theorem parseL_none {rd:ByteArray→Chg×Bool}:∀ (L:List ByteArray) (b:Bk) (i:Nat),(parseL rd b i L).2.2≠0→(parseL rd b i L).1=([],[],[])
  | [],b,i,h=>absurd rfl h
  | l::r,b,i,h=>by
    by_cases h0:lineC rd b l=0
    · rw [parseL_hit h0] at h ⊢
      exact parseL_none r _ _ h
    · rw [parseL_bad h0]
theorem parseL_zero {rd:ByteArray→Chg×Bool}:∀ (L:List ByteArray) (b:Bk) (i:Nat),(parseL rd b i L).2.2=0→(parseL rd b i L).2.1=0
  | [],b,i,h=>rfl
  | l::r,b,i,h=>by
    by_cases h0:lineC rd b l=0
    · rw [parseL_hit h0] at h ⊢
      exact parseL_zero r _ _ h
    · rw [parseL_bad h0] at h
      exact absurd h h0
theorem parR_none {s:ByteArray} (h:(parR s).2.2≠0):(parR s).1=([],[],[]):=by
  unfold parR at h ⊢
  cases hl:longB s
  · rw [hl] at h;exact parseL_none _ _ _ h
  · rfl
theorem parR_zero {s:ByteArray} (h:(parR s).2.2=0):(parR s).2.1=0:=by
  unfold parR at h ⊢
  cases hl:longB s
  · rw [hl] at h;exact parseL_zero _ _ _ h
  · rfl
theorem wat_idx {L:List ByteArray} {k:Nat} (h:k<L.length):wat L k=L[k]:=by simp [wat,h]
theorem strs_box {w:World} {v:Value} {L:List ByteArray} {X:Nat} {T:TypeId} {a1 a3 a5:Option Addr} {n1 n2 n3 a2 a4 a6:Nat} {C:Array Value} (h:StrsAt w v L) (hX:w.heap[X]?=some (.cells #[.slice a1 n1 a2,.slice a3 n2 a4,.slice a5 n3 a6] T (0,0))):StrsAt (w.setRow X C) v L:=by
  obtain ⟨g,off,cap,rfl,h1,h2,h3⟩:=h;refine ⟨g,off,cap,rfl,h1,h2,fun i x hx=>?_⟩;have hc:=h3 i x hx
  have hne:g≠X:=fun e=>by
    subst e
    simp only [World.cell?,hX] at hc
    generalize off+i=q at hc
    match q,hc with
    | 0,hc=>simp at hc
    | 1,hc=>simp at hc
    | 2,hc=>simp at hc
    | q+3,hc=>simp at hc
  have:(w.setRow X C).heap[g]?=w.heap[g]?:=setRow_other _ _ _ _ hne
  simp only [World.cell?,this] at hc ⊢
  exact hc
structure RT (w:World) (X:Nat) (vl:Value) (L:List ByteArray) (R:Bk×Nat×Int) (k:Nat) (b:Bk) (x y z:Value) (wr:World):Prop where
  below:Below w.heap.size w wr
  r:wr.heap[w.heap.size]?=some (.cells #[.slice none 0 0,.slice none 0 0,.slice none 0 0] 30 (0,0))
  bk:wr.heap[X]?=some (.cells #[x,y,z] 30 (0,0))
  lt:w.heap.size<X
  new:BookNew w.heap.size wr x y z b.1 b.2.1 b.2.2
  str:StrsAt wr vl L
  gd:Gd b
  par:R=parseL rdS b k (L.drop k)
theorem RT.call {w wr wr':World} {X:Nat} {vl:Value} {L:List ByteArray} {R:Bk×Nat×Int} {k:Nat} {b:Bk} {x y z:Value} (h:RT w X vl L R k b x y z wr) (hb:Below wr.heap.size wr wr'):RT w X vl L R k b x y z wr' :=
  ⟨aa h.below hb,(hb.block _ (Array.getElem?_eq_some_iff.1 h.r).1).trans h.r,(hb.block _ (Array.getElem?_eq_some_iff.1 h.bk).1).trans h.bk,h.lt,h.new.keep hb,h.str.keep hb,h.gd,h.par⟩
theorem RT.put {w wr:World} {X:Nat} {vl:Value} {L:List ByteArray} {R:Bk×Nat×Int} {k:Nat} {b b':Bk} {x y z x' y' z':Value} (h:RT w X vl L R k b x y z wr) (hn:BookNew w.heap.size wr x' y' z' b'.1 b'.2.1 b'.2.2) (hg:Gd b') (hp:R=parseL rdS b' (k+1) (L.drop (k+1))):RT w X vl L R (k+1) b' x' y' z' (wr.setRow X #[x',y',z']):=by
  have hlt:=h.lt;obtain ⟨a1,a2,a3,a4,a5,a6,rfl,rfl,rfl⟩:=h.new.slices
  refine ⟨below_setRow h.below (by omega) _,?_,setRow_heap _ _ _ _ _ _ h.bk,hlt,hn.box h.bk (aD _ X _),strs_box h.str h.bk,hg,hp⟩
  rw [setRow_other _ _ _ _ (by omega)]
  exact h.r
theorem cutN_sizes:∀ (l cur x:List UInt8),x∈cutN cur l→x.length≤cur.length+l.length
  | [],cur,x,h=>by simp [cutN] at h;subst h;simp
  | c::r,cur,x,h=>by
    rw [cutN] at h
    split at h
    · rcases List.mem_cons.1 h with rfl | h
      · simp
      · have:=cutN_sizes r [] x h
        simp at this ⊢
        omega
    · have:=cutN_sizes r (cur++[c]) x h
      simp at this ⊢
      omega
theorem lines_size (s:ByteArray):∀ l∈linesL s,l.size≤s.size:=fun x hx=>by
  have hx:x∈lineW s:=by
    unfold linesL at hx
    split at hx
    · exact List.dropLast_subset _ hx
    · exact hx
  unfold lineW at hx;obtain ⟨l,hl,rfl⟩:=List.mem_map.1 hx;have:=cutN_sizes _ _ _ hl;rw [aK,List.length_nil,Nat.zero_add] at this;exact this
theorem readText_any (s : ByteArray) (w : World) (hs : s.size ≤ 1048576) (hsa : SaidIn w) (hma : MaxIn w) :
    Calls Tryz.prog 30 #[.string s] w fun e w'=>Below w.heap.size w w' ∧
      (((parR s).2.2≠0∧e=.returned (fail3 (parR s).2.1 (parR s).2.2)) ∨
       ((parR s).2.2=0∧∃ x y z,e=.returned (.tuple #[.agg #[x,y,z],.nilIface])∧BookNew w.heap.size w' x y z (parR s).1.1 (parR s).1.2.1 (parR s).1.2.2)):=by
  have HSA:=au hsa;have HMA:=au hma;clear hsa hma;have HTL:Hid (∀ wx:World,Below w.heap.size w wx→Calls Tryz.prog 50 #[.string s] wx fun e w'=>e=.returned (.bool (longB s))∧Below wx.heap.size wx w'):=fun wx hx=>tooLong_any s wx hs (HMA.out.keep hx);have HPR:Hid (parR s=bif longB s then (([],[],[]),0,1) else parseL rdS ([],[],[]) 0 (linesL s)):=rfl;generalize parR s=R at *;generalize longB s=lb at *
  go_enter Tryz.func30,Tryz.ntmps30
  go_wp2_with fail;refine (HTL.out _ (aO)).mono ?_;rintro e w1 ⟨rfl,hb1⟩
  have H1:Hid (Below w.heap.size w w1∧w1.heap[w.heap.size]?=some (.cells #[.slice none 0 0,.slice none 0 0,.slice none 0 0] 30 (0,0))):=⟨aa (aO) hb1,(hb1.block _ (by simp)).trans (aj w _)⟩
  clear hb1;have g2:=H1.out.2
  cases lb
  · have HP:Hid (R=parseL rdS ([],[],[]) 0 (linesL s)):=HPR.out
    clear HPR g2;go_wp2_with fail;have HA1:Hid (Below w1.heap.size w1 (w1.alloc (.cells #[.slice none 0 0,.slice none 0 0,.slice none 0 0] 30))):=(aO);refine (linesOf_any s _ hs (HMA.out.keep (aa H1.out.1 HA1.out))).mono ?_;rintro e w2 ⟨v,rfl,hv2,hb2⟩;have HV2:=au hv2;obtain ⟨g,off,cap,rfl,hlc,hcm,-⟩:=hv2;unfold maxLen at hcm;have HX:Hid (w.heap.size<w1.heap.size):=(Array.getElem?_eq_some_iff.1 H1.out.2).1
    have HI0:Hid (RT w w1.heap.size (.slice (some ⟨g,off,none⟩) (linesL s).length cap) (linesL s) R 0 ([],[],[]) (.slice none 0 0) (.slice none 0 0) (.slice none 0 0) w2):=by
      have b1:=aa H1.out.1 HA1.out
      exact ⟨aa b1 hb2,(hb2.block _ (by rw [World.size_alloc];have:=HX.out;omega)).trans ((HA1.out.block _ HX.out).trans H1.out.2),(hb2.block _ (by rw [World.size_alloc];omega)).trans (aj w1 _),HX.out,BookNew.none _ _,HV2.out,Gd.none,HP.out⟩
    have HLS:Hid (∀ l∈linesL s,l.size≤s.size):=lines_size s;clear hb2 HV2 HA1 H1 HP;generalize linesL s=L at *;generalize w1.heap.size=X at *;go_wp2_with fail
    go_loopw [17] (fun i wr=>∃ (k:Nat) (b:Bk) (a1 a3 a5:Option Addr) (a2 a4 a6:Nat),k≤L.length∧i=.int .i64 k∧Hid (RT w X (.slice (some ⟨g,off,none⟩) L.length cap) L R k b (.slice a1 b.1.length a2) (.slice a3 b.2.1.length a4) (.slice a5 b.2.2.length a6) wr)) (fun i _=>L.length-(intOf i).toNat)
    case atStart=>exact ⟨0,([],[],[]),none,none,none,0,0,0,Nat.zero_le _,rfl,HI0.out⟩
    case round =>
      obtain ⟨k,b,a1,a3,a5,a2,a4,a6,hk,rfl,HI⟩:=hrel
      by_cases hlt:k<L.length
      · have c0:wr.cell? ⟨g,off+k,none⟩=some (.string (wat L k)):=HI.out.str.cell k hlt
        have hk0:(0:Int)≤(k:Int):=by omega
        have hk1:(k:Int)<(L.length:Int):=by omega
        have hbk:=HI.out.bk
        obtain ⟨d0,d1,d2⟩:wr.cell? ⟨X,0,none⟩=some (.slice a1 b.1.length a2)∧wr.cell? ⟨X,1,none⟩=some (.slice a3 b.2.1.length a4)∧wr.cell? ⟨X,2,none⟩=some (.slice a5 b.2.2.length a6):=by simp [World.cell?,hbk]
        go_wp2_with fail
        have HDR:Hid (L.drop k=wat L k::L.drop (k+1)):=by
          show _=_
          rw [List.drop_eq_getElem_cons hlt]
          simp [wat,hlt]
        have hsz:(wat L k).size≤1048576:=Nat.le_trans (HLS.out _ (by rw [wat_idx hlt];exact List.getElem_mem hlt)) hs
        refine (takeLine_any ((k:Int)+1) (wat L k) _ _ _ b w.heap.size wr HI.out.new HI.out.below.size HI.out.gd hsz (HSA.out.keep HI.out.below) (HMA.out.keep HI.out.below)).mono ?_;rintro e w3 ⟨hb3,⟨hc,rfl⟩ | ⟨hc,x,y,z,rfl,hn⟩⟩
        · have HI3:Hid (RT w X (.slice (some ⟨g,off,none⟩) L.length cap) L R k b (.slice a1 b.1.length a2) (.slice a3 b.2.1.length a4) (.slice a5 b.2.2.length a6) (w3.alloc (.cells #[.slice none 0 0,.slice none 0 0,.slice none 0 0] 30))):=(HI.out.call hb3).call (aO)
          have HP:Hid (R=(([],[],[]),k+1,lineC rdS b (wat L k))):=HI.out.par.trans (by rw [HDR.out,parseL_bad hc])
          have HC:=au hc;unfold fail3;clear d0 d1 d2 c0 HI hb3 hc hbk;generalize lineC rdS b (wat L k)=lc at *;have g2:=HI3.out.r
          go_wp2_with (refine wpList_store_row rfl 30 _ _ rfl (w.heap.size) #[.slice none 0 0,.slice none 0 0,.slice none 0 0] rfl rfl 30 _ g2 (by kernel_rfl) rfl (by simp [Value.oneCell']) ?_)
          exact bodyPost_ret (v:=fail3 ((k:Int)+1) lc) (by simp [results,Tryz.results30,go_sem,cell_setRow_same _ _ _ _ _ _ _ g2,fail3]) rfl ⟨below_setRow HI3.out.below aH _,.inl ⟨by rw [HP.out];exact HC.out,by rw [HP.out];rfl⟩⟩
        · have HI3:Hid (RT w X (.slice (some ⟨g,off,none⟩) L.length cap) L R k b (.slice a1 b.1.length a2) (.slice a3 b.2.1.length a4) (.slice a5 b.2.2.length a6) w3):=HI.out.call hb3
          have HP:Hid (R=parseL rdS (lineB rdS b (wat L k)) (k+1) (L.drop (k+1))):=HI.out.par.trans (by rw [HDR.out,parseL_hit hc])
          have HGD:Hid (Gd (lineB rdS b (wat L k))):=HI.out.gd.line hsz (rdS_all _ hsz).2.2.2.2 hc;have HN:=au hn;obtain ⟨e1,e2,e3,e4,e5,e6,rfl,rfl,rfl⟩:=hn.slices;have HA3:Hid (Below w3.heap.size w3 (w3.alloc (.cells #[.slice e1 (lineB rdS b (wat L k)).1.length e2,.slice e3 (lineB rdS b (wat L k)).2.1.length e4,.slice e5 (lineB rdS b (wat L k)).2.2.length e6] 30))):=(aO);have HI4:Hid (RT w X (.slice (some ⟨g,off,none⟩) L.length cap) L R (k+1) (lineB rdS b (wat L k)) (.slice e1 (lineB rdS b (wat L k)).1.length e2) (.slice e3 (lineB rdS b (wat L k)).2.1.length e4) (.slice e5 (lineB rdS b (wat L k)).2.2.length e6) ((w3.alloc (.cells #[.slice e1 (lineB rdS b (wat L k)).1.length e2,.slice e3 (lineB rdS b (wat L k)).2.1.length e4,.slice e5 (lineB rdS b (wat L k)).2.2.length e6] 30)).setRow X #[.slice e1 (lineB rdS b (wat L k)).1.length e2,.slice e3 (lineB rdS b (wat L k)).2.1.length e4,.slice e5 (lineB rdS b (wat L k)).2.2.length e6])):=(HI3.out.call HA3.out).put (HN.out.keep HA3.out) HGD.out HP.out;have HBX:Hid ((w3.alloc (.cells #[.slice e1 (lineB rdS b (wat L k)).1.length e2,.slice e3 (lineB rdS b (wat L k)).2.1.length e4,.slice e5 (lineB rdS b (wat L k)).2.2.length e6] 30)).heap[X]?=some (.cells #[.slice a1 b.1.length a2,.slice a3 b.2.1.length a4,.slice a5 b.2.2.length a6] 30 (0,0))):=(HI3.out.call HA3.out).bk;clear d0 d1 d2 c0 HI hb3 hc hbk HN hn HP HGD;have g3:=HBX.out
          go_wp2_with (refine wpList_store_row rfl 30 _ _ rfl X #[.slice e1 (lineB rdS b (wat L k)).1.length e2,.slice e3 (lineB rdS b (wat L k)).2.1.length e4,.slice e5 (lineB rdS b (wat L k)).2.2.length e6] rfl rfl 30 _ g3 (by kernel_rfl) rfl (by simp [Value.oneCell']) ?_)
          exact ⟨⟨k+1,_,_,_,_,_,_,_,by omega,by go_num,HI4.out⟩,by simp [intOf];omega⟩
      · have HP:Hid (R=(b,0,0)):=HI.out.par.trans (by rw [List.drop_of_length_le (by omega)];rfl)
        have hbk:=HI.out.bk;have g2:=HI.out.r
        obtain ⟨d0,d1,d2⟩:wr.cell? ⟨X,0,none⟩=some (.slice a1 b.1.length a2)∧wr.cell? ⟨X,1,none⟩=some (.slice a3 b.2.1.length a4)∧wr.cell? ⟨X,2,none⟩=some (.slice a5 b.2.2.length a6):=by simp [World.cell?,hbk]
        have hk1:¬ (k:Int)<(L.length:Int):=by omega
        go_wp2_with (refine wpList_store_row rfl 30 _ _ rfl (w.heap.size) #[.slice a1 b.1.length a2,.slice a3 b.2.1.length a4,.slice a5 b.2.2.length a6] rfl rfl 30 _ g2 (by kernel_rfl) rfl (by simp [Value.oneCell']) ?_)
        exact bodyPost_ret (v:=.tuple #[.agg #[.slice a1 b.1.length a2,.slice a3 b.2.1.length a4,.slice a5 b.2.2.length a6],.nilIface]) (by simp [results,Tryz.results30,go_sem,cell_setRow_same _ _ _ _ _ _ _ g2]) rfl ⟨below_setRow HI.out.below aH _,.inr ⟨by rw [HP.out],_,_,_,rfl,by rw [HP.out];exact HI.out.new.box g2 (aD _ w.heap.size _)⟩⟩
  · have HP:Hid (R=(([],[],[]),0,1)):=HPR.out
    clear HPR
    go_wp2_with (refine wpList_store_row rfl 30 _ _ rfl (w.heap.size) #[.slice none 0 0,.slice none 0 0,.slice none 0 0] rfl rfl 30 _ g2 (by kernel_rfl) rfl (by simp [Value.oneCell']) ?_)
    exact bodyPost_ret (v:=fail3 0 1) (by simp [results,Tryz.results30,go_sem,cell_setRow_same _ _ _ _ _ _ _ g2,fail3]) rfl ⟨below_setRow H1.out.1 aH _,.inl ⟨by rw [HP.out];decide,by rw [HP.out];rfl⟩⟩
theorem planParse_any (s : ByteArray) (w : World) (hs : s.size ≤ 1048576) (hsa : SaidIn w) (hma : MaxIn w) (her : ErrIn w) :
    Calls Tryz.prog 8 #[.string s] w fun e w'=>∃ x y z,e=.returned (.tuple #[.agg #[x,y,z],.agg #[.int .i64 (parR s).2.1,.int .i64 (parR s).2.2]])∧BookNew w.heap.size w' x y z (parR s).1.1 (parR s).1.2.1 (parR s).1.2.2∧Below w.heap.size w w':=by
  have HER:=au her;have HRT:Hid (∀ wx:World,Below w.heap.size w wx→_):=fun wx hx=>readText_any s wx hs (hsa.keep hx) (hma.keep hx);have HNO:Hid ((parR s).2.2≠0→(parR s).1=([],[],[])):=parR_none;have HZE:Hid ((parR s).2.2=0→(parR s).2.1=0):=parR_zero;clear hsa hma her;generalize parR s=R at *;obtain ⟨b,l,c⟩:=R;dsimp only at *
  go_enter Tryz.func8,Tryz.ntmps8
  go_wp2_with fail
  have B0:Below w.heap.size w ((w.alloc (.cells #[.slice none 0 0,.slice none 0 0,.slice none 0 0] 30)).alloc (.cells #[.int .i64 0,.int .i64 0] 32)):=(aO).alloc (by simp) _
  refine (HRT.out _ B0).mono ?_;rintro e w1 ⟨hb1,⟨hc,rfl⟩ | ⟨hc,x,y,z,rfl,hn⟩⟩
  · have hno:=HNO.out hc
    unfold fail3;go_wp2_with fail;have HA:Hid (Below w1.heap.size w1 (w1.alloc (.cells #[.slice none 0 0,.slice none 0 0,.slice none 0 0] 30))):=(aO)
    have HZ:Hid (w.heap.size+1<w1.heap.size):=by have:=hb1.size;simp only [World.size_alloc] at this;show _<_;omega
    have HX:Hid ((w1.alloc (.cells #[.slice none 0 0,.slice none 0 0,.slice none 0 0] 30)).heap[w1.heap.size]?=some (.cells #[.slice none 0 0,.slice none 0 0,.slice none 0 0] 30 (0,0))):=aj w1 _
    have HR0:Hid ((w1.alloc (.cells #[.slice none 0 0,.slice none 0 0,.slice none 0 0] 30)).heap[w.heap.size]?=some (.cells #[.slice none 0 0,.slice none 0 0,.slice none 0 0] 30 (0,0))):=(HA.out.block _ (by have:=HZ.out;omega)).trans ((hb1.block _ (by simp;omega)).trans (heap_old w _ _))
    have HR1:Hid ((w1.alloc (.cells #[.slice none 0 0,.slice none 0 0,.slice none 0 0] 30)).heap[w.heap.size+1]?=some (.cells #[.int .i64 0,.int .i64 0] 32 (0,0))):=(HA.out.block _ HZ.out).trans ((hb1.block _ (by simp)).trans (by have h:=aj (w.alloc (.cells #[.slice none 0 0,.slice none 0 0,.slice none 0 0] 30)) (.cells #[.int .i64 0,.int .i64 0] 32);rw [World.size_alloc] at h;exact h))
    have HB:Hid (Below w.heap.size w (w1.alloc (.cells #[.slice none 0 0,.slice none 0 0,.slice none 0 0] 30))):=aa (aa B0 hb1) HA.out;clear B0 HA hb1;generalize (w1.alloc (.cells #[.slice none 0 0,.slice none 0 0,.slice none 0 0] 30))=W at *;generalize w1.heap.size=X at *
    have HSS:Hid (∀ w':World,w'.heap[X]?=some (.cells #[.slice none 0 0,.slice none 0 0,.slice none 0 0] 30 (0,0))→(w'.cell? ⟨X,0,none⟩=some (.slice none 0 0)∧w'.cell? ⟨X,1,none⟩=some (.slice none 0 0)∧w'.cell? ⟨X,2,none⟩=some (.slice none 0 0))):=fun w' hx=>⟨by simp [World.cell?,hx],by simp [World.cell?,hx],by simp [World.cell?,hx]⟩
    refine wp_region_noPanic ?_
    refine wp_region_held_drew (S:=fun w'=>w'.cell? ⟨X,0,none⟩=some (.slice none 0 0)∧w'.cell? ⟨X,1,none⟩=some (.slice none 0 0)∧w'.cell? ⟨X,2,none⟩=some (.slice none 0 0)) (by kernel_rfl) ?_ (fun hHeld=>?_)
    · exact HSS.out _ HX.out
    have HX2:Hid (W.drew.heap[X]?=some (.cells #[.slice none 0 0,.slice none 0 0,.slice none 0 0] 30 (0,0))):=HX.out;have HR02:Hid (W.drew.heap[w.heap.size]?=some (.cells #[.slice none 0 0,.slice none 0 0,.slice none 0 0] 30 (0,0))):=HR0.out;have HR12:Hid (W.drew.heap[w.heap.size+1]?=some (.cells #[.int .i64 0,.int .i64 0] 32 (0,0))):=HR1.out;have HB2:Hid (Below w.heap.size w W.drew):=HB.out.drew;clear HX HR0 HR1 HB;generalize W.drew=W0 at *;refine aJ 0 ?_ rfl ?_ ?_;rotate_left
    · intro w hSw;(try dsimp only at hSw);go_simp;try with_reducible rfl
    simp only [Act.put,aR]
    refine aJ 1 ?_ rfl ?_ ?_;rotate_left
    · intro w hSw;(try dsimp only at hSw);go_simp;try with_reducible rfl
    simp only [Act.put,aR]
    clear hHeld;refine bh 2 rfl (fun K hK=>?_);go_simp;refine (faultOf_hit (l:Int) c _ (HER.out.keep HB2.out)).mono ?_;rintro e W1 ⟨rfl,hbb⟩;have HX:Hid (W1.heap[X]?=some (.cells #[.slice none 0 0,.slice none 0 0,.slice none 0 0] 30 (0,0))):=(hbb.block _ (Array.getElem?_eq_some_iff.1 HX2.out).1).trans HX2.out;have HR0:Hid (W1.heap[w.heap.size]?=some (.cells #[.slice none 0 0,.slice none 0 0,.slice none 0 0] 30 (0,0))):=(hbb.block _ (Array.getElem?_eq_some_iff.1 HR02.out).1).trans HR02.out;have HR1:Hid (W1.heap[w.heap.size+1]?=some (.cells #[.int .i64 0,.int .i64 0] 32 (0,0))):=(hbb.block _ (Array.getElem?_eq_some_iff.1 HR12.out).1).trans HR12.out;have HB:Hid (Below w.heap.size w W1):=aa HB2.out hbb;refine hK.out _ _ (HSS.out _ HX.out) (fun _=>?_);clear hK K hbb HX2 HR02 HR12 HB2;have HXL:Hid (w.heap.size+1<X):=HZ.out;refine bh 3 rfl (fun K hK=>?_)
    refine aQ rfl 30 _ _ rfl (w.heap.size) #[.slice none 0 0,.slice none 0 0,.slice none 0 0] rfl rfl 30 _ HR0.out (by kernel_rfl) rfl (by simp [Value.oneCell']) ?_
    have HX2:Hid ((W1.setRow w.heap.size #[.slice none 0 0,.slice none 0 0,.slice none 0 0]).heap[X]?=some (.cells #[.slice none 0 0,.slice none 0 0,.slice none 0 0] 30 (0,0))):=(setRow_other _ _ _ _ (by have:=HXL.out;omega)).trans HX.out
    have HR02:Hid ((W1.setRow w.heap.size #[.slice none 0 0,.slice none 0 0,.slice none 0 0]).heap[w.heap.size]?=some (.cells #[.slice none 0 0,.slice none 0 0,.slice none 0 0] 30 (0,0))):=setRow_heap _ _ _ _ _ _ HR0.out
    have HR12:Hid ((W1.setRow w.heap.size #[.slice none 0 0,.slice none 0 0,.slice none 0 0]).heap[w.heap.size+1]?=some (.cells #[.int .i64 0,.int .i64 0] 32 (0,0))):=(setRow_other _ _ _ _ (by omega)).trans HR1.out
    have HB2:Hid (Below w.heap.size w (W1.setRow w.heap.size #[.slice none 0 0,.slice none 0 0,.slice none 0 0])):=below_setRow HB.out aH _;refine hK.out _ _ (HSS.out _ HX2.out) (fun _=>?_);clear hK K HX HR0 HR1 HB;generalize (W1.setRow w.heap.size #[.slice none 0 0,.slice none 0 0,.slice none 0 0])=W2 at *;refine bh 4 rfl (fun K hK=>?_)
    refine aQ rfl 32 _ _ rfl (w.heap.size+1) #[.int .i64 l,.int .i64 c] rfl rfl 32 _ HR12.out (by kernel_rfl) rfl (by simp [Value.oneCell']) ?_
    have HX:Hid ((W2.setRow (w.heap.size+1) #[.int .i64 l,.int .i64 c]).heap[X]?=some (.cells #[.slice none 0 0,.slice none 0 0,.slice none 0 0] 30 (0,0))):=(setRow_other _ _ _ _ (by have:=HXL.out;omega)).trans HX2.out
    have HR0:Hid ((W2.setRow (w.heap.size+1) #[.int .i64 l,.int .i64 c]).heap[w.heap.size]?=some (.cells #[.slice none 0 0,.slice none 0 0,.slice none 0 0] 30 (0,0))):=(setRow_other _ _ _ _ (by omega)).trans HR02.out
    have HR1:Hid ((W2.setRow (w.heap.size+1) #[.int .i64 l,.int .i64 c]).heap[w.heap.size+1]?=some (.cells #[.int .i64 l,.int .i64 c] 32 (0,0))):=setRow_heap _ _ _ _ _ _ HR12.out
    have HB:Hid (Below w.heap.size w (W2.setRow (w.heap.size+1) #[.int .i64 l,.int .i64 c])):=below_setRow HB2.out (by omega) _
    refine hK.out _ _ (HSS.out _ HX.out) (fun _=>?_);clear hK K HX2 HR02 HR12 HB2;generalize (W2.setRow (w.heap.size+1) #[.int .i64 l,.int .i64 c])=W3 at *
    refine wpAnyH_done (by kernel_rfl) ?_ _
    refine NoPanic.normal ?_
    have r0:W3.cell? ⟨w.heap.size,0,none⟩=some (.slice none 0 0):=by simp [World.cell?,HR0.out]
    have r1:W3.cell? ⟨w.heap.size,1,none⟩=some (.slice none 0 0):=by simp [World.cell?,HR0.out]
    have r2:W3.cell? ⟨w.heap.size,2,none⟩=some (.slice none 0 0):=by simp [World.cell?,HR0.out]
    have q0:W3.cell? ⟨w.heap.size+1,0,none⟩=some (.int .i64 l):=by simp [World.cell?,HR1.out]
    have q1:W3.cell? ⟨w.heap.size+1,1,none⟩=some (.int .i64 c):=by simp [World.cell?,HR1.out]
    go_wp2_with fail
    exact bodyPost_ret (v:=.tuple #[.agg #[.slice none 0 0,.slice none 0 0,.slice none 0 0],.agg #[.int .i64 l,.int .i64 c]]) (by simp [results,Tryz.results8,go_sem,r0,r1,r2,q0,q1]) rfl ⟨_,_,_,rfl,by rw [hno];exact BookNew.none _ _,HB.out⟩
  · have hze:=HZE.out hc
    subst hze;subst hc
    have hn2:=hn.mono (lo':=w.heap.size+2) (by simp)
    obtain ⟨e1,e2,e3,e4,e5,e6,rfl,rfl,rfl⟩:=hn.slices;have HN:=au (hn2.keep ((Below.refl _ _).alloc aH (.cells #[.slice e1 b.1.length e2,.slice e3 b.2.1.length e4,.slice e5 b.2.2.length e6] 30)));clear hn hn2;go_wp2_with fail;have HA:Hid (Below w1.heap.size w1 (w1.alloc (.cells #[.slice e1 b.1.length e2,.slice e3 b.2.1.length e4,.slice e5 b.2.2.length e6] 30))):=(aO)
    have HZ:Hid (w.heap.size+1<w1.heap.size):=by have:=hb1.size;simp only [World.size_alloc] at this;show _<_;omega
    have HX:Hid ((w1.alloc (.cells #[.slice e1 b.1.length e2,.slice e3 b.2.1.length e4,.slice e5 b.2.2.length e6] 30)).heap[w1.heap.size]?=some (.cells #[.slice e1 b.1.length e2,.slice e3 b.2.1.length e4,.slice e5 b.2.2.length e6] 30 (0,0))):=aj w1 _
    have HR0:Hid ((w1.alloc (.cells #[.slice e1 b.1.length e2,.slice e3 b.2.1.length e4,.slice e5 b.2.2.length e6] 30)).heap[w.heap.size]?=some (.cells #[.slice none 0 0,.slice none 0 0,.slice none 0 0] 30 (0,0))):=(HA.out.block _ (by have:=HZ.out;omega)).trans ((hb1.block _ (by simp;omega)).trans (heap_old w _ _))
    have HR1:Hid ((w1.alloc (.cells #[.slice e1 b.1.length e2,.slice e3 b.2.1.length e4,.slice e5 b.2.2.length e6] 30)).heap[w.heap.size+1]?=some (.cells #[.int .i64 0,.int .i64 0] 32 (0,0))):=(HA.out.block _ HZ.out).trans ((hb1.block _ (by simp)).trans (by have h:=aj (w.alloc (.cells #[.slice none 0 0,.slice none 0 0,.slice none 0 0] 30)) (.cells #[.int .i64 0,.int .i64 0] 32);rw [World.size_alloc] at h;exact h))
    have HB:Hid (Below w.heap.size w (w1.alloc (.cells #[.slice e1 b.1.length e2,.slice e3 b.2.1.length e4,.slice e5 b.2.2.length e6] 30))):=aa (aa B0 hb1) HA.out;clear B0 HA hb1;generalize (w1.alloc (.cells #[.slice e1 b.1.length e2,.slice e3 b.2.1.length e4,.slice e5 b.2.2.length e6] 30))=W at *;generalize w1.heap.size=X at *
    have HSS:Hid (∀ w':World,w'.heap[X]?=some (.cells #[.slice e1 b.1.length e2,.slice e3 b.2.1.length e4,.slice e5 b.2.2.length e6] 30 (0,0))→(w'.cell? ⟨X,0,none⟩=some (.slice e1 b.1.length e2)∧w'.cell? ⟨X,1,none⟩=some (.slice e3 b.2.1.length e4)∧w'.cell? ⟨X,2,none⟩=some (.slice e5 b.2.2.length e6))):=fun w' hx=>⟨by simp [World.cell?,hx],by simp [World.cell?,hx],by simp [World.cell?,hx]⟩
    refine wp_region_noPanic ?_
    refine wp_region_held_drew (S:=fun w'=>w'.cell? ⟨X,0,none⟩=some (.slice e1 b.1.length e2)∧w'.cell? ⟨X,1,none⟩=some (.slice e3 b.2.1.length e4)∧w'.cell? ⟨X,2,none⟩=some (.slice e5 b.2.2.length e6)) (by kernel_rfl) ?_ (fun hHeld=>?_)
    · exact HSS.out _ HX.out
    have HX2:Hid (W.drew.heap[X]?=some (.cells #[.slice e1 b.1.length e2,.slice e3 b.2.1.length e4,.slice e5 b.2.2.length e6] 30 (0,0))):=HX.out;have HR02:Hid (W.drew.heap[w.heap.size]?=some (.cells #[.slice none 0 0,.slice none 0 0,.slice none 0 0] 30 (0,0))):=HR0.out;have HR12:Hid (W.drew.heap[w.heap.size+1]?=some (.cells #[.int .i64 0,.int .i64 0] 32 (0,0))):=HR1.out;have HB2:Hid (Below w.heap.size w W.drew):=HB.out.drew;have HN2:=au (drewBN HN.out);clear HX HR0 HR1 HB HN;generalize W.drew=W0 at *;refine aJ 0 ?_ rfl ?_ ?_;rotate_left
    · intro w hSw;(try dsimp only at hSw);go_simp;try with_reducible rfl
    simp only [Act.put,aR]
    refine aJ 1 ?_ rfl ?_ ?_;rotate_left
    · intro w hSw;(try dsimp only at hSw);go_simp;try with_reducible rfl
    simp only [Act.put,aR]
    clear hHeld;refine bh 2 rfl (fun K hK=>?_);go_simp;refine (faultOf_nil _).mono ?_;rintro e W1 ⟨rfl,hbb⟩;have HX:Hid (W1.heap[X]?=some (.cells #[.slice e1 b.1.length e2,.slice e3 b.2.1.length e4,.slice e5 b.2.2.length e6] 30 (0,0))):=(hbb.block _ (Array.getElem?_eq_some_iff.1 HX2.out).1).trans HX2.out;have HR0:Hid (W1.heap[w.heap.size]?=some (.cells #[.slice none 0 0,.slice none 0 0,.slice none 0 0] 30 (0,0))):=(hbb.block _ (Array.getElem?_eq_some_iff.1 HR02.out).1).trans HR02.out;have HR1:Hid (W1.heap[w.heap.size+1]?=some (.cells #[.int .i64 0,.int .i64 0] 32 (0,0))):=(hbb.block _ (Array.getElem?_eq_some_iff.1 HR12.out).1).trans HR12.out;have HB:Hid (Below w.heap.size w W1):=aa HB2.out hbb;have HN:=au (HN2.out.keep hbb);refine hK.out _ _ (HSS.out _ HX.out) (fun _=>?_);clear hK K hbb HX2 HR02 HR12 HB2 HN2;have HXL:Hid (w.heap.size+1<X):=HZ.out;refine bh 3 rfl (fun K hK=>?_)
    refine aQ rfl 30 _ _ rfl (w.heap.size) #[.slice e1 b.1.length e2,.slice e3 b.2.1.length e4,.slice e5 b.2.2.length e6] rfl rfl 30 _ HR0.out (by kernel_rfl) rfl (by simp [Value.oneCell']) ?_
    have HX2:Hid ((W1.setRow w.heap.size #[.slice e1 b.1.length e2,.slice e3 b.2.1.length e4,.slice e5 b.2.2.length e6]).heap[X]?=some (.cells #[.slice e1 b.1.length e2,.slice e3 b.2.1.length e4,.slice e5 b.2.2.length e6] 30 (0,0))):=(setRow_other _ _ _ _ (by have:=HXL.out;omega)).trans HX.out
    have HR02:Hid ((W1.setRow w.heap.size #[.slice e1 b.1.length e2,.slice e3 b.2.1.length e4,.slice e5 b.2.2.length e6]).heap[w.heap.size]?=some (.cells #[.slice e1 b.1.length e2,.slice e3 b.2.1.length e4,.slice e5 b.2.2.length e6] 30 (0,0))):=setRow_heap _ _ _ _ _ _ HR0.out
    have HR12:Hid ((W1.setRow w.heap.size #[.slice e1 b.1.length e2,.slice e3 b.2.1.length e4,.slice e5 b.2.2.length e6]).heap[w.heap.size+1]?=some (.cells #[.int .i64 0,.int .i64 0] 32 (0,0))):=(setRow_other _ _ _ _ (by omega)).trans HR1.out
    have HB2:Hid (Below w.heap.size w (W1.setRow w.heap.size #[.slice e1 b.1.length e2,.slice e3 b.2.1.length e4,.slice e5 b.2.2.length e6])):=below_setRow HB.out aH _;have HN2:=au (HN.out.box HR0.out (aD W1 w.heap.size #[.slice e1 b.1.length e2,.slice e3 b.2.1.length e4,.slice e5 b.2.2.length e6]));refine hK.out _ _ (HSS.out _ HX2.out) (fun _=>?_);clear hK K HX HR0 HR1 HB HN;generalize (W1.setRow w.heap.size #[.slice e1 b.1.length e2,.slice e3 b.2.1.length e4,.slice e5 b.2.2.length e6])=W2 at *;refine bh 4 rfl (fun K hK=>?_)
    refine aQ rfl 32 _ _ rfl (w.heap.size+1) #[.int .i64 ((0:Nat):Int),.int .i64 0] rfl rfl 32 _ HR12.out (by kernel_rfl) rfl (by simp [Value.oneCell']) ?_
    have HX:Hid ((W2.setRow (w.heap.size+1) #[.int .i64 ((0:Nat):Int),.int .i64 0]).heap[X]?=some (.cells #[.slice e1 b.1.length e2,.slice e3 b.2.1.length e4,.slice e5 b.2.2.length e6] 30 (0,0))):=(setRow_other _ _ _ _ (by have:=HXL.out;omega)).trans HX2.out
    have HR0:Hid ((W2.setRow (w.heap.size+1) #[.int .i64 ((0:Nat):Int),.int .i64 0]).heap[w.heap.size]?=some (.cells #[.slice e1 b.1.length e2,.slice e3 b.2.1.length e4,.slice e5 b.2.2.length e6] 30 (0,0))):=(setRow_other _ _ _ _ (by omega)).trans HR02.out
    have HR1:Hid ((W2.setRow (w.heap.size+1) #[.int .i64 ((0:Nat):Int),.int .i64 0]).heap[w.heap.size+1]?=some (.cells #[.int .i64 ((0:Nat):Int),.int .i64 0] 32 (0,0))):=setRow_heap _ _ _ _ _ _ HR12.out
    have HB:Hid (Below w.heap.size w (W2.setRow (w.heap.size+1) #[.int .i64 ((0:Nat):Int),.int .i64 0])):=below_setRow HB2.out (by omega) _
    have HN:Hid (BookNew w.heap.size (W2.setRow (w.heap.size+1) #[.int .i64 ((0:Nat):Int),.int .i64 0]) _ _ _ b.1 b.2.1 b.2.2):=(HN2.out.far (aD W2 (w.heap.size+1) #[.int .i64 ((0:Nat):Int),.int .i64 0]) (by omega)).mono (by omega)
    refine hK.out _ _ (HSS.out _ HX.out) (fun _=>?_);clear hK K HX2 HR02 HR12 HB2;generalize (W2.setRow (w.heap.size+1) #[.int .i64 ((0:Nat):Int),.int .i64 0])=W3 at *
    refine wpAnyH_done (by kernel_rfl) ?_ _
    refine NoPanic.normal ?_
    have r0:W3.cell? ⟨w.heap.size,0,none⟩=some (.slice e1 b.1.length e2):=by simp [World.cell?,HR0.out]
    have r1:W3.cell? ⟨w.heap.size,1,none⟩=some (.slice e3 b.2.1.length e4):=by simp [World.cell?,HR0.out]
    have r2:W3.cell? ⟨w.heap.size,2,none⟩=some (.slice e5 b.2.2.length e6):=by simp [World.cell?,HR0.out]
    have q0:W3.cell? ⟨w.heap.size+1,0,none⟩=some (.int .i64 ((0:Nat):Int)):=by simp [World.cell?,HR1.out]
    have q1:W3.cell? ⟨w.heap.size+1,1,none⟩=some (.int .i64 0):=by simp [World.cell?,HR1.out]
    go_wp2_with fail
    exact bodyPost_ret (v:=.tuple #[.agg #[.slice e1 b.1.length e2,.slice e3 b.2.1.length e4,.slice e5 b.2.2.length e6],.agg #[.int .i64 ((0:Nat):Int),.int .i64 0]]) (by simp [results,Tryz.results8,go_sem,r0,r1,r2,q0,q1]) rfl ⟨_,_,_,rfl,HN.out,HB.out⟩
open Go.RowKit Sd
theorem lineW_join:∀ (L:List ByteArray),(∀ l∈L,NoNl (bytes l))→lineW ⟨(joinL L).toArray⟩=L++[⟨#[]⟩]
 | [],_=>by
  have h:NoNl (bytes (⟨(joinL []).toArray⟩:ByteArray)):=fun c hc=>by simp [bytes,joinL] at hc
  rw [lineW_none h]
  rfl
 | l::r,h=>by
  have hs:bytes (⟨(joinL (l::r)).toArray⟩:ByteArray)=bytes l++10::joinL r:=by simp [bytes,joinL]
  rw [lineW_some hs (h l (by simp)),bV]
  rw [show mkS (joinL r)=(⟨(joinL r).toArray⟩:ByteArray) from rfl,lineW_join r (fun x hx=>h x (by simp [hx]))]
  rfl
theorem lines_join (L:List ByteArray) (h:∀ l∈L,NoNl (bytes l)):linesL ⟨(joinL L).toArray⟩=L:=by
 unfold linesL;rw [lineW_join L h]
 simp
theorem cut_named {a0 a1 a2 a3:List UInt8} (h0:NoSp a0) (h1:NoSp a1) (h2:NoSp a2) (h3:NoSp a3) {s:ByteArray} (hs:bytes s=a0++32::(a1++32::(a2++32::a3))):cutW s=[mkS a0,mkS a1,mkS a2,mkS a3]:=by
 unfold cutW;rw [hs,bu _ _ _ h0,bu _ _ _ h1,bu _ _ _ h2,cut_none _ _ h3]
 rfl
theorem bytes_cat (a b:ByteArray):bytes (cat a b)=bytes a++bytes b:=by
 simp [bytes,cat]
theorem bytes_named (word:ByteArray) (t:Tri):bytes (namedS word t)=bytes word++32::(bytes t.s++32::(bytes (decS t.x.toNat)++32::bytes (decS t.y.toNat))):=by
 unfold namedS
 simp only [bytes_cat,List.append_assoc]
 rfl
theorem decB_zero:decB (decS 0)=true:=by decide +kernel
theorem numW_dec {n:Int} (h0:0≤n) (h1:n<10000000):numW (decS n.toNat)=n:=by
 have hd:decB (decS n.toNat)=true:=by
  by_cases hz:n=0
  ·subst hz;exact decB_zero
  ·exact decB_dec (by omega) (by omega)
 unfold numW;rw [hd]
 show ((numTo (decS n.toNat) (decS n.toNat).size:Nat):Int)=n
 have h2:=numTo_dec n.toNat
 rw [show (decS n.toNat).size=(Lib.decDigits n.toNat).length from List.size_toArray,show decS n.toNat=mkS (Lib.decDigits n.toNat) from rfl,h2]
 omega
theorem noSp_dec (n:Nat):NoSp (bytes (decS n)):=fun c hc e=>by
 have:=dec_digs n c hc;rw [e] at this
 simp at this
theorem noNl_dec (n:Nat):NoNl (bytes (decS n)):=fun c hc e=>by
 have:=dec_digs n c hc;rw [e] at this
 simp at this
theorem noNl_name {f:ByteArray} (h:nameB f=true):NoNl (bytes f):=fun c hc e=>by
 unfold nameB at h;rw [Bool.and_eq_true] at h;have h2:=List.all_eq_true.1 h.2 c hc;rw [e] at h2
 revert h2
 decide
theorem named_cut {word:ByteArray} {t:Tri} (hw:NoSp (bytes word)) (hn:nameB t.s=true) (hx0:0≤t.x) (hx:t.x<10000000) (hy0:0≤t.y) (hy:t.y<10000000):(cutW (namedS word t)).length=4∧wat (cutW (namedS word t)) 0=word∧triW (cutW (namedS word t))=t:=by
 rw [cut_named hw (noSp_name hn) (noSp_dec t.x.toNat) (noSp_dec t.y.toNat) (bytes_named word t)];refine ⟨rfl,bV word,?_⟩;unfold triW
 show (⟨mkS (bytes t.s),numW (mkS (bytes (decS t.x.toNat))),numW (mkS (bytes (decS t.y.toNat)))⟩:Tri)=t
 rw [bV,bV,bV,numW_dec hx0 hx,numW_dec hy0 hy]
theorem named_nl {word:ByteArray} {t:Tri} (hw:NoNl (bytes word)) (hn:nameB t.s=true):NoNl (bytes (namedS word t)):=by
 rw [bytes_named];intro c hc e;subst e
 simp only [List.mem_append,List.mem_cons] at hc
 rcases hc with h | h | h | h | h | h | h
 ·exact hw _ h rfl
 ·exact absurd h (by decide)
 ·exact noNl_name hn _ h rfl
 ·exact absurd h (by decide)
 ·exact noNl_dec _ _ h rfl
 ·exact absurd h (by decide)
 ·exact noNl_dec _ _ h rfl
open Go.RowKit Sd
theorem plc_end {l:List Tri} {t:Tri} (h:∀ a∈l,blS a.s t.s=true):plc l t.s=l.length:=by
 refine plc_none fun j hj=>?_;rw [bT hj,geB_bl,h _ (List.getElem_mem hj)]
 rfl
theorem has_end {l:List Tri} {t:Tri} (h:∀ a∈l,blS a.s t.s=true):hasB l t.s=false:=by
 unfold hasB;rw [plc_end h]
 simp
theorem ins_end {l:List Tri} {t:Tri} (h:∀ a∈l,blS a.s t.s=true):insT l (plc l t.s) t=l++[t]:=by
 rw [plc_end h]
 simp [insT]
theorem last_lt {pre suf:List Tri} {t:Tri} (h:(pre++t::suf).Pairwise fun a b=>blS a.s b.s=true):∀ a∈pre,blS a.s t.s=true:=fun a ha =>
 (List.pairwise_append.1 h).2.2 a ha t (by simp)
theorem sp_word (w:ByteArray) (h:w=kindS∨w=pointS):NoSp (bytes w)∧NoNl (bytes w):=by
 rcases h with rfl | rfl
 ·exact ⟨fun c hc e=>by subst e;revert hc;decide,fun c hc e=>by subst e;revert hc;decide⟩
 ·exact ⟨fun c hc e=>by subst e;revert hc;decide,fun c hc e=>by subst e;revert hc;decide⟩
theorem parse_kinds (rd:ByteArray→Chg×Bool) (ps:List Tri) (es:List Ent) (R:List ByteArray):∀ (suf pre:List Tri) (i:Nat),kindsB (pre++suf)=true→parseL rd (pre,ps,es) i (linesK suf++R)=parseL rd (pre++suf,ps,es) (i+suf.length) R
 | [],pre,i,h=>by simp [linesK]
 | t::suf,pre,i,h=>by
  obtain ⟨hl,ha,hs⟩:=(kinds_iff _).1 h
  obtain ⟨hn,hp⟩:=ha t (by simp)
  have hpp:1≤t.x∧t.x≤t.y∧t.y≤50:=by
   unfold paceB at hp
   simpa using hp
  have hlt:=last_lt hs
  obtain ⟨c4,c0,ct⟩:=named_cut (sp_word kindS (.inl rfl)).1 hn (t:=t) (by omega) (by omega) (by omega) (by omega)
  have hC:lineC rd (pre,ps,es) (namedS kindS t)=0:=by
   unfold lineC;rw [if_pos c0];unfold kindC;rw [ct,decide_eq_true c4,hn,hp,has_end hlt]
   have:¬ 6≤pre.length:=by simp at hl;omega
   rw [decide_eq_false this]
   rfl
  have hB:lineB rd (pre,ps,es) (namedS kindS t)=(pre++[t],ps,es):=by
   unfold lineB;rw [if_pos c0,ct,ins_end hlt]
  show parseL rd (pre,ps,es) i (namedS kindS t::(linesK suf++R))=_
  rw [parseL_hit hC,hB,parse_kinds rd ps es R suf (pre++[t]) (i+1) (by simpa using h)]
  simp only [List.append_assoc,List.cons_append,List.nil_append,List.length_cons]
  rw [show i+1+suf.length=i+(suf.length+1) by omega]
theorem any_end {pre suf:List Tri} {t:Tri} (h:(pre++t::suf).Pairwise fun a b=>sameB a b=false):anyCell pre t=false:=by
 unfold anyCell;rw [List.any_eq_false];intro a ha
 have:=(List.pairwise_append.1 h).2.2 a ha t (by simp)
 unfold sameB at this;rw [this]
 decide
theorem parse_points (rd:ByteArray→Chg×Bool) (ks:List Tri) (es:List Ent) (R:List ByteArray):∀ (suf pre:List Tri) (i:Nat),pointsB (pre++suf)=true→parseL rd (ks,pre,es) i (linesP suf++R)=parseL rd (ks,pre++suf,es) (i+suf.length) R
 | [],pre,i,h=>by simp [linesP]
 | t::suf,pre,i,h=>by
  obtain ⟨hl,ha,hs,hq⟩:=(cv _).1 h
  obtain ⟨hn,hp⟩:=ha t (by simp)
  have hpp:(0≤t.x∧t.x≤15)∧0≤t.y∧t.y≤15:=by
   unfold insideB inB at hp
   simpa using hp
  have hlt:=last_lt hs
  obtain ⟨c4,c0,ct⟩:=named_cut (sp_word pointS (.inr rfl)).1 hn (t:=t) (by omega) (by omega) (by omega) (by omega)
  have hne:wat (cutW (namedS pointS t)) 0≠kindS:=by
   rw [show wat (cutW (namedS pointS t)) 0=pointS from c0]
   decide
  have hC:lineC rd (ks,pre,es) (namedS pointS t)=0:=by
   unfold lineC;rw [if_neg hne,if_pos c0];unfold pointC;rw [ct,decide_eq_true c4,hn,hp,has_end hlt,any_end hq]
   have:¬ 16≤pre.length:=by simp at hl;omega
   rw [decide_eq_false this]
   rfl
  have hB:lineB rd (ks,pre,es) (namedS pointS t)=(ks,pre++[t],es):=by
   unfold lineB;rw [if_neg hne,if_pos c0,ct,ins_end hlt]
  show parseL rd (ks,pre,es) i (namedS pointS t::(linesP suf++R))=_
  rw [parseL_hit hC,hB,parse_points rd ks es R suf (pre++[t]) (i+1) (by simpa using h)]
  simp only [List.append_assoc,List.cons_append,List.nil_append,List.length_cons]
  rw [show i+1+suf.length=i+(suf.length+1) by omega]
open Go.RowKit Sd
theorem addE_le (es:List Ent) (c:Chg):es.length≤(addE es c).length:=by
 unfold addE
 split
 ·split
  ·rename_i e he hn
   have:es≠[]:=fun h=>by subst h;simp at he
   have:=List.length_pos_iff.2 this
   simp
   omega
  ·simp
 ·rename_i he
  have:es=[]:=by simpa using he
  subst this
  simp
theorem fold_le:∀ (m:List Chg) (es:List Ent),es.length≤(m.foldl addE es).length
 | [],es=>Nat.le_refl _
 | c::m,es=>Nat.le_trans (addE_le es c) (fold_le m (addE es c))
theorem form_word {c:Chg} (h:formB c=true):theForm c=formS c∧wat (cutW (formS c)) 0=setS:=by
 refine ⟨by unfold theForm;rw [h];rfl,?_⟩
 unfold cutW
 rw [cw,bu _ _ _ (fun c hc e=>by subst e;revert hc;decide)]
 rfl
theorem parse_chgs {ks ps:List Tri} (hb:baseB ks ps=true):∀ (suf:List Chg) (es:List Ent) (i:Nat),bookB ks ps es=true→SortedC (chgsOf es++suf)→(∀ c∈suf,fitB ks ps c=true∧(formS c).size≤1048576)→((chgsOf es++suf).foldl addE []).length≤12 →
  ∃ es',parseL rdS (ks,ps,es) i (linesC suf)=((ks,ps,es'),0,0)∧bookB ks ps es'=true∧chgsOf es'=chgsOf es++suf
 | [],es,i,hk,hs,hf,hl=>⟨es,rfl,hk,by simp⟩
 | c::suf,es,i,hk,hs,hf,hl=>by
  obtain ⟨hfit,hsz⟩:=hf c (by simp)
  have hfo:=fit_form hb hfit;obtain ⟨e1,e2⟩:=form_word hfo;obtain ⟨r1,r2⟩:=(rdS_all (formS c) hsz).2.2.2.1 c hfo rfl
  have hlt:∀ a∈chgsOf es,keyLt a c=true:=fun a ha=>(List.pairwise_append.1 hs).2.2 a ha c (by simp)
  have hput:putC (chgsOf es) (chgOf c.f (fldC c))=chgsOf es++[c]:=putC_last hlt;have hch:=chgs_putE c.f (fldC c) (bH hk);rw [hput] at hch;have hen:=put_entries c.f (fldC c) (bH hk) (book_ne hk);rw [hput] at hen
  have h12:(putE es c.f (fldC c)).length≤12:=by
   rw [← hen];refine Nat.le_trans ?_ hl
   have e:(chgsOf es++c::suf).foldl addE []=suf.foldl addE ((chgsOf es++[c]).foldl addE []):=by
    rw [← List.foldl_append]
    simp
   rw [e];exact fold_le suf _
  have hd:decide (12<(putE es c.f (fldC c)).length)=false:=decide_eq_false (by omega)
  have hT:takeC ks ps es c=0:=by unfold takeC;rw [hk,hfit,hd];rfl
  have hE:takeE ks ps es c=putE es c.f (fldC c):=by unfold takeE;rw [hk,hfit,hd];rfl
  have n1:wat (cutW (formS c)) 0≠kindS:=by rw [e2];decide
  have n2:wat (cutW (formS c)) 0≠pointS:=by rw [e2];decide
  have hC:lineC rdS (ks,ps,es) (theForm c)=0:=by
   rw [e1];unfold lineC;rw [if_neg n1,if_neg n2,if_pos e2];unfold setC;rw [r1,r2]
   show (bif true then (if takeC ks ps es c=2 then 7 else if takeC ks ps es c=3 then 6 else 0) else 3)=(0:Int)
   rw [hT]
   rfl
  have hB:lineB rdS (ks,ps,es) (theForm c)=(ks,ps,putE es c.f (fldC c)):=by
   rw [e1];unfold lineB;rw [if_neg n1,if_neg n2,r2]
   show (takeT ks ps es ks,takeT ks ps es ps,takeE ks ps es c)=_
   rw [takeT_ok hk,takeT_ok hk,hE]
  obtain ⟨es',q1,q2,q3⟩:=parse_chgs hb suf (putE es c.f (fldC c)) (i+1) (book_put hk hfit h12) (by rw [hch];simpa using hs) (fun x hx=>hf x (by simp [hx])) (by rw [hch];simpa using hl)
  refine ⟨es',?_,q2,by rw [q3,hch];simp⟩
  show parseL rdS (ks,ps,es) i (theForm c::linesC suf)=_
  rw [parseL_hit hC,hB,q1]
theorem book_empty {ks ps:List Tri} (h:baseB ks ps=true):bookB ks ps []=true :=
 book_of h (by simp) (fun e he=>by cases he) List.Pairwise.nil (fun e he=>by cases he)
theorem parse_lines {ks ps:List Tri} {es:List Ent} (h:bookB ks ps es=true) (hsz:∀ c∈chgsOf es,(formS c).size≤1048576):parseL rdS ([],[],[]) 0 (linesB ks ps (chgsOf es))=((ks,ps,es),0,0):=by
 have hb:=book_base h
 have hk:kindsB ks=true∧pointsB ps=true:=by
  unfold baseB at hb
  simpa using hb
 unfold linesB
 rw [List.append_assoc,parse_kinds rdS [] [] _ ks [] 0 (by simpa using hk.1),parse_points rdS _ [] _ ps [] _ (by simpa using hk.2)]
 obtain ⟨es',q1,q2,q3⟩:=parse_chgs hb (chgsOf es) [] (0+ks.length+ps.length) (book_empty hb) (by simpa [chgsOf] using book_sorted h) (fun c hc=>⟨book_fit h c hc,hsz c hc⟩) (by
  have e:chgsOf []++chgsOf es=chgsOf es:=by simp [chgsOf]
  rw [e,grp_self (book_ne h) (putE_apart (bH h))]
  exact book_len h)
 simp only [List.nil_append] at q1 ⊢
 rw [q1]
 have e3:chgsOf es'=chgsOf es:=by rw [q3];simp [chgsOf]
 have e4:es'=es:=by rw [← grp_self (book_ne q2) (putE_apart (bH q2)),e3,grp_self (book_ne h) (putE_apart (bH h))]
 rw [e4]
open Go.RowKit Sd
theorem cut_total:∀ (l cur:List UInt8),((cutA cur l).map List.length).sum+(cutA cur l).length=cur.length+l.length+1
 | [],cur=>by simp [cutA]
 | c::r,cur=>by
  rw [cutA]
  split
  ·have:=cut_total r []
   simp at this ⊢
   omega
  ·have:=cut_total r (cur++[c])
   simp at this ⊢
   omega
theorem sum_le (m:Nat):∀ (l:List (List UInt8)),(∀ x∈l,x.length≤m)→(l.map List.length).sum≤l.length*m
 | [],_=>by simp
 | x::l,h=>by
  have h1:=h x (by simp)
  have h2:=sum_le m l (fun y hy=>h y (by simp [hy]))
  simp only [List.map_cons,List.sum_cons,List.length_cons]
  have:(l.length+1)*m=l.length*m+m:=by rw [Nat.add_mul];omega
  omega
theorem words_size {s:ByteArray} {n m:Nat} (hn:(cutW s).length≤n) (h:∀ x∈cutW s,x.size≤m):s.size≤n*m+n:=by
 have h1:=cut_total (bytes s) []
 have h2:∀ x∈cutA [] (bytes s),x.length≤m:=fun x hx=>h ⟨⟨x⟩⟩ (by unfold cutW;exact List.mem_map.2 ⟨x,hx,rfl⟩)
 have h3:=sum_le m _ h2
 have h4:(cutA [] (bytes s)).length≤n:=by unfold cutW at hn;rwa [List.length_map] at hn
 have h5:=Nat.mul_le_mul_right m h4;rw [aK] at h1
 simp at h1
 omega
theorem dec_size {s:ByteArray} (h:decB s=true):s.size≤7:=by
 unfold decB inB at h
 simp at h
 omega
theorem name_size {s:ByteArray} (h:nameB s=true):s.size≤8:=by
 unfold nameB inB at h
 simp at h
 omega
theorem fit_size {ks ps:List Tri} {c:Chg} (hb:baseB ks ps=true) (h:fitB ks ps c=true):c.f.size≤8∧c.v.size≤72:=by
 unfold baseB kindsB pointsB at hb
 simp only [Bool.and_eq_true] at hb
 obtain ⟨⟨hk,-⟩,hp,-⟩:=hb;unfold fitB at h;rw [Bool.and_eq_true,Bool.and_eq_true] at h;obtain ⟨hf,hn,hv⟩:=h;refine ⟨name_size hf,?_⟩;unfold valB2 at hv
 split at hv
 ·have:=name_size (has_name hk hv)
  omega
 split at hv
 ·unfold timeB at hv
  simp only [Bool.and_eq_true,decide_eq_true_eq] at hv
  obtain ⟨hl,h0,h1,-⟩:=hv
  have:=words_size (s:=c.v) (n:=2) (m:=7) (by omega) (fun x hx=>by
   obtain ⟨i,hi,rfl⟩:=wat_mem hx
   rcases (show i=0∨i=1 by omega) with rfl | rfl
   ·exact dec_size h0
   ·exact dec_size h1)
  omega
 split at hv
 ·unfold levelB at hv
  rw [Bool.and_eq_true] at hv;have:=dec_size hv.1
  omega
 split at hv
 ·unfold routeB at hv
  rw [Bool.and_eq_true] at hv
  have hl:(cutW c.v).length≤8:=by have:=hv.1;simp [inB] at this;omega
  have:=words_size (s:=c.v) (n:=8) (m:=8) hl (fun x hx=>by
   obtain ⟨i,hi,rfl⟩:=wat_mem hx;have h2:=bF hv.2 i hi;unfold stepB at h2;rw [Bool.and_eq_true] at h2
   exact name_size (has_name hp h2.1))
  omega
 split at hv
 ·unfold stateB at hv
  rw [Bool.or_eq_true] at hv
  rcases hv with h | h <;> (rw [of_decide_eq_true h];decide)
 ·cases hv
theorem form_size {c:Chg} (h:formB c=true) (hf:c.f.size≤8) (hv:c.v.size≤72):(formS c).size≤99:=by
 unfold formB at h;rw [Bool.and_eq_true,Bool.and_eq_true,Bool.and_eq_true] at h;obtain ⟨h1,-,h3,-⟩:=h
 have hn:1≤c.num∧c.num≤1000000:=by simpa [inB] using h3
 have hw:(wordS c.what).size≤5:=by
  have:1≤c.what∧c.what≤5:=by simpa [inB] using h1
  rcases (show c.what=1∨c.what=2∨c.what=3∨c.what=4∨c.what=5 by omega) with e | e | e | e | e <;> (rw [e];decide)
 have hd:=aP c.num.toNat (by omega)
 have e:=congrArg List.length (cw c)
 simp only [List.length_append,List.length_cons,aK] at e
 have:setL.length=3:=rfl
 omega
theorem form_nl {c:Chg} (h:formB c=true):NoNl (bytes (formS c)):=by
 unfold formB at h;rw [Bool.and_eq_true,Bool.and_eq_true,Bool.and_eq_true] at h;obtain ⟨h1,h2,h3,h4⟩:=h;rw [cw];intro x hx e;subst e
 simp only [List.mem_append,List.mem_cons] at hx
 rcases hx with h | h | h | h | h | h | h | h | h
 ·exact absurd h (by decide)
 ·exact absurd h (by decide)
 ·exact noNl_name h2 _ h rfl
 ·exact absurd h (by decide)
 ·have:1≤c.what∧c.what≤5:=by simpa [inB] using h1
  rcases (show c.what=1∨c.what=2∨c.what=3∨c.what=4∨c.what=5 by omega) with e | e | e | e | e <;> (rw [e] at h;exact absurd h (by decide))
 ·exact absurd h (by decide)
 ·exact noNl_dec _ _ h rfl
 ·exact absurd h (by decide)
 ·unfold valB oddB at h4
  rw [Bool.and_eq_true] at h4;have h5:=h4.2
  simp only [Bool.not_eq_true',List.any_eq_false] at h5
  exact h5 10 h (by decide)
theorem named_size {word:ByteArray} {t:Tri} (hw:word.size≤5) (hn:nameB t.s=true) (hx:t.x<10000000) (hy:t.y<10000000):(namedS word t).size≤30:=by
 have h1:=name_size hn
 have h2:=aP t.x.toNat (by omega)
 have h3:=aP t.y.toNat (by omega)
 have e:=congrArg List.length (bytes_named word t)
 simp only [List.length_append,List.length_cons,aK] at e
 omega
theorem join_le (m:Nat):∀ (L:List ByteArray),(∀ l∈L,l.size≤m)→(joinL L).length≤L.length*(m+1)
 | [],_=>by simp [joinL]
 | x::l,h=>by
  have h1:=h x (by simp)
  have h2:=join_le m l (fun y hy=>h y (by simp [hy]))
  simp only [joinL,List.length_append,List.length_cons,List.length_nil,aK]
  have:(l.length+1)*(m+1)=l.length*(m+1)+(m+1):=by rw [Nat.add_mul];omega
  omega
theorem lines_print {ks ps:List Tri} {es:List Ent} (h:bookB ks ps es=true):(∀ l∈linesB ks ps (chgsOf es),l.size≤99∧1≤l.size∧NoNl (bytes l))∧(linesB ks ps (chgsOf es)).length≤82∧(∀ c∈chgsOf es,(formS c).size≤99)∧linesL (printS ks ps es)=linesB ks ps (chgsOf es):=by
 have hb:=book_base h
 obtain ⟨hk,hp⟩:kindsB ks=true∧pointsB ps=true:=by
  unfold baseB at hb
  simpa using hb
 obtain ⟨kl,ka,-⟩:=(kinds_iff _).1 hk;obtain ⟨pl,pa,-,-⟩:=(cv _).1 hp
 have cl:(chgsOf es).length≤60:=by
  rw [chgsOf_len];have:=sumN_le_mul (fun e:Ent=>e.fs.length) 5 es (book_fs5 h);have:=Nat.mul_le_mul_right 5 (book_len h)
  omega
 have kx:∀ t∈ks,nameB t.s=true∧t.x<10000000∧t.y<10000000:=fun t ht=>by
  obtain ⟨a,b⟩:=ka t ht;unfold paceB at b
  simp at b
  exact ⟨a,by omega,by omega⟩
 have px:∀ t∈ps,nameB t.s=true∧t.x<10000000∧t.y<10000000:=fun t ht=>by
  obtain ⟨a,b⟩:=pa t ht;unfold insideB inB at b
  simp at b
  exact ⟨a,by omega,by omega⟩
 have cx:∀ c∈chgsOf es,formB c=true∧(formS c).size≤99:=fun c hc=>by
  have hf:=book_fit h c hc;have ho:=fit_form hb hf;obtain ⟨s1,s2⟩:=fit_size hb hf;exact ⟨ho,form_size ho s1 s2⟩
 have hsz:∀ l∈linesB ks ps (chgsOf es),l.size≤99:=fun l hl=>by
  unfold linesB linesK linesP linesC at hl
  simp only [List.mem_append,List.mem_map] at hl
  rcases hl with (⟨t,ht,rfl⟩ | ⟨t,ht,rfl⟩) | ⟨c,hc,rfl⟩
  ·have:=named_size (word:=wKind) (by decide) (kx t ht).1 (kx t ht).2.1 (kx t ht).2.2
   omega
  ·have:=named_size (word:=wPoint) (by decide) (px t ht).1 (px t ht).2.1 (px t ht).2.2
   omega
  ·rw [(form_word (cx c hc).1).1]
   exact (cx c hc).2
 have hnl:∀ l∈linesB ks ps (chgsOf es),NoNl (bytes l):=fun l hl=>by
  unfold linesB linesK linesP linesC at hl
  simp only [List.mem_append,List.mem_map] at hl
  rcases hl with (⟨t,ht,rfl⟩ | ⟨t,ht,rfl⟩) | ⟨c,hc,rfl⟩
  ·exact named_nl (sp_word kindS (.inl rfl)).2 (kx t ht).1
  ·exact named_nl (sp_word pointS (.inr rfl)).2 (px t ht).1
  ·rw [(form_word (cx c hc).1).1]
   exact form_nl (cx c hc).1
 have hlen:(linesB ks ps (chgsOf es)).length≤82:=by
  unfold linesB linesK linesP linesC
  simp only [List.length_append,List.length_map]
  omega
 have hpo:∀ l∈linesB ks ps (chgsOf es),1≤l.size:=fun l hl=>by
  unfold linesB linesK linesP linesC at hl
  simp only [List.mem_append,List.mem_map] at hl
  have hnm:∀ (word:ByteArray) (t:Tri),1≤(namedS word t).size:=fun word t=>by
   show 1≤(bytes (namedS word t)).length
   rw [bytes_named]
   simp only [List.length_append,List.length_cons]
   omega
  rcases hl with (⟨t,ht,rfl⟩ | ⟨t,ht,rfl⟩) | ⟨c,hc,rfl⟩
  ·exact hnm _ t
  ·exact hnm _ t
  ·obtain ⟨e1,e2⟩:=form_word (cx c hc).1
   rw [e1]
   by_cases h0:(formS c).size=0
   ·have hm:formS c=⟨#[]⟩:=by rw [← bV (formS c),List.eq_nil_of_length_eq_zero (show (bytes (formS c)).length=0 from h0)];rfl
    rw [hm] at e2
    exact absurd e2 (by decide +kernel)
   ·omega
 have e:printS ks ps es=⟨(joinL (linesB ks ps (chgsOf es))).toArray⟩:=by unfold printS;rw [h];rfl
 exact ⟨fun l hl=>⟨hsz l hl,hpo l hl,hnl l hl⟩,hlen,fun c hc=>(cx c hc).2,by rw [e];exact lines_join _ hnl⟩
theorem parse_print {ks ps:List Tri} {es:List Ent} (h:bookB ks ps es=true):parR (printS ks ps es)=((ks,ps,es),0,0)∧(printS ks ps es).size≤10000:=by
 obtain ⟨hl,hlen,cx,hL⟩:=lines_print h;have hj:=join_le 99 _ (fun l h=>(hl l h).1);have hj2:=Nat.mul_le_mul_right (99+1) hlen
 have e:printS ks ps es=⟨(joinL (linesB ks ps (chgsOf es))).toArray⟩:=by unfold printS;rw [h];rfl
 have hs:(printS ks ps es).size=(joinL (linesB ks ps (chgsOf es))).length:=by rw [e];rfl
 refine ⟨?_,by omega⟩
 have hlb:longB (printS ks ps es)=false:=by
  unfold longB
  rw [hL,decide_eq_false (by omega),decide_eq_false (by omega)]
  rfl
 unfold parR;rw [hlb,hL]
 exact parse_lines h (fun c hc=>by have:=cx c hc;omega)
open Go.RowKit Sd
structure RS (w:World) (X:Nat) (vl:Value) (L:List ByteArray) (R:Bk×Nat×Int) (k:Nat) (b:Bk) (x y z:Value) (wr:World):Prop where
 below:Below w.heap.size w wr
 r:wr.heap[w.heap.size]?=some (.cells #[.slice none 0 0,.slice none 0 0,.slice none 0 0] 30 (0,0))
 f:wr.heap[w.heap.size+1]?=some (.cells #[.int .i64 0,.int .i64 0] 32 (0,0))
 bk:wr.heap[X]?=some (.cells #[x,y,z] 30 (0,0))
 lt:w.heap.size+1<X
 at':BookAt wr x y z b.1 b.2.1 b.2.2
 str:StrsAt wr vl L
 gd:Gd b
 par:R=parseL rdS b k (L.drop k)
theorem RS.call {w wr wr':World} {X:Nat} {vl:Value} {L:List ByteArray} {R:Bk×Nat×Int} {k:Nat} {b:Bk} {x y z:Value} (h:RS w X vl L R k b x y z wr) (hb:Below wr.heap.size wr wr'):RS w X vl L R k b x y z wr' :=
 ⟨aa h.below hb,(hb.block _ (Array.getElem?_eq_some_iff.1 h.r).1).trans h.r,(hb.block _ (Array.getElem?_eq_some_iff.1 h.f).1).trans h.f,(hb.block _ (Array.getElem?_eq_some_iff.1 h.bk).1).trans h.bk,h.lt,h.at'.keep hb,h.str.keep hb,h.gd,h.par⟩
theorem BookAt.shapes {w:World} {vk vp ve:Value} {ks ps:List Tri} {es:List Ent} (h:BookAt w vk vp ve ks ps es):∃ a1 c1 a2 c2 a3 c3,vk=.slice a1 ks.length c1∧vp=.slice a2 ps.length c2∧ve=.slice a3 es.length c3:=by
 obtain ⟨⟨a1,c1,h1,-⟩,⟨a2,c2,h2,-⟩,⟨a3,c3,h3,-⟩⟩:=h;exact ⟨a1,c1,a2,c2,a3,c3,h1,h2,h3⟩
theorem RS.put {w wr:World} {X:Nat} {vl:Value} {L:List ByteArray} {R:Bk×Nat×Int} {k:Nat} {b b':Bk} {x y z x' y' z':Value} (h:RS w X vl L R k b x y z wr) (hn:BookAt wr x' y' z' b'.1 b'.2.1 b'.2.2) (hg:Gd b') (hp:R=parseL rdS b' (k+1) (L.drop (k+1))):RS w X vl L R (k+1) b' x' y' z' (wr.setRow X #[x',y',z']):=by
 have hlt:=h.lt;obtain ⟨a1,a2,a3,a4,a5,a6,rfl,rfl,rfl⟩:=BookAt.shapes h.at'
 refine ⟨below_setRow h.below (by omega) _,?_,?_,setRow_heap _ _ _ _ _ _ h.bk,hlt,BookAt_row3 hn h.bk _,strs_box h.str h.bk,hg,hp⟩
 ·rw [setRow_other _ _ _ _ (by omega)]
  exact h.r
 ·rw [setRow_other _ _ _ _ (by omega)]
  exact h.f
structure R2 (w:World) (w1:World):Prop where
 below:Below w.heap.size w w1
 r:w1.heap[w.heap.size]?=some (.cells #[.slice none 0 0,.slice none 0 0,.slice none 0 0] 30 (0,0))
 f:w1.heap[w.heap.size+1]?=some (.cells #[.int .i64 0,.int .i64 0] 32 (0,0))
end Go.Proofs.YtcmgddnckohdaaaGreatDoor.Tx
namespace Go.Proofs.YtcmgddnckohdaaaGreatDoor.Dr
open Go.RowKit
attribute [local go_sem] Later.cell Later.frozen
theorem drawPrint_any (v:Value) (n:Nat) (w:World) (h:BysArg w v n) :
  Calls Tryz.prog 13 #[v] w fun e w'=>∃ (x y z:Value) (ks ps:List Tri) (es:List Ent),e=.returned (.agg #[x,y,z])∧BookAt w' x y z ks ps es∧SpB ks ps es∧Below w.heap.size w w':=by
 have HA:=am h;obtain ⟨a,cap,rfl,-⟩:=h;have HB:Hid (Below w.heap.size w (w.alloc (.cells #[.slice none 0 0,.slice none 0 0,.slice none 0 0] 30))):=(aO);have HX0:Hid ((w.alloc (.cells #[.slice none 0 0,.slice none 0 0,.slice none 0 0] 30)).heap[w.heap.size]?=some (.cells #[.slice none 0 0,.slice none 0 0,.slice none 0 0] 30 (0,0))):=ay w _
 go_enter Tryz.func13,Tryz.ntmps13
 go_wp2_with fail;generalize (w.alloc (.cells #[.slice none 0 0,.slice none 0 0,.slice none 0 0] 30))=w1 at *;refine (l1Open_any _ n _ (HA.out.keep HB.out)).mono ?_;rintro e w2 ⟨R,rfl,hR,hr2,hb2⟩
 have hRw:w.heap.size<R:=by have:=aG HX0.out;omega
 have R2:Hid (Rd w2 R 0∧Below w.heap.size w w2∧w2.heap[w.heap.size]?=some (.cells #[.slice none 0 0,.slice none 0 0,.slice none 0 0] 30 (0,0))):=⟨hr2,aa HB.out hb2,(hb2.block _ (aG HX0.out)).trans HX0.out⟩;clear hr2 hb2 hR HX0 HB;go_wp2_with fail
 refine (l3Any_any R 0 _ R2.out.1 (by omega)).mono ?_
 rintro e w3 ⟨x,y,z,ks,ps,es,rfl,hat,hsp,q3,hq0,hq1,hr3,hg3⟩;obtain ⟨a1,c1,a2,c2,a3,c3,rfl,rfl,rfl⟩:=BookAt.slices hat.at
 have D3:Hid (Below w.heap.size w w3∧BookAt w3 (.slice a1 ks.length c1) (.slice a2 ps.length c2) (.slice a3 es.length c3) ks ps es):=⟨bX R2.out.2.1 hg3 (by omega),hat.at⟩
 have HR3:Hid (w3.heap[w.heap.size]?=some (.cells #[.slice none 0 0,.slice none 0 0,.slice none 0 0] 30 (0,0))):=aL hg3 (by omega) R2.out.2.2
 have SP:=am hsp;clear hr3 hg3 R2 hat hsp;have g2:=HR3.out
 go_wp2_with (refine wpList_store_row rfl 30 _ _ rfl (w.heap.size) #[.slice a1 ks.length c1,.slice a2 ps.length c2,.slice a3 es.length c3] rfl rfl 30 _ g2 (by kernel_rfl) rfl (by simp [Value.oneCell']) ?_)
 exact bodyPost_ret (v:=.agg #[.slice a1 ks.length c1,.slice a2 ps.length c2,.slice a3 es.length c3]) (by simp [results,Tryz.results13,go_sem,cell_setRow_same _ _ _ _ _ _ _ g2]) rfl ⟨_,_,_,ks,ps,es,rfl,BookAt_row3 D3.out.2 g2 _,SP.out,below_setRow D3.out.1 aH _⟩
theorem lawPr2_walk (v:Value) (n:Nat) (w:World) (h:BysArg w v n) (hsa:SaidIn w) (hma:MaxIn w) (her:ErrIn w) (hpw:Lib.TabIs Tryz.prog w "internal/strconv.uint64pow10" .u64 Lib.pow10Tab) :
  Calls Tryz.prog 4 #[v] w fun e w'=>e=.returned (.bool true)∧Below w.heap.size w w':=by
 have HA:=am h;obtain ⟨a,cap,rfl,-⟩:=h
 by_cases hl1:(1048576:Int)<(n:Int)
 ·go_enter Tryz.func4,Tryz.ntmps4
  go_wp2_with fail
  exact bodyPost_ret (v:=.bool true) (by simp [results,Tryz.results4,go_sem]) rfl ⟨rfl,Below.refl _ _⟩
 have HSA:=am hsa;have HMA:=am hma;have HER:=am her;have HPW:=am hpw;clear hsa hma her hpw
 go_enter Tryz.func4,Tryz.ntmps4
 go_wp2_with fail;refine (drawPrint_any _ n _ HA.out).mono ?_;rintro e w1 ⟨vx,vy,vz,ks,ps,es,rfl,hat,hsp,hb1⟩;obtain ⟨a1,c1,a2,c2,a3,c3,rfl,rfl,rfl⟩:=BookAt.slices hat;have SM:Hid (SmB (ks,ps,es)):=hsp.1;have hal:Below w1.heap.size w1 (w1.alloc (.cells #[.slice a1 ks.length c1,.slice a2 ps.length c2,.slice a3 es.length c3] 30)):=(aO);have X1:Hid (Below w.heap.size w (w1.alloc (.cells #[.slice a1 ks.length c1,.slice a2 ps.length c2,.slice a3 es.length c3] 30))∧BookAt (w1.alloc (.cells #[.slice a1 ks.length c1,.slice a2 ps.length c2,.slice a3 es.length c3] 30)) (.slice a1 ks.length c1) (.slice a2 ps.length c2) (.slice a3 es.length c3) ks ps es∧(w1.alloc (.cells #[.slice a1 ks.length c1,.slice a2 ps.length c2,.slice a3 es.length c3] 30)).heap[w1.heap.size]?=some (.cells #[.slice a1 ks.length c1,.slice a2 ps.length c2,.slice a3 es.length c3] 30 (0,0))):=⟨aa hb1 hal,hat.keep hal,ay w1 _⟩;clear hat hsp hb1 hal;go_wp2_with fail;generalize (w1.alloc (.cells #[.slice a1 ks.length c1,.slice a2 ps.length c2,.slice a3 es.length c3] 30))=w2 at *;generalize w1.heap.size=Bb at *;have XK:Hid (∀ wx:World,Below w2.heap.size w2 wx→Below w.heap.size w wx∧BookAt wx (.slice a1 ks.length c1) (.slice a2 ps.length c2) (.slice a3 es.length c3) ks ps es∧wx.heap[Bb]?=some (.cells #[.slice a1 ks.length c1,.slice a2 ps.length c2,.slice a3 es.length c3] 30 (0,0))):=fun wx hx=>⟨aa X1.out.1 hx,X1.out.2.1.keep hx,(hx.block _ (aG X1.out.2.2)).trans X1.out.2.2⟩;refine (planPrint_any _ _ _ ks ps es _ X1.out.2.1 SM.out.n SM.out.s SM.out.u (HSA.out.keep X1.out.1) (tab_keep HPW.out X1.out.1)).mono ?_;rintro e w3 ⟨rfl,hb3⟩;have T3:=am hb3;clear hb3;have hkw3:=(XK.out _ T3.out).2.2
 obtain ⟨y0,y1,y2⟩:w3.cell? ⟨Bb,0,none⟩=some (.slice a1 ks.length c1)∧w3.cell? ⟨Bb,1,none⟩=some (.slice a2 ps.length c2)∧w3.cell? ⟨Bb,2,none⟩=some (.slice a3 es.length c3):=by simp [World.cell?,hkw3]
 have yz:=aG hkw3;clear hkw3;go_wp2_with fail;refine (specPrint_any _ _ _ ks ps es _ (XK.out _ T3.out).2.1 SM.out.n SM.out.s SM.out.u).mono ?_;rintro e w4 ⟨rfl,hb4⟩;have T4:=am (aa T3.out hb4);clear hb4 T3 y0 y1 y2 yz;have hkw4:=(XK.out _ T4.out).2.2
 obtain ⟨y0,y1,y2⟩:w4.cell? ⟨Bb,0,none⟩=some (.slice a1 ks.length c1)∧w4.cell? ⟨Bb,1,none⟩=some (.slice a2 ps.length c2)∧w4.cell? ⟨Bb,2,none⟩=some (.slice a3 es.length c3):=by simp [World.cell?,hkw4]
 have yz:=aG hkw4;clear hkw4;have HPP:Hid (bookB ks ps es=true→Tx.parR (printS ks ps es)=((ks,ps,es),0,0)∧(printS ks ps es).size≤10000):=Tx.parse_print
 have HPN:Hid (bookB ks ps es=false→printS ks ps es=⟨#[]⟩):=fun h=>by unfold printS;rw [h];rfl
 generalize printS ks ps es=st at *
 have hse:(st.toList != st.toList)=false:=by simp
 go_wp2_with fail;refine (cG _ _ _ ks ps es _ (XK.out _ T4.out).2.1 SM.out.n SM.out.s).mono ?_;rintro e w5 ⟨rfl,hb5⟩;have T5:=am (aa T4.out hb5);clear hb5 T4 y0 y1 y2 yz
 cases hbk:bookB ks ps es
 ·have hst:=HPN.out hbk
  subst hst;have HE:=am (XK.out _ T5.out).1;go_wp2_with fail
  exact bodyPost_ret (v:=.bool true) (by simp [results,Tryz.results4,go_sem]) rfl ⟨rfl,HE.out⟩
 ·obtain ⟨hpr,hsz⟩:=HPP.out hbk
  clear hbk;go_wp2_with fail;have BB:=am (XK.out _ T5.out).1
  have HPA:=am (Tx.planParse_any st w5 (by omega) (HSA.out.keep BB.out) (HMA.out.keep BB.out) (HER.out.keep BB.out))
  rw [hpr] at HPA;refine HPA.out.mono ?_;rintro e w6 ⟨x,y,z,rfl,hn6,hb6⟩;obtain ⟨q1,q2,q3,q4,q5,q6,rfl,rfl,rfl⟩:=hn6.slices;have T6:=am (aa T5.out hb6);have HN6:=am hn6.at;clear hn6 hb6;have hkw6:=(XK.out _ T6.out).2.2
  obtain ⟨y0,y1,y2⟩:w6.cell? ⟨Bb,0,none⟩=some (.slice a1 ks.length c1)∧w6.cell? ⟨Bb,1,none⟩=some (.slice a2 ps.length c2)∧w6.cell? ⟨Bb,2,none⟩=some (.slice a3 es.length c3):=by simp [World.cell?,hkw6]
  have yz:=aG hkw6;clear hkw6
  have HAL:Hid (Below w6.heap.size w6 ((w6.alloc (.cells #[.slice q1 ks.length q2,.slice q3 ps.length q4,.slice q5 es.length q6] 30)).alloc (.cells #[.int .i64 0,.int .i64 0] 32))):=(aO).alloc (by simp) _
  dsimp only;go_wp2_with fail;refine (wBook_same _ _ _ _ _ _ ks ps es _ (HN6.out.keep HAL.out) (XK.out _ (aa T6.out HAL.out)).2.1 SM.out.s).mono ?_;rintro e w7 ⟨rfl,hb7⟩;have HE:=am (aa (XK.out _ (aa T6.out HAL.out)).1 hb7);clear y0 y1 y2 yz;go_wp2_with fail
  exact bodyPost_ret (v:=.bool true) (by simp [results,Tryz.results4,go_sem]) rfl ⟨rfl,HE.out⟩
end Go.Proofs.YtcmgddnckohdaaaGreatDoor.Dr
