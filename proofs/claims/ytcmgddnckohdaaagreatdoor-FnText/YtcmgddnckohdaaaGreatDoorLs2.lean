import Derived.Test.YtcmgddnckohdaaaGreatDoorLs1
set_option maxRecDepth 100000
set_option maxHeartbeats 6400000
set_option linter.unusedSimpArgs false
set_option linter.unusedVariables false
namespace Go.Proofs.YtcmgddnckohdaaaGreatDoor.Tx
open Go.RowKit Sd
noncomputable def eH (s:ByteArray):dP×Bool:=if h:s.size≤1048576 then ((oq s h).choose,(oq s h).choose_spec.choose) else (⟨⟨#[]⟩,0,0,⟨#[]⟩⟩,false)
theorem o8 (s : ByteArray) (hs : s.size ≤ 1048576) :
    (∀ w:World,Calls Tryz.prog 123 #[.string s] w fun e w'=>e=.returned (.tuple #[.agg #[.string (eH s).1.f,.int .i64 (eH s).1.what,.int .i64 (eH s).1.num,.string (eH s).1.v],.bool (eH s).2])∧Below w.heap.size w w') ∧
    (∀ w:World,ib w→jo w→Calls Tryz.prog 186 #[.string s] w fun e w'=>e=.returned (.tuple #[.agg #[.string (eH s).1.f,.int .i64 (eH s).1.what,.int .i64 (eH s).1.num,.string (eH s).1.v],.bool (eH s).2])∧Below w.heap.size w w') ∧
    ((eH s).2=true→gm (eH s).1=true∧dR (eH s).1=s)∧(∀ c,gm c=true→gB c=s→(eH s).2=true∧(eH s).1=c)∧(eH s).1.f.size≤s.size∧(eH s).1.v.size≤s.size:=by
  have h:=(oq s hs).choose_spec.choose_spec;have e:eH s=((oq s hs).choose,(oq s hs).choose_spec.choose):=dif_pos hs;rw [e];exact h
theorem wN (num : Int) (s : ByteArray) (vk vp ve : Value) (b : Bk) (w : World) (hB : dI w vk vp ve b.1 b.2.1 b.2.2) (hS : vX b) (hs : s.size ≤ 1048576) (hsa : ib w) (IG : jo w) :
    Calls Tryz.prog 157 #[.agg #[vk,vp,ve],.agg #[.int .i64 num,.string s]] w fun e w'=>Below w.heap.size w w' ∧
      ((kI b (eH s)≠0∧e=.returned (eY num (kI b (eH s)))) ∨
       (kI b (eH s)=0∧∃ x y z,e=.returned (.tuple #[.agg #[x,y,z],.nilIface])∧df w.heap.size w' x y z (dN b.1 b.2.1 b.2.2 b.1) (dN b.1 b.2.1 b.2.2 b.2.1) (eT b.1 b.2.1 b.2.2 (eH s).1))):=by
  obtain ⟨-,hrd,-,-,hf,hv⟩:=o8 s hs;have J9:=aq hrd;have Hl:=aq hsa;have MU:=aq IG;have HB:=aq hB
  have AZ:Hid (∀ wx:World,Below w.heap.size w wx→Calls Tryz.prog 187 #[.agg #[vk,vp,ve],.agg #[.string (eH s).1.f,.int .i64 (eH s).1.what,.int .i64 (eH s).1.num,.string (eH s).1.v]] wx fun e w'=>∃ x y z,e=.returned (.tuple #[.agg #[x,y,z],.int .i64 (takeC b.1 b.2.1 b.2.2 (eH s).1)])∧df wx.heap.size w' x y z (dN b.1 b.2.1 b.2.2 b.1) (dN b.1 b.2.1 b.2.2 b.2.1) (eT b.1 b.2.1 b.2.2 (eH s).1)∧Below wx.heap.size wx w'):=fun wx hx=>BH vk vp ve b.1 b.2.1 b.2.2 (eH s).1 wx (HB.out.keep hx) hS.n hS.s hS.u (by omega) (by omega)
  have Hg:Hid (kI b (eH s)=bif (eH s).2 then (if takeC b.1 b.2.1 b.2.2 (eH s).1=2 then 7 else if takeC b.1 b.2.1 b.2.2 (eH s).1=3 then 6 else 0) else 3):=rfl
  generalize kI b (eH s)=sc at *;generalize takeC b.1 b.2.1 b.2.2 (eH s).1=tc at *;generalize eT b.1 b.2.1 b.2.2 (eH s).1=te at *;generalize eH s=r at *;obtain ⟨d,ok⟩:=r;dsimp only at *;clear hrd hf hv;obtain ⟨⟨ak,ck,rfl,-,-,-⟩,⟨ap,cp,rfl,-,-,-⟩,⟨ae,ce,rfl,-,-,-⟩⟩:=hB;clear hsa IG
  go_enter Tryz.func157,Tryz.ntmps157
  go_wp2_with fail
  have B0:Below w.heap.size w (((w.alloc (.cells #[.slice ak b.1.length ck,.slice ap b.2.1.length cp,.slice ae b.2.2.length ce] 30)).alloc (.cells #[.int .i64 num,.string s] 89)).alloc (.cells #[.slice none 0 0,.slice none 0 0,.slice none 0 0] 30)):=((aM).alloc (by simp) _).alloc (by simp;omega) _
  refine (J9.out _ (Hl.out.keep B0) (MU.out.keep B0)).mono ?_;rintro e w1 ⟨rfl,hb1⟩;have H1:Hid (TB w (.slice ak b.1.length ck) (.slice ap b.2.1.length cp) (.slice ae b.2.2.length ce) num s w1):=TB.start hb1;clear hb1 B0;obtain ⟨⟨d0,d1,d2⟩,⟨f0,f1⟩,z1,z2,z3⟩:=H1.out.cells
  cases ok
  · go_wp2_with fail
    refine (bR num 3 s _).mono ?_;rintro e w2 ⟨rfl,hb2⟩;have H2:Hid (TB w (.slice ak b.1.length ck) (.slice ap b.2.1.length cp) (.slice ae b.2.2.length ce) num s w2):=(H1.out.keep (aM)).keep hb2;have g2:=H2.out.c3;have hkc:sc=3:=Hg.out
    go_wp2_with (refine wpList_store_row rfl 30 _ _ rfl (w.heap.size+2) #[.slice none 0 0,.slice none 0 0,.slice none 0 0] rfl rfl 30 _ g2 (by kernel_rfl) rfl (by simp [Value.oneCell']) ?_)
    exact bodyPost_ret (v:=eY num 3) (by simp [results,Tryz.results157,go_sem,cell_setRow_same _ _ _ _ _ _ _ g2,eY]) rfl ⟨below_setRow H2.out.b (by omega) _,.inl ⟨by rw [hkc];decide,by rw [hkc]⟩⟩
  · go_wp2_with fail
    have HA1:Hid (Below w1.heap.size w1 (w1.alloc (.cells #[.string d.f,.int .i64 d.what,.int .i64 d.num,.string d.v] 76))):=(aM);refine (AZ.out _ (aa H1.out.b HA1.out)).mono ?_;rintro e w2 ⟨x,y,z,rfl,hn2,hb2⟩;have H2:Hid (TB w (.slice ak b.1.length ck) (.slice ap b.2.1.length cp) (.slice ae b.2.2.length ce) num s w2):=(H1.out.keep HA1.out).keep hb2
    have nT:Hid (df (w.heap.size+3) w2 x y z (dN b.1 b.2.1 b.2.2 b.1) (dN b.1 b.2.1 b.2.2 b.2.1) te):=hn2.mono (by rw [World.size_alloc];omega)
    obtain ⟨a1,c1,a2,c2,a3,c3,rfl,rfl,rfl⟩:=hn2.slices;clear hn2 hb2 HA1 d0 d1 d2 f0 f1 z1 z2 z3 H1;obtain ⟨⟨d0,d1,d2⟩,⟨f0,f1⟩,z1,z2,z3⟩:=H2.out.cells;have HA2:Hid (Below w2.heap.size w2 (w2.alloc (.cells #[.slice a1 (dN b.1 b.2.1 b.2.2 b.1).length c1,.slice a2 (dN b.1 b.2.1 b.2.2 b.2.1).length c2,.slice a3 te.length c3] 30))):=(aM)
    by_cases h2:tc=2
    · have e2:(tc==2)=true:=by simp [h2]
      have HS7:Hid (sc=7):=Hg.out.trans (by rw [if_pos h2];rfl)
      clear h2 Hg;go_wp2_with fail;refine (bR num 7 s _).mono ?_;rintro e w3 ⟨rfl,hb3⟩;have H3:Hid (TB w (.slice ak b.1.length ck) (.slice ap b.2.1.length cp) (.slice ae b.2.2.length ce) num s w3):=(H2.out.keep HA2.out).keep hb3;have g2:=H3.out.c3;have hkc:sc=7:=HS7.out
      go_wp2_with (refine wpList_store_row rfl 30 _ _ rfl (w.heap.size+2) #[.slice none 0 0,.slice none 0 0,.slice none 0 0] rfl rfl 30 _ g2 (by kernel_rfl) rfl (by simp [Value.oneCell']) ?_)
      exact bodyPost_ret (v:=eY num 7) (by simp [results,Tryz.results157,go_sem,cell_setRow_same _ _ _ _ _ _ _ g2,eY]) rfl ⟨below_setRow H3.out.b (by omega) _,.inl ⟨by rw [hkc];decide,by rw [hkc]⟩⟩
    · have e2:(tc==2)=false:=by simp [h2]
      by_cases h3:tc=3
      · have e3:(tc==3)=true:=by simp [h3]
        have HS6:Hid (sc=6):=Hg.out.trans (by rw [if_neg h2,if_pos h3];rfl)
        clear h2 h3 Hg;go_wp2_with fail;refine (bR num 6 s _).mono ?_;rintro e w3 ⟨rfl,hb3⟩;have H3:Hid (TB w (.slice ak b.1.length ck) (.slice ap b.2.1.length cp) (.slice ae b.2.2.length ce) num s w3):=(H2.out.keep HA2.out).keep hb3;have g2:=H3.out.c3;have hkc:sc=6:=HS6.out
        go_wp2_with (refine wpList_store_row rfl 30 _ _ rfl (w.heap.size+2) #[.slice none 0 0,.slice none 0 0,.slice none 0 0] rfl rfl 30 _ g2 (by kernel_rfl) rfl (by simp [Value.oneCell']) ?_)
        exact bodyPost_ret (v:=eY num 6) (by simp [results,Tryz.results157,go_sem,cell_setRow_same _ _ _ _ _ _ _ g2,eY]) rfl ⟨below_setRow H3.out.b (by omega) _,.inl ⟨by rw [hkc];decide,by rw [hkc]⟩⟩
      · have e3:(tc==3)=false:=by simp [h3]
        have HS0:Hid (sc=0):=Hg.out.trans (by rw [if_neg h2,if_neg h3];rfl)
        clear h2 h3 Hg;have HG2:Hid ((w2.alloc (.cells #[.slice a1 (dN b.1 b.2.1 b.2.2 b.1).length c1,.slice a2 (dN b.1 b.2.1 b.2.2 b.2.1).length c2,.slice a3 te.length c3] 30)).heap[w.heap.size+2]?=some (.cells #[.slice none 0 0,.slice none 0 0,.slice none 0 0] 30 (0,0))):=(H2.out.keep HA2.out).c3;have g2:=HG2.out
        go_wp2_with (refine wpList_store_row rfl 30 _ _ rfl (w.heap.size+2) #[.slice a1 (dN b.1 b.2.1 b.2.2 b.1).length c1,.slice a2 (dN b.1 b.2.1 b.2.2 b.2.1).length c2,.slice a3 te.length c3] rfl rfl 30 _ g2 (by kernel_rfl) rfl (by simp [Value.oneCell']) ?_)
        exact bodyPost_ret (v:=.tuple #[.agg #[.slice a1 (dN b.1 b.2.1 b.2.2 b.1).length c1,.slice a2 (dN b.1 b.2.1 b.2.2 b.2.1).length c2,.slice a3 te.length c3],.nilIface]) (by simp [results,Tryz.results157,go_sem,cell_setRow_same _ _ _ _ _ _ _ g2]) rfl ⟨below_setRow (aa H2.out.b HA2.out) (by omega) _,.inr ⟨HS0.out,_,_,_,rfl,((nT.out.keep HA2.out).far (aD _ (w.heap.size+2) _) (by omega)).mono (by omega)⟩⟩
open Go.RowKit Sd
theorem BZ:Maps.Keyed Tryz.prog 9:=Maps.string_keyed Tryz.underlying9
theorem keyS {s:ByteArray} (h:s.size≤1048576):keyOf Tryz.prog 9 (.string s)=some (.string s.data.toList):=WideMaps.keyOf_string_mk Tryz.underlying9 (by unfold maxLen;omega)
theorem elF_K:JW fK=some (.lit (.int .i64 1),[]):=by unfold JW;rw [if_pos rfl]
theorem elF_P:JW fP=some (.lit (.int .i64 2),[]):=by unfold JW;rw [if_neg (by unfold fP fK;simp),if_pos rfl]
theorem elF_S:JW fS=some (.lit (.int .i64 3),[]):=by unfold JW;rw [if_neg (by unfold fS fK;simp),if_neg (by unfold fS fP;simp),if_pos rfl]
theorem elF_0:JW .nilFunc=some (.lit (.int .i64 0),[]):=by unfold JW;rw [if_neg (by unfold fK;simp),if_neg (by unfold fP;simp),if_neg (by unfold fS;simp)]
noncomputable def KF:DataW Nat:=(((DataW.map []).put (.string fZ.data.toList) (.lit (.int .i64 1))).put (.string eG.data.toList) (.lit (.int .i64 2))).put (.string jY.data.toList) (.lit (.int .i64 3))
theorem Gs {a b:ByteArray} (h:a≠b):Lit.string a.data.toList≠Lit.string b.data.toList:=fun e=>h (by
  injection e with e
  exact bq e)
theorem wP (s:ByteArray) (z:DataW Nat):KF.atKey (.string s.data.toList) z=if s=jY then .lit (.int .i64 3) else if s=eG then .lit (.int .i64 2) else if s=fZ then .lit (.int .i64 1) else z:=by
  have key:∀ s:ByteArray,WideAt.IsKeyLit (.string s.data.toList):=fun s=>trivial;unfold KF
  by_cases h1:s=jY
  · rw [if_pos h1,h1,Maps.atKey_put_same ((Maps.isMap_empty.put _ _).put _ _) (key _)]
  · rw [if_neg h1,Maps.atKey_put_other (Gs h1)]
    by_cases h2:s=eG
    · rw [if_pos h2,h2,Maps.atKey_put_same (Maps.isMap_empty.put _ _) (key _)]
    · rw [if_neg h2,Maps.atKey_put_other (Gs h2)]
      by_cases h3:s=fZ
      · rw [if_pos h3,h3,Maps.atKey_put_same Maps.isMap_empty (key _)]
      · rw [if_neg h3,Maps.atKey_put_other (Gs h3)]
        rfl
theorem zG (w : World) :
    Calls Tryz.prog 114 #[] w fun e w'=>∃ g,e=.returned (.map (some g))∧w'.ownsMap Tryz.prog 9 JW g 3 KF∧Below w.heap.size w w':=by
  have hmm:=@run_makeMap Tryz.prog
  obtain ⟨w1,hr1,h1,g1⟩:=(World.ownsMap_made w Tryz.prog 9 JW).update BZ Tryz.underlying160 (by unfold maxLen;omega) (keyS (s:=fZ) (by decide)) elF_K
  obtain ⟨w2,hr2,h2,g2⟩:=h1.update BZ Tryz.underlying160 (by unfold maxLen;omega) (keyS (s:=eG) (by decide)) elF_P
  obtain ⟨w3,hr3,h3,g3⟩:=h2.update BZ Tryz.underlying160 (by unfold maxLen;omega) (keyS (s:=jY) (by decide)) elF_S
  have H3:=aq h3
  have HB:Hid (Below w.heap.size w w3):=by
    have b0:Below w.heap.size w (w.alloc (.map #[] 0)):=(aM)
    have b1:=b0.grown g1 (by simp) (fun k e=>by injection e with e;omega)
    have b2:=b1.grown g2 (by have:=b1.size;omega) (fun k e=>by injection e with e;omega)
    exact b2.grown g3 (by have:=b2.size;omega) (fun k e=>by injection e with e;omega)
  clear h1 h2 h3 g1 g2 g3;unfold fK fZ at hr1;unfold fP eG at hr2;unfold fS jY at hr3
  go_enter Tryz.func114,Tryz.ntmps114
  go_wp2_with fail
  exact bodyPost_ret (v:=.map (some w.heap.size)) (by simp [results,Tryz.results114,go_sem]) rfl ⟨_,rfl,H3.out,HB.out⟩
theorem zeroT (w:World):(zeroValue 103).run Tryz.prog w=.ok .nilFunc w:=by kernel_rfl
theorem KE {w:World} {g:Nat} (h:w.ownsMap Tryz.prog 9 JW g 3 KF) (s:ByteArray) (hs:s.size≤1048576):∃ v,(Instr.lookup 160 (.map (some g)) (.string s) true).run Tryz.prog w=.ok (.tuple #[v,.bool (decide (s=fZ)||decide (s=eG)||decide (s=jY))]) w∧(s=fZ→v=fK)∧(s=eG→v=fP)∧(s=jY→v=fS):=by
  obtain ⟨v,ps,hr,hv⟩:=h.look_ok BZ Tryz.underlying160 (zeroT w) elF_0 (keyS hs);rw [wP] at hv
  have hkp:fZ≠eG:=by decide
  have hks:fZ≠jY:=by decide
  have hps:eG≠jY:=by decide
  have hh:Maps.has KF (.string s.data.toList)=(decide (s=fZ)||decide (s=eG)||decide (s=jY)):=by
    by_cases h1:s=jY
    · rw [Maps.has_true_of_atKey (y:=.lit (.int .i64 3)) (fun z=>by rw [wP,if_pos h1])];simp [h1]
    · by_cases h2:s=eG
      · rw [Maps.has_true_of_atKey (y:=.lit (.int .i64 2)) (fun z=>by rw [wP,if_neg h1,if_pos h2])];simp [h2]
      · by_cases h3:s=fZ
        · rw [Maps.has_true_of_atKey (y:=.lit (.int .i64 1)) (fun z=>by rw [wP,if_neg h1,if_neg h2,if_pos h3])];simp [h3]
        · rw [Maps.has_false_of_atKey (fun z=>by rw [wP,if_neg h1,if_neg h2,if_neg h3])];simp [h1,h2,h3]
  rw [hh] at hr;refine ⟨v,hr,fun e=>?_,fun e=>?_,fun e=>?_⟩
  · rw [e,if_neg hks,if_neg hkp,if_pos rfl] at hv
    rcases Cs hv with ⟨-,h⟩ | ⟨h,-⟩ | ⟨h,-⟩ | h
    · exact h
    · simp at h
    · simp at h
    · simp at h
  · rw [e,if_neg hps,if_pos rfl] at hv
    rcases Cs hv with ⟨h,-⟩ | ⟨-,h⟩ | ⟨h,-⟩ | h
    · simp at h
    · exact h
    · simp at h
    · simp at h
  · rw [e,if_pos rfl] at hv
    rcases Cs hv with ⟨h,-⟩ | ⟨h,-⟩ | ⟨-,h⟩ | h
    · simp at h
    · simp at h
    · exact h
    · simp at h
theorem Bf (num : Int) (s : ByteArray) (vk vp ve : Value) (b : Bk) (lo : Nat) (w : World) (hN : df lo w vk vp ve b.1 b.2.1 b.2.2) (hlo : lo ≤ w.heap.size) (hG : Gd b) (hs : s.size ≤ 1048576) (hsa : ib w) (IG : jo w) :
    Calls Tryz.prog 65 #[.agg #[vk,vp,ve],.agg #[.int .i64 num,.string s]] w fun e w'=>Below w.heap.size w w' ∧
      ((eU eH b s≠0∧e=.returned (eY num (eU eH b s))) ∨
       (eU eH b s=0∧∃ x y z,e=.returned (.tuple #[.agg #[x,y,z],.nilIface])∧df lo w' x y z (dX eH b s).1 (dX eH b s).2.1 (dX eH b s).2.2)):=by
  have HN:=aq hN;have HG:=aq hG;have Hl:=aq hsa;have MU:=aq IG;obtain ⟨ak,ck,ap,cp,ae,ce,rfl,rfl,rfl⟩:=hN.slices;clear hN hG hsa IG
  have HZ:Hid ((dE (dn s) 0).size≤1048576):=Nat.le_trans (kY (by unfold dn;rw [List.length_map];have:=nI (bytes s) [];omega)) hs
  have Kh:Hid (∀ wx:World,jo wx→Calls Tryz.prog 113 #[.string s,.string ⟨#[32]⟩] wx fun e w'=>∃ x y,e=.returned (.tuple #[.string (dE (dn s) 0),.string x,.bool y])∧Below wx.heap.size wx w'):=fun wx hm=>by
    obtain ⟨m,hm⟩:=hm
    refine (Tryz.strings_Cut s CL m wx (by omega) hm).mono ?_
    rintro e w' ⟨rfl,n,rfl⟩
    exact ⟨_,_,by rw [Mm],below_drewN (Below.refl _ _) _⟩
  have Hm:Hid (dE (dn s) 0=fZ→eU eH b s=gV b.1 (dn s)∧dX eH b s=(fD b.1 (iH b.1 (fC (dn s)).s) (fC (dn s)),b.2.1,b.2.2)):=fun h=>⟨by unfold eU;rw [if_pos h],by unfold dX;rw [if_pos h]⟩
  have HL2:Hid (dE (dn s) 0=eG→eU eH b s=fO b.2.1 (dn s)∧dX eH b s=(b.1,fD b.2.1 (iH b.2.1 (fC (dn s)).s) (fC (dn s)),b.2.2)):=fun h=>by
    have hn:dE (dn s) 0≠fZ:=by rw [h];decide
    exact ⟨by unfold eU;rw [if_neg hn,if_pos h],by unfold dX;rw [if_neg hn,if_pos h]⟩
  have MV:Hid (dE (dn s) 0=jY→eU eH b s=kI b (eH s)∧dX eH b s=(dN b.1 b.2.1 b.2.2 b.1,dN b.1 b.2.1 b.2.2 b.2.1,eT b.1 b.2.1 b.2.2 (eH s).1)):=fun h=>by
    have hn:dE (dn s) 0≠fZ:=by rw [h];decide
    have hm:dE (dn s) 0≠eG:=by rw [h];decide
    exact ⟨by unfold eU;rw [if_neg hn,if_neg hm,if_pos h],by unfold dX;rw [if_neg hn,if_neg hm]⟩
  have zP:Hid (dE (dn s) 0≠fZ→dE (dn s) 0≠eG→dE (dn s) 0≠jY→eU eH b s=2):=fun h1 h2 h3=>by unfold eU;rw [if_neg h1,if_neg h2,if_neg h3]
  have ug : Hid (∀ wx : World, Below w.heap.size w wx → Calls Tryz.prog 155 #[.agg #[.slice ak b.1.length ck, .slice ap b.2.1.length cp, .slice ae b.2.2.length ce], .agg #[.int .i64 num, .string s]] wx fun e w' => Below wx.heap.size wx w' ∧
      ((gV b.1 (dn s)≠0∧e=.returned (eY num (gV b.1 (dn s)))) ∨
       (gV b.1 (dn s)=0∧∃ u,e=.returned (.tuple #[.agg #[u,.slice ap b.2.1.length cp,.slice ae b.2.2.length ce],.nilIface])∧w'.ownsRow wx.heap.size 69 3 u (b.1.length+1) (aS (fD b.1 (iH b.1 (fC (dn s)).s) (fC (dn s))))))):=fun wx hx=>Bg num s _ ap ae _ cp _ ce b.1 wx ((cC HN.out.k).keep hx) hs (by have:=HG.out.klen;omega)
  have HTP : Hid (∀ wx : World, Below w.heap.size w wx → Calls Tryz.prog 156 #[.agg #[.slice ak b.1.length ck, .slice ap b.2.1.length cp, .slice ae b.2.2.length ce], .agg #[.int .i64 num, .string s]] wx fun e w' => Below wx.heap.size wx w' ∧
      ((fO b.2.1 (dn s)≠0∧e=.returned (eY num (fO b.2.1 (dn s)))) ∨
       (fO b.2.1 (dn s)=0∧∃ u,e=.returned (.tuple #[.agg #[.slice ak b.1.length ck,u,.slice ae b.2.2.length ce],.nilIface])∧w'.ownsRow wx.heap.size 72 3 u (b.2.1.length+1) (aS (fD b.2.1 (iH b.2.1 (fC (dn s)).s) (fC (dn s))))))):=fun wx hx=>zu num s _ ak ae _ ck _ ce b.2.1 wx ((cC HN.out.p).keep hx) hs (by have:=HG.out.plen;omega)
  have HTC : Hid (∀ wx : World, Below w.heap.size w wx → Calls Tryz.prog 157 #[.agg #[.slice ak b.1.length ck, .slice ap b.2.1.length cp, .slice ae b.2.2.length ce], .agg #[.int .i64 num, .string s]] wx fun e w' => Below wx.heap.size wx w' ∧
      ((kI b (eH s)≠0∧e=.returned (eY num (kI b (eH s)))) ∨
       (kI b (eH s)=0∧∃ x y z,e=.returned (.tuple #[.agg #[x,y,z],.nilIface])∧df wx.heap.size w' x y z (dN b.1 b.2.1 b.2.2 b.1) (dN b.1 b.2.1 b.2.2 b.2.1) (eT b.1 b.2.1 b.2.2 (eH s).1)))):=fun wx hx=>wN num s _ _ _ b wx (HN.out.at.keep hx) HG.out.sm hs (Hl.out.keep hx) (MU.out.keep hx)
  generalize dE (dn s) 0=wd at *;generalize eU eH b s=lc at *;generalize dX eH b s=lb at *
  go_enter Tryz.func65,Tryz.ntmps65
  go_wp2_with fail
  have B0:Below w.heap.size w (((w.alloc (.cells #[.slice ak b.1.length ck,.slice ap b.2.1.length cp,.slice ae b.2.2.length ce] 30)).alloc (.cells #[.int .i64 num,.string s] 89)).alloc (.cells #[.slice none 0 0,.slice none 0 0,.slice none 0 0] 30)):=((aM).alloc (by simp) _).alloc (by simp;omega) _
  refine (Kh.out _ (MU.out.keep B0)).mono ?_;rintro e w1 ⟨x1,y1,rfl,hb1⟩;have H1:Hid (TB w (.slice ak b.1.length ck) (.slice ap b.2.1.length cp) (.slice ae b.2.2.length ce) num s w1):=TB.start hb1;clear hb1 B0;go_wp2_with fail;refine (zG _).mono ?_;rintro e w2 ⟨g,rfl,hg,hb2⟩;have H2:Hid (TB w (.slice ak b.1.length ck) (.slice ap b.2.1.length cp) (.slice ae b.2.2.length ce) num s w2):=H1.out.keep hb2;obtain ⟨v,hlk,hv1,hv2,hv3⟩:=KE hg wd HZ.out;clear hb2 hg H1;obtain ⟨⟨d0,d1,d2⟩,⟨f0,f1⟩,z1,z2,z3⟩:=H2.out.cells
  by_cases e1:wd=fZ
  · have hvk:=hv1 e1
    subst hvk
    rw [e1,show (decide (fZ=fZ)||decide (fZ=eG)||decide (fZ=jY))=true from rfl] at hlk
    obtain ⟨o6,HE2⟩:=Hm.out e1;subst e1;clear hv1 hv2 hv3 Hm HL2 MV zP HTP HTC;unfold fK at hlk;go_wp2_with fail;refine (ug.out _ H2.out.b).mono ?_;rintro e w3 ⟨hb3,⟨hc,rfl⟩ | ⟨hc,u,rfl,hu⟩⟩
    · have H3:Hid (TB w (.slice ak b.1.length ck) (.slice ap b.2.1.length cp) (.slice ae b.2.2.length ce) num s w3):=H2.out.keep hb3
      unfold eY
      have HC:Hid (lc≠0∧lc=gV b.1 (dn s)):=⟨by rw [o6];exact hc,o6⟩
      clear hc o6 HE2;have g2:=H3.out.c3
      go_wp2_with (refine wpList_store_row rfl 30 _ _ rfl (w.heap.size+2) #[.slice none 0 0,.slice none 0 0,.slice none 0 0] rfl rfl 30 _ g2 (by kernel_rfl) rfl (by simp [Value.oneCell']) ?_)
      exact bodyPost_ret (v:=eY num (gV b.1 (dn s))) (by simp [results,Tryz.results65,go_sem,cell_setRow_same _ _ _ _ _ _ _ g2,eY]) rfl ⟨below_setRow H3.out.b (by omega) _,.inl ⟨HC.out.1,by rw [HC.out.2]⟩⟩
    · have H3:Hid (TB w (.slice ak b.1.length ck) (.slice ap b.2.1.length cp) (.slice ae b.2.2.length ce) num s w3):=H2.out.keep hb3
      have HS:Hid (lo≤w2.heap.size):=by have:=H2.out.b.size;exact Nat.le_trans hlo this
      have Kb:Hid (df lo w3 u (.slice ap b.2.1.length cp) (.slice ae b.2.2.length ce) lb.1 lb.2.1 lb.2.2):=by
        rw [HE2];exact (HN.out.keep H2.out.b).kinds HS.out hb3 hu (lS _ _ _).symm
      obtain ⟨ua,uc,rfl⟩:=cZ hu;have HC:Hid (lc=0):=o6.trans hc;clear hc o6 HE2 hb3;have g2:=H3.out.c3
      go_wp2_with (refine wpList_store_row rfl 30 _ _ rfl (w.heap.size+2) #[.slice ua (b.1.length+1) uc,.slice ap b.2.1.length cp,.slice ae b.2.2.length ce] rfl rfl 30 _ g2 (by kernel_rfl) rfl (by simp [Value.oneCell']) ?_)
      exact bodyPost_ret (v:=.tuple #[.agg #[.slice ua (b.1.length+1) uc,.slice ap b.2.1.length cp,.slice ae b.2.2.length ce],.nilIface]) (by simp [results,Tryz.results65,go_sem,cell_setRow_same _ _ _ _ _ _ _ g2,eY]) rfl ⟨below_setRow H3.out.b (by omega) _,.inr ⟨HC.out,_,_,_,rfl,Kb.out.box g2 (aD _ (w.heap.size+2) _)⟩⟩
  · by_cases e2:wd=eG
    · have hvk:=hv2 e2
      subst hvk
      rw [e2,show (decide (eG=fZ)||decide (eG=eG)||decide (eG=jY))=true from rfl] at hlk
      obtain ⟨o6,HE2⟩:=HL2.out e2;subst e2;clear hv1 hv2 hv3 Hm HL2 MV zP ug HTC;unfold fP at hlk;go_wp2_with fail;refine (HTP.out _ H2.out.b).mono ?_;rintro e w3 ⟨hb3,⟨hc,rfl⟩ | ⟨hc,u,rfl,hu⟩⟩
      · have H3:Hid (TB w (.slice ak b.1.length ck) (.slice ap b.2.1.length cp) (.slice ae b.2.2.length ce) num s w3):=H2.out.keep hb3
        unfold eY
        have HC:Hid (lc≠0∧lc=fO b.2.1 (dn s)):=⟨by rw [o6];exact hc,o6⟩
        clear hc o6 HE2;have g2:=H3.out.c3
        go_wp2_with (refine wpList_store_row rfl 30 _ _ rfl (w.heap.size+2) #[.slice none 0 0,.slice none 0 0,.slice none 0 0] rfl rfl 30 _ g2 (by kernel_rfl) rfl (by simp [Value.oneCell']) ?_)
        exact bodyPost_ret (v:=eY num (fO b.2.1 (dn s))) (by simp [results,Tryz.results65,go_sem,cell_setRow_same _ _ _ _ _ _ _ g2,eY]) rfl ⟨below_setRow H3.out.b (by omega) _,.inl ⟨HC.out.1,by rw [HC.out.2]⟩⟩
      · have H3:Hid (TB w (.slice ak b.1.length ck) (.slice ap b.2.1.length cp) (.slice ae b.2.2.length ce) num s w3):=H2.out.keep hb3
        have HS:Hid (lo≤w2.heap.size):=by have:=H2.out.b.size;exact Nat.le_trans hlo this
        have Kb:Hid (df lo w3 (.slice ak b.1.length ck) u (.slice ae b.2.2.length ce) lb.1 lb.2.1 lb.2.2):=by
          rw [HE2];exact (HN.out.keep H2.out.b).points HS.out hb3 hu (lS _ _ _).symm
        obtain ⟨ua,uc,rfl⟩:=cZ hu;have HC:Hid (lc=0):=o6.trans hc;clear hc o6 HE2 hb3;have g2:=H3.out.c3
        go_wp2_with (refine wpList_store_row rfl 30 _ _ rfl (w.heap.size+2) #[.slice ak b.1.length ck,.slice ua (b.2.1.length+1) uc,.slice ae b.2.2.length ce] rfl rfl 30 _ g2 (by kernel_rfl) rfl (by simp [Value.oneCell']) ?_)
        exact bodyPost_ret (v:=.tuple #[.agg #[.slice ak b.1.length ck,.slice ua (b.2.1.length+1) uc,.slice ae b.2.2.length ce],.nilIface]) (by simp [results,Tryz.results65,go_sem,cell_setRow_same _ _ _ _ _ _ _ g2,eY]) rfl ⟨below_setRow H3.out.b (by omega) _,.inr ⟨HC.out,_,_,_,rfl,Kb.out.box g2 (aD _ (w.heap.size+2) _)⟩⟩
    · by_cases e3:wd=jY
      · have hvk:=hv3 e3
        subst hvk
        rw [e3,show (decide (jY=fZ)||decide (jY=eG)||decide (jY=jY))=true from rfl] at hlk
        obtain ⟨o6,HE2⟩:=MV.out e3;subst e3;clear hv1 hv2 hv3 Hm HL2 MV zP HTP ug;unfold fS at hlk;go_wp2_with fail;refine (HTC.out _ H2.out.b).mono ?_;rintro e w3 ⟨hb3,⟨hc,rfl⟩ | ⟨hc,x,y,z,rfl,hn⟩⟩
        · have H3:Hid (TB w (.slice ak b.1.length ck) (.slice ap b.2.1.length cp) (.slice ae b.2.2.length ce) num s w3):=H2.out.keep hb3
          unfold eY
          have HC:Hid (lc≠0∧lc=kI b (eH s)):=⟨by rw [o6];exact hc,o6⟩
          clear hc o6 HE2;have g2:=H3.out.c3
          go_wp2_with (refine wpList_store_row rfl 30 _ _ rfl (w.heap.size+2) #[.slice none 0 0,.slice none 0 0,.slice none 0 0] rfl rfl 30 _ g2 (by kernel_rfl) rfl (by simp [Value.oneCell']) ?_)
          exact bodyPost_ret (v:=eY num (kI b (eH s))) (by simp [results,Tryz.results65,go_sem,cell_setRow_same _ _ _ _ _ _ _ g2,eY]) rfl ⟨below_setRow H3.out.b (by omega) _,.inl ⟨HC.out.1,by rw [HC.out.2]⟩⟩
        · have H3:Hid (TB w (.slice ak b.1.length ck) (.slice ap b.2.1.length cp) (.slice ae b.2.2.length ce) num s w3):=H2.out.keep hb3
          have HS:Hid (lo≤w2.heap.size):=by have:=H2.out.b.size;exact Nat.le_trans hlo this
          have Kb:Hid (df lo w3 x y z lb.1 lb.2.1 lb.2.2):=by
            rw [HE2];exact hn.mono HS.out
          obtain ⟨a1,c1,a2,c2,a3,c3,rfl,rfl,rfl⟩:=hn.slices;have HC:Hid (lc=0):=o6.trans hc;clear hc o6 HE2 hb3;have g2:=H3.out.c3
          go_wp2_with (refine wpList_store_row rfl 30 _ _ rfl (w.heap.size+2) #[.slice a1 (dN b.1 b.2.1 b.2.2 b.1).length c1,.slice a2 (dN b.1 b.2.1 b.2.2 b.2.1).length c2,.slice a3 (eT b.1 b.2.1 b.2.2 (eH s).1).length c3] rfl rfl 30 _ g2 (by kernel_rfl) rfl (by simp [Value.oneCell']) ?_)
          exact bodyPost_ret (v:=.tuple #[.agg #[.slice a1 (dN b.1 b.2.1 b.2.2 b.1).length c1,.slice a2 (dN b.1 b.2.1 b.2.2 b.2.1).length c2,.slice a3 (eT b.1 b.2.1 b.2.2 (eH s).1).length c3],.nilIface]) (by simp [results,Tryz.results65,go_sem,cell_setRow_same _ _ _ _ _ _ _ g2,eY]) rfl ⟨below_setRow H3.out.b (by omega) _,.inr ⟨HC.out,_,_,_,rfl,Kb.out.box g2 (aD _ (w.heap.size+2) _)⟩⟩
      · have HC:Hid (lc=2):=zP.out e1 e2 e3
        rw [decide_eq_false e1,decide_eq_false e2,decide_eq_false e3] at hlk
        simp only [Bool.or_false] at hlk
        clear hv1 hv2 hv3 Hm HL2 MV zP HTP ug HTC e1 e2 e3;go_wp2_with fail;refine (bR num 2 s _).mono ?_;rintro e w3 ⟨rfl,hb3⟩;have H3:Hid (TB w (.slice ak b.1.length ck) (.slice ap b.2.1.length cp) (.slice ae b.2.2.length ce) num s w3):=H2.out.keep hb3;have g2:=H3.out.c3
        go_wp2_with (refine wpList_store_row rfl 30 _ _ rfl (w.heap.size+2) #[.slice none 0 0,.slice none 0 0,.slice none 0 0] rfl rfl 30 _ g2 (by kernel_rfl) rfl (by simp [Value.oneCell']) ?_)
        exact bodyPost_ret (v:=eY num 2) (by simp [results,Tryz.results65,go_sem,cell_setRow_same _ _ _ _ _ _ _ g2,eY]) rfl ⟨below_setRow H3.out.b (by omega) _,.inl ⟨by rw [HC.out];decide,by rw [HC.out]⟩⟩
open Go.RowKit Sd
structure TD (w:World) (B:Array Value) (w1:World):Prop where
  c1:w1.heap[w.heap.size]?=some (.cells B 30 (0,0))
  c2:w1.heap[w.heap.size+1]?=some (.cells #[.slice none 0 0,.slice none 0 0,.slice none 0 0] 30 (0,0))
  b:Below w.heap.size w w1
theorem TD.keep {w w1 w2:World} {B:Array Value} (h:TD w B w1) (hb:Below w1.heap.size w1 w2):TD w B w2 :=
  ⟨(hb.block _ (Array.getElem?_eq_some_iff.1 h.c1).1).trans h.c1,(hb.block _ (Array.getElem?_eq_some_iff.1 h.c2).1).trans h.c2,aa h.b hb⟩
theorem TD.start {w w1:World} {B:Array Value} (hb:Below ((w.alloc (.cells B 30)).alloc (.cells #[.slice none 0 0,.slice none 0 0,.slice none 0 0] 30)).heap.size ((w.alloc (.cells B 30)).alloc (.cells #[.slice none 0 0,.slice none 0 0,.slice none 0 0] 30)) w1):TD w B w1:=by
  refine ⟨(hb.block _ (by simp;omega)).trans (j4 w _ _),(hb.block _ (by simp)).trans ?_,aa ((aM).alloc (by simp) _) hb⟩
  have h:=am (w.alloc (.cells B 30)) (.cells #[.slice none 0 0,.slice none 0 0,.slice none 0 0] 30);rw [World.size_alloc] at h;exact h
theorem TD.cells {w w1:World} {x y z:Value} (h:TD w #[x,y,z] w1):(w1.cell? ⟨w.heap.size,0,none⟩=some x∧w1.cell? ⟨w.heap.size,1,none⟩=some y∧w1.cell? ⟨w.heap.size,2,none⟩=some z)∧w.heap.size<w1.heap.size∧w.heap.size+1<w1.heap.size:=by
  obtain ⟨c1,c2,-⟩:=h
  exact ⟨⟨by simp [World.cell?,c1],by simp [World.cell?,c1],by simp [World.cell?,c1]⟩,(Array.getElem?_eq_some_iff.1 c1).1,(Array.getElem?_eq_some_iff.1 c2).1⟩
theorem Jv (s : ByteArray) (vk vp ve : Value) (b : Bk) (w : World) (hB : dI w vk vp ve b.1 b.2.1 b.2.2) (hS : vX b) (hs : s.size ≤ 1048576) :
    Calls Tryz.prog 69 #[.agg #[vk,vp,ve],.string s] w fun e w'=>Below w.heap.size w w' ∧
      ((kI b (eH s)≠0∧e=.returned (.tuple #[.agg #[vk,vp,ve],.int .i64 (kI b (eH s))])) ∨
       (kI b (eH s)=0∧∃ x y z,e=.returned (.tuple #[.agg #[x,y,z],.int .i64 0])∧df w.heap.size w' x y z (dN b.1 b.2.1 b.2.2 b.1) (dN b.1 b.2.1 b.2.2 b.2.1) (eT b.1 b.2.1 b.2.2 (eH s).1))):=by
  obtain ⟨hrd,-,-,-,hf,hv⟩:=o8 s hs;have J9:=aq hrd;have HB:=aq hB
  have AZ:Hid (∀ wx:World,Below w.heap.size w wx→Calls Tryz.prog 109 #[.agg #[vk,vp,ve],.agg #[.string (eH s).1.f,.int .i64 (eH s).1.what,.int .i64 (eH s).1.num,.string (eH s).1.v]] wx fun e w'=>∃ x y z,e=.returned (.tuple #[.agg #[x,y,z],.int .i64 (takeC b.1 b.2.1 b.2.2 (eH s).1)])∧df wx.heap.size w' x y z (dN b.1 b.2.1 b.2.2 b.1) (dN b.1 b.2.1 b.2.2 b.2.1) (eT b.1 b.2.1 b.2.2 (eH s).1)∧Below wx.heap.size wx w'):=fun wx hx=>kH vk vp ve b.1 b.2.1 b.2.2 (eH s).1 wx (HB.out.keep hx) hS.n hS.s (by omega) (by omega)
  have Hg:Hid (kI b (eH s)=bif (eH s).2 then (if takeC b.1 b.2.1 b.2.2 (eH s).1=2 then 7 else if takeC b.1 b.2.1 b.2.2 (eH s).1=3 then 6 else 0) else 3):=rfl
  generalize kI b (eH s)=sc at *;generalize takeC b.1 b.2.1 b.2.2 (eH s).1=tc at *;generalize eT b.1 b.2.1 b.2.2 (eH s).1=te at *;generalize eH s=r at *;obtain ⟨d,ok⟩:=r;dsimp only at *;clear hrd hf hv;obtain ⟨⟨ak,ck,rfl,-,-,-⟩,⟨ap,cp,rfl,-,-,-⟩,⟨ae,ce,rfl,-,-,-⟩⟩:=hB
  go_enter Tryz.func69,Tryz.ntmps69
  go_wp2_with fail;refine (J9.out _).mono ?_;rintro e w1 ⟨rfl,hb1⟩;have H1:Hid (TD w #[.slice ak b.1.length ck,.slice ap b.2.1.length cp,.slice ae b.2.2.length ce] w1):=TD.start hb1;clear hb1;have HA1:Hid (Below w1.heap.size w1 (w1.alloc (.cells #[.string d.f,.int .i64 d.what,.int .i64 d.num,.string d.v] 76))):=(aM);have H2:Hid (TD w #[.slice ak b.1.length ck,.slice ap b.2.1.length cp,.slice ae b.2.2.length ce] (w1.alloc (.cells #[.string d.f,.int .i64 d.what,.int .i64 d.num,.string d.v] 76))):=H1.out.keep HA1.out;obtain ⟨⟨d0,d1,d2⟩,z1,z2⟩:=H1.out.cells;have g2:=H1.out.c2;have g3:=H2.out.c2
  cases ok
  · skip
    have hkc:Hid (sc=3):=Hg.out
    go_wp2_with (refine wpList_store_row rfl 30 _ _ rfl (w.heap.size+1) #[.slice ak b.1.length ck,.slice ap b.2.1.length cp,.slice ae b.2.2.length ce] rfl rfl 30 _ g3 (by kernel_rfl) rfl (by simp [Value.oneCell']) ?_)
    exact bodyPost_ret (v:=.tuple #[.agg #[.slice ak b.1.length ck,.slice ap b.2.1.length cp,.slice ae b.2.2.length ce],.int .i64 (3)]) (by simp [results,Tryz.results69,go_sem,cell_setRow_same _ _ _ _ _ _ _ g3]) rfl ⟨below_setRow H2.out.b (by omega) _,.inl ⟨by rw [hkc.out];decide,by rw [hkc.out]⟩⟩
  · clear g3
    go_wp2_with fail;refine (AZ.out _ H2.out.b).mono ?_;rintro e w2 ⟨x,y,z,rfl,hn2,hb2⟩;have H3:Hid (TD w #[.slice ak b.1.length ck,.slice ap b.2.1.length cp,.slice ae b.2.2.length ce] w2):=H2.out.keep hb2
    have nT:Hid (df (w.heap.size+2) w2 x y z (dN b.1 b.2.1 b.2.2 b.1) (dN b.1 b.2.1 b.2.2 b.2.1) te):=hn2.mono (by rw [World.size_alloc];omega)
    obtain ⟨a1,c1,a2,c2,a3,c3,rfl,rfl,rfl⟩:=hn2.slices;clear hn2 hb2 HA1 H1 H2;clear d0 d1 d2 z1 z2 g2;have HA2:Hid (Below w2.heap.size w2 (w2.alloc (.cells #[.slice a1 (dN b.1 b.2.1 b.2.2 b.1).length c1,.slice a2 (dN b.1 b.2.1 b.2.2 b.2.1).length c2,.slice a3 te.length c3] 30))):=(aM);have H4:Hid (TD w #[.slice ak b.1.length ck,.slice ap b.2.1.length cp,.slice ae b.2.2.length ce] (w2.alloc (.cells #[.slice a1 (dN b.1 b.2.1 b.2.2 b.1).length c1,.slice a2 (dN b.1 b.2.1 b.2.2 b.2.1).length c2,.slice a3 te.length c3] 30))):=H3.out.keep HA2.out;obtain ⟨⟨d0,d1,d2⟩,z1,z2⟩:=H3.out.cells;have g2:=H3.out.c2;have g3:=H4.out.c2
    by_cases h2:tc=2
    · have e2:(tc==2)=true:=by simp [h2]
      have HS7:Hid (sc=7):=Hg.out.trans (by rw [if_pos h2];rfl)
      clear h2 Hg;have hkc:Hid (sc=7):=HS7.out
      go_wp2_with (refine wpList_store_row rfl 30 _ _ rfl (w.heap.size+1) #[.slice ak b.1.length ck,.slice ap b.2.1.length cp,.slice ae b.2.2.length ce] rfl rfl 30 _ g3 (by kernel_rfl) rfl (by simp [Value.oneCell']) ?_)
      exact bodyPost_ret (v:=.tuple #[.agg #[.slice ak b.1.length ck,.slice ap b.2.1.length cp,.slice ae b.2.2.length ce],.int .i64 (7)]) (by simp [results,Tryz.results69,go_sem,cell_setRow_same _ _ _ _ _ _ _ g3]) rfl ⟨below_setRow H4.out.b (by omega) _,.inl ⟨by rw [hkc.out];decide,by rw [hkc.out]⟩⟩
    · have e2:(tc==2)=false:=by simp [h2]
      by_cases h3:tc=3
      · have e3:(tc==3)=true:=by simp [h3]
        have HS6:Hid (sc=6):=Hg.out.trans (by rw [if_neg h2,if_pos h3];rfl)
        clear h2 h3 Hg;have hkc:Hid (sc=6):=HS6.out
        go_wp2_with (refine wpList_store_row rfl 30 _ _ rfl (w.heap.size+1) #[.slice ak b.1.length ck,.slice ap b.2.1.length cp,.slice ae b.2.2.length ce] rfl rfl 30 _ g3 (by kernel_rfl) rfl (by simp [Value.oneCell']) ?_)
        exact bodyPost_ret (v:=.tuple #[.agg #[.slice ak b.1.length ck,.slice ap b.2.1.length cp,.slice ae b.2.2.length ce],.int .i64 (6)]) (by simp [results,Tryz.results69,go_sem,cell_setRow_same _ _ _ _ _ _ _ g3]) rfl ⟨below_setRow H4.out.b (by omega) _,.inl ⟨by rw [hkc.out];decide,by rw [hkc.out]⟩⟩
      · have e3:(tc==3)=false:=by simp [h3]
        have HS0:Hid (sc=0):=Hg.out.trans (by rw [if_neg h2,if_neg h3];rfl)
        clear h2 h3 Hg
        go_wp2_with (refine wpList_store_row rfl 30 _ _ rfl (w.heap.size+1) #[.slice a1 (dN b.1 b.2.1 b.2.2 b.1).length c1,.slice a2 (dN b.1 b.2.1 b.2.2 b.2.1).length c2,.slice a3 te.length c3] rfl rfl 30 _ g3 (by kernel_rfl) rfl (by simp [Value.oneCell']) ?_)
        exact bodyPost_ret (v:=.tuple #[.agg #[.slice a1 (dN b.1 b.2.1 b.2.2 b.1).length c1,.slice a2 (dN b.1 b.2.1 b.2.2 b.2.1).length c2,.slice a3 te.length c3],.int .i64 (0)]) (by simp [results,Tryz.results69,go_sem,cell_setRow_same _ _ _ _ _ _ _ g3]) rfl ⟨below_setRow H4.out.b (by omega) _,.inr ⟨HS0.out,_,_,_,rfl,((nT.out.keep HA2.out).far (aD _ (w.heap.size+1) _) (by omega)).mono (by omega)⟩⟩
theorem Gu (s : ByteArray) (vk vp ve : Value) (b : Bk) (w : World) (hB : dI w vk vp ve b.1 b.2.1 b.2.2) (hG : Gd b) (hs : s.size ≤ 1048576) :
    Calls Tryz.prog 33 #[.agg #[vk,vp,ve],.string s] w fun e w'=>Below w.heap.size w w' ∧
      ((eU eH b s≠0∧e=.returned (.tuple #[.agg #[vk,vp,ve],.int .i64 (eU eH b s)])) ∨
       (eU eH b s=0∧∃ x y z,e=.returned (.tuple #[.agg #[x,y,z],.int .i64 0])∧dI w' x y z (dX eH b s).1 (dX eH b s).2.1 (dX eH b s).2.2)):=by
  have HB:=aq hB;have HG:=aq hG;obtain ⟨⟨ak,ck,rfl,-,-,-⟩,⟨ap,cp,rfl,-,-,-⟩,⟨ae,ce,rfl,-,-,-⟩⟩:=hB;clear hG
  have HPO:Hid (0<(dn s).length):=by show _<_;unfold dn;rw [List.length_map];have:=nI (bytes s) [];omega
  have zm:Hid (∀ i,i<(dn s).length→(dE (dn s) i).size≤1048576):=fun i hi=>Nat.le_trans (kY hi) hs
  have Hm:Hid (dE (dn s) 0=fZ→eU eH b s=gV b.1 (dn s)∧dX eH b s=(fD b.1 (iH b.1 (fC (dn s)).s) (fC (dn s)),b.2.1,b.2.2)):=fun h=>⟨by unfold eU;rw [if_pos h],by unfold dX;rw [if_pos h]⟩
  have HL2:Hid (dE (dn s) 0=eG→eU eH b s=fO b.2.1 (dn s)∧dX eH b s=(b.1,fD b.2.1 (iH b.2.1 (fC (dn s)).s) (fC (dn s)),b.2.2)):=fun h=>by
    have hn:dE (dn s) 0≠fZ:=by rw [h];decide
    exact ⟨by unfold eU;rw [if_neg hn,if_pos h],by unfold dX;rw [if_neg hn,if_pos h]⟩
  have MV:Hid (dE (dn s) 0=jY→eU eH b s=kI b (eH s)∧dX eH b s=(dN b.1 b.2.1 b.2.2 b.1,dN b.1 b.2.1 b.2.2 b.2.1,eT b.1 b.2.1 b.2.2 (eH s).1)):=fun h=>by
    have hn:dE (dn s) 0≠fZ:=by rw [h];decide
    have hm:dE (dn s) 0≠eG:=by rw [h];decide
    exact ⟨by unfold eU;rw [if_neg hn,if_neg hm,if_pos h],by unfold dX;rw [if_neg hn,if_neg hm]⟩
  have zP:Hid (dE (dn s) 0≠fZ→dE (dn s) 0≠eG→dE (dn s) 0≠jY→eU eH b s=2):=fun h1 h2 h3=>by unfold eU;rw [if_neg h1,if_neg h2,if_neg h3]
  have ug : Hid (∀ (wx : World) (vw : Value), Below w.heap.size w wx → dV wx vw (dn s) → Calls Tryz.prog 67 #[.agg #[.slice ak b.1.length ck, .slice ap b.2.1.length cp, .slice ae b.2.2.length ce], vw] wx fun e w' => Below wx.heap.size wx w' ∧
      ((gV b.1 (dn s)≠0∧e=.returned (.tuple #[.agg #[.slice ak b.1.length ck,.slice ap b.2.1.length cp,.slice ae b.2.2.length ce],.int .i64 (gV b.1 (dn s))])) ∨
       (gV b.1 (dn s)=0∧∃ u,e=.returned (.tuple #[.agg #[u,.slice ap b.2.1.length cp,.slice ae b.2.2.length ce],.int .i64 0])∧w'.ownsRow wx.heap.size 69 3 u (b.1.length+1) (aS (fD b.1 (iH b.1 (fC (dn s)).s) (fC (dn s))))))):=fun wx vw hx hw=>Gv _ vw ap ae _ cp _ ce b.1 (dn s) wx (HB.out.k.keep hx) hw HG.out.klen zm.out ((cz _).1 HG.out.k).2.2
  have HTP : Hid (∀ (wx : World) (vw : Value), Below w.heap.size w wx → dV wx vw (dn s) → Calls Tryz.prog 68 #[.agg #[.slice ak b.1.length ck, .slice ap b.2.1.length cp, .slice ae b.2.2.length ce], vw] wx fun e w' => Below wx.heap.size wx w' ∧
      ((fO b.2.1 (dn s)≠0∧e=.returned (.tuple #[.agg #[.slice ak b.1.length ck,.slice ap b.2.1.length cp,.slice ae b.2.2.length ce],.int .i64 (fO b.2.1 (dn s))])) ∨
       (fO b.2.1 (dn s)=0∧∃ u,e=.returned (.tuple #[.agg #[.slice ak b.1.length ck,u,.slice ae b.2.2.length ce],.int .i64 0])∧w'.ownsRow wx.heap.size 72 3 u (b.2.1.length+1) (aS (fD b.2.1 (iH b.2.1 (fC (dn s)).s) (fC (dn s))))))):=fun wx vw hx hw=>Et _ vw ak ae _ ck _ ce b.2.1 (dn s) wx (HB.out.p.keep hx) hw HG.out.plen zm.out ((ca _).1 HG.out.p).2.2.1
  have HTC : Hid (∀ wx : World, Below w.heap.size w wx → Calls Tryz.prog 69 #[.agg #[.slice ak b.1.length ck, .slice ap b.2.1.length cp, .slice ae b.2.2.length ce], .string s] wx fun e w' => Below wx.heap.size wx w' ∧
      ((kI b (eH s)≠0∧e=.returned (.tuple #[.agg #[.slice ak b.1.length ck,.slice ap b.2.1.length cp,.slice ae b.2.2.length ce],.int .i64 (kI b (eH s))])) ∨
       (kI b (eH s)=0∧∃ x y z,e=.returned (.tuple #[.agg #[x,y,z],.int .i64 0])∧df wx.heap.size w' x y z (dN b.1 b.2.1 b.2.2 b.1) (dN b.1 b.2.1 b.2.2 b.2.1) (eT b.1 b.2.1 b.2.2 (eH s).1)))):=fun wx hx=>Jv s _ _ _ b wx (HB.out.keep hx) HG.out.sm hs
  have Kh:Hid (∀ wx:World,Calls Tryz.prog 54 #[.string s,.int .u8 32] wx fun e w'=>∃ v,e=.returned v∧dV w' v (dn s)∧Below wx.heap.size wx w'):=fun wx=>(Jy s wx hs).mono fun e w' ⟨v,he,hn,hb⟩=>⟨v,he,bO hn (fun e=>by have h:0<(dn s).length:=HPO.out;rw [e] at h;simp at h),hb⟩
  generalize eU eH b s=lc at *;generalize dX eH b s=lb at *
  go_enter Tryz.func33,Tryz.ntmps33
  go_wp2_with fail;refine (Kh.out _).mono ?_;rintro e w1 ⟨v,rfl,hv1,hb1⟩;have H1:Hid (TD w #[.slice ak b.1.length ck,.slice ap b.2.1.length cp,.slice ae b.2.2.length ce] w1):=TD.start hb1;have HV:=aq hv1;obtain ⟨wb,wo,wcp,rfl,hwl,hwm,-⟩:=hv1;unfold maxLen at hwm;have y0:w1.cell? ⟨wb,wo,none⟩=some (.string (dE (dn s) 0)):=HV.out.cellS 0 HPO.out
  have hpi:(0:Int)<((dn s).length:Int):=by have h:0<(dn s).length:=HPO.out;omega
  have ez:=av y0;generalize dE (dn s) 0=wd at *;clear hb1;obtain ⟨⟨d0,d1,d2⟩,z1,z2⟩:=H1.out.cells;have g2:=H1.out.c2
  by_cases e1:wd=fZ
  · have b1:(wd.toList==[107,105,110,100])=true:=ym ▸ cA e1
    obtain ⟨o6,HE2⟩:=Hm.out e1;clear Hm HL2 MV zP HTP HTC e1;go_wp2_with fail;refine (ug.out _ _ H1.out.b HV.out).mono ?_;rintro e w3 ⟨hb3,⟨hc,rfl⟩ | ⟨hc,u,rfl,hu⟩⟩
    · have H3:Hid (TD w #[.slice ak b.1.length ck,.slice ap b.2.1.length cp,.slice ae b.2.2.length ce] w3):=H1.out.keep hb3
      have HC:Hid (lc≠0∧lc=gV b.1 (dn s)):=⟨by rw [o6];exact hc,o6⟩
      clear hc o6 HE2;have g3:=H3.out.c2
      go_wp2_with (refine wpList_store_row rfl 30 _ _ rfl (w.heap.size+1) #[.slice ak b.1.length ck,.slice ap b.2.1.length cp,.slice ae b.2.2.length ce] rfl rfl 30 _ g3 (by kernel_rfl) rfl (by simp [Value.oneCell']) ?_)
      exact bodyPost_ret (v:=.tuple #[.agg #[.slice ak b.1.length ck,.slice ap b.2.1.length cp,.slice ae b.2.2.length ce],.int .i64 (gV b.1 (dn s))]) (by simp [results,Tryz.results33,go_sem,cell_setRow_same _ _ _ _ _ _ _ g3]) rfl ⟨below_setRow H3.out.b (by omega) _,.inl ⟨HC.out.1,by rw [HC.out.2]⟩⟩
    · have H3:Hid (TD w #[.slice ak b.1.length ck,.slice ap b.2.1.length cp,.slice ae b.2.2.length ce] w3):=H1.out.keep hb3
      have HK3:Hid (dI w3 (.slice ak b.1.length ck) (.slice ap b.2.1.length cp) (.slice ae b.2.2.length ce) b.1 b.2.1 b.2.2):=HB.out.keep H3.out.b
      have Kb:Hid (dI w3 u (.slice ap b.2.1.length cp) (.slice ae b.2.2.length ce) lb.1 lb.2.1 lb.2.2):=by
        rw [HE2]
        exact ⟨cC (by rw [lS];exact hu),HK3.out.p,HK3.out.e⟩
      obtain ⟨ua,uc,rfl⟩:=cZ hu;have HC:Hid (lc=0):=o6.trans hc;clear hc o6 HE2 hb3;have g3:=H3.out.c2
      go_wp2_with (refine wpList_store_row rfl 30 _ _ rfl (w.heap.size+1) #[.slice ua (b.1.length+1) uc,.slice ap b.2.1.length cp,.slice ae b.2.2.length ce] rfl rfl 30 _ g3 (by kernel_rfl) rfl (by simp [Value.oneCell']) ?_)
      exact bodyPost_ret (v:=.tuple #[.agg #[.slice ua (b.1.length+1) uc,.slice ap b.2.1.length cp,.slice ae b.2.2.length ce],.int .i64 (0)]) (by simp [results,Tryz.results33,go_sem,cell_setRow_same _ _ _ _ _ _ _ g3]) rfl ⟨below_setRow H3.out.b (by omega) _,.inr ⟨HC.out,_,_,_,rfl,cv Kb.out g3 _⟩⟩
  · have b1:(wd.toList==[107,105,110,100])=false:=ym ▸ b9 e1
    by_cases e2:wd=eG
    · have b2:(wd.toList==[112,111,105,110,116])=true:=vo ▸ cA e2
      obtain ⟨o6,HE2⟩:=HL2.out e2;clear Hm HL2 MV zP ug HTC e1 e2;go_wp2_with fail;refine (HTP.out _ _ H1.out.b HV.out).mono ?_;rintro e w3 ⟨hb3,⟨hc,rfl⟩ | ⟨hc,u,rfl,hu⟩⟩
      · have H3:Hid (TD w #[.slice ak b.1.length ck,.slice ap b.2.1.length cp,.slice ae b.2.2.length ce] w3):=H1.out.keep hb3
        have HC:Hid (lc≠0∧lc=fO b.2.1 (dn s)):=⟨by rw [o6];exact hc,o6⟩
        clear hc o6 HE2;have g3:=H3.out.c2
        go_wp2_with (refine wpList_store_row rfl 30 _ _ rfl (w.heap.size+1) #[.slice ak b.1.length ck,.slice ap b.2.1.length cp,.slice ae b.2.2.length ce] rfl rfl 30 _ g3 (by kernel_rfl) rfl (by simp [Value.oneCell']) ?_)
        exact bodyPost_ret (v:=.tuple #[.agg #[.slice ak b.1.length ck,.slice ap b.2.1.length cp,.slice ae b.2.2.length ce],.int .i64 (fO b.2.1 (dn s))]) (by simp [results,Tryz.results33,go_sem,cell_setRow_same _ _ _ _ _ _ _ g3]) rfl ⟨below_setRow H3.out.b (by omega) _,.inl ⟨HC.out.1,by rw [HC.out.2]⟩⟩
      · have H3:Hid (TD w #[.slice ak b.1.length ck,.slice ap b.2.1.length cp,.slice ae b.2.2.length ce] w3):=H1.out.keep hb3
        have HK3:Hid (dI w3 (.slice ak b.1.length ck) (.slice ap b.2.1.length cp) (.slice ae b.2.2.length ce) b.1 b.2.1 b.2.2):=HB.out.keep H3.out.b
        have Kb:Hid (dI w3 (.slice ak b.1.length ck) u (.slice ae b.2.2.length ce) lb.1 lb.2.1 lb.2.2):=by
          rw [HE2]
          exact ⟨HK3.out.k,cC (by rw [lS];exact hu),HK3.out.e⟩
        obtain ⟨ua,uc,rfl⟩:=cZ hu;have HC:Hid (lc=0):=o6.trans hc;clear hc o6 HE2 hb3;have g3:=H3.out.c2
        go_wp2_with (refine wpList_store_row rfl 30 _ _ rfl (w.heap.size+1) #[.slice ak b.1.length ck,.slice ua (b.2.1.length+1) uc,.slice ae b.2.2.length ce] rfl rfl 30 _ g3 (by kernel_rfl) rfl (by simp [Value.oneCell']) ?_)
        exact bodyPost_ret (v:=.tuple #[.agg #[.slice ak b.1.length ck,.slice ua (b.2.1.length+1) uc,.slice ae b.2.2.length ce],.int .i64 (0)]) (by simp [results,Tryz.results33,go_sem,cell_setRow_same _ _ _ _ _ _ _ g3]) rfl ⟨below_setRow H3.out.b (by omega) _,.inr ⟨HC.out,_,_,_,rfl,cv Kb.out g3 _⟩⟩
    · have b2:(wd.toList==[112,111,105,110,116])=false:=vo ▸ b9 e2
      by_cases e3:wd=jY
      · have b3:(wd.toList==[115,101,116])=true:=zV ▸ cA e3
        obtain ⟨o6,HE2⟩:=MV.out e3;clear Hm HL2 MV zP HTP ug e1 e2 e3;go_wp2_with fail;refine (HTC.out _ H1.out.b).mono ?_;rintro e w3 ⟨hb3,⟨hc,rfl⟩ | ⟨hc,x,y,z,rfl,hn⟩⟩
        · have H3:Hid (TD w #[.slice ak b.1.length ck,.slice ap b.2.1.length cp,.slice ae b.2.2.length ce] w3):=H1.out.keep hb3
          have HC:Hid (lc≠0∧lc=kI b (eH s)):=⟨by rw [o6];exact hc,o6⟩
          clear hc o6 HE2;have g3:=H3.out.c2
          go_wp2_with (refine wpList_store_row rfl 30 _ _ rfl (w.heap.size+1) #[.slice ak b.1.length ck,.slice ap b.2.1.length cp,.slice ae b.2.2.length ce] rfl rfl 30 _ g3 (by kernel_rfl) rfl (by simp [Value.oneCell']) ?_)
          exact bodyPost_ret (v:=.tuple #[.agg #[.slice ak b.1.length ck,.slice ap b.2.1.length cp,.slice ae b.2.2.length ce],.int .i64 (kI b (eH s))]) (by simp [results,Tryz.results33,go_sem,cell_setRow_same _ _ _ _ _ _ _ g3]) rfl ⟨below_setRow H3.out.b (by omega) _,.inl ⟨HC.out.1,by rw [HC.out.2]⟩⟩
        · have H3:Hid (TD w #[.slice ak b.1.length ck,.slice ap b.2.1.length cp,.slice ae b.2.2.length ce] w3):=H1.out.keep hb3
          have HK3:Hid (dI w3 (.slice ak b.1.length ck) (.slice ap b.2.1.length cp) (.slice ae b.2.2.length ce) b.1 b.2.1 b.2.2):=HB.out.keep H3.out.b
          have Kb:Hid (dI w3 x y z lb.1 lb.2.1 lb.2.2):=by
            rw [HE2];exact hn.at
          obtain ⟨a1,c1,a2,c2,a3,c3,rfl,rfl,rfl⟩:=hn.slices;have HC:Hid (lc=0):=o6.trans hc;clear hc o6 HE2 hb3;have g3:=H3.out.c2
          go_wp2_with (refine wpList_store_row rfl 30 _ _ rfl (w.heap.size+1) #[.slice a1 (dN b.1 b.2.1 b.2.2 b.1).length c1,.slice a2 (dN b.1 b.2.1 b.2.2 b.2.1).length c2,.slice a3 (eT b.1 b.2.1 b.2.2 (eH s).1).length c3] rfl rfl 30 _ g3 (by kernel_rfl) rfl (by simp [Value.oneCell']) ?_)
          exact bodyPost_ret (v:=.tuple #[.agg #[.slice a1 (dN b.1 b.2.1 b.2.2 b.1).length c1,.slice a2 (dN b.1 b.2.1 b.2.2 b.2.1).length c2,.slice a3 (eT b.1 b.2.1 b.2.2 (eH s).1).length c3],.int .i64 (0)]) (by simp [results,Tryz.results33,go_sem,cell_setRow_same _ _ _ _ _ _ _ g3]) rfl ⟨below_setRow H3.out.b (by omega) _,.inr ⟨HC.out,_,_,_,rfl,cv Kb.out g3 _⟩⟩
      · have b3:(wd.toList==[115,101,116])=false:=zV ▸ b9 e3
        have HC:Hid (lc=2):=zP.out e1 e2 e3;clear Hm HL2 MV zP HTP ug HTC e1 e2 e3
        go_wp2_with (refine wpList_store_row rfl 30 _ _ rfl (w.heap.size+1) #[.slice ak b.1.length ck,.slice ap b.2.1.length cp,.slice ae b.2.2.length ce] rfl rfl 30 _ g2 (by kernel_rfl) rfl (by simp [Value.oneCell']) ?_)
        exact bodyPost_ret (v:=.tuple #[.agg #[.slice ak b.1.length ck,.slice ap b.2.1.length cp,.slice ae b.2.2.length ce],.int .i64 (2)]) (by simp [results,Tryz.results33,go_sem,cell_setRow_same _ _ _ _ _ _ _ g2]) rfl ⟨below_setRow H1.out.b (by omega) _,.inl ⟨by rw [HC.out];decide,by rw [HC.out]⟩⟩
end Go.Proofs.YtcmgddnckohdaaaGreatDoor.Tx
