import Derived.Test.YtcmgddnckohdaaaGreatDoorTl1
set_option maxRecDepth 100000
set_option maxHeartbeats 6400000
set_option linter.unusedSimpArgs false
set_option linter.unusedVariables false
namespace Go.Proofs.YtcmgddnckohdaaaGreatDoor.Tx
open Go.RowKit Sd
noncomputable def rdS (s:ByteArray):Chg×Bool:=if h:s.size≤1048576 then ((read_all s h).choose,(read_all s h).choose_spec.choose) else (⟨⟨#[]⟩,0,0,⟨#[]⟩⟩,false)
theorem rdS_all (s : ByteArray) (hs : s.size ≤ 1048576) :
    (∀ w:World,Calls Tryz.prog 123 #[.string s] w fun e w'=>e=.returned (.tuple #[.agg #[.string (rdS s).1.f,.int .i64 (rdS s).1.what,.int .i64 (rdS s).1.num,.string (rdS s).1.v],.bool (rdS s).2])∧Below w.heap.size w w') ∧
    (∀ w:World,SaidIn w→MaxIn w→Calls Tryz.prog 186 #[.string s] w fun e w'=>e=.returned (.tuple #[.agg #[.string (rdS s).1.f,.int .i64 (rdS s).1.what,.int .i64 (rdS s).1.num,.string (rdS s).1.v],.bool (rdS s).2])∧Below w.heap.size w w') ∧
    ((rdS s).2=true→formB (rdS s).1=true∧theForm (rdS s).1=s)∧(∀ c,formB c=true→formS c=s→(rdS s).2=true∧(rdS s).1=c)∧(rdS s).1.f.size≤s.size∧(rdS s).1.v.size≤s.size:=by
  have h:=(read_all s hs).choose_spec.choose_spec;have e:rdS s=((read_all s hs).choose,(read_all s hs).choose_spec.choose):=dif_pos hs;rw [e];exact h
theorem takeChange_any (num : Int) (s : ByteArray) (vk vp ve : Value) (b : Bk) (w : World) (hB : BookAt w vk vp ve b.1 b.2.1 b.2.2) (hS : SmB b) (hs : s.size ≤ 1048576) (hsa : SaidIn w) (hma : MaxIn w) :
    Calls Tryz.prog 157 #[.agg #[vk,vp,ve],.agg #[.int .i64 num,.string s]] w fun e w'=>Below w.heap.size w w' ∧
      ((setC b (rdS s)≠0∧e=.returned (fail3 num (setC b (rdS s)))) ∨
       (setC b (rdS s)=0∧∃ x y z,e=.returned (.tuple #[.agg #[x,y,z],.nilIface])∧BookNew w.heap.size w' x y z (takeT b.1 b.2.1 b.2.2 b.1) (takeT b.1 b.2.1 b.2.2 b.2.1) (takeE b.1 b.2.1 b.2.2 (rdS s).1))):=by
  obtain ⟨-,hrd,-,-,hf,hv⟩:=rdS_all s hs;have HRD:=au hrd;have HSA:=au hsa;have HMA:=au hma;have HB:=au hB
  have HPT:Hid (∀ wx:World,Below w.heap.size w wx→Calls Tryz.prog 187 #[.agg #[vk,vp,ve],.agg #[.string (rdS s).1.f,.int .i64 (rdS s).1.what,.int .i64 (rdS s).1.num,.string (rdS s).1.v]] wx fun e w'=>∃ x y z,e=.returned (.tuple #[.agg #[x,y,z],.int .i64 (takeC b.1 b.2.1 b.2.2 (rdS s).1)])∧BookNew wx.heap.size w' x y z (takeT b.1 b.2.1 b.2.2 b.1) (takeT b.1 b.2.1 b.2.2 b.2.1) (takeE b.1 b.2.1 b.2.2 (rdS s).1)∧Below wx.heap.size wx w'):=fun wx hx=>planTake_any vk vp ve b.1 b.2.1 b.2.2 (rdS s).1 wx (HB.out.keep hx) hS.n hS.s hS.u (by omega) (by omega)
  have HSC:Hid (setC b (rdS s)=bif (rdS s).2 then (if takeC b.1 b.2.1 b.2.2 (rdS s).1=2 then 7 else if takeC b.1 b.2.1 b.2.2 (rdS s).1=3 then 6 else 0) else 3):=rfl
  generalize setC b (rdS s)=sc at *;generalize takeC b.1 b.2.1 b.2.2 (rdS s).1=tc at *;generalize takeE b.1 b.2.1 b.2.2 (rdS s).1=te at *;generalize rdS s=r at *;obtain ⟨d,ok⟩:=r;dsimp only at *;clear hrd hf hv;obtain ⟨⟨ak,ck,rfl,-,-,-⟩,⟨ap,cp,rfl,-,-,-⟩,⟨ae,ce,rfl,-,-,-⟩⟩:=hB;clear hsa hma
  go_enter Tryz.func157,Tryz.ntmps157
  go_wp2_with fail
  have B0:Below w.heap.size w (((w.alloc (.cells #[.slice ak b.1.length ck,.slice ap b.2.1.length cp,.slice ae b.2.2.length ce] 30)).alloc (.cells #[.int .i64 num,.string s] 89)).alloc (.cells #[.slice none 0 0,.slice none 0 0,.slice none 0 0] 30)):=((aO).alloc (by simp) _).alloc (by simp;omega) _
  refine (HRD.out _ (HSA.out.keep B0) (HMA.out.keep B0)).mono ?_;rintro e w1 ⟨rfl,hb1⟩;have H1:Hid (TB w (.slice ak b.1.length ck) (.slice ap b.2.1.length cp) (.slice ae b.2.2.length ce) num s w1):=TB.start hb1;clear hb1 B0;obtain ⟨⟨d0,d1,d2⟩,⟨f0,f1⟩,z1,z2,z3⟩:=H1.out.cells
  cases ok
  · go_wp2_with fail
    refine (bJ num 3 s _).mono ?_;rintro e w2 ⟨rfl,hb2⟩;have H2:Hid (TB w (.slice ak b.1.length ck) (.slice ap b.2.1.length cp) (.slice ae b.2.2.length ce) num s w2):=(H1.out.keep (aO)).keep hb2;have g2:=H2.out.c3;have hkc:sc=3:=HSC.out
    go_wp2_with (refine wpList_store_row rfl 30 _ _ rfl (w.heap.size+2) #[.slice none 0 0,.slice none 0 0,.slice none 0 0] rfl rfl 30 _ g2 (by kernel_rfl) rfl (by simp [Value.oneCell']) ?_)
    exact bodyPost_ret (v:=fail3 num 3) (by simp [results,Tryz.results157,go_sem,cell_setRow_same _ _ _ _ _ _ _ g2,fail3]) rfl ⟨below_setRow H2.out.b (by omega) _,.inl ⟨by rw [hkc];decide,by rw [hkc]⟩⟩
  · go_wp2_with fail
    have HA1:Hid (Below w1.heap.size w1 (w1.alloc (.cells #[.string d.f,.int .i64 d.what,.int .i64 d.num,.string d.v] 76))):=(aO);refine (HPT.out _ (aa H1.out.b HA1.out)).mono ?_;rintro e w2 ⟨x,y,z,rfl,hn2,hb2⟩;have H2:Hid (TB w (.slice ak b.1.length ck) (.slice ap b.2.1.length cp) (.slice ae b.2.2.length ce) num s w2):=(H1.out.keep HA1.out).keep hb2
    have HN2:Hid (BookNew (w.heap.size+3) w2 x y z (takeT b.1 b.2.1 b.2.2 b.1) (takeT b.1 b.2.1 b.2.2 b.2.1) te):=hn2.mono (by rw [World.size_alloc];omega)
    obtain ⟨a1,c1,a2,c2,a3,c3,rfl,rfl,rfl⟩:=hn2.slices;clear hn2 hb2 HA1 d0 d1 d2 f0 f1 z1 z2 z3 H1;obtain ⟨⟨d0,d1,d2⟩,⟨f0,f1⟩,z1,z2,z3⟩:=H2.out.cells;have HA2:Hid (Below w2.heap.size w2 (w2.alloc (.cells #[.slice a1 (takeT b.1 b.2.1 b.2.2 b.1).length c1,.slice a2 (takeT b.1 b.2.1 b.2.2 b.2.1).length c2,.slice a3 te.length c3] 30))):=(aO)
    by_cases h2:tc=2
    · have e2:(tc==2)=true:=by simp [h2]
      have HS7:Hid (sc=7):=HSC.out.trans (by rw [if_pos h2];rfl)
      clear h2 HSC;go_wp2_with fail;refine (bJ num 7 s _).mono ?_;rintro e w3 ⟨rfl,hb3⟩;have H3:Hid (TB w (.slice ak b.1.length ck) (.slice ap b.2.1.length cp) (.slice ae b.2.2.length ce) num s w3):=(H2.out.keep HA2.out).keep hb3;have g2:=H3.out.c3;have hkc:sc=7:=HS7.out
      go_wp2_with (refine wpList_store_row rfl 30 _ _ rfl (w.heap.size+2) #[.slice none 0 0,.slice none 0 0,.slice none 0 0] rfl rfl 30 _ g2 (by kernel_rfl) rfl (by simp [Value.oneCell']) ?_)
      exact bodyPost_ret (v:=fail3 num 7) (by simp [results,Tryz.results157,go_sem,cell_setRow_same _ _ _ _ _ _ _ g2,fail3]) rfl ⟨below_setRow H3.out.b (by omega) _,.inl ⟨by rw [hkc];decide,by rw [hkc]⟩⟩
    · have e2:(tc==2)=false:=by simp [h2]
      by_cases h3:tc=3
      · have e3:(tc==3)=true:=by simp [h3]
        have HS6:Hid (sc=6):=HSC.out.trans (by rw [if_neg h2,if_pos h3];rfl)
        clear h2 h3 HSC;go_wp2_with fail;refine (bJ num 6 s _).mono ?_;rintro e w3 ⟨rfl,hb3⟩;have H3:Hid (TB w (.slice ak b.1.length ck) (.slice ap b.2.1.length cp) (.slice ae b.2.2.length ce) num s w3):=(H2.out.keep HA2.out).keep hb3;have g2:=H3.out.c3;have hkc:sc=6:=HS6.out
        go_wp2_with (refine wpList_store_row rfl 30 _ _ rfl (w.heap.size+2) #[.slice none 0 0,.slice none 0 0,.slice none 0 0] rfl rfl 30 _ g2 (by kernel_rfl) rfl (by simp [Value.oneCell']) ?_)
        exact bodyPost_ret (v:=fail3 num 6) (by simp [results,Tryz.results157,go_sem,cell_setRow_same _ _ _ _ _ _ _ g2,fail3]) rfl ⟨below_setRow H3.out.b (by omega) _,.inl ⟨by rw [hkc];decide,by rw [hkc]⟩⟩
      · have e3:(tc==3)=false:=by simp [h3]
        have HS0:Hid (sc=0):=HSC.out.trans (by rw [if_neg h2,if_neg h3];rfl)
        clear h2 h3 HSC;have HG2:Hid ((w2.alloc (.cells #[.slice a1 (takeT b.1 b.2.1 b.2.2 b.1).length c1,.slice a2 (takeT b.1 b.2.1 b.2.2 b.2.1).length c2,.slice a3 te.length c3] 30)).heap[w.heap.size+2]?=some (.cells #[.slice none 0 0,.slice none 0 0,.slice none 0 0] 30 (0,0))):=(H2.out.keep HA2.out).c3;have g2:=HG2.out
        go_wp2_with (refine wpList_store_row rfl 30 _ _ rfl (w.heap.size+2) #[.slice a1 (takeT b.1 b.2.1 b.2.2 b.1).length c1,.slice a2 (takeT b.1 b.2.1 b.2.2 b.2.1).length c2,.slice a3 te.length c3] rfl rfl 30 _ g2 (by kernel_rfl) rfl (by simp [Value.oneCell']) ?_)
        exact bodyPost_ret (v:=.tuple #[.agg #[.slice a1 (takeT b.1 b.2.1 b.2.2 b.1).length c1,.slice a2 (takeT b.1 b.2.1 b.2.2 b.2.1).length c2,.slice a3 te.length c3],.nilIface]) (by simp [results,Tryz.results157,go_sem,cell_setRow_same _ _ _ _ _ _ _ g2]) rfl ⟨below_setRow (aa H2.out.b HA2.out) (by omega) _,.inr ⟨HS0.out,_,_,_,rfl,((HN2.out.keep HA2.out).far (aD _ (w.heap.size+2) _) (by omega)).mono (by omega)⟩⟩
open Go.RowKit Sd
theorem keyedS:Maps.Keyed Tryz.prog 9:=Maps.string_keyed Tryz.underlying9
theorem keyS {s:ByteArray} (h:s.size≤1048576):keyOf Tryz.prog 9 (.string s)=some (.string s.data.toList):=WideMaps.keyOf_string_mk Tryz.underlying9 (by unfold maxLen;omega)
theorem elF_K:elF fK=some (.lit (.int .i64 1),[]):=by unfold elF;rw [if_pos rfl]
theorem elF_P:elF fP=some (.lit (.int .i64 2),[]):=by unfold elF;rw [if_neg (by unfold fP fK;simp),if_pos rfl]
theorem elF_S:elF fS=some (.lit (.int .i64 3),[]):=by unfold elF;rw [if_neg (by unfold fS fK;simp),if_neg (by unfold fS fP;simp),if_pos rfl]
theorem elF_0:elF .nilFunc=some (.lit (.int .i64 0),[]):=by unfold elF;rw [if_neg (by unfold fK;simp),if_neg (by unfold fP;simp),if_neg (by unfold fS;simp)]
noncomputable def tabD:DataW Nat:=(((DataW.map []).put (.string kindS.data.toList) (.lit (.int .i64 1))).put (.string pointS.data.toList) (.lit (.int .i64 2))).put (.string setS.data.toList) (.lit (.int .i64 3))
theorem lit_ne {a b:ByteArray} (h:a≠b):Lit.string a.data.toList≠Lit.string b.data.toList:=fun e=>h (by
  injection e with e
  exact br e)
theorem tab_at (s:ByteArray) (z:DataW Nat):tabD.atKey (.string s.data.toList) z=if s=setS then .lit (.int .i64 3) else if s=pointS then .lit (.int .i64 2) else if s=kindS then .lit (.int .i64 1) else z:=by
  have key:∀ s:ByteArray,WideAt.IsKeyLit (.string s.data.toList):=fun s=>trivial;unfold tabD
  by_cases h1:s=setS
  · rw [if_pos h1,h1,Maps.atKey_put_same ((Maps.isMap_empty.put _ _).put _ _) (key _)]
  · rw [if_neg h1,Maps.atKey_put_other (lit_ne h1)]
    by_cases h2:s=pointS
    · rw [if_pos h2,h2,Maps.atKey_put_same (Maps.isMap_empty.put _ _) (key _)]
    · rw [if_neg h2,Maps.atKey_put_other (lit_ne h2)]
      by_cases h3:s=kindS
      · rw [if_pos h3,h3,Maps.atKey_put_same Maps.isMap_empty (key _)]
      · rw [if_neg h3,Maps.atKey_put_other (lit_ne h3)]
        rfl
theorem lineKinds_any (w : World) :
    Calls Tryz.prog 114 #[] w fun e w'=>∃ g,e=.returned (.map (some g))∧w'.ownsMap Tryz.prog 9 elF g 3 tabD∧Below w.heap.size w w':=by
  have hmm:=@run_makeMap Tryz.prog
  obtain ⟨w1,hr1,h1,g1⟩:=(World.ownsMap_made w Tryz.prog 9 elF).update keyedS Tryz.underlying160 (by unfold maxLen;omega) (keyS (s:=kindS) (by decide)) elF_K
  obtain ⟨w2,hr2,h2,g2⟩:=h1.update keyedS Tryz.underlying160 (by unfold maxLen;omega) (keyS (s:=pointS) (by decide)) elF_P
  obtain ⟨w3,hr3,h3,g3⟩:=h2.update keyedS Tryz.underlying160 (by unfold maxLen;omega) (keyS (s:=setS) (by decide)) elF_S
  have H3:=au h3
  have HB:Hid (Below w.heap.size w w3):=by
    have b0:Below w.heap.size w (w.alloc (.map #[] 0)):=(aO)
    have b1:=b0.grown g1 (by simp) (fun k e=>by injection e with e;omega)
    have b2:=b1.grown g2 (by have:=b1.size;omega) (fun k e=>by injection e with e;omega)
    exact b2.grown g3 (by have:=b2.size;omega) (fun k e=>by injection e with e;omega)
  clear h1 h2 h3 g1 g2 g3;unfold fK kindS at hr1;unfold fP pointS at hr2;unfold fS setS at hr3
  go_enter Tryz.func114,Tryz.ntmps114
  go_wp2_with fail
  exact bodyPost_ret (v:=.map (some w.heap.size)) (by simp [results,Tryz.results114,go_sem]) rfl ⟨_,rfl,H3.out,HB.out⟩
theorem zeroT (w:World):(zeroValue 103).run Tryz.prog w=.ok .nilFunc w:=by kernel_rfl
theorem tab_look {w:World} {g:Nat} (h:w.ownsMap Tryz.prog 9 elF g 3 tabD) (s:ByteArray) (hs:s.size≤1048576):∃ v,(Instr.lookup 160 (.map (some g)) (.string s) true).run Tryz.prog w=.ok (.tuple #[v,.bool (decide (s=kindS)||decide (s=pointS)||decide (s=setS))]) w∧(s=kindS→v=fK)∧(s=pointS→v=fP)∧(s=setS→v=fS):=by
  obtain ⟨v,ps,hr,hv⟩:=h.look_ok keyedS Tryz.underlying160 (zeroT w) elF_0 (keyS hs);rw [tab_at] at hv
  have hkp:kindS≠pointS:=by decide
  have hks:kindS≠setS:=by decide
  have hps:pointS≠setS:=by decide
  have hh:Maps.has tabD (.string s.data.toList)=(decide (s=kindS)||decide (s=pointS)||decide (s=setS)):=by
    by_cases h1:s=setS
    · rw [Maps.has_true_of_atKey (y:=.lit (.int .i64 3)) (fun z=>by rw [tab_at,if_pos h1])];simp [h1]
    · by_cases h2:s=pointS
      · rw [Maps.has_true_of_atKey (y:=.lit (.int .i64 2)) (fun z=>by rw [tab_at,if_neg h1,if_pos h2])];simp [h2]
      · by_cases h3:s=kindS
        · rw [Maps.has_true_of_atKey (y:=.lit (.int .i64 1)) (fun z=>by rw [tab_at,if_neg h1,if_neg h2,if_pos h3])];simp [h3]
        · rw [Maps.has_false_of_atKey (fun z=>by rw [tab_at,if_neg h1,if_neg h2,if_neg h3])];simp [h1,h2,h3]
  rw [hh] at hr;refine ⟨v,hr,fun e=>?_,fun e=>?_,fun e=>?_⟩
  · rw [e,if_neg hks,if_neg hkp,if_pos rfl] at hv
    rcases elF_inv hv with ⟨-,h⟩ | ⟨h,-⟩ | ⟨h,-⟩ | h
    · exact h
    · simp at h
    · simp at h
    · simp at h
  · rw [e,if_neg hps,if_pos rfl] at hv
    rcases elF_inv hv with ⟨h,-⟩ | ⟨-,h⟩ | ⟨h,-⟩ | h
    · simp at h
    · exact h
    · simp at h
    · simp at h
  · rw [e,if_pos rfl] at hv
    rcases elF_inv hv with ⟨h,-⟩ | ⟨h,-⟩ | ⟨-,h⟩ | h
    · simp at h
    · simp at h
    · exact h
    · simp at h
theorem takeLine_any (num : Int) (s : ByteArray) (vk vp ve : Value) (b : Bk) (lo : Nat) (w : World) (hN : BookNew lo w vk vp ve b.1 b.2.1 b.2.2) (hlo : lo ≤ w.heap.size) (hG : Gd b) (hs : s.size ≤ 1048576) (hsa : SaidIn w) (hma : MaxIn w) :
    Calls Tryz.prog 65 #[.agg #[vk,vp,ve],.agg #[.int .i64 num,.string s]] w fun e w'=>Below w.heap.size w w' ∧
      ((lineC rdS b s≠0∧e=.returned (fail3 num (lineC rdS b s))) ∨
       (lineC rdS b s=0∧∃ x y z,e=.returned (.tuple #[.agg #[x,y,z],.nilIface])∧BookNew lo w' x y z (lineB rdS b s).1 (lineB rdS b s).2.1 (lineB rdS b s).2.2)):=by
  have HN:=au hN;have HG:=au hG;have HSA:=au hsa;have HMA:=au hma;obtain ⟨ak,ck,ap,cp,ae,ce,rfl,rfl,rfl⟩:=hN.slices;clear hN hG hsa hma
  have HZ:Hid ((wat (cutW s) 0).size≤1048576):=Nat.le_trans (wat_size (by unfold cutW;rw [List.length_map];have:=cut_pos (bytes s) [];omega)) hs
  have HCUT:Hid (∀ wx:World,MaxIn wx→Calls Tryz.prog 113 #[.string s,.string ⟨#[32]⟩] wx fun e w'=>∃ x y,e=.returned (.tuple #[.string (wat (cutW s) 0),.string x,.bool y])∧Below wx.heap.size wx w'):=fun wx hm=>by
    obtain ⟨m,hm⟩:=hm
    refine (Tryz.strings_Cut s spS m wx (by omega) hm).mono ?_
    rintro e w' ⟨rfl,n,rfl⟩
    exact ⟨_,_,by rw [cut_word],below_drewN (Below.refl _ _) _⟩
  have HL1:Hid (wat (cutW s) 0=kindS→lineC rdS b s=kindC b.1 (cutW s)∧lineB rdS b s=(insT b.1 (plc b.1 (triW (cutW s)).s) (triW (cutW s)),b.2.1,b.2.2)):=fun h=>⟨by unfold lineC;rw [if_pos h],by unfold lineB;rw [if_pos h]⟩
  have HL2:Hid (wat (cutW s) 0=pointS→lineC rdS b s=pointC b.2.1 (cutW s)∧lineB rdS b s=(b.1,insT b.2.1 (plc b.2.1 (triW (cutW s)).s) (triW (cutW s)),b.2.2)):=fun h=>by
    have hn:wat (cutW s) 0≠kindS:=by rw [h];decide
    exact ⟨by unfold lineC;rw [if_neg hn,if_pos h],by unfold lineB;rw [if_neg hn,if_pos h]⟩
  have HL3:Hid (wat (cutW s) 0=setS→lineC rdS b s=setC b (rdS s)∧lineB rdS b s=(takeT b.1 b.2.1 b.2.2 b.1,takeT b.1 b.2.1 b.2.2 b.2.1,takeE b.1 b.2.1 b.2.2 (rdS s).1)):=fun h=>by
    have hn:wat (cutW s) 0≠kindS:=by rw [h];decide
    have hm:wat (cutW s) 0≠pointS:=by rw [h];decide
    exact ⟨by unfold lineC;rw [if_neg hn,if_neg hm,if_pos h],by unfold lineB;rw [if_neg hn,if_neg hm]⟩
  have HL4:Hid (wat (cutW s) 0≠kindS→wat (cutW s) 0≠pointS→wat (cutW s) 0≠setS→lineC rdS b s=2):=fun h1 h2 h3=>by unfold lineC;rw [if_neg h1,if_neg h2,if_neg h3]
  have HTK : Hid (∀ wx : World, Below w.heap.size w wx → Calls Tryz.prog 155 #[.agg #[.slice ak b.1.length ck, .slice ap b.2.1.length cp, .slice ae b.2.2.length ce], .agg #[.int .i64 num, .string s]] wx fun e w' => Below wx.heap.size wx w' ∧
      ((kindC b.1 (cutW s)≠0∧e=.returned (fail3 num (kindC b.1 (cutW s)))) ∨
       (kindC b.1 (cutW s)=0∧∃ u,e=.returned (.tuple #[.agg #[u,.slice ap b.2.1.length cp,.slice ae b.2.2.length ce],.nilIface])∧w'.ownsRow wx.heap.size 69 3 u (b.1.length+1) (triRows (insT b.1 (plc b.1 (triW (cutW s)).s) (triW (cutW s))))))):=fun wx hx=>takeKind_any num s _ ap ae _ cp _ ce b.1 wx ((b8 HN.out.k).keep hx) hs (by have:=HG.out.klen;omega)
  have HTP : Hid (∀ wx : World, Below w.heap.size w wx → Calls Tryz.prog 156 #[.agg #[.slice ak b.1.length ck, .slice ap b.2.1.length cp, .slice ae b.2.2.length ce], .agg #[.int .i64 num, .string s]] wx fun e w' => Below wx.heap.size wx w' ∧
      ((pointC b.2.1 (cutW s)≠0∧e=.returned (fail3 num (pointC b.2.1 (cutW s)))) ∨
       (pointC b.2.1 (cutW s)=0∧∃ u,e=.returned (.tuple #[.agg #[.slice ak b.1.length ck,u,.slice ae b.2.2.length ce],.nilIface])∧w'.ownsRow wx.heap.size 72 3 u (b.2.1.length+1) (triRows (insT b.2.1 (plc b.2.1 (triW (cutW s)).s) (triW (cutW s))))))):=fun wx hx=>takePoint_any num s _ ak ae _ ck _ ce b.2.1 wx ((b8 HN.out.p).keep hx) hs (by have:=HG.out.plen;omega)
  have HTC : Hid (∀ wx : World, Below w.heap.size w wx → Calls Tryz.prog 157 #[.agg #[.slice ak b.1.length ck, .slice ap b.2.1.length cp, .slice ae b.2.2.length ce], .agg #[.int .i64 num, .string s]] wx fun e w' => Below wx.heap.size wx w' ∧
      ((setC b (rdS s)≠0∧e=.returned (fail3 num (setC b (rdS s)))) ∨
       (setC b (rdS s)=0∧∃ x y z,e=.returned (.tuple #[.agg #[x,y,z],.nilIface])∧BookNew wx.heap.size w' x y z (takeT b.1 b.2.1 b.2.2 b.1) (takeT b.1 b.2.1 b.2.2 b.2.1) (takeE b.1 b.2.1 b.2.2 (rdS s).1)))):=fun wx hx=>takeChange_any num s _ _ _ b wx (HN.out.at.keep hx) HG.out.sm hs (HSA.out.keep hx) (HMA.out.keep hx)
  generalize wat (cutW s) 0=wd at *;generalize lineC rdS b s=lc at *;generalize lineB rdS b s=lb at *
  go_enter Tryz.func65,Tryz.ntmps65
  go_wp2_with fail
  have B0:Below w.heap.size w (((w.alloc (.cells #[.slice ak b.1.length ck,.slice ap b.2.1.length cp,.slice ae b.2.2.length ce] 30)).alloc (.cells #[.int .i64 num,.string s] 89)).alloc (.cells #[.slice none 0 0,.slice none 0 0,.slice none 0 0] 30)):=((aO).alloc (by simp) _).alloc (by simp;omega) _
  refine (HCUT.out _ (HMA.out.keep B0)).mono ?_;rintro e w1 ⟨x1,y1,rfl,hb1⟩;have H1:Hid (TB w (.slice ak b.1.length ck) (.slice ap b.2.1.length cp) (.slice ae b.2.2.length ce) num s w1):=TB.start hb1;clear hb1 B0;go_wp2_with fail;refine (lineKinds_any _).mono ?_;rintro e w2 ⟨g,rfl,hg,hb2⟩;have H2:Hid (TB w (.slice ak b.1.length ck) (.slice ap b.2.1.length cp) (.slice ae b.2.2.length ce) num s w2):=H1.out.keep hb2;obtain ⟨v,hlk,hv1,hv2,hv3⟩:=tab_look hg wd HZ.out;clear hb2 hg H1;obtain ⟨⟨d0,d1,d2⟩,⟨f0,f1⟩,z1,z2,z3⟩:=H2.out.cells
  by_cases e1:wd=kindS
  · have hvk:=hv1 e1
    subst hvk
    rw [e1,show (decide (kindS=kindS)||decide (kindS=pointS)||decide (kindS=setS))=true from rfl] at hlk
    obtain ⟨HE1,HE2⟩:=HL1.out e1;subst e1;clear hv1 hv2 hv3 HL1 HL2 HL3 HL4 HTP HTC;unfold fK at hlk;go_wp2_with fail;refine (HTK.out _ H2.out.b).mono ?_;rintro e w3 ⟨hb3,⟨hc,rfl⟩ | ⟨hc,u,rfl,hu⟩⟩
    · have H3:Hid (TB w (.slice ak b.1.length ck) (.slice ap b.2.1.length cp) (.slice ae b.2.2.length ce) num s w3):=H2.out.keep hb3
      unfold fail3
      have HC:Hid (lc≠0∧lc=kindC b.1 (cutW s)):=⟨by rw [HE1];exact hc,HE1⟩
      clear hc HE1 HE2;have g2:=H3.out.c3
      go_wp2_with (refine wpList_store_row rfl 30 _ _ rfl (w.heap.size+2) #[.slice none 0 0,.slice none 0 0,.slice none 0 0] rfl rfl 30 _ g2 (by kernel_rfl) rfl (by simp [Value.oneCell']) ?_)
      exact bodyPost_ret (v:=fail3 num (kindC b.1 (cutW s))) (by simp [results,Tryz.results65,go_sem,cell_setRow_same _ _ _ _ _ _ _ g2,fail3]) rfl ⟨below_setRow H3.out.b (by omega) _,.inl ⟨HC.out.1,by rw [HC.out.2]⟩⟩
    · have H3:Hid (TB w (.slice ak b.1.length ck) (.slice ap b.2.1.length cp) (.slice ae b.2.2.length ce) num s w3):=H2.out.keep hb3
      have HS:Hid (lo≤w2.heap.size):=by have:=H2.out.b.size;exact Nat.le_trans hlo this
      have HNB:Hid (BookNew lo w3 u (.slice ap b.2.1.length cp) (.slice ae b.2.2.length ce) lb.1 lb.2.1 lb.2.2):=by
        rw [HE2];exact (HN.out.keep H2.out.b).kinds HS.out hb3 hu (ins_len _ _ _).symm
      obtain ⟨ua,uc,rfl⟩:=own_slice hu;have HC:Hid (lc=0):=HE1.trans hc;clear hc HE1 HE2 hb3;have g2:=H3.out.c3
      go_wp2_with (refine wpList_store_row rfl 30 _ _ rfl (w.heap.size+2) #[.slice ua (b.1.length+1) uc,.slice ap b.2.1.length cp,.slice ae b.2.2.length ce] rfl rfl 30 _ g2 (by kernel_rfl) rfl (by simp [Value.oneCell']) ?_)
      exact bodyPost_ret (v:=.tuple #[.agg #[.slice ua (b.1.length+1) uc,.slice ap b.2.1.length cp,.slice ae b.2.2.length ce],.nilIface]) (by simp [results,Tryz.results65,go_sem,cell_setRow_same _ _ _ _ _ _ _ g2,fail3]) rfl ⟨below_setRow H3.out.b (by omega) _,.inr ⟨HC.out,_,_,_,rfl,HNB.out.box g2 (aD _ (w.heap.size+2) _)⟩⟩
  · by_cases e2:wd=pointS
    · have hvk:=hv2 e2
      subst hvk
      rw [e2,show (decide (pointS=kindS)||decide (pointS=pointS)||decide (pointS=setS))=true from rfl] at hlk
      obtain ⟨HE1,HE2⟩:=HL2.out e2;subst e2;clear hv1 hv2 hv3 HL1 HL2 HL3 HL4 HTK HTC;unfold fP at hlk;go_wp2_with fail;refine (HTP.out _ H2.out.b).mono ?_;rintro e w3 ⟨hb3,⟨hc,rfl⟩ | ⟨hc,u,rfl,hu⟩⟩
      · have H3:Hid (TB w (.slice ak b.1.length ck) (.slice ap b.2.1.length cp) (.slice ae b.2.2.length ce) num s w3):=H2.out.keep hb3
        unfold fail3
        have HC:Hid (lc≠0∧lc=pointC b.2.1 (cutW s)):=⟨by rw [HE1];exact hc,HE1⟩
        clear hc HE1 HE2;have g2:=H3.out.c3
        go_wp2_with (refine wpList_store_row rfl 30 _ _ rfl (w.heap.size+2) #[.slice none 0 0,.slice none 0 0,.slice none 0 0] rfl rfl 30 _ g2 (by kernel_rfl) rfl (by simp [Value.oneCell']) ?_)
        exact bodyPost_ret (v:=fail3 num (pointC b.2.1 (cutW s))) (by simp [results,Tryz.results65,go_sem,cell_setRow_same _ _ _ _ _ _ _ g2,fail3]) rfl ⟨below_setRow H3.out.b (by omega) _,.inl ⟨HC.out.1,by rw [HC.out.2]⟩⟩
      · have H3:Hid (TB w (.slice ak b.1.length ck) (.slice ap b.2.1.length cp) (.slice ae b.2.2.length ce) num s w3):=H2.out.keep hb3
        have HS:Hid (lo≤w2.heap.size):=by have:=H2.out.b.size;exact Nat.le_trans hlo this
        have HNB:Hid (BookNew lo w3 (.slice ak b.1.length ck) u (.slice ae b.2.2.length ce) lb.1 lb.2.1 lb.2.2):=by
          rw [HE2];exact (HN.out.keep H2.out.b).points HS.out hb3 hu (ins_len _ _ _).symm
        obtain ⟨ua,uc,rfl⟩:=own_slice hu;have HC:Hid (lc=0):=HE1.trans hc;clear hc HE1 HE2 hb3;have g2:=H3.out.c3
        go_wp2_with (refine wpList_store_row rfl 30 _ _ rfl (w.heap.size+2) #[.slice ak b.1.length ck,.slice ua (b.2.1.length+1) uc,.slice ae b.2.2.length ce] rfl rfl 30 _ g2 (by kernel_rfl) rfl (by simp [Value.oneCell']) ?_)
        exact bodyPost_ret (v:=.tuple #[.agg #[.slice ak b.1.length ck,.slice ua (b.2.1.length+1) uc,.slice ae b.2.2.length ce],.nilIface]) (by simp [results,Tryz.results65,go_sem,cell_setRow_same _ _ _ _ _ _ _ g2,fail3]) rfl ⟨below_setRow H3.out.b (by omega) _,.inr ⟨HC.out,_,_,_,rfl,HNB.out.box g2 (aD _ (w.heap.size+2) _)⟩⟩
    · by_cases e3:wd=setS
      · have hvk:=hv3 e3
        subst hvk
        rw [e3,show (decide (setS=kindS)||decide (setS=pointS)||decide (setS=setS))=true from rfl] at hlk
        obtain ⟨HE1,HE2⟩:=HL3.out e3;subst e3;clear hv1 hv2 hv3 HL1 HL2 HL3 HL4 HTP HTK;unfold fS at hlk;go_wp2_with fail;refine (HTC.out _ H2.out.b).mono ?_;rintro e w3 ⟨hb3,⟨hc,rfl⟩ | ⟨hc,x,y,z,rfl,hn⟩⟩
        · have H3:Hid (TB w (.slice ak b.1.length ck) (.slice ap b.2.1.length cp) (.slice ae b.2.2.length ce) num s w3):=H2.out.keep hb3
          unfold fail3
          have HC:Hid (lc≠0∧lc=setC b (rdS s)):=⟨by rw [HE1];exact hc,HE1⟩
          clear hc HE1 HE2;have g2:=H3.out.c3
          go_wp2_with (refine wpList_store_row rfl 30 _ _ rfl (w.heap.size+2) #[.slice none 0 0,.slice none 0 0,.slice none 0 0] rfl rfl 30 _ g2 (by kernel_rfl) rfl (by simp [Value.oneCell']) ?_)
          exact bodyPost_ret (v:=fail3 num (setC b (rdS s))) (by simp [results,Tryz.results65,go_sem,cell_setRow_same _ _ _ _ _ _ _ g2,fail3]) rfl ⟨below_setRow H3.out.b (by omega) _,.inl ⟨HC.out.1,by rw [HC.out.2]⟩⟩
        · have H3:Hid (TB w (.slice ak b.1.length ck) (.slice ap b.2.1.length cp) (.slice ae b.2.2.length ce) num s w3):=H2.out.keep hb3
          have HS:Hid (lo≤w2.heap.size):=by have:=H2.out.b.size;exact Nat.le_trans hlo this
          have HNB:Hid (BookNew lo w3 x y z lb.1 lb.2.1 lb.2.2):=by
            rw [HE2];exact hn.mono HS.out
          obtain ⟨a1,c1,a2,c2,a3,c3,rfl,rfl,rfl⟩:=hn.slices;have HC:Hid (lc=0):=HE1.trans hc;clear hc HE1 HE2 hb3;have g2:=H3.out.c3
          go_wp2_with (refine wpList_store_row rfl 30 _ _ rfl (w.heap.size+2) #[.slice a1 (takeT b.1 b.2.1 b.2.2 b.1).length c1,.slice a2 (takeT b.1 b.2.1 b.2.2 b.2.1).length c2,.slice a3 (takeE b.1 b.2.1 b.2.2 (rdS s).1).length c3] rfl rfl 30 _ g2 (by kernel_rfl) rfl (by simp [Value.oneCell']) ?_)
          exact bodyPost_ret (v:=.tuple #[.agg #[.slice a1 (takeT b.1 b.2.1 b.2.2 b.1).length c1,.slice a2 (takeT b.1 b.2.1 b.2.2 b.2.1).length c2,.slice a3 (takeE b.1 b.2.1 b.2.2 (rdS s).1).length c3],.nilIface]) (by simp [results,Tryz.results65,go_sem,cell_setRow_same _ _ _ _ _ _ _ g2,fail3]) rfl ⟨below_setRow H3.out.b (by omega) _,.inr ⟨HC.out,_,_,_,rfl,HNB.out.box g2 (aD _ (w.heap.size+2) _)⟩⟩
      · have HC:Hid (lc=2):=HL4.out e1 e2 e3
        rw [decide_eq_false e1,decide_eq_false e2,decide_eq_false e3] at hlk
        simp only [Bool.or_false] at hlk
        clear hv1 hv2 hv3 HL1 HL2 HL3 HL4 HTP HTK HTC e1 e2 e3;go_wp2_with fail;refine (bJ num 2 s _).mono ?_;rintro e w3 ⟨rfl,hb3⟩;have H3:Hid (TB w (.slice ak b.1.length ck) (.slice ap b.2.1.length cp) (.slice ae b.2.2.length ce) num s w3):=H2.out.keep hb3;have g2:=H3.out.c3
        go_wp2_with (refine wpList_store_row rfl 30 _ _ rfl (w.heap.size+2) #[.slice none 0 0,.slice none 0 0,.slice none 0 0] rfl rfl 30 _ g2 (by kernel_rfl) rfl (by simp [Value.oneCell']) ?_)
        exact bodyPost_ret (v:=fail3 num 2) (by simp [results,Tryz.results65,go_sem,cell_setRow_same _ _ _ _ _ _ _ g2,fail3]) rfl ⟨below_setRow H3.out.b (by omega) _,.inl ⟨by rw [HC.out];decide,by rw [HC.out]⟩⟩
open Go.RowKit Sd
attribute [local go_sem] Later.cell Later.frozen
structure TS (w:World) (B:Array Value) (t:Tri) (T:TypeId) (w1:World):Prop where
 c1:w1.heap[w.heap.size]?=some (.cells B 30 (0,0))
 c2:w1.heap[w.heap.size+1]?=some (.cells #[.slice none 0 0,.slice none 0 0,.slice none 0 0] 30 (0,0))
 c3:w1.heap[w.heap.size+2]?=some (.cells #[.string t.s,.int .i64 t.x,.int .i64 t.y] T (0,0))
 b:Below w.heap.size w w1
theorem TS.keep {w w1 w2:World} {B:Array Value} {t:Tri} {T:TypeId} (h:TS w B t T w1) (hb:Below w1.heap.size w1 w2):TS w B t T w2 :=
 ⟨(hb.block _ (Array.getElem?_eq_some_iff.1 h.c1).1).trans h.c1,(hb.block _ (Array.getElem?_eq_some_iff.1 h.c2).1).trans h.c2,(hb.block _ (Array.getElem?_eq_some_iff.1 h.c3).1).trans h.c3,aa h.b hb⟩
theorem TS.start {w W:World} {B:Array Value} {t:Tri} {T:TypeId} (z:Array Value) (h1:W.heap[w.heap.size]?=some (.cells B 30 (0,0))) (h2:W.heap[w.heap.size+1]?=some (.cells #[.slice none 0 0,.slice none 0 0,.slice none 0 0] 30 (0,0))) (hs:W.heap.size=w.heap.size+2) (hb:Below w.heap.size w W):TS w B t T ((W.alloc (.cells z T)).setRow (w.heap.size+2) #[.string t.s,.int .i64 t.x,.int .i64 t.y]):=by
 have ha:Below W.heap.size W (W.alloc (.cells z T)):=(aO)
 have h3:(W.alloc (.cells z T)).heap[w.heap.size+2]?=some (.cells z T (0,0)):=by rw [← hs];exact aj W _
 refine ⟨?_,?_,setRow_heap _ _ _ _ _ _ h3,below_setRow (aa hb ha) (by omega) _⟩
 ·rw [setRow_other _ _ _ _ (by omega),ha.block _ (by omega)];exact h1
 ·rw [setRow_other _ _ _ _ (by omega),ha.block _ (by omega)];exact h2
theorem TS.cells {w w1:World} {x y z:Value} {t:Tri} {T:TypeId} (h:TS w #[x,y,z] t T w1):(w1.cell? ⟨w.heap.size,0,none⟩=some x∧w1.cell? ⟨w.heap.size,1,none⟩=some y∧w1.cell? ⟨w.heap.size,2,none⟩=some z)∧(w1.cell? ⟨w.heap.size+2,0,none⟩=some (.string t.s)∧w1.cell? ⟨w.heap.size+2,1,none⟩=some (.int .i64 t.x)∧w1.cell? ⟨w.heap.size+2,2,none⟩=some (.int .i64 t.y))∧w.heap.size<w1.heap.size∧w.heap.size+1<w1.heap.size∧w.heap.size+2<w1.heap.size:=by
 obtain ⟨c1,c2,c3,-⟩:=h
 exact ⟨⟨by simp [World.cell?,c1],by simp [World.cell?,c1],by simp [World.cell?,c1]⟩,⟨by simp [World.cell?,c3],by simp [World.cell?,c3],by simp [World.cell?,c3]⟩,(Array.getElem?_eq_some_iff.1 c1).1,(Array.getElem?_eq_some_iff.1 c2).1,(Array.getElem?_eq_some_iff.1 c3).1⟩
theorem TS.set0 {w w1:World} {x y z:Value} {t:Tri} {T:TypeId} (h:TS w #[x,y,z] t T w1) (v:Value):TS w #[v,y,z] t T (w1.setCell ⟨w.heap.size,0,none⟩ v):=by
 refine ⟨?_,?_,?_,h.b.setCell (p:=⟨w.heap.size,0,none⟩) aH v⟩
 ·rw [setCell_eq_setRow _ _ _ _ _ _ _ h.c1];exact setRow_heap _ _ _ _ _ _ h.c1
 ·rw [Below.heap_setCell w1 ⟨w.heap.size,0,none⟩ v (w.heap.size+1) (by show w.heap.size+1≠w.heap.size;omega)];exact h.c2
 ·rw [Below.heap_setCell w1 ⟨w.heap.size,0,none⟩ v (w.heap.size+2) (by show w.heap.size+2≠w.heap.size;omega)];exact h.c3
theorem TS.set1 {w w1:World} {x y z:Value} {t:Tri} {T:TypeId} (h:TS w #[x,y,z] t T w1) (v:Value):TS w #[x,v,z] t T (w1.setCell ⟨w.heap.size,1,none⟩ v):=by
 refine ⟨?_,?_,?_,h.b.setCell (p:=⟨w.heap.size,1,none⟩) aH v⟩
 ·rw [setCell_eq_setRow _ _ _ _ _ _ _ h.c1];exact setRow_heap _ _ _ _ _ _ h.c1
 ·rw [Below.heap_setCell w1 ⟨w.heap.size,1,none⟩ v (w.heap.size+1) (by show w.heap.size+1≠w.heap.size;omega)];exact h.c2
 ·rw [Below.heap_setCell w1 ⟨w.heap.size,1,none⟩ v (w.heap.size+2) (by show w.heap.size+2≠w.heap.size;omega)];exact h.c3
end Go.Proofs.YtcmgddnckohdaaaGreatDoor.Tx
namespace Go.Proofs.YtcmgddnckohdaaaGreatDoor.Tx
open Go.RowKit Sd
structure TD (w:World) (B:Array Value) (w1:World):Prop where
 c1:w1.heap[w.heap.size]?=some (.cells B 30 (0,0))
 c2:w1.heap[w.heap.size+1]?=some (.cells #[.slice none 0 0,.slice none 0 0,.slice none 0 0] 30 (0,0))
 b:Below w.heap.size w w1
theorem TD.keep {w w1 w2:World} {B:Array Value} (h:TD w B w1) (hb:Below w1.heap.size w1 w2):TD w B w2 :=
 ⟨(hb.block _ (Array.getElem?_eq_some_iff.1 h.c1).1).trans h.c1,(hb.block _ (Array.getElem?_eq_some_iff.1 h.c2).1).trans h.c2,aa h.b hb⟩
theorem TD.start {w w1:World} {B:Array Value} (hb:Below ((w.alloc (.cells B 30)).alloc (.cells #[.slice none 0 0,.slice none 0 0,.slice none 0 0] 30)).heap.size ((w.alloc (.cells B 30)).alloc (.cells #[.slice none 0 0,.slice none 0 0,.slice none 0 0] 30)) w1):TD w B w1:=by
 refine ⟨(hb.block _ (by simp;omega)).trans (heap_old w _ _),(hb.block _ (by simp)).trans ?_,aa ((aO).alloc (by simp) _) hb⟩
 have h:=aj (w.alloc (.cells B 30)) (.cells #[.slice none 0 0,.slice none 0 0,.slice none 0 0] 30);rw [World.size_alloc] at h;exact h
theorem TD.cells {w w1:World} {x y z:Value} (h:TD w #[x,y,z] w1):(w1.cell? ⟨w.heap.size,0,none⟩=some x∧w1.cell? ⟨w.heap.size,1,none⟩=some y∧w1.cell? ⟨w.heap.size,2,none⟩=some z)∧w.heap.size<w1.heap.size∧w.heap.size+1<w1.heap.size:=by
 obtain ⟨c1,c2,-⟩:=h
 exact ⟨⟨by simp [World.cell?,c1],by simp [World.cell?,c1],by simp [World.cell?,c1]⟩,(Array.getElem?_eq_some_iff.1 c1).1,(Array.getElem?_eq_some_iff.1 c2).1⟩
end Go.Proofs.YtcmgddnckohdaaaGreatDoor.Tx
