import Derived.Test.YtbjmgglpiakgdaaGreatDoorDc1
import Derived.Test.YtbjmgglpiakgdaaGreatDoorPa5
namespace Go.Proofs.YtbjmgglpiakgdaaGreatDoor.Dr
open Go.RowKit Go.Proofs.YtbjmgglpiakgdaaGreatDoor Go.Proofs.YtbjmgglpiakgdaaGreatDoor.Sd Go.Proofs.YtbjmgglpiakgdaaGreatDoor.Pa
attribute [local go_sem] Later.cell Later.frozen
set_option linter.unusedSimpArgs false
set_option linter.unusedVariables false
structure OX (w z:World) (B:Nat) (kv pv uv:Value) (kk pp:List Tri) (ws:List ByteArray):Prop where
 below:Below w.heap.size w z
 box:z.heap[B]?=some (.cells #[kv,pv] 26 (0,0))
 tk:TrisAt z kv kk
 tp:TrisAt z pv pp
 ts:StrsAt z uv ws
theorem OX.call {w z z':World} {B:Nat} {kv pv uv:Value} {kk pp:List Tri} {ws:List ByteArray} (h:OX w z B kv pv uv kk pp ws) (hb:Below z.heap.size z z'):OX w z' B kv pv uv kk pp ws :=
 ⟨below_step h.below hb,(hb.block _ (lt_blk h.box)).trans h.box,h.tk.keep hb,h.tp.keep hb,h.ts.keep hb⟩
theorem rt_strs {w:World} {B:Nat} {rt:Value} {e:Ent} {f:Fld} (h4:lastV e.fs 4=some f) (h:RtIs w B rt (lastV e.fs 4)):StrsAt w rt (rtW e):=by
 have e1:rtW e=cutW f.v:=by unfold rtW; rw [h4]
 rw [h4] at h
 rw [e1]
 exact strs_own h (cutW_pos _)
theorem path_stand {ks ps:List Tri} {es:List Ent} {nm:ByteArray} (h:standR ks ps es nm=none):(pathR ks ps es nm).c ≠ 0:=by
 unfold pathR
 rw [h]
 cases bookB ks ps es <;> simp
theorem str_at {w:World} {g o n c:Nat} {l:List ByteArray} (h:StrsAt w (.slice (some ⟨g,o,none⟩) n c) l) {k:Nat} (hk:k < l.length):w.cell? ⟨g,o+k,none⟩=some (.string (wat l k)):=by
 obtain ⟨g',o',c',e,-,-,h4⟩:=h
 injection e with e1 e2 e3
 injection e1 with e1
 injection e1 with e1 e5
 subst e1
 subst e5
 exact h4 k _ (wat_get hk)
theorem cel_at {w:World} {a:Option Addr} {n c:Nat} {l:List Cel} (h:CAt w (.slice a n c) l) {k:Nat} (hk:k < l.length):∃ g,a=some ⟨g,0,none⟩∧w.cell? ⟨g,k * 2,none⟩=some (.int .i64 (tat l k).x)∧w.cell? ⟨g,k * 2+1,none⟩=some (.int .i64 (tat l k).y):=by
 obtain ⟨a',c',e,-,-,h4⟩:=h
 injection e with e1 e2 e3
 subst e1
 exact h4 k _ (by simp [tat,hk])
theorem cells_le (ks ps:List Tri) (ws:List ByteArray):(cellsR ks ps ws).length≤40:=by
 unfold cellsR
 cases h:cellsOkB ks ps ws with
 | false=>simp
 | true =>
  unfold cellsOkB at h
  rw [Bool.and_eq_true] at h
  exact of_decide_eq_true h.2
set_option maxRecDepth 100000 in
set_option maxHeartbeats 25600000 in
theorem lawOver2_walk (v u:Value) (n m:Nat) (w:World) (h:BysArg w v n) (h':BysArg w u m) (hN:NeedIn w) :
  Calls Tryz.prog 5 #[v,u] w fun e w'=>e=.returned (.bool true)∧Below w.heap.size w w':=by
 obtain ⟨i0,hi0,hz0,hz1,hz2⟩:=info_parts infoStr
 have HA:=toHid h
 have HA2:=toHid h'
 have HN:=toHid hN
 obtain ⟨a,cap,rfl,-⟩:=h
 obtain ⟨a',cap',rfl,-⟩:=h'
 clear hN
 by_cases hl1:(1048576:Int) < (n:Int)
 ·go_enter Tryz.func5,Tryz.ntmps5
  go_wp2_with fail
  exact bodyPost_ret (v:=.bool true) (by simp [results,Tryz.results5,go_sem]) rfl ⟨rfl,Below.refl _ _⟩
 by_cases hl2:(1048576:Int) < (m:Int)
 ·go_enter Tryz.func5,Tryz.ntmps5
  go_wp2_with fail
  exact bodyPost_ret (v:=.bool true) (by simp [results,Tryz.results5,go_sem]) rfl ⟨rfl,Below.refl _ _⟩
 go_enter Tryz.func5,Tryz.ntmps5
 go_wp2_with fail
 refine (drawOver_any _ n _ HA.out).mono ?_
 rintro e w1 ⟨vx,vy,vz,nm,pt,ks,ps,es,rfl,hat,hsm,hnm,hpt,hb1⟩
 obtain ⟨a1,c1,a2,c2,a3,c3,rfl,rfl,rfl⟩:=BookAt.slices hat
 have SM:=toHid hsm
 have X2:Hid (Bxs w (w1.alloc (.cells #[.slice a1 ks.length c1,.slice a2 ps.length c2,.slice a3 es.length c3] 29)) [(w1.heap.size,#[.slice a1 ks.length c1,.slice a2 ps.length c2,.slice a3 es.length c3],29)]∧BookAt (w1.alloc (.cells #[.slice a1 ks.length c1,.slice a2 ps.length c2,.slice a3 es.length c3] 29)) (.slice a1 ks.length c1) (.slice a2 ps.length c2) (.slice a3 es.length c3) ks ps es):=by
  have hb:Below w1.heap.size w1 (w1.alloc (.cells #[.slice a1 ks.length c1,.slice a2 ps.length c2,.slice a3 es.length c3] 29)):=(Below.refl _ _).alloc (Nat.le_refl _) _
  refine ⟨⟨below_step hb1 hb,fun p hp=>?_⟩,hat.keep hb⟩
  simp only [List.mem_cons,List.not_mem_nil,or_false] at hp
  subst hp
  exact heap_newD w1 _
 have HP:Hid (∀ (wx:World) (q:ByteArray),BookAt wx (.slice a1 ks.length c1) (.slice a2 ps.length c2) (.slice a3 es.length c3) ks ps es→NeedIn wx→Calls Tryz.prog 23 #[.agg #[.slice a1 ks.length c1,.slice a2 ps.length c2,.slice a3 es.length c3],.string nm,.string q] wx fun e w'=>e=.returned (.tuple #[.int .i64 (overR ks ps es nm q).1,.int .i64 (overR ks ps es nm q).2.1,.bool (overR ks ps es nm q).2.2])∧Below wx.heap.size wx w'):=fun wx q hx hn=>planOver_any _ _ _ ks ps es nm q wx hx SM.out.n SM.out.s hn
 have HS:Hid (∀ wx:World,BookAt wx (.slice a1 ks.length c1) (.slice a2 ps.length c2) (.slice a3 es.length c3) ks ps es→Calls Tryz.prog 24 #[.agg #[.slice a1 ks.length c1,.slice a2 ps.length c2,.slice a3 es.length c3],.string nm,.string pt] wx fun e w'=>e=.returned (.tuple #[.int .i64 (overR ks ps es nm pt).1,.int .i64 (overR ks ps es nm pt).2.1,.bool (overR ks ps es nm pt).2.2])∧Below wx.heap.size wx w'):=fun wx hx=>specOver_any _ _ _ ks ps es nm pt wx hx SM.out.n SM.out.s
 have HST:Hid (∀ wx:World,BookAt wx (.slice a1 ks.length c1) (.slice a2 ps.length c2) (.slice a3 es.length c3) ks ps es→Calls Tryz.prog 25 #[.agg #[.slice a1 ks.length c1,.slice a2 ps.length c2,.slice a3 es.length c3],.string nm] wx fun e w'=>∃ rt,e=.returned (.tuple #[.agg (standC ks (standR ks ps es nm) rt),.bool (standR ks ps es nm).isSome])∧(∀ x,standR ks ps es nm=some x→RtIs w' wx.heap.size rt (lastV x.fs 4))∧Below wx.heap.size wx w'):=fun wx hx=>planStandsS_any _ _ _ ks ps es nm wx hx SM.out.n SM.out.s
 have HPA:Hid (∀ wx:World,BookAt wx (.slice a1 ks.length c1) (.slice a2 ps.length c2) (.slice a3 es.length c3) ks ps es→Calls Tryz.prog 19 #[.agg #[.slice a1 ks.length c1,.slice a2 ps.length c2,.slice a3 es.length c3],.string nm] wx fun e w'=>∃ v,e=.returned (.tuple #[.agg #[v,.int .i64 (pathR ks ps es nm).fr,.int .i64 (pathR ks ps es nm).b],.int .i64 (pathR ks ps es nm).c])∧StNew w' wx.heap.size v (pathR ks ps es nm).st∧Below wx.heap.size wx w'):=fun wx hx=>specPathOf_any _ _ _ ks ps es nm wx hx SM.out.n SM.out.s
 have HRT:Hid (∀ e,(pathR ks ps es nm).c=0→standR ks ps es nm=some e→∀ i,i < (rtW e).length→(overR ks ps es nm (wat (rtW e) i)).2.2=true):=fun e hc hs i hi=>over_route hc hs i hi
 have hle:=over_le ks ps es nm pt
 clear hat hsm hb1
 obtain ⟨O,hO⟩:∃ O,overR ks ps es nm pt=O:=⟨_,rfl⟩
 rw [hO] at HS hle
 obtain ⟨o1,o2,o3⟩:=O
 dsimp only at hle
 have HPP:Hid (∀ wx:World,BookAt wx (.slice a1 ks.length c1) (.slice a2 ps.length c2) (.slice a3 es.length c3) ks ps es→NeedIn wx→Calls Tryz.prog 23 #[.agg #[.slice a1 ks.length c1,.slice a2 ps.length c2,.slice a3 es.length c3],.string nm,.string pt] wx fun e w'=>e=.returned (.tuple #[.int .i64 o1,.int .i64 o2,.bool o3])∧Below wx.heap.size wx w'):=fun wx hx hn=>by
  have h1:=HP.out wx pt hx hn
  rw [hO] at h1
  exact h1
 clear hO
 go_wp2_with fail
 generalize (w1.alloc (.cells #[.slice a1 ks.length c1,.slice a2 ps.length c2,.slice a3 es.length c3] 29))=w2 at *
 generalize w1.heap.size=B at *
 refine (HPP.out _ X2.out.2 (HN.out.keep X2.out.1.below)).mono ?_
 rintro e w3 ⟨rfl,hb3⟩
 have X3:Hid (Bxs w w3 [(B,#[.slice a1 ks.length c1,.slice a2 ps.length c2,.slice a3 es.length c3],29)]∧BookAt w3 (.slice a1 ks.length c1) (.slice a2 ps.length c2) (.slice a3 es.length c3) ks ps es):=⟨X2.out.1.call hb3,X2.out.2.keep hb3⟩
 clear hb3 X2 HPP
 obtain ⟨r0,r1,r2⟩:w3.cell? ⟨B,0,none⟩=some (.slice a1 ks.length c1)∧w3.cell? ⟨B,1,none⟩=some (.slice a2 ps.length c2)∧w3.cell? ⟨B,2,none⟩=some (.slice a3 es.length c3):=⟨X3.out.1.cell 0 rfl 0,X3.out.1.cell 0 rfl 1,X3.out.1.cell 0 rfl 2⟩
 go_wp2_with fail
 clear r0 r1 r2
 refine (HS.out _ X3.out.2).mono ?_
 rintro e w4 ⟨rfl,hb4⟩
 have X4:Hid (Bxs w w4 [(B,#[.slice a1 ks.length c1,.slice a2 ps.length c2,.slice a3 es.length c3],29)]∧BookAt w4 (.slice a1 ks.length c1) (.slice a2 ps.length c2) (.slice a3 es.length c3) ks ps es):=⟨X3.out.1.call hb4,X3.out.2.keep hb4⟩
 clear hb4 X3 HS
 obtain ⟨r0,r1,r2⟩:w4.cell? ⟨B,0,none⟩=some (.slice a1 ks.length c1)∧w4.cell? ⟨B,1,none⟩=some (.slice a2 ps.length c2)∧w4.cell? ⟨B,2,none⟩=some (.slice a3 es.length c3):=⟨X4.out.1.cell 0 rfl 0,X4.out.1.cell 0 rfl 1,X4.out.1.cell 0 rfl 2⟩
 have hob:(o3 != o3)=false:=by cases o3 <;> rfl
 have hln:¬ o2 < o1:=by omega
 have hln2:decide (o2 < o1)=false:=by simp; omega
 cases hs:standR ks ps es nm with
 | none =>
  have hcn:=path_stand hs
  have HSN:Hid (∀ wx:World,BookAt wx (.slice a1 ks.length c1) (.slice a2 ps.length c2) (.slice a3 es.length c3) ks ps es→Calls Tryz.prog 25 #[.agg #[.slice a1 ks.length c1,.slice a2 ps.length c2,.slice a3 es.length c3],.string nm] wx fun e w'=>e=.returned (.tuple #[.agg #[.string ⟨#[]⟩,.string ⟨#[]⟩,.int .i64 0,.int .i64 0,.int .i64 0,.int .i64 0,.int .i64 0,.slice none 0 0],.bool false])∧Below wx.heap.size wx w'):=fun wx hx=>(HST.out wx hx).mono fun e w' ⟨rt,he,_,hb⟩=>⟨by rw [he,hs]; rfl,hb⟩
  clear HRT HST hs
  cases o3
  all_goals
   go_wp2_with fail
   clear r0 r1 r2 hob hln hln2
   refine (HSN.out _ X4.out.2).mono ?_
   rintro e w5 ⟨rfl,hb5⟩
   have X5:Hid (Bxs w w5 [(B,#[.slice a1 ks.length c1,.slice a2 ps.length c2,.slice a3 es.length c3],29)]∧BookAt w5 (.slice a1 ks.length c1) (.slice a2 ps.length c2) (.slice a3 es.length c3) ks ps es):=⟨X4.out.1.call hb5,X4.out.2.keep hb5⟩
   clear hb5 X4 HSN
   have X6:Hid (Bxs w (w5.alloc (.cells #[.string ⟨#[]⟩,.string ⟨#[]⟩,.int .i64 0,.int .i64 0,.int .i64 0,.int .i64 0,.int .i64 0,.slice none 0 0] 47)) ((w5.heap.size,#[.string ⟨#[]⟩,.string ⟨#[]⟩,.int .i64 0,.int .i64 0,.int .i64 0,.int .i64 0,.int .i64 0,.slice none 0 0],47) :: [(B,#[.slice a1 ks.length c1,.slice a2 ps.length c2,.slice a3 es.length c3],29)])∧BookAt (w5.alloc (.cells #[.string ⟨#[]⟩,.string ⟨#[]⟩,.int .i64 0,.int .i64 0,.int .i64 0,.int .i64 0,.int .i64 0,.slice none 0 0] 47)) (.slice a1 ks.length c1) (.slice a2 ps.length c2) (.slice a3 es.length c3) ks ps es):=by
    have hb:Below w5.heap.size w5 (w5.alloc (.cells #[.string ⟨#[]⟩,.string ⟨#[]⟩,.int .i64 0,.int .i64 0,.int .i64 0,.int .i64 0,.int .i64 0,.slice none 0 0] 47)):=(Below.refl _ _).alloc (Nat.le_refl _) _
    exact ⟨(X5.out.1.call hb).push (heap_newD w5 _),X5.out.2.keep hb⟩
   clear X5
   generalize (pathR ks ps es nm)=PR at *
   obtain ⟨PC,PS,PFr,PBy⟩:=PR
   dsimp only at hcn HPA
   obtain ⟨r0,r1,r2⟩:(w5.alloc (.cells #[.string ⟨#[]⟩,.string ⟨#[]⟩,.int .i64 0,.int .i64 0,.int .i64 0,.int .i64 0,.int .i64 0,.slice none 0 0] 47)).cell? ⟨B,0,none⟩=some (.slice a1 ks.length c1)∧(w5.alloc (.cells #[.string ⟨#[]⟩,.string ⟨#[]⟩,.int .i64 0,.int .i64 0,.int .i64 0,.int .i64 0,.int .i64 0,.slice none 0 0] 47)).cell? ⟨B,1,none⟩=some (.slice a2 ps.length c2)∧(w5.alloc (.cells #[.string ⟨#[]⟩,.string ⟨#[]⟩,.int .i64 0,.int .i64 0,.int .i64 0,.int .i64 0,.int .i64 0,.slice none 0 0] 47)).cell? ⟨B,2,none⟩=some (.slice a3 es.length c3):=⟨X6.out.1.cell 1 rfl 0,X6.out.1.cell 1 rfl 1,X6.out.1.cell 1 rfl 2⟩
   go_wp2_with fail
   clear r0 r1 r2
   generalize (w5.alloc (.cells #[.string ⟨#[]⟩,.string ⟨#[]⟩,.int .i64 0,.int .i64 0,.int .i64 0,.int .i64 0,.int .i64 0,.slice none 0 0] 47))=w6 at *
   generalize w5.heap.size=F at *
   refine (HPA.out _ X6.out.2).mono ?_
   rintro e w7 ⟨pv,rfl,hst7,hb7⟩
   obtain ⟨qa,qc,rfl⟩:=own_sliceD hst7
   have BL:Hid (Below w.heap.size w w7):=(X6.out.1.call hb7).below
   clear hst7 hb7 HPA X6 HP
   go_wp2_with fail
   go_loopw [18] (fun iv wr=>iv=.int .i64 0∧Hid (Below w.heap.size w wr)) (fun _ _=>0)
   case atStart=>exact ⟨rfl,below_step BL.out ((Below.refl _ _).alloc (Nat.le_refl _) _)⟩
   case round =>
    clear BL
    obtain ⟨rfl,BL⟩:=hrel
    go_wp2_with fail
    refine (drawCells_any _ m _ (HA2.out.keep BL.out)).mono ?_
    rintro e y1 ⟨kv,pv,uv,kk,pp,ws,rfl,htk,htp,hts,hok,hb⟩
    have HOK:=toHid hok
    have T1:Hid (TrisAt y1 kv kk∧TrisAt y1 pv pp∧StrsAt y1 uv ws∧Below w.heap.size w y1):=⟨htk,htp,hts,below_step BL.out hb⟩
    obtain ⟨ka,kc,rfl,-⟩:=htk
    obtain ⟨pa,pc,rfl,-⟩:=htp
    obtain ⟨ug,uo,uc,rfl,-⟩:=hts
    clear hok hb BL
    have XO:Hid (OX w (y1.alloc (.cells #[.slice ka kk.length kc,.slice pa pp.length pc] 26)) y1.heap.size (.slice ka kk.length kc) (.slice pa pp.length pc) (.slice (some ⟨ug,uo,none⟩) ws.length uc) kk pp ws):=by
     have hb:Below y1.heap.size y1 (y1.alloc (.cells #[.slice ka kk.length kc,.slice pa pp.length pc] 26)):=(Below.refl _ _).alloc (Nat.le_refl _) _
     exact ⟨below_step T1.out.2.2.2 hb,heap_newD y1 _,T1.out.1.keep hb,T1.out.2.1.keep hb,T1.out.2.2.1.keep hb⟩
    clear T1
    have HNA:Hid (Names kk∧Names pp):=⟨fun t ht=>(by have:=HOK.out.2.2.1 t ht; unfold maxLen; omega),fun t ht=>(by have:=HOK.out.2.2.2.1 t ht; unfold maxLen; omega)⟩
    have hwl:ws.length≤3000:=HOK.out.2.2.2.2.1
    go_wp2_with fail
    generalize (y1.alloc (.cells #[.slice ka kk.length kc,.slice pa pp.length pc] 26))=y2 at *
    generalize y1.heap.size=BB at *
    refine (planCells_any _ _ _ kk pp ws _ XO.out.tk XO.out.tp HNA.out.1 HNA.out.2 XO.out.ts).mono ?_
    rintro e y3 ⟨cv,rfl,hc3,hb3⟩
    have X3:=toHid (XO.out.call hb3)
    have C3:=toHid hc3.at
    have HL3:=toHid (cells_le kk pp ws)
    obtain ⟨ca,cc,rfl⟩:=own_sliceD hc3
    clear hc3 hb3 XO
    have S4:Hid (SNew (y3.alloc (.cells #[] 9)) y3.heap.size (.slice (some ⟨y3.heap.size,0,none⟩) 0 0) []):=⟨rfl,.inr ⟨y3.heap.size,0,#[],rfl,Nat.le_refl _,heap_newD y3 _,Nat.le_refl _,Nat.zero_le _,rfl,rfl⟩⟩
    have B4:Hid (Below y3.heap.size y3 (y3.alloc (.cells #[] 9))):=(Below.refl _ _).alloc (Nat.le_refl _) _
    have hw0:IntKind.i64.wrap ((ws.length:Int) - 1)=(ws.length:Int) - 1:=by rw [IntKind.wrap_i64]; omega
    go_wp2_with fail
    clear hw0
    generalize (y3.alloc (.cells #[] 9))=y4 at *
    go_loopw [26,27] (fun rv iv wr=>∃ (k j:Nat) (a:Option Addr) (c:Nat),rv=.slice a k c∧iv=.int .i64 ((j:Int) - 1)∧Hid (k+j=ws.length)∧Hid (SNew wr y3.heap.size (.slice a k c) (ws.reverse.take k)∧Below y3.heap.size y3 wr)) (fun _ iv _=>(intOf iv+1).toNat)
    case atStart=>exact ⟨0,ws.length,_,_,rfl,rfl,(show 0+ws.length=ws.length by omega),S4.out,B4.out⟩
    case round =>
     clear S4 B4
     obtain ⟨k,j,a9,c9,rfl,rfl,HKJ,HS9⟩:=hrel
     have hkj:k+j=ws.length:=HKJ.out
     clear HKJ
     by_cases hj:j=0
     ·subst hj
      obtain rfl:k=ws.length:=by omega
      have X5:=toHid (X3.out.call HS9.out.2)
      have C5:=toHid (C3.out.keep HS9.out.2)
      have R5:Hid (StrsAt wr (.slice a9 ws.length c9) ws.reverse):=by
       have h1:=HS9.out.1
       rw [List.take_of_length_le (by simp)] at h1
       exact strs_own h1 (by rw [List.length_reverse]; exact HOK.out.2.2.2.2.2.2)
      clear HS9 X3 C3 hkj
      have b0:=cell_blkD X5.out.box (i:=0) rfl
      have b1:=cell_blkD X5.out.box (i:=1) rfl
      obtain ⟨CL,hCL⟩:∃ CL,cellsR kk pp ws=CL:=⟨_,rfl⟩
      rw [hCL] at C5 HL3
      rw [hCL]
      have hcl:=HL3.out
      go_wp2_with fail
      clear b0 b1
      refine (planCells_any _ _ _ kk pp ws.reverse _ X5.out.tk X5.out.tp HNA.out.1 HNA.out.2 R5.out).mono ?_
      rintro e y6 ⟨bv,rfl,hc6,hb6⟩
      rw [cellsR_rev,hCL] at hc6
      rw [cellsOk_rev]
      have X6:=toHid (X5.out.call hb6)
      have C6:=toHid (C5.out.keep hb6)
      have D6:=toHid hc6.at
      obtain ⟨ba,bc,rfl⟩:=own_sliceD hc6
      rw [List.length_reverse] at D6
      rw [List.length_reverse]
      clear hc6 hb6 X5 C5 R5
      have b0:=cell_blkD X6.out.box (i:=0) rfl
      have b1:=cell_blkD X6.out.box (i:=1) rfl
      go_wp2_with fail
      clear b0 b1
      refine (specCells_any _ _ _ kk pp ws _ X6.out.tk X6.out.tp HNA.out.1 HNA.out.2 X6.out.ts).mono ?_
      rintro e y7 ⟨wv,rfl,hc7,hb7⟩
      rw [hCL] at hc7
      have C7:=toHid (C6.out.keep hb7)
      have D7:=toHid (D6.out.keep hb7)
      have E7:=toHid hc7.at
      have BL:Hid (Below w.heap.size w y7):=(X6.out.call hb7).below
      obtain ⟨wa,wc,rfl⟩:=own_sliceD hc7
      clear hc7 hb7 X6 C6 D6 hCL HNA HOK
      generalize cellsOkB kk pp ws=ok0 at *
      have hob:(ok0 != ok0)=false:=by cases ok0 <;> rfl
      go_wp2_with fail
      go_loopw [32] (fun iv wr=>∃ k:Nat,k≤CL.length∧iv=.int .i64 k∧Hid (Below y7.heap.size y7 wr)) (fun iv _=>CL.length - (intOf iv).toNat)
      case atStart=>exact ⟨0,Nat.zero_le _,rfl,Below.refl _ _⟩
      case round =>
       obtain ⟨k,hk,rfl,HX⟩:=hrel
       by_cases hlt:k < CL.length
       ·obtain ⟨g1,rfl,d0,d1⟩:=cel_at C7.out hlt
        obtain ⟨i2,hi2⟩:∃ i2:Nat,i2=CL.length - 1 - k:=⟨_,rfl⟩
        obtain ⟨g2,rfl,e0,e1⟩:=cel_at D7.out (show i2 < CL.reverse.length by rw [List.length_reverse]; omega)
        obtain ⟨g3,rfl,f0,f1⟩:=cel_at E7.out hlt
        rw [tat_rev (by omega),show CL.length - 1 - i2=k by omega] at e0 e1
        generalize tat CL k=ce at *
        obtain ⟨cx,cy⟩:=ce
        dsimp only at d0 d1 e0 e1 f0 f1
        have s0:=cell_keep HX.out (Nat.le_refl _) d0
        have s1:=cell_keep HX.out (Nat.le_refl _) d1
        have s2:=cell_keep HX.out (Nat.le_refl _) e0
        have s3:=cell_keep HX.out (Nat.le_refl _) e1
        have s4:=cell_keep HX.out (Nat.le_refl _) f0
        have s5:=cell_keep HX.out (Nat.le_refl _) f1
        have z1:=lt_of_cell s0
        have z2:=lt_of_cell s2
        have z3:=lt_of_cell s4
        clear d0 d1 e0 e1 f0 f1
        have hk0:(0:Int)≤(k:Int):=by omega
        have hk1:(k:Int) < (CL.length:Int):=by omega
        have hw1:IntKind.i64.wrap ((CL.length:Int) - 1)=(CL.length:Int) - 1:=by rw [IntKind.wrap_i64]; omega
        have hw2:IntKind.i64.wrap ((CL.length:Int) - 1 - (k:Int))=(i2:Int):=by rw [IntKind.wrap_i64]; omega
        have hi0:(0:Int)≤(i2:Int):=by omega
        have hi1:(i2:Int) < (CL.length:Int):=by omega
        clear hi2
        have hne:=Later.some wr
        go_wp2_with fail
        refine wp_region_later (by kernel_rfl) (by kernel_rfl) ?_
        repeat (go_big_quiet_step (fail))
        refine wpQuiet_nil ?_
        rintro _ ⟨x,rfl⟩
        have HB2:Hid (Below y7.heap.size y7 x.val):=below_step HX.out x.below
        go_wp2_with fail
        exact ⟨⟨k+1,by omega,by go_num,HB2⟩,by simp [intOf] <;> omega⟩
       ·have hke:k=CL.length:=by omega
        subst hke
        have BW:Hid (Below w.heap.size w wr):=below_step BL.out HX.out
        go_wp2_with fail
        exact bodyPost_ret (v:=.bool true) (by simp [results,Tryz.results5,go_sem]) rfl ⟨rfl,BW.out⟩
     ·obtain ⟨j',rfl⟩:∃ j',j=j'+1:=⟨j - 1,by omega⟩
      have e1:((j'+1:Nat):Int) - 1=(j':Int):=by push_cast <;> omega
      rw [e1]
      have X5:=X3.out.call HS9.out.2
      have hq:=str_at X5.ts (show j' < ws.length by omega)
      have hlk:(ws.reverse.take k).length=k:=by rw [List.length_take,List.length_reverse]; omega
      have hnx:ws.reverse.take k ++ [wat ws j']=ws.reverse.take (k+1):=by
       rw [List.take_add_one,wat_get (show k < ws.reverse.length by rw [List.length_reverse]; omega),wat_rev (by omega),show ws.length - 1 - k=j' by omega]
       rfl
      have HNX:=toHid hnx
      have OW:=toHid HS9.out.1
      have BY:=toHid HS9.out.2
      obtain ⟨l,hl⟩:∃ l,ws.reverse.take k=l:=⟨_,rfl⟩
      rw [hl] at HNX OW hlk
      clear X5 HS9 hnx hj hl
      obtain rfl:k=l.length:=hlk.symm
      clear hlk
      unfold SNew at OW
      generalize wat ws j'=sx at *
      have BC:Hid (Below wr.heap.size wr (wr.alloc (.cells #[.string sx] 9))):=(Below.refl _ _).alloc (Nat.le_refl _) _
      have HSRC:Hid ((wr.alloc (.cells #[.string sx] 9)).heap[wr.heap.size]?=some (.cells #[.string sx] 9 (0,0))):=heap_newD wr _
      have hown0:=own_keepD OW.out BC.out
      have hsz:=BY.out.size
      have hj0:(0:Int)≤(j':Int):=by omega
      have hj1:(j':Int) < (ws.length:Int):=by omega
      have hw9:IntKind.i64.wrap ((j':Int) - 1)=(j':Int) - 1:=by rw [IntKind.wrap_i64]; omega
      go_wp2_with (at_builtin; refine wpList_append_any _ rfl _ _ 45 rfl y3.heap.size 9 i0 _ 1 16 Tryz.underlying45 hi0 hz0 hz1 hz2 rfl (by decide) _ l.length _ rfl hown0 _ 1 1 [.string sx] rfl (.inr ⟨_,rfl,World.news_of_block HSRC.out⟩) rfl (fun u hu=>by simp at hu; subst hu; rfl) (by unfold maxLen; omega) (by omega) (by simp; omega) ?_; intro vq wx hown hgrow hat)
      have hbw:=below_step BY.out BC.out
      have HN9:Hid (SNew wx y3.heap.size vq (ws.reverse.take (l.length+1))∧Below y3.heap.size y3 wx):=by
       refine ⟨?_,hbw.grown hgrow hbw.size (fun q e=>own_geD OW.out q e)⟩
       rw [← HNX.out]
       exact SNew.snoc rfl hown
      obtain ⟨qa',qc',rfl⟩:=own_sliceD hown
      exact ⟨⟨l.length+1,j',qa',qc',rfl,rfl,(show l.length+1+j'=ws.length by omega),HN9⟩,by simp [intOf] <;> omega⟩
 | some e =>
  obtain ⟨-,-,⟨f,hf4,-⟩,-,-⟩:=stand_ok hs
  have HRU:Hid ((pathR ks ps es nm).c=0→∀ i,i < (rtW e).length→(overR ks ps es nm (wat (rtW e) i)).2.2=true):=fun hc i hi=>HRT.out e hc hs i hi
  have HSS:Hid (∀ wx:World,BookAt wx (.slice a1 ks.length c1) (.slice a2 ps.length c2) (.slice a3 es.length c3) ks ps es→Calls Tryz.prog 25 #[.agg #[.slice a1 ks.length c1,.slice a2 ps.length c2,.slice a3 es.length c3],.string nm] wx fun e' w'=>∃ rg ro rc,e'=.returned (.tuple #[.agg #[.string e.name,.string (kdOf ks (lastV e.fs 1)).s,.int .i64 (kdOf ks (lastV e.fs 1)).x,.int .i64 (kdOf ks (lastV e.fs 1)).y,.int .i64 (frOf (lastV e.fs 2)),.int .i64 (byOf (lastV e.fs 2)),.int .i64 (lvOf (lastV e.fs 3)),.slice (some ⟨rg,ro,none⟩) (rtW e).length rc],.bool true])∧StrsAt w' (.slice (some ⟨rg,ro,none⟩) (rtW e).length rc) (rtW e)∧Below wx.heap.size wx w'):=fun wx hx=>(HST.out wx hx).mono fun e' w' ⟨rt,he,hrt,hb⟩=>by
   have hst:=rt_strs hf4 (hrt _ hs)
   have hst2:=hst
   obtain ⟨rg,ro,rc,hv,-,-,-⟩:=hst2
   rw [hv] at hst he
   exact ⟨rg,ro,rc,by rw [he,hs]; rfl,hst,hb⟩
  clear HRT HST hf4 hs
  generalize kdOf ks (lastV e.fs 1)=kd at *
  generalize frOf (lastV e.fs 2)=fa at *
  generalize byOf (lastV e.fs 2)=fb at *
  generalize lvOf (lastV e.fs 3)=fc at *
  generalize rtW e=rw at *
  generalize e.name=fq at *
  obtain ⟨ft,fx,fy⟩:=kd
  dsimp only at HSS
  cases o3
  all_goals
   go_wp2_with fail
   clear r0 r1 r2 hob hln hln2
   refine (HSS.out _ X4.out.2).mono ?_
   rintro e w5 ⟨rg,ro,rc,rfl,hst,hb5⟩
   have X5:Hid (Bxs w w5 [(B,#[.slice a1 ks.length c1,.slice a2 ps.length c2,.slice a3 es.length c3],29)]∧BookAt w5 (.slice a1 ks.length c1) (.slice a2 ps.length c2) (.slice a3 es.length c3) ks ps es):=⟨X4.out.1.call hb5,X4.out.2.keep hb5⟩
   have HR5:=toHid hst
   obtain ⟨_,_,rc',-,hrl,hrm,-⟩:=hst
   unfold maxLen at hrm
   clear hb5 X4 HSS
   have X6:Hid (Bxs w (w5.alloc (.cells #[.string fq,.string ft,.int .i64 fx,.int .i64 fy,.int .i64 fa,.int .i64 fb,.int .i64 fc,.slice (some ⟨rg,ro,none⟩) rw.length rc] 47)) ((w5.heap.size,#[.string fq,.string ft,.int .i64 fx,.int .i64 fy,.int .i64 fa,.int .i64 fb,.int .i64 fc,.slice (some ⟨rg,ro,none⟩) rw.length rc],47) :: [(B,#[.slice a1 ks.length c1,.slice a2 ps.length c2,.slice a3 es.length c3],29)])∧BookAt (w5.alloc (.cells #[.string fq,.string ft,.int .i64 fx,.int .i64 fy,.int .i64 fa,.int .i64 fb,.int .i64 fc,.slice (some ⟨rg,ro,none⟩) rw.length rc] 47)) (.slice a1 ks.length c1) (.slice a2 ps.length c2) (.slice a3 es.length c3) ks ps es∧StrsAt (w5.alloc (.cells #[.string fq,.string ft,.int .i64 fx,.int .i64 fy,.int .i64 fa,.int .i64 fb,.int .i64 fc,.slice (some ⟨rg,ro,none⟩) rw.length rc] 47)) (.slice (some ⟨rg,ro,none⟩) rw.length rc) rw):=by
    have hb:Below w5.heap.size w5 (w5.alloc (.cells #[.string fq,.string ft,.int .i64 fx,.int .i64 fy,.int .i64 fa,.int .i64 fb,.int .i64 fc,.slice (some ⟨rg,ro,none⟩) rw.length rc] 47)):=(Below.refl _ _).alloc (Nat.le_refl _) _
    exact ⟨(X5.out.1.call hb).push (heap_newD w5 _),X5.out.2.keep hb,HR5.out.keep hb⟩
   clear X5 HR5
   generalize (pathR ks ps es nm)=PR at *
   obtain ⟨PC,PS,PFr,PBy⟩:=PR
   dsimp only at HPA HRU
   obtain ⟨r0,r1,r2⟩:(w5.alloc (.cells #[.string fq,.string ft,.int .i64 fx,.int .i64 fy,.int .i64 fa,.int .i64 fb,.int .i64 fc,.slice (some ⟨rg,ro,none⟩) rw.length rc] 47)).cell? ⟨B,0,none⟩=some (.slice a1 ks.length c1)∧(w5.alloc (.cells #[.string fq,.string ft,.int .i64 fx,.int .i64 fy,.int .i64 fa,.int .i64 fb,.int .i64 fc,.slice (some ⟨rg,ro,none⟩) rw.length rc] 47)).cell? ⟨B,1,none⟩=some (.slice a2 ps.length c2)∧(w5.alloc (.cells #[.string fq,.string ft,.int .i64 fx,.int .i64 fy,.int .i64 fa,.int .i64 fb,.int .i64 fc,.slice (some ⟨rg,ro,none⟩) rw.length rc] 47)).cell? ⟨B,2,none⟩=some (.slice a3 es.length c3):=⟨X6.out.1.cell 1 rfl 0,X6.out.1.cell 1 rfl 1,X6.out.1.cell 1 rfl 2⟩
   go_wp2_with fail
   clear r0 r1 r2
   generalize (w5.alloc (.cells #[.string fq,.string ft,.int .i64 fx,.int .i64 fy,.int .i64 fa,.int .i64 fb,.int .i64 fc,.slice (some ⟨rg,ro,none⟩) rw.length rc] 47))=w6 at *
   generalize w5.heap.size=F at *
   refine (HPA.out _ X6.out.2.1).mono ?_
   rintro e w7 ⟨pv,rfl,hst7,hb7⟩
   obtain ⟨qa,qc,rfl⟩:=own_sliceD hst7
   have X7:Hid (Bxs w w7 [(F,#[.string fq,.string ft,.int .i64 fx,.int .i64 fy,.int .i64 fa,.int .i64 fb,.int .i64 fc,.slice (some ⟨rg,ro,none⟩) rw.length rc],47),(B,#[.slice a1 ks.length c1,.slice a2 ps.length c2,.slice a3 es.length c3],29)]∧BookAt w7 (.slice a1 ks.length c1) (.slice a2 ps.length c2) (.slice a3 es.length c3) ks ps es∧StrsAt w7 (.slice (some ⟨rg,ro,none⟩) rw.length rc) rw):=⟨X6.out.1.call hb7,X6.out.2.1.keep hb7,X6.out.2.2.keep hb7⟩
   clear hst7 hb7 HPA X6
   go_wp2_with fail
   by_cases hc:PC=0
   ·subst hc
    have HRV:Hid (∀ i,i < rw.length→(overR ks ps es nm (wat rw i)).2.2=true):=HRU.out rfl
    clear HRU
    go_loopw [18] (fun iv wr=>∃ k:Nat,iv=.int .i64 k∧k≤rw.length∧Hid (Bxs w wr [(F,#[.string fq,.string ft,.int .i64 fx,.int .i64 fy,.int .i64 fa,.int .i64 fb,.int .i64 fc,.slice (some ⟨rg,ro,none⟩) rw.length rc],47),(B,#[.slice a1 ks.length c1,.slice a2 ps.length c2,.slice a3 es.length c3],29)]∧BookAt wr (.slice a1 ks.length c1) (.slice a2 ps.length c2) (.slice a3 es.length c3) ks ps es∧StrsAt wr (.slice (some ⟨rg,ro,none⟩) rw.length rc) rw)) (fun iv _=>rw.length - (intOf iv).toNat)
    case atStart =>
     have hb:Below w7.heap.size w7 (w7.alloc (.cells #[.slice qa PS.length qc,.int .i64 PFr,.int .i64 PBy] 55)):=(Below.refl _ _).alloc (Nat.le_refl _) _
     exact ⟨0,rfl,Nat.zero_le _,X7.out.1.call hb,X7.out.2.1.keep hb,X7.out.2.2.keep hb⟩
    case round =>
     clear X7
     obtain ⟨k,rfl,hk,HX⟩:=hrel
     obtain ⟨f7,r0,r1,r2⟩:wr.cell? ⟨F,7,none⟩=some (.slice (some ⟨rg,ro,none⟩) rw.length rc)∧wr.cell? ⟨B,0,none⟩=some (.slice a1 ks.length c1)∧wr.cell? ⟨B,1,none⟩=some (.slice a2 ps.length c2)∧wr.cell? ⟨B,2,none⟩=some (.slice a3 es.length c3):=⟨HX.out.1.cell 0 rfl 7,HX.out.1.cell 1 rfl 0,HX.out.1.cell 1 rfl 1,HX.out.1.cell 1 rfl 2⟩
     by_cases hlt:k < rw.length
     ·have hk0:(0:Int)≤(k:Int):=by omega
      have hk1:(k:Int) < (rw.length:Int):=by omega
      have hq:=str_at HX.out.2.2 hlt
      have hov:=HRV.out k hlt
      have HPK:Hid (∀ y:Later wr,Calls Tryz.prog 23 #[.agg #[.slice a1 ks.length c1,.slice a2 ps.length c2,.slice a3 es.length c3],.string nm,.string (wat rw k)] y.val fun e w''=>e=.returned (.tuple #[.int .i64 (overR ks ps es nm (wat rw k)).1,.int .i64 (overR ks ps es nm (wat rw k)).2.1,.bool (overR ks ps es nm (wat rw k)).2.2])∧∃ z:Later wr,w''=z.val):=fun y=>Calls.later (HP.out y.val (wat rw k) (HX.out.2.1.keep y.below) (HN.out.keep (below_step HX.out.1.below y.below)))
      generalize overR ks ps es nm (wat rw k)=OV at *
      obtain ⟨q1,q2,q3⟩:=OV
      dsimp only at hov HPK
      subst hov
      go_wp2_with fail
      have hne:=Later.some wr
      have zF:=lt_of_cell f7
      have zB:=lt_of_cell r0
      have zR:=lt_of_cell hq
      refine wp_region_later (by kernel_rfl) (by kernel_rfl) ?_
      repeat (go_big_quiet_step (first | (go_at_call 23; exact HPK.out _)))
      refine wpQuiet_nil ?_
      rintro _ ⟨x,rfl⟩
      have HZ:Hid (Bxs w x.val [(F,#[.string fq,.string ft,.int .i64 fx,.int .i64 fy,.int .i64 fa,.int .i64 fb,.int .i64 fc,.slice (some ⟨rg,ro,none⟩) rw.length rc],47),(B,#[.slice a1 ks.length c1,.slice a2 ps.length c2,.slice a3 es.length c3],29)]∧BookAt x.val (.slice a1 ks.length c1) (.slice a2 ps.length c2) (.slice a3 es.length c3) ks ps es∧StrsAt x.val (.slice (some ⟨rg,ro,none⟩) rw.length rc) rw):=⟨HX.out.1.call x.below,HX.out.2.1.keep x.below,HX.out.2.2.keep x.below⟩
      clear HX HPK r0 r1 r2 f7 hq hne zF zB zR
      generalize x.val=w9 at *
      go_wp2_with fail
      exact ⟨⟨k+1,by go_num,by omega,HZ⟩,by simp [intOf] <;> omega⟩
     ·have hke:k=rw.length:=by omega
      subst hke
      have BL:Hid (Below w.heap.size w wr):=HX.out.1.below
      clear HX HP HRV
      go_wp2_with fail
      clear f7 r0 r1 r2
      refine (drawCells_any _ m _ (HA2.out.keep BL.out)).mono ?_
      rintro e y1 ⟨kv,pv,uv,kk,pp,ws,rfl,htk,htp,hts,hok,hb⟩
      have HOK:=toHid hok
      have T1:Hid (TrisAt y1 kv kk∧TrisAt y1 pv pp∧StrsAt y1 uv ws∧Below w.heap.size w y1):=⟨htk,htp,hts,below_step BL.out hb⟩
      obtain ⟨ka,kc,rfl,-⟩:=htk
      obtain ⟨pa,pc,rfl,-⟩:=htp
      obtain ⟨ug,uo,uc,rfl,-⟩:=hts
      clear hok hb BL
      have XO:Hid (OX w (y1.alloc (.cells #[.slice ka kk.length kc,.slice pa pp.length pc] 26)) y1.heap.size (.slice ka kk.length kc) (.slice pa pp.length pc) (.slice (some ⟨ug,uo,none⟩) ws.length uc) kk pp ws):=by
       have hb:Below y1.heap.size y1 (y1.alloc (.cells #[.slice ka kk.length kc,.slice pa pp.length pc] 26)):=(Below.refl _ _).alloc (Nat.le_refl _) _
       exact ⟨below_step T1.out.2.2.2 hb,heap_newD y1 _,T1.out.1.keep hb,T1.out.2.1.keep hb,T1.out.2.2.1.keep hb⟩
      clear T1
      have HNA:Hid (Names kk∧Names pp):=⟨fun t ht=>(by have:=HOK.out.2.2.1 t ht; unfold maxLen; omega),fun t ht=>(by have:=HOK.out.2.2.2.1 t ht; unfold maxLen; omega)⟩
      have hwl:ws.length≤3000:=HOK.out.2.2.2.2.1
      go_wp2_with fail
      generalize (y1.alloc (.cells #[.slice ka kk.length kc,.slice pa pp.length pc] 26))=y2 at *
      generalize y1.heap.size=BB at *
      refine (planCells_any _ _ _ kk pp ws _ XO.out.tk XO.out.tp HNA.out.1 HNA.out.2 XO.out.ts).mono ?_
      rintro e y3 ⟨cv,rfl,hc3,hb3⟩
      have X3:=toHid (XO.out.call hb3)
      have C3:=toHid hc3.at
      have HL3:=toHid (cells_le kk pp ws)
      obtain ⟨ca,cc,rfl⟩:=own_sliceD hc3
      clear hc3 hb3 XO
      have S4:Hid (SNew (y3.alloc (.cells #[] 9)) y3.heap.size (.slice (some ⟨y3.heap.size,0,none⟩) 0 0) []):=⟨rfl,.inr ⟨y3.heap.size,0,#[],rfl,Nat.le_refl _,heap_newD y3 _,Nat.le_refl _,Nat.zero_le _,rfl,rfl⟩⟩
      have B4:Hid (Below y3.heap.size y3 (y3.alloc (.cells #[] 9))):=(Below.refl _ _).alloc (Nat.le_refl _) _
      have hw0:IntKind.i64.wrap ((ws.length:Int) - 1)=(ws.length:Int) - 1:=by rw [IntKind.wrap_i64]; omega
      go_wp2_with fail
      clear hw0
      generalize (y3.alloc (.cells #[] 9))=y4 at *
      go_loopw [26,27] (fun rv iv wr=>∃ (k j:Nat) (a:Option Addr) (c:Nat),rv=.slice a k c∧iv=.int .i64 ((j:Int) - 1)∧Hid (k+j=ws.length)∧Hid (SNew wr y3.heap.size (.slice a k c) (ws.reverse.take k)∧Below y3.heap.size y3 wr)) (fun _ iv _=>(intOf iv+1).toNat)
      case atStart=>exact ⟨0,ws.length,_,_,rfl,rfl,(show 0+ws.length=ws.length by omega),S4.out,B4.out⟩
      case round =>
       clear S4 B4
       obtain ⟨k,j,a9,c9,rfl,rfl,HKJ,HS9⟩:=hrel
       have hkj:k+j=ws.length:=HKJ.out
       clear HKJ
       by_cases hj:j=0
       ·subst hj
        obtain rfl:k=ws.length:=by omega
        have X5:=toHid (X3.out.call HS9.out.2)
        have C5:=toHid (C3.out.keep HS9.out.2)
        have R5:Hid (StrsAt wr (.slice a9 ws.length c9) ws.reverse):=by
         have h1:=HS9.out.1
         rw [List.take_of_length_le (by simp)] at h1
         exact strs_own h1 (by rw [List.length_reverse]; exact HOK.out.2.2.2.2.2.2)
        clear HS9 X3 C3 hkj
        have b0:=cell_blkD X5.out.box (i:=0) rfl
        have b1:=cell_blkD X5.out.box (i:=1) rfl
        obtain ⟨CL,hCL⟩:∃ CL,cellsR kk pp ws=CL:=⟨_,rfl⟩
        rw [hCL] at C5 HL3
        rw [hCL]
        have hcl:=HL3.out
        go_wp2_with fail
        clear b0 b1
        refine (planCells_any _ _ _ kk pp ws.reverse _ X5.out.tk X5.out.tp HNA.out.1 HNA.out.2 R5.out).mono ?_
        rintro e y6 ⟨bv,rfl,hc6,hb6⟩
        rw [cellsR_rev,hCL] at hc6
        rw [cellsOk_rev]
        have X6:=toHid (X5.out.call hb6)
        have C6:=toHid (C5.out.keep hb6)
        have D6:=toHid hc6.at
        obtain ⟨ba,bc,rfl⟩:=own_sliceD hc6
        rw [List.length_reverse] at D6
        rw [List.length_reverse]
        clear hc6 hb6 X5 C5 R5
        have b0:=cell_blkD X6.out.box (i:=0) rfl
        have b1:=cell_blkD X6.out.box (i:=1) rfl
        go_wp2_with fail
        clear b0 b1
        refine (specCells_any _ _ _ kk pp ws _ X6.out.tk X6.out.tp HNA.out.1 HNA.out.2 X6.out.ts).mono ?_
        rintro e y7 ⟨wv,rfl,hc7,hb7⟩
        rw [hCL] at hc7
        have C7:=toHid (C6.out.keep hb7)
        have D7:=toHid (D6.out.keep hb7)
        have E7:=toHid hc7.at
        have BL:Hid (Below w.heap.size w y7):=(X6.out.call hb7).below
        obtain ⟨wa,wc,rfl⟩:=own_sliceD hc7
        clear hc7 hb7 X6 C6 D6 hCL HNA HOK
        generalize cellsOkB kk pp ws=ok0 at *
        have hob:(ok0 != ok0)=false:=by cases ok0 <;> rfl
        go_wp2_with fail
        go_loopw [32] (fun iv wr=>∃ k:Nat,k≤CL.length∧iv=.int .i64 k∧Hid (Below y7.heap.size y7 wr)) (fun iv _=>CL.length - (intOf iv).toNat)
        case atStart=>exact ⟨0,Nat.zero_le _,rfl,Below.refl _ _⟩
        case round =>
         obtain ⟨k,hk,rfl,HX⟩:=hrel
         by_cases hlt:k < CL.length
         ·obtain ⟨g1,rfl,d0,d1⟩:=cel_at C7.out hlt
          obtain ⟨i2,hi2⟩:∃ i2:Nat,i2=CL.length - 1 - k:=⟨_,rfl⟩
          obtain ⟨g2,rfl,e0,e1⟩:=cel_at D7.out (show i2 < CL.reverse.length by rw [List.length_reverse]; omega)
          obtain ⟨g3,rfl,f0,f1⟩:=cel_at E7.out hlt
          rw [tat_rev (by omega),show CL.length - 1 - i2=k by omega] at e0 e1
          generalize tat CL k=ce at *
          obtain ⟨cx,cy⟩:=ce
          dsimp only at d0 d1 e0 e1 f0 f1
          have s0:=cell_keep HX.out (Nat.le_refl _) d0
          have s1:=cell_keep HX.out (Nat.le_refl _) d1
          have s2:=cell_keep HX.out (Nat.le_refl _) e0
          have s3:=cell_keep HX.out (Nat.le_refl _) e1
          have s4:=cell_keep HX.out (Nat.le_refl _) f0
          have s5:=cell_keep HX.out (Nat.le_refl _) f1
          have z1:=lt_of_cell s0
          have z2:=lt_of_cell s2
          have z3:=lt_of_cell s4
          clear d0 d1 e0 e1 f0 f1
          have hk0:(0:Int)≤(k:Int):=by omega
          have hk1:(k:Int) < (CL.length:Int):=by omega
          have hw1:IntKind.i64.wrap ((CL.length:Int) - 1)=(CL.length:Int) - 1:=by rw [IntKind.wrap_i64]; omega
          have hw2:IntKind.i64.wrap ((CL.length:Int) - 1 - (k:Int))=(i2:Int):=by rw [IntKind.wrap_i64]; omega
          have hi0:(0:Int)≤(i2:Int):=by omega
          have hi1:(i2:Int) < (CL.length:Int):=by omega
          clear hi2
          have hne:=Later.some wr
          go_wp2_with fail
          refine wp_region_later (by kernel_rfl) (by kernel_rfl) ?_
          repeat (go_big_quiet_step (fail))
          refine wpQuiet_nil ?_
          rintro _ ⟨x,rfl⟩
          have HB2:Hid (Below y7.heap.size y7 x.val):=below_step HX.out x.below
          go_wp2_with fail
          exact ⟨⟨k+1,by omega,by go_num,HB2⟩,by simp [intOf] <;> omega⟩
         ·have hke:k=CL.length:=by omega
          subst hke
          have BW:Hid (Below w.heap.size w wr):=below_step BL.out HX.out
          go_wp2_with fail
          exact bodyPost_ret (v:=.bool true) (by simp [results,Tryz.results5,go_sem]) rfl ⟨rfl,BW.out⟩
       ·obtain ⟨j',rfl⟩:∃ j',j=j'+1:=⟨j - 1,by omega⟩
        have e1:((j'+1:Nat):Int) - 1=(j':Int):=by push_cast <;> omega
        rw [e1]
        have X5:=X3.out.call HS9.out.2
        have hq:=str_at X5.ts (show j' < ws.length by omega)
        have hlk:(ws.reverse.take k).length=k:=by rw [List.length_take,List.length_reverse]; omega
        have hnx:ws.reverse.take k ++ [wat ws j']=ws.reverse.take (k+1):=by
         rw [List.take_add_one,wat_get (show k < ws.reverse.length by rw [List.length_reverse]; omega),wat_rev (by omega),show ws.length - 1 - k=j' by omega]
         rfl
        have HNX:=toHid hnx
        have OW:=toHid HS9.out.1
        have BY:=toHid HS9.out.2
        obtain ⟨l,hl⟩:∃ l,ws.reverse.take k=l:=⟨_,rfl⟩
        rw [hl] at HNX OW hlk
        clear X5 HS9 hnx hj hl
        obtain rfl:k=l.length:=hlk.symm
        clear hlk
        unfold SNew at OW
        generalize wat ws j'=sx at *
        have BC:Hid (Below wr.heap.size wr (wr.alloc (.cells #[.string sx] 9))):=(Below.refl _ _).alloc (Nat.le_refl _) _
        have HSRC:Hid ((wr.alloc (.cells #[.string sx] 9)).heap[wr.heap.size]?=some (.cells #[.string sx] 9 (0,0))):=heap_newD wr _
        have hown0:=own_keepD OW.out BC.out
        have hsz:=BY.out.size
        have hj0:(0:Int)≤(j':Int):=by omega
        have hj1:(j':Int) < (ws.length:Int):=by omega
        have hw9:IntKind.i64.wrap ((j':Int) - 1)=(j':Int) - 1:=by rw [IntKind.wrap_i64]; omega
        go_wp2_with (at_builtin; refine wpList_append_any _ rfl _ _ 45 rfl y3.heap.size 9 i0 _ 1 16 Tryz.underlying45 hi0 hz0 hz1 hz2 rfl (by decide) _ l.length _ rfl hown0 _ 1 1 [.string sx] rfl (.inr ⟨_,rfl,World.news_of_block HSRC.out⟩) rfl (fun u hu=>by simp at hu; subst hu; rfl) (by unfold maxLen; omega) (by omega) (by simp; omega) ?_; intro vq wx hown hgrow hat)
        have hbw:=below_step BY.out BC.out
        have HN9:Hid (SNew wx y3.heap.size vq (ws.reverse.take (l.length+1))∧Below y3.heap.size y3 wx):=by
         refine ⟨?_,hbw.grown hgrow hbw.size (fun q e=>own_geD OW.out q e)⟩
         rw [← HNX.out]
         exact SNew.snoc rfl hown
        obtain ⟨qa',qc',rfl⟩:=own_sliceD hown
        exact ⟨⟨l.length+1,j',qa',qc',rfl,rfl,(show l.length+1+j'=ws.length by omega),HN9⟩,by simp [intOf] <;> omega⟩
   ·have hcb:(PC == 0)=false:=by rw [beq_eq_false_iff_ne]; exact hc
    have BL:Hid (Below w.heap.size w w7):=X7.out.1.below
    clear X7 HRU HP hc
    go_loopw [18] (fun iv wr=>iv=.int .i64 0∧Hid (Below w.heap.size w wr)) (fun _ _=>0)
    case atStart=>exact ⟨rfl,below_step BL.out ((Below.refl _ _).alloc (Nat.le_refl _) _)⟩
    case round =>
     clear BL
     obtain ⟨rfl,BL⟩:=hrel
     go_wp2_with fail
     refine (drawCells_any _ m _ (HA2.out.keep BL.out)).mono ?_
     rintro e y1 ⟨kv,pv,uv,kk,pp,ws,rfl,htk,htp,hts,hok,hb⟩
     have HOK:=toHid hok
     have T1:Hid (TrisAt y1 kv kk∧TrisAt y1 pv pp∧StrsAt y1 uv ws∧Below w.heap.size w y1):=⟨htk,htp,hts,below_step BL.out hb⟩
     obtain ⟨ka,kc,rfl,-⟩:=htk
     obtain ⟨pa,pc,rfl,-⟩:=htp
     obtain ⟨ug,uo,uc,rfl,-⟩:=hts
     clear hok hb BL
     have XO:Hid (OX w (y1.alloc (.cells #[.slice ka kk.length kc,.slice pa pp.length pc] 26)) y1.heap.size (.slice ka kk.length kc) (.slice pa pp.length pc) (.slice (some ⟨ug,uo,none⟩) ws.length uc) kk pp ws):=by
      have hb:Below y1.heap.size y1 (y1.alloc (.cells #[.slice ka kk.length kc,.slice pa pp.length pc] 26)):=(Below.refl _ _).alloc (Nat.le_refl _) _
      exact ⟨below_step T1.out.2.2.2 hb,heap_newD y1 _,T1.out.1.keep hb,T1.out.2.1.keep hb,T1.out.2.2.1.keep hb⟩
     clear T1
     have HNA:Hid (Names kk∧Names pp):=⟨fun t ht=>(by have:=HOK.out.2.2.1 t ht; unfold maxLen; omega),fun t ht=>(by have:=HOK.out.2.2.2.1 t ht; unfold maxLen; omega)⟩
     have hwl:ws.length≤3000:=HOK.out.2.2.2.2.1
     go_wp2_with fail
     generalize (y1.alloc (.cells #[.slice ka kk.length kc,.slice pa pp.length pc] 26))=y2 at *
     generalize y1.heap.size=BB at *
     refine (planCells_any _ _ _ kk pp ws _ XO.out.tk XO.out.tp HNA.out.1 HNA.out.2 XO.out.ts).mono ?_
     rintro e y3 ⟨cv,rfl,hc3,hb3⟩
     have X3:=toHid (XO.out.call hb3)
     have C3:=toHid hc3.at
     have HL3:=toHid (cells_le kk pp ws)
     obtain ⟨ca,cc,rfl⟩:=own_sliceD hc3
     clear hc3 hb3 XO
     have S4:Hid (SNew (y3.alloc (.cells #[] 9)) y3.heap.size (.slice (some ⟨y3.heap.size,0,none⟩) 0 0) []):=⟨rfl,.inr ⟨y3.heap.size,0,#[],rfl,Nat.le_refl _,heap_newD y3 _,Nat.le_refl _,Nat.zero_le _,rfl,rfl⟩⟩
     have B4:Hid (Below y3.heap.size y3 (y3.alloc (.cells #[] 9))):=(Below.refl _ _).alloc (Nat.le_refl _) _
     have hw0:IntKind.i64.wrap ((ws.length:Int) - 1)=(ws.length:Int) - 1:=by rw [IntKind.wrap_i64]; omega
     go_wp2_with fail
     clear hw0
     generalize (y3.alloc (.cells #[] 9))=y4 at *
     go_loopw [26,27] (fun rv iv wr=>∃ (k j:Nat) (a:Option Addr) (c:Nat),rv=.slice a k c∧iv=.int .i64 ((j:Int) - 1)∧Hid (k+j=ws.length)∧Hid (SNew wr y3.heap.size (.slice a k c) (ws.reverse.take k)∧Below y3.heap.size y3 wr)) (fun _ iv _=>(intOf iv+1).toNat)
     case atStart=>exact ⟨0,ws.length,_,_,rfl,rfl,(show 0+ws.length=ws.length by omega),S4.out,B4.out⟩
     case round =>
      clear S4 B4
      obtain ⟨k,j,a9,c9,rfl,rfl,HKJ,HS9⟩:=hrel
      have hkj:k+j=ws.length:=HKJ.out
      clear HKJ
      by_cases hj:j=0
      ·subst hj
       obtain rfl:k=ws.length:=by omega
       have X5:=toHid (X3.out.call HS9.out.2)
       have C5:=toHid (C3.out.keep HS9.out.2)
       have R5:Hid (StrsAt wr (.slice a9 ws.length c9) ws.reverse):=by
        have h1:=HS9.out.1
        rw [List.take_of_length_le (by simp)] at h1
        exact strs_own h1 (by rw [List.length_reverse]; exact HOK.out.2.2.2.2.2.2)
       clear HS9 X3 C3 hkj
       have b0:=cell_blkD X5.out.box (i:=0) rfl
       have b1:=cell_blkD X5.out.box (i:=1) rfl
       obtain ⟨CL,hCL⟩:∃ CL,cellsR kk pp ws=CL:=⟨_,rfl⟩
       rw [hCL] at C5 HL3
       rw [hCL]
       have hcl:=HL3.out
       go_wp2_with fail
       clear b0 b1
       refine (planCells_any _ _ _ kk pp ws.reverse _ X5.out.tk X5.out.tp HNA.out.1 HNA.out.2 R5.out).mono ?_
       rintro e y6 ⟨bv,rfl,hc6,hb6⟩
       rw [cellsR_rev,hCL] at hc6
       rw [cellsOk_rev]
       have X6:=toHid (X5.out.call hb6)
       have C6:=toHid (C5.out.keep hb6)
       have D6:=toHid hc6.at
       obtain ⟨ba,bc,rfl⟩:=own_sliceD hc6
       rw [List.length_reverse] at D6
       rw [List.length_reverse]
       clear hc6 hb6 X5 C5 R5
       have b0:=cell_blkD X6.out.box (i:=0) rfl
       have b1:=cell_blkD X6.out.box (i:=1) rfl
       go_wp2_with fail
       clear b0 b1
       refine (specCells_any _ _ _ kk pp ws _ X6.out.tk X6.out.tp HNA.out.1 HNA.out.2 X6.out.ts).mono ?_
       rintro e y7 ⟨wv,rfl,hc7,hb7⟩
       rw [hCL] at hc7
       have C7:=toHid (C6.out.keep hb7)
       have D7:=toHid (D6.out.keep hb7)
       have E7:=toHid hc7.at
       have BL:Hid (Below w.heap.size w y7):=(X6.out.call hb7).below
       obtain ⟨wa,wc,rfl⟩:=own_sliceD hc7
       clear hc7 hb7 X6 C6 D6 hCL HNA HOK
       generalize cellsOkB kk pp ws=ok0 at *
       have hob:(ok0 != ok0)=false:=by cases ok0 <;> rfl
       go_wp2_with fail
       go_loopw [32] (fun iv wr=>∃ k:Nat,k≤CL.length∧iv=.int .i64 k∧Hid (Below y7.heap.size y7 wr)) (fun iv _=>CL.length - (intOf iv).toNat)
       case atStart=>exact ⟨0,Nat.zero_le _,rfl,Below.refl _ _⟩
       case round =>
        obtain ⟨k,hk,rfl,HX⟩:=hrel
        by_cases hlt:k < CL.length
        ·obtain ⟨g1,rfl,d0,d1⟩:=cel_at C7.out hlt
         obtain ⟨i2,hi2⟩:∃ i2:Nat,i2=CL.length - 1 - k:=⟨_,rfl⟩
         obtain ⟨g2,rfl,e0,e1⟩:=cel_at D7.out (show i2 < CL.reverse.length by rw [List.length_reverse]; omega)
         obtain ⟨g3,rfl,f0,f1⟩:=cel_at E7.out hlt
         rw [tat_rev (by omega),show CL.length - 1 - i2=k by omega] at e0 e1
         generalize tat CL k=ce at *
         obtain ⟨cx,cy⟩:=ce
         dsimp only at d0 d1 e0 e1 f0 f1
         have s0:=cell_keep HX.out (Nat.le_refl _) d0
         have s1:=cell_keep HX.out (Nat.le_refl _) d1
         have s2:=cell_keep HX.out (Nat.le_refl _) e0
         have s3:=cell_keep HX.out (Nat.le_refl _) e1
         have s4:=cell_keep HX.out (Nat.le_refl _) f0
         have s5:=cell_keep HX.out (Nat.le_refl _) f1
         have z1:=lt_of_cell s0
         have z2:=lt_of_cell s2
         have z3:=lt_of_cell s4
         clear d0 d1 e0 e1 f0 f1
         have hk0:(0:Int)≤(k:Int):=by omega
         have hk1:(k:Int) < (CL.length:Int):=by omega
         have hw1:IntKind.i64.wrap ((CL.length:Int) - 1)=(CL.length:Int) - 1:=by rw [IntKind.wrap_i64]; omega
         have hw2:IntKind.i64.wrap ((CL.length:Int) - 1 - (k:Int))=(i2:Int):=by rw [IntKind.wrap_i64]; omega
         have hi0:(0:Int)≤(i2:Int):=by omega
         have hi1:(i2:Int) < (CL.length:Int):=by omega
         clear hi2
         have hne:=Later.some wr
         go_wp2_with fail
         refine wp_region_later (by kernel_rfl) (by kernel_rfl) ?_
         repeat (go_big_quiet_step (fail))
         refine wpQuiet_nil ?_
         rintro _ ⟨x,rfl⟩
         have HB2:Hid (Below y7.heap.size y7 x.val):=below_step HX.out x.below
         go_wp2_with fail
         exact ⟨⟨k+1,by omega,by go_num,HB2⟩,by simp [intOf] <;> omega⟩
        ·have hke:k=CL.length:=by omega
         subst hke
         have BW:Hid (Below w.heap.size w wr):=below_step BL.out HX.out
         go_wp2_with fail
         exact bodyPost_ret (v:=.bool true) (by simp [results,Tryz.results5,go_sem]) rfl ⟨rfl,BW.out⟩
      ·obtain ⟨j',rfl⟩:∃ j',j=j'+1:=⟨j - 1,by omega⟩
       have e1:((j'+1:Nat):Int) - 1=(j':Int):=by push_cast <;> omega
       rw [e1]
       have X5:=X3.out.call HS9.out.2
       have hq:=str_at X5.ts (show j' < ws.length by omega)
       have hlk:(ws.reverse.take k).length=k:=by rw [List.length_take,List.length_reverse]; omega
       have hnx:ws.reverse.take k ++ [wat ws j']=ws.reverse.take (k+1):=by
        rw [List.take_add_one,wat_get (show k < ws.reverse.length by rw [List.length_reverse]; omega),wat_rev (by omega),show ws.length - 1 - k=j' by omega]
        rfl
       have HNX:=toHid hnx
       have OW:=toHid HS9.out.1
       have BY:=toHid HS9.out.2
       obtain ⟨l,hl⟩:∃ l,ws.reverse.take k=l:=⟨_,rfl⟩
       rw [hl] at HNX OW hlk
       clear X5 HS9 hnx hj hl
       obtain rfl:k=l.length:=hlk.symm
       clear hlk
       unfold SNew at OW
       generalize wat ws j'=sx at *
       have BC:Hid (Below wr.heap.size wr (wr.alloc (.cells #[.string sx] 9))):=(Below.refl _ _).alloc (Nat.le_refl _) _
       have HSRC:Hid ((wr.alloc (.cells #[.string sx] 9)).heap[wr.heap.size]?=some (.cells #[.string sx] 9 (0,0))):=heap_newD wr _
       have hown0:=own_keepD OW.out BC.out
       have hsz:=BY.out.size
       have hj0:(0:Int)≤(j':Int):=by omega
       have hj1:(j':Int) < (ws.length:Int):=by omega
       have hw9:IntKind.i64.wrap ((j':Int) - 1)=(j':Int) - 1:=by rw [IntKind.wrap_i64]; omega
       go_wp2_with (at_builtin; refine wpList_append_any _ rfl _ _ 45 rfl y3.heap.size 9 i0 _ 1 16 Tryz.underlying45 hi0 hz0 hz1 hz2 rfl (by decide) _ l.length _ rfl hown0 _ 1 1 [.string sx] rfl (.inr ⟨_,rfl,World.news_of_block HSRC.out⟩) rfl (fun u hu=>by simp at hu; subst hu; rfl) (by unfold maxLen; omega) (by omega) (by simp; omega) ?_; intro vq wx hown hgrow hat)
       have hbw:=below_step BY.out BC.out
       have HN9:Hid (SNew wx y3.heap.size vq (ws.reverse.take (l.length+1))∧Below y3.heap.size y3 wx):=by
        refine ⟨?_,hbw.grown hgrow hbw.size (fun q e=>own_geD OW.out q e)⟩
        rw [← HNX.out]
        exact SNew.snoc rfl hown
       obtain ⟨qa',qc',rfl⟩:=own_sliceD hown
       exact ⟨⟨l.length+1,j',qa',qc',rfl,rfl,(show l.length+1+j'=ws.length by omega),HN9⟩,by simp [intOf] <;> omega⟩
end Go.Proofs.YtbjmgglpiakgdaaGreatDoor.Dr
