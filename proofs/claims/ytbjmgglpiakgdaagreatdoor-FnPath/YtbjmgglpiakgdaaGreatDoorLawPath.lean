import Derived.Test.YtbjmgglpiakgdaaGreatDoorDf1
import Derived.Test.YtbjmgglpiakgdaaGreatDoorPa3
namespace Go.Proofs.YtbjmgglpiakgdaaGreatDoor.Dr
open Go.RowKit Go.Proofs.YtbjmgglpiakgdaaGreatDoor Go.Proofs.YtbjmgglpiakgdaaGreatDoor.Sd Go.Proofs.YtbjmgglpiakgdaaGreatDoor.Pa
attribute [local go_sem] Later.cell Later.frozen
set_option linter.unusedSimpArgs false
set_option linter.unusedVariables false
theorem path_nz {ks ps:List Tri} {es:List Ent} {nm:ByteArray} (h:(pathR ks ps es nm).c ≠ 0):(pathR ks ps es nm).st = [] ∧ (pathR ks ps es nm).fr = 0 ∧ (pathR ks ps es nm).b = 0:=by
 unfold pathR at h ⊢
 cases hb:bookB ks ps es with
 | false => exact ⟨rfl,rfl,rfl⟩
 | true =>
  rw [hb] at h
  simp only [cond_true] at h ⊢
  cases hs:standR ks ps es nm with
  | none => exact ⟨rfl,rfl,rfl⟩
  | some e =>
   rw [hs] at h
   dsimp only at h ⊢
   unfold pathE at h ⊢
   cases hc:cellsOkB ks ps (rtW e) with
   | false => exact ⟨rfl,rfl,rfl⟩
   | true =>
    rw [hc] at h
    simp only [cond_true] at h ⊢
    cases hd:decide (10000 < byOf (lastV e.fs 2) + ((cellsL ps (rtW e)).length:Int) * (kdOf ks (lastV e.fs 1)).y) with
    | true => exact ⟨rfl,rfl,rfl⟩
    | false => rw [hd] at h; exact absurd rfl h
def iat (l:List Int) (k:Nat):Int:=l.getD k 0
theorem ints_at {w:World} {base n:Nat} {a:Option Addr} {c:Nat} {L:List Int} (h:w.ownsRow base 3 1 (.slice a n c) L.length (L.map (Value.int .i64))) (h1:1 ≤ L.length):∃ g,a = some ⟨g,0,none⟩ ∧ ∀ k,k < L.length → w.cell? ⟨g,k,none⟩ = some (.int .i64 (iat L k)):=by
 rcases h.2 with ⟨_,h0⟩ | ⟨g,cap,cur,hv,_,hg,hn,_,hs,ht⟩
 ·omega
 ·injection hv with e1 e2 e3
  refine ⟨g,e1,fun k hk => ?_⟩
  have e:(cur.toList.take (L.length * 1))[k]? = some (.int .i64 (iat L k)):=by rw [ht]; simp [iat,hk]
  rw [List.getElem?_take,if_pos (by omega)] at e
  simp only [World.cell?,hg]
  simpa using e
theorem rt_slice {w:World} {B:Nat} {rt:Value} {o:Option Fld} (h:RtIs w B rt o):∃ a n c,rt = .slice a n c:=by
 cases o with
 | none => exact ⟨none,0,0,h⟩
 | some f =>
  have h1:SNew w B rt (cutW f.v):=h
  obtain ⟨a,c,e⟩:=own_sliceD h1
  exact ⟨a,_,c,e⟩
def PtAt (z:World) (g:Nat) (L:List Int):Prop:=∀ k,k < 41 → z.cell? ⟨g,k,none⟩ = some (.int .i64 (iat L k)) ∧ 0 ≤ iat L k ∧ iat L k ≤ 10
theorem PtAt.keep {z z':World} {g:Nat} {L:List Int} (h:PtAt z g L) (hb:Below z.heap.size z z'):PtAt z' g L:=fun k hk => ⟨cell_keep hb (Nat.le_refl _) (h k hk).1,(h k hk).2⟩
theorem StAt_keep {w w':World} {v:Value} {l:List Stp} (h:StAt w v l) (hb:Below w.heap.size w w'):StAt w' v l:=by
 obtain ⟨a,cap,rfl,h1,h2,h3⟩:=h
 refine ⟨a,cap,rfl,h1,h2,fun i c hc => ?_⟩
 obtain ⟨g,e,⟨d0,d1,d2⟩,d3,d4,d5⟩:=h3 i c hc
 exact ⟨g,e,⟨cell_keep hb (Nat.le_refl _) d0,cell_keep hb (Nat.le_refl _) d1,cell_keep hb (Nat.le_refl _) d2⟩,cell_keep hb (Nat.le_refl _) d3,cell_keep hb (Nat.le_refl _) d4,cell_keep hb (Nat.le_refl _) d5⟩
set_option maxRecDepth 100000 in
set_option maxHeartbeats 12800000 in
theorem lawPath_walk (v:Value) (n:Nat) (w:World) (h:BysArg w v n) (hN:NeedIn w) :
  Calls Tryz.prog 4 #[v] w fun e w' => e = .returned (.bool true) ∧ Below w.heap.size w w':=by
 have HA:=toHid h
 have HN:=toHid hN
 obtain ⟨a,cap,rfl,-⟩:=h
 clear hN
 by_cases hl1:(1048576:Int) < (n:Int)
 ·go_enter Tryz.func4,Tryz.ntmps4
  go_wp2_with fail
  exact bodyPost_ret (v:=.bool true) (by simp [results,Tryz.results4,go_sem]) rfl ⟨rfl,Below.refl _ _⟩
 go_enter Tryz.func4,Tryz.ntmps4
 go_wp2_with fail
 refine (drawFlown_any _ n _ HA.out).mono ?_
 rintro e w1 ⟨vx,vy,vz,u,nm,ks,ps,es,L,rfl,hat,hsm,hnm,hown,hL41,hLs,hb1⟩
 obtain ⟨a1,c1,a2,c2,a3,c3,rfl,rfl,rfl⟩:=BookAt.slices hat
 have SM:=toHid hsm
 obtain ⟨ua,uc,rfl⟩:=own_sliceD hown
 obtain ⟨ug,rfl,hcl⟩:=ints_at hown (by omega)
 have HL:Hid (PtAt w1 ug L):=fun k hk => ⟨hcl k (by omega),hLs _ (by unfold iat; rw [List.getD_eq_getElem?_getD,List.getElem?_eq_getElem (show k < L.length by omega)]; exact List.getElem_mem _)⟩
 rw [hL41]
 clear hcl
 have X2:Hid (Bxs w (w1.alloc (.cells #[.slice a1 ks.length c1,.slice a2 ps.length c2,.slice a3 es.length c3] 29)) [(w1.heap.size,#[.slice a1 ks.length c1,.slice a2 ps.length c2,.slice a3 es.length c3],29)] ∧ BookAt (w1.alloc (.cells #[.slice a1 ks.length c1,.slice a2 ps.length c2,.slice a3 es.length c3] 29)) (.slice a1 ks.length c1) (.slice a2 ps.length c2) (.slice a3 es.length c3) ks ps es ∧ PtAt (w1.alloc (.cells #[.slice a1 ks.length c1,.slice a2 ps.length c2,.slice a3 es.length c3] 29)) ug L):=by
  have hb:Below w1.heap.size w1 (w1.alloc (.cells #[.slice a1 ks.length c1,.slice a2 ps.length c2,.slice a3 es.length c3] 29)):=(Below.refl _ _).alloc (Nat.le_refl _) _
  refine ⟨⟨below_step hb1 hb,fun p hp => ?_⟩,hat.keep hb,HL.out.keep hb⟩
  simp only [List.mem_cons,List.not_mem_nil,or_false] at hp
  subst hp
  exact heap_newD w1 _
 have HP:Hid (∀ wx:World,BookAt wx (.slice a1 ks.length c1) (.slice a2 ps.length c2) (.slice a3 es.length c3) ks ps es → NeedIn wx → Calls Tryz.prog 15 #[.agg #[.slice a1 ks.length c1,.slice a2 ps.length c2,.slice a3 es.length c3],.string nm] wx fun e w' => ∃ v,e = .returned (.tuple #[.agg #[v,.int .i64 (pathR ks ps es nm).fr,.int .i64 (pathR ks ps es nm).b],.int .i64 (pathR ks ps es nm).c]) ∧ StNew w' wx.heap.size v (pathR ks ps es nm).st ∧ Below wx.heap.size wx w'):=fun wx hx hn => planPathOf_any _ _ _ ks ps es nm wx hx SM.out.n SM.out.s hn
 have HS:Hid (∀ wx:World,BookAt wx (.slice a1 ks.length c1) (.slice a2 ps.length c2) (.slice a3 es.length c3) ks ps es → Calls Tryz.prog 19 #[.agg #[.slice a1 ks.length c1,.slice a2 ps.length c2,.slice a3 es.length c3],.string nm] wx fun e w' => ∃ v,e = .returned (.tuple #[.agg #[v,.int .i64 (pathR ks ps es nm).fr,.int .i64 (pathR ks ps es nm).b],.int .i64 (pathR ks ps es nm).c]) ∧ StNew w' wx.heap.size v (pathR ks ps es nm).st ∧ Below wx.heap.size wx w'):=fun wx hx => specPathOf_any _ _ _ ks ps es nm wx hx SM.out.n SM.out.s
 have F0:Hid ((pathR ks ps es nm).c ≠ 0 → (pathR ks ps es nm).st = [] ∧ (pathR ks ps es nm).fr = 0 ∧ (pathR ks ps es nm).b = 0):=path_nz
 have F1:=toHid (fun h => path_zero (ks:=ks) (ps:=ps) (es:=es) (nm:=nm) h)
 have hPL:=pathR_len ks ps es nm
 clear hat hsm hown hL41 hLs hb1
 generalize pathR ks ps es nm = PR at *
 obtain ⟨PC,PS,PFr,PBy⟩:=PR
 dsimp only at hPL
 go_wp2_with fail
 generalize (w1.alloc (.cells #[.slice a1 ks.length c1,.slice a2 ps.length c2,.slice a3 es.length c3] 29)) = w2 at *
 refine (HP.out _ X2.out.2.1 (HN.out.keep X2.out.1.below)).mono ?_
 rintro e w3 ⟨pv,rfl,hst,hb3⟩
 try dsimp only at hst
 obtain ⟨pa,pc,rfl⟩:=own_sliceD hst
 have X3:Hid (Bxs w (w3.alloc (.cells #[.slice pa PS.length pc,.int .i64 PFr,.int .i64 PBy] 55)) [(w3.heap.size,#[.slice pa PS.length pc,.int .i64 PFr,.int .i64 PBy],55),(w1.heap.size,#[.slice a1 ks.length c1,.slice a2 ps.length c2,.slice a3 es.length c3],29)] ∧ BookAt (w3.alloc (.cells #[.slice pa PS.length pc,.int .i64 PFr,.int .i64 PBy] 55)) (.slice a1 ks.length c1) (.slice a2 ps.length c2) (.slice a3 es.length c3) ks ps es ∧ PtAt (w3.alloc (.cells #[.slice pa PS.length pc,.int .i64 PFr,.int .i64 PBy] 55)) ug L ∧ StAt (w3.alloc (.cells #[.slice pa PS.length pc,.int .i64 PFr,.int .i64 PBy] 55)) (.slice pa PS.length pc) PS):=by
  have hb:Below w3.heap.size w3 (w3.alloc (.cells #[.slice pa PS.length pc,.int .i64 PFr,.int .i64 PBy] 55)):=(Below.refl _ _).alloc (Nat.le_refl _) _
  exact ⟨((X2.out.1.call hb3).call hb).push (heap_newD w3 _),(X2.out.2.1.keep hb3).keep hb,(X2.out.2.2.keep hb3).keep hb,StAt_keep hst.at hb⟩
 clear hst hb3 X2 HP
 obtain ⟨r0,r1,r2⟩:(w3.alloc (.cells #[.slice pa PS.length pc,.int .i64 PFr,.int .i64 PBy] 55)).cell? ⟨w1.heap.size,0,none⟩ = some (.slice a1 ks.length c1) ∧ (w3.alloc (.cells #[.slice pa PS.length pc,.int .i64 PFr,.int .i64 PBy] 55)).cell? ⟨w1.heap.size,1,none⟩ = some (.slice a2 ps.length c2) ∧ (w3.alloc (.cells #[.slice pa PS.length pc,.int .i64 PFr,.int .i64 PBy] 55)).cell? ⟨w1.heap.size,2,none⟩ = some (.slice a3 es.length c3):=⟨X3.out.1.cell 1 rfl 0,X3.out.1.cell 1 rfl 1,X3.out.1.cell 1 rfl 2⟩
 go_wp2_with fail
 clear r0 r1 r2
 generalize (w3.alloc (.cells #[.slice pa PS.length pc,.int .i64 PFr,.int .i64 PBy] 55)) = w4 at *
 generalize w3.heap.size = P at *
 generalize w1.heap.size = B at *
 refine (HS.out _ X3.out.2.1).mono ?_
 rintro e w5 ⟨qv,rfl,hst,hb5⟩
 try dsimp only at hst
 obtain ⟨qa,qc,rfl⟩:=own_sliceD hst
 have X5:Hid (Bxs w (w5.alloc (.cells #[.slice qa PS.length qc,.int .i64 PFr,.int .i64 PBy] 55)) [(w5.heap.size,#[.slice qa PS.length qc,.int .i64 PFr,.int .i64 PBy],55),(P,#[.slice pa PS.length pc,.int .i64 PFr,.int .i64 PBy],55),(B,#[.slice a1 ks.length c1,.slice a2 ps.length c2,.slice a3 es.length c3],29)] ∧ BookAt (w5.alloc (.cells #[.slice qa PS.length qc,.int .i64 PFr,.int .i64 PBy] 55)) (.slice a1 ks.length c1) (.slice a2 ps.length c2) (.slice a3 es.length c3) ks ps es ∧ PtAt (w5.alloc (.cells #[.slice qa PS.length qc,.int .i64 PFr,.int .i64 PBy] 55)) ug L ∧ StAt (w5.alloc (.cells #[.slice qa PS.length qc,.int .i64 PFr,.int .i64 PBy] 55)) (.slice pa PS.length pc) PS ∧ StAt (w5.alloc (.cells #[.slice qa PS.length qc,.int .i64 PFr,.int .i64 PBy] 55)) (.slice qa PS.length qc) PS):=by
  have hb:Below w5.heap.size w5 (w5.alloc (.cells #[.slice qa PS.length qc,.int .i64 PFr,.int .i64 PBy] 55)):=(Below.refl _ _).alloc (Nat.le_refl _) _
  exact ⟨((X3.out.1.call hb5).call hb).push (heap_newD w5 _),(X3.out.2.1.keep hb5).keep hb,(X3.out.2.2.1.keep hb5).keep hb,StAt_keep (StAt_keep X3.out.2.2.2 hb5) hb,StAt_keep hst.at hb⟩
 clear hst hb5 X3 HS
 obtain ⟨r0,r1,r2⟩:(w5.alloc (.cells #[.slice qa PS.length qc,.int .i64 PFr,.int .i64 PBy] 55)).cell? ⟨P,0,none⟩ = some (.slice pa PS.length pc) ∧ (w5.alloc (.cells #[.slice qa PS.length qc,.int .i64 PFr,.int .i64 PBy] 55)).cell? ⟨P,1,none⟩ = some (.int .i64 PFr) ∧ (w5.alloc (.cells #[.slice qa PS.length qc,.int .i64 PFr,.int .i64 PBy] 55)).cell? ⟨P,2,none⟩ = some (.int .i64 PBy):=⟨X5.out.1.cell 1 rfl 0,X5.out.1.cell 1 rfl 1,X5.out.1.cell 1 rfl 2⟩
 obtain ⟨s0,s1,s2⟩:(w5.alloc (.cells #[.slice qa PS.length qc,.int .i64 PFr,.int .i64 PBy] 55)).cell? ⟨w5.heap.size,0,none⟩ = some (.slice qa PS.length qc) ∧ (w5.alloc (.cells #[.slice qa PS.length qc,.int .i64 PFr,.int .i64 PBy] 55)).cell? ⟨w5.heap.size,1,none⟩ = some (.int .i64 PFr) ∧ (w5.alloc (.cells #[.slice qa PS.length qc,.int .i64 PFr,.int .i64 PBy] 55)).cell? ⟨w5.heap.size,2,none⟩ = some (.int .i64 PBy):=⟨X5.out.1.cell 0 rfl 0,X5.out.1.cell 0 rfl 1,X5.out.1.cell 0 rfl 2⟩
 go_wp2_with fail
 clear r0 r1 r2 s0 s1 s2
 generalize (w5.alloc (.cells #[.slice qa PS.length qc,.int .i64 PFr,.int .i64 PBy] 55)) = w6 at *
 generalize w5.heap.size = Q at *
 refine (wPath_same _ _ PS PFr PBy _ X5.out.2.2.2.1 X5.out.2.2.2.2 (by omega)).mono ?_
 rintro e w7 ⟨rfl,hb7⟩
 have X7:Hid (Bxs w w7 [(P,#[.slice pa PS.length pc,.int .i64 PFr,.int .i64 PBy],55),(B,#[.slice a1 ks.length c1,.slice a2 ps.length c2,.slice a3 es.length c3],29)] ∧ BookAt w7 (.slice a1 ks.length c1) (.slice a2 ps.length c2) (.slice a3 es.length c3) ks ps es ∧ PtAt w7 ug L ∧ StAt w7 (.slice pa PS.length pc) PS):=by
  have h1:=X5.out.1.call hb7
  exact ⟨⟨h1.below,fun p hp => h1.has p (List.mem_cons_of_mem _ hp)⟩,X5.out.2.1.keep hb7,X5.out.2.2.1.keep hb7,StAt_keep X5.out.2.2.2.1 hb7⟩
 clear hb7 X5
 obtain ⟨r0,r1,r2⟩:w7.cell? ⟨P,0,none⟩ = some (.slice pa PS.length pc) ∧ w7.cell? ⟨P,1,none⟩ = some (.int .i64 PFr) ∧ w7.cell? ⟨P,2,none⟩ = some (.int .i64 PBy):=⟨X7.out.1.cell 0 rfl 0,X7.out.1.cell 0 rfl 1,X7.out.1.cell 0 rfl 2⟩
 by_cases hc:PC = 0
 ·subst hc
  clear r0 r1 r2 F0
  obtain ⟨e,hst,hpe,hfl,hN1,hN40,hch,hmx,hE⟩:=F1.out rfl
  rw [hE] at hpe
  injection hpe with q1 q2 q3 q4
  have HST:Hid (∀ wx:World,BookAt wx (.slice a1 ks.length c1) (.slice a2 ps.length c2) (.slice a3 es.length c3) ks ps es → NeedIn wx → Calls Tryz.prog 14 #[.agg #[.slice a1 ks.length c1,.slice a2 ps.length c2,.slice a3 es.length c3],.string nm] wx fun e' w' => ∃ ra rn rc,e' = .returned (.tuple #[.agg (flO ks e.name e.fs (.slice ra rn rc)),.bool true]) ∧ Below wx.heap.size wx w'):=fun wx hx hn => by
   refine (planStands_any _ _ _ ks ps es nm wx hx SM.out.n SM.out.s hn).mono ?_
   rintro e' w' ⟨rt,rfl,hrt,hb⟩
   rw [hst]
   obtain ⟨ra,rn,rc,rfl⟩:=rt_slice (hrt _ hst)
   exact ⟨ra,rn,rc,rfl,hb⟩
  have HCH:=toHid hch
  have PSE:=toHid q2
  unfold flO flC at HST
  clear F1 hst hE hch q1 q2
  generalize cellsL ps (rtW e) = cs at *
  generalize kdOf ks (lastV e.fs 1) = kd at *
  generalize frOf (lastV e.fs 2) = fr at *
  generalize byOf (lastV e.fs 2) = bY at *
  generalize lvOf (lastV e.fs 3) = lv at *
  obtain ⟨kn,kq,kS⟩:=kd
  obtain ⟨f1,f2,f3,f4,f5,f6,f7,f8⟩:=hfl
  dsimp only at f1 f2 f3 f4 f5 f6 f7 f8 q3 q4 hmx
  obtain ⟨r0,r1,r2⟩:w7.cell? ⟨B,0,none⟩ = some (.slice a1 ks.length c1) ∧ w7.cell? ⟨B,1,none⟩ = some (.slice a2 ps.length c2) ∧ w7.cell? ⟨B,2,none⟩ = some (.slice a3 es.length c3):=⟨X7.out.1.cell 1 rfl 0,X7.out.1.cell 1 rfl 1,X7.out.1.cell 1 rfl 2⟩
  go_wp2_with fail
  clear r0 r1 r2
  refine (HST.out _ X7.out.2.1 (HN.out.keep X7.out.1.below)).mono ?_
  rintro e' w8 ⟨ra,rn,rc,rfl,hb8⟩
  have Q3:=toHid q3
  have Q4:=toHid q4
  clear q3 q4
  have hNL:PS.length = cs.length:=by rw [PSE.out,stpTo_len]
  have HSP:Hid (∀ wx:World,StAt wx (.slice pa PS.length pc) PS → ∃ g,pa = some ⟨g,0,none⟩ ∧ ∀ k,k < cs.length → (wx.cell? ⟨g,k * 6,none⟩ = some (.int .i64 (stpA cs lv fr bY kq kS k).x) ∧ wx.cell? ⟨g,k * 6 + 1,none⟩ = some (.int .i64 (stpA cs lv fr bY kq kS k).y) ∧ wx.cell? ⟨g,k * 6 + 2,none⟩ = some (.int .i64 (stpA cs lv fr bY kq kS k).lo)) ∧ wx.cell? ⟨g,k * 6 + 3,none⟩ = some (.int .i64 (stpA cs lv fr bY kq kS k).hi) ∧ wx.cell? ⟨g,k * 6 + 4,none⟩ = some (.int .i64 (stpA cs lv fr bY kq kS k).fr) ∧ wx.cell? ⟨g,k * 6 + 5,none⟩ = some (.int .i64 (stpA cs lv fr bY kq kS k).b)):=fun wx hx => by
   obtain ⟨a',cap',hv,-,-,h3⟩:=hx
   injection hv with e1 e2 e3
   have hget:∀ k,k < cs.length → PS[k]? = some (stpA cs lv fr bY kq kS k):=fun k hk => by rw [PSE.out]; simp [stpTo,hk]
   obtain ⟨g,hg,-⟩:=h3 0 _ (hget 0 (by omega))
   refine ⟨g,e1.trans hg,fun k hk => ?_⟩
   obtain ⟨g',hg',h4⟩:=h3 k _ (hget k hk)
   rw [hg] at hg'
   cases hg'
   exact h4
  obtain ⟨pg,rfl,-⟩:=HSP.out _ X7.out.2.2.2
  rw [hNL] at *
  have X8:Hid (Bxs w (w8.alloc (.cells #[.string e.name,.string kn,.int .i64 kq,.int .i64 kS,.int .i64 fr,.int .i64 bY,.int .i64 lv,.slice ra rn rc] 47)) [(w8.heap.size,#[.string e.name,.string kn,.int .i64 kq,.int .i64 kS,.int .i64 fr,.int .i64 bY,.int .i64 lv,.slice ra rn rc],47),(P,#[.slice (some ⟨pg,0,none⟩) cs.length pc,.int .i64 PFr,.int .i64 PBy],55),(B,#[.slice a1 ks.length c1,.slice a2 ps.length c2,.slice a3 es.length c3],29)] ∧ PtAt (w8.alloc (.cells #[.string e.name,.string kn,.int .i64 kq,.int .i64 kS,.int .i64 fr,.int .i64 bY,.int .i64 lv,.slice ra rn rc] 47)) ug L ∧ StAt (w8.alloc (.cells #[.string e.name,.string kn,.int .i64 kq,.int .i64 kS,.int .i64 fr,.int .i64 bY,.int .i64 lv,.slice ra rn rc] 47)) (.slice (some ⟨pg,0,none⟩) cs.length pc) PS):=by
   have hb:Below w8.heap.size w8 (w8.alloc (.cells #[.string e.name,.string kn,.int .i64 kq,.int .i64 kS,.int .i64 fr,.int .i64 bY,.int .i64 lv,.slice ra rn rc] 47)):=(Below.refl _ _).alloc (Nat.le_refl _) _
   exact ⟨((X7.out.1.call hb8).call hb).push (heap_newD w8 _),(X7.out.2.2.1.keep hb8).keep hb,StAt_keep (StAt_keep X7.out.2.2.2 hb8) hb⟩
  clear hb8 X7 HST
  have HFI:=toHid (stp_first cs lv fr bY kq kS f7 hN1)
  have HLA:=toHid (stp_last cs lv fr bY kq kS f7 hN1)
  obtain ⟨N1,hN⟩:∃ N1,cs.length = N1 + 1:=⟨cs.length - 1,by omega⟩
  rw [hN] at HLA
  rw [Nat.add_sub_cancel] at HLA
  have HNN:=toHid hN
  rw [hN] at hN1 hN40 hmx X8
  rw [hN]
  have HSQ:Hid (∀ wx:World,StAt wx (.slice (some ⟨pg,0,none⟩) (N1 + 1) pc) PS → ∀ k,k < N1 + 1 → (wx.cell? ⟨pg,k * 6,none⟩ = some (.int .i64 (stpA cs lv fr bY kq kS k).x) ∧ wx.cell? ⟨pg,k * 6 + 1,none⟩ = some (.int .i64 (stpA cs lv fr bY kq kS k).y) ∧ wx.cell? ⟨pg,k * 6 + 2,none⟩ = some (.int .i64 (stpA cs lv fr bY kq kS k).lo)) ∧ wx.cell? ⟨pg,k * 6 + 3,none⟩ = some (.int .i64 (stpA cs lv fr bY kq kS k).hi) ∧ wx.cell? ⟨pg,k * 6 + 4,none⟩ = some (.int .i64 (stpA cs lv fr bY kq kS k).fr) ∧ wx.cell? ⟨pg,k * 6 + 5,none⟩ = some (.int .i64 (stpA cs lv fr bY kq kS k).b)):=fun wx hx k hk => by
   rw [← HNN.out] at hx hk
   obtain ⟨g,hg,h⟩:=HSP.out wx hx
   cases hg
   exact h k hk
  clear HSP hN hNL
  have HW:Hid (∀ wx:World,Bxs w wx [(w8.heap.size,#[.string e.name,.string kn,.int .i64 kq,.int .i64 kS,.int .i64 fr,.int .i64 bY,.int .i64 lv,.slice ra rn rc],47),(P,#[.slice (some ⟨pg,0,none⟩) (N1 + 1) pc,.int .i64 PFr,.int .i64 PBy],55),(B,#[.slice a1 ks.length c1,.slice a2 ps.length c2,.slice a3 es.length c3],29)] → (wx.cell? ⟨w8.heap.size,0,none⟩ = some (.string e.name) ∧ wx.cell? ⟨w8.heap.size,1,none⟩ = some (.string kn) ∧ wx.cell? ⟨w8.heap.size,2,none⟩ = some (.int .i64 kq) ∧ wx.cell? ⟨w8.heap.size,3,none⟩ = some (.int .i64 kS) ∧ wx.cell? ⟨w8.heap.size,4,none⟩ = some (.int .i64 fr) ∧ wx.cell? ⟨w8.heap.size,5,none⟩ = some (.int .i64 bY) ∧ wx.cell? ⟨w8.heap.size,6,none⟩ = some (.int .i64 lv)) ∧ wx.cell? ⟨P,0,none⟩ = some (.slice (some ⟨pg,0,none⟩) (N1 + 1) pc) ∧ wx.cell? ⟨P,1,none⟩ = some (.int .i64 PFr) ∧ wx.cell? ⟨P,2,none⟩ = some (.int .i64 PBy)):=fun wx h => ⟨⟨h.cell 0 rfl 0,h.cell 0 rfl 1,h.cell 0 rfl 2,h.cell 0 rfl 3,h.cell 0 rfl 4,h.cell 0 rfl 5,h.cell 0 rfl 6⟩,h.cell 1 rfl 0,h.cell 1 rfl 1,h.cell 1 rfl 2⟩
  obtain ⟨⟨g0,g1,g2,g3,g4,g5,g6⟩,r0,r1,r2⟩:=HW.out _ X8.out.1
  obtain ⟨⟨z0,z1,z2⟩,z3,z4,z5⟩:=HSQ.out _ X8.out.2.2 0 (by omega)
  obtain ⟨⟨y0,y1,y2⟩,y3,y4,y5⟩:=HSQ.out _ X8.out.2.2 N1 (by omega)
  rw [HFI.out.1] at z2
  rw [HFI.out.2.1] at z3
  rw [HFI.out.2.2.1] at z4
  rw [HFI.out.2.2.2] at z5
  rw [HLA.out] at y2
  rw [Nat.zero_mul] at z0 z1 z2 z3 z4 z5
  have hw1:IntKind.i64.wrap ((N1:Int) + 1 - 1) = (N1:Int):=by rw [IntKind.wrap_i64]; omega
  have hw2:IntKind.i64.wrap (N1:Int) = (N1:Int):=by rw [IntKind.wrap_i64]; omega
  have zP:=lt_of_cell r0
  have zF:=lt_of_cell g0
  have zS:=lt_of_cell z0
  go_wp2_with fail
  generalize (w8.alloc (.cells #[.string e.name,.string kn,.int .i64 kq,.int .i64 kS,.int .i64 fr,.int .i64 bY,.int .i64 lv,.slice ra rn rc] 47)) = w9 at *
  generalize w8.heap.size = F at *
  have hne:=Later.some w9
  refine wp_region_later (by kernel_rfl) (by kernel_rfl) ?_
  repeat (go_big_quiet_step (fail))
  refine wpQuiet_nil ?_
  rintro _ ⟨x,rfl⟩
  have XA:Hid (Bxs w x.val [(F,#[.string e.name,.string kn,.int .i64 kq,.int .i64 kS,.int .i64 fr,.int .i64 bY,.int .i64 lv,.slice ra rn rc],47),(P,#[.slice (some ⟨pg,0,none⟩) (N1 + 1) pc,.int .i64 PFr,.int .i64 PBy],55),(B,#[.slice a1 ks.length c1,.slice a2 ps.length c2,.slice a3 es.length c3],29)] ∧ PtAt x.val ug L ∧ StAt x.val (.slice (some ⟨pg,0,none⟩) (N1 + 1) pc) PS):=⟨X8.out.1.call x.below,X8.out.2.1.keep x.below,StAt_keep X8.out.2.2 x.below⟩
  clear g0 g1 g2 g3 g4 g5 g6 r0 r1 r2 z0 z1 z2 z3 z4 z5 y0 y1 y2 y3 y4 y5 zP zF zS hne hw1 X8
  generalize x.val = w10 at *
  clear x
  obtain ⟨⟨g0,g1,g2,g3,g4,g5,g6⟩,r0,r1,r2⟩:=HW.out _ XA.out.1
  obtain ⟨p0,hp0,hp1⟩:=XA.out.2.1 (N1 + 1) (by omega)
  have HT:=toHid (tenth (show 0 ≤ bY - fr by omega) hp0 hp1)
  generalize iat L (N1 + 1) = pn at *
  have hm1:0 ≤ (bY - fr) * pn:=Int.mul_nonneg (by omega) hp0
  have hm2:(bY - fr) * pn ≤ (bY - fr) * 10:=Int.mul_le_mul_of_nonneg_left hp1 (by omega)
  have hv1:IntKind.i64.wrap (bY - fr) = bY - fr:=by rw [IntKind.wrap_i64]; omega
  have hv2:IntKind.i64.wrap ((bY - fr) * pn) = (bY - fr) * pn:=by rw [IntKind.wrap_i64]; omega
  obtain ⟨hT1,hT2⟩:=HT.out
  have hv3:IntKind.i64.wrap (((bY - fr) * pn).tdiv 10) = ((bY - fr) * pn).tdiv 10:=by rw [IntKind.wrap_i64]; omega
  obtain ⟨T0,hT0⟩:∃ T0,T0 = fr + ((bY - fr) * pn).tdiv 10:=⟨_,rfl⟩
  have hv4:IntKind.i64.wrap (fr + ((bY - fr) * pn).tdiv 10) = T0:=by rw [IntKind.wrap_i64]; omega
  have HT0:Hid (fr ≤ T0 ∧ T0 ≤ bY):=⟨by omega,by omega⟩
  clear hT0 hT1 hT2 HT hm1 hm2
  have zP:=lt_of_cell r0
  have zF:=lt_of_cell g0
  have zU:=lt_of_cell p0
  have hi0:(0:Int) ≤ (N1:Int) + 1:=by omega
  have hi1:(N1:Int) + 1 < 41:=by omega
  have hne:=Later.some w10
  go_wp2_with fail
  refine wp_region_later (by kernel_rfl) (by kernel_rfl) ?_
  repeat (go_big_quiet_step (fail))
  refine wpQuiet_nil ?_
  rintro _ ⟨x,rfl⟩
  have XB:Hid (Bxs w x.val [(F,#[.string e.name,.string kn,.int .i64 kq,.int .i64 kS,.int .i64 fr,.int .i64 bY,.int .i64 lv,.slice ra rn rc],47),(P,#[.slice (some ⟨pg,0,none⟩) (N1 + 1) pc,.int .i64 PFr,.int .i64 PBy],55),(B,#[.slice a1 ks.length c1,.slice a2 ps.length c2,.slice a3 es.length c3],29)] ∧ PtAt x.val ug L ∧ StAt x.val (.slice (some ⟨pg,0,none⟩) (N1 + 1) pc) PS):=⟨XA.out.1.call x.below,XA.out.2.1.keep x.below,StAt_keep XA.out.2.2 x.below⟩
  clear g0 g1 g2 g3 g4 g5 g6 r0 r1 r2 p0 hp0 hp1 zP zF zU hne hv1 hv2 hv3 hv4 XA hi0 hi1
  generalize x.val = w11 at *
  clear x
  obtain ⟨⟨g0,g1,g2,g3,g4,g5,g6⟩,r0,r1,r2⟩:=HW.out _ XB.out.1
  go_wp2_with fail
  clear g0 g1 g2 g3 g4 g5 g6 r0 r1 r2
  have hmul:∀ k:Nat,k ≤ N1 + 1 → (k:Int) * kq ≤ (k:Int) * kS ∧ (k:Int) * kS ≤ ((N1 + 1:Nat):Int) * kS ∧ 0 ≤ (k:Int) * kq:=fun k hk => ⟨Int.mul_le_mul_of_nonneg_left f2 (by omega),Int.mul_le_mul_of_nonneg_right (by omega) (by omega),Int.mul_nonneg (by omega) (by omega)⟩
  have HMU:=toHid hmul
  have HMX:=toHid hmx
  clear hmul hmx
  go_loopw [13,14,15,16] (fun t ea la kv wr => ∃ (k:Nat) (T E M:Int),k ≤ N1 + 1 ∧ t = .int .i64 T ∧ ea = .int .i64 E ∧ la = .int .i64 M ∧ kv = .int .i64 k ∧ Hid (E = fr + (k:Int) * kq ∧ M = bY + (k:Int) * kS ∧ E ≤ T ∧ T ≤ M) ∧ Hid (Bxs w wr [(F,#[.string e.name,.string kn,.int .i64 kq,.int .i64 kS,.int .i64 fr,.int .i64 bY,.int .i64 lv,.slice ra rn rc],47),(P,#[.slice (some ⟨pg,0,none⟩) (N1 + 1) pc,.int .i64 PFr,.int .i64 PBy],55),(B,#[.slice a1 ks.length c1,.slice a2 ps.length c2,.slice a3 es.length c3],29)] ∧ PtAt wr ug L ∧ StAt wr (.slice (some ⟨pg,0,none⟩) (N1 + 1) pc) PS)) (fun _ _ _ kv _ => N1 + 1 - (intOf kv).toNat)
  case atStart => exact ⟨0,T0,fr,bY,Nat.zero_le _,rfl,rfl,rfl,rfl,⟨by simp,by simp,HT0.out.1,HT0.out.2⟩,XB.out⟩
  case round =>
   clear XB HT0
   obtain ⟨k,T,E,M,hk,rfl,rfl,rfl,rfl,HE,HX⟩:=hrel
   obtain ⟨⟨g0,g1,g2,g3,g4,g5,g6⟩,r0,r1,r2⟩:=HW.out _ HX.out.1
   by_cases hlt:k < N1 + 1
   ·obtain ⟨⟨z0,z1,z2⟩,z3,z4,z5⟩:=HSQ.out _ HX.out.2.2 k hlt
    have hlv:=stp_levels cs lv fr bY kq kS k f7 (by rw [HNN.out]; exact hlt)
    have e4:(stpA cs lv fr bY kq kS k).fr = E:=HE.out.1.symm
    have e5:(stpA cs lv fr bY kq kS k).b = M:=HE.out.2.1.symm
    rw [e4] at z4
    rw [e5] at z5
    obtain ⟨hlo,hhi⟩:=hlv
    generalize hsx:(stpA cs lv fr bY kq kS k).x = sx at *
    generalize hsy:(stpA cs lv fr bY kq kS k).y = sy at *
    generalize hsl:(stpA cs lv fr bY kq kS k).lo = sl at *
    generalize hsh:(stpA cs lv fr bY kq kS k).hi = sh at *
    have HQ:Hid ((stpA cs lv fr bY kq kS k) = ⟨sx,sy,sl,sh,E,M⟩):=by
     show _ = _
     rw [← hsx,← hsy,← hsl,← hsh,← e4,← e5]
    clear hsx hsy hsl hsh e4 e5
    by_cases hkz:k = 0
    ·subst hkz
     simp only [Nat.zero_mul,Nat.zero_add] at z0 z1 z2 z3 z4 z5
     have XS:Hid (Bxs w (wr.alloc (.cells #[.int .i64 sx,.int .i64 sy,.int .i64 sl,.int .i64 sh,.int .i64 E,.int .i64 M] 65)) [(wr.heap.size,#[.int .i64 sx,.int .i64 sy,.int .i64 sl,.int .i64 sh,.int .i64 E,.int .i64 M],65),(F,#[.string e.name,.string kn,.int .i64 kq,.int .i64 kS,.int .i64 fr,.int .i64 bY,.int .i64 lv,.slice ra rn rc],47),(P,#[.slice (some ⟨pg,0,none⟩) (N1 + 1) pc,.int .i64 PFr,.int .i64 PBy],55),(B,#[.slice a1 ks.length c1,.slice a2 ps.length c2,.slice a3 es.length c3],29)] ∧ PtAt (wr.alloc (.cells #[.int .i64 sx,.int .i64 sy,.int .i64 sl,.int .i64 sh,.int .i64 E,.int .i64 M] 65)) ug L ∧ StAt (wr.alloc (.cells #[.int .i64 sx,.int .i64 sy,.int .i64 sl,.int .i64 sh,.int .i64 E,.int .i64 M] 65)) (.slice (some ⟨pg,0,none⟩) (N1 + 1) pc) PS):=by
      have hb:Below wr.heap.size wr (wr.alloc (.cells #[.int .i64 sx,.int .i64 sy,.int .i64 sl,.int .i64 sh,.int .i64 E,.int .i64 M] 65)):=(Below.refl _ _).alloc (Nat.le_refl _) _
      exact ⟨(HX.out.1.call hb).push (heap_newD wr _),HX.out.2.1.keep hb,StAt_keep HX.out.2.2 hb⟩
     have hk1:(0:Int) < (N1:Int) + 1:=by omega
     have hET:=HE.out.2.2.1
     have hTM:=HE.out.2.2.2
     have hd1:decide (T < E) = false:=by simp <;> omega
     have hd2:decide (M < T) = false:=by simp <;> omega
     have hd3:decide (sh < sl) = false:=by simp <;> omega
     have hd4:decide (lv < sh) = false:=by simp <;> omega
     have hd5:decide ((0:Int) < (0:Int)) = false:=by simp
     go_wp2_with fail
     clear g0 g1 g2 g3 g4 g5 g6 r0 r1 r2 z0 z1 z2 z3 z4 z5
     generalize (wr.alloc (.cells #[.int .i64 sx,.int .i64 sy,.int .i64 sl,.int .i64 sh,.int .i64 E,.int .i64 M] 65)) = w12 at *
     generalize wr.heap.size = SB at *
     have HWS:Hid (∀ wx:World,Bxs w wx [(SB,#[.int .i64 sx,.int .i64 sy,.int .i64 sl,.int .i64 sh,.int .i64 E,.int .i64 M],65),(F,#[.string e.name,.string kn,.int .i64 kq,.int .i64 kS,.int .i64 fr,.int .i64 bY,.int .i64 lv,.slice ra rn rc],47),(P,#[.slice (some ⟨pg,0,none⟩) (N1 + 1) pc,.int .i64 PFr,.int .i64 PBy],55),(B,#[.slice a1 ks.length c1,.slice a2 ps.length c2,.slice a3 es.length c3],29)] → (wx.cell? ⟨SB,0,none⟩ = some (.int .i64 sx) ∧ wx.cell? ⟨SB,1,none⟩ = some (.int .i64 sy) ∧ wx.cell? ⟨SB,2,none⟩ = some (.int .i64 sl) ∧ wx.cell? ⟨SB,3,none⟩ = some (.int .i64 sh) ∧ wx.cell? ⟨SB,4,none⟩ = some (.int .i64 E) ∧ wx.cell? ⟨SB,5,none⟩ = some (.int .i64 M)) ∧ Bxs w wx [(F,#[.string e.name,.string kn,.int .i64 kq,.int .i64 kS,.int .i64 fr,.int .i64 bY,.int .i64 lv,.slice ra rn rc],47),(P,#[.slice (some ⟨pg,0,none⟩) (N1 + 1) pc,.int .i64 PFr,.int .i64 PBy],55),(B,#[.slice a1 ks.length c1,.slice a2 ps.length c2,.slice a3 es.length c3],29)]):=fun wx h => ⟨⟨h.cell 0 rfl 0,h.cell 0 rfl 1,h.cell 0 rfl 2,h.cell 0 rfl 3,h.cell 0 rfl 4,h.cell 0 rfl 5⟩,h.below,fun p hp => h.has p (List.mem_cons_of_mem _ hp)⟩
     obtain ⟨⟨s0,s1,s2,s3,s4,s5⟩,hbx⟩:=HWS.out _ XS.out.1
     obtain ⟨⟨g0,g1,g2,g3,g4,g5,g6⟩,r0,r1,r2⟩:=HW.out _ hbx
     clear hbx
     have hne:=Later.some w12
     have zS:=lt_of_cell s0
     have zF:=lt_of_cell g0
     have zP:=lt_of_cell r0
     refine wp_region_later (by kernel_rfl) (by kernel_rfl) ?_
     repeat (go_big_quiet_step (fail))
     refine wpQuiet_nil ?_
     rintro _ ⟨x,rfl⟩
     have XT:Hid (Bxs w x.val [(SB,#[.int .i64 sx,.int .i64 sy,.int .i64 sl,.int .i64 sh,.int .i64 E,.int .i64 M],65),(F,#[.string e.name,.string kn,.int .i64 kq,.int .i64 kS,.int .i64 fr,.int .i64 bY,.int .i64 lv,.slice ra rn rc],47),(P,#[.slice (some ⟨pg,0,none⟩) (N1 + 1) pc,.int .i64 PFr,.int .i64 PBy],55),(B,#[.slice a1 ks.length c1,.slice a2 ps.length c2,.slice a3 es.length c3],29)] ∧ PtAt x.val ug L ∧ StAt x.val (.slice (some ⟨pg,0,none⟩) (N1 + 1) pc) PS):=⟨XS.out.1.call x.below,XS.out.2.1.keep x.below,StAt_keep XS.out.2.2 x.below⟩
     clear s0 s1 s2 s3 s4 s5 g0 g1 g2 g3 g4 g5 g6 r0 r1 r2  hne zS zF zP hd1 hd2 hd3 hd4 hd5 XS HX HQ hlo hhi
     generalize x.val = w13 at *
     clear x
     obtain ⟨-,hbx⟩:=HWS.out _ XT.out.1
     obtain ⟨⟨g0,g1,g2,g3,g4,g5,g6⟩,r0,r1,r2⟩:=HW.out _ hbx
     obtain ⟨p0,hp0,hp1⟩:=XT.out.2.1 0 (by omega)
     have HTN:=toHid (tenth (show 0 ≤ kS - kq by omega) hp0 hp1)
     generalize iat L 0 = pn at *
     have hm1:0 ≤ (kS - kq) * pn:=Int.mul_nonneg (by omega) hp0
     have hm2:(kS - kq) * pn ≤ (kS - kq) * 10:=Int.mul_le_mul_of_nonneg_left hp1 (by omega)
     obtain ⟨hE1,hE2,-,-⟩:=HE.out
     obtain ⟨hu1,hu2,hu3⟩:=HMU.out 0 (by omega)
     have hmx:=HMX.out
     have hE0:0 ≤ E:=by omega
     have hM0:M ≤ 10000:=by omega
     obtain ⟨ht1,ht2⟩:=HTN.out
     have hv1:IntKind.i64.wrap (kS - kq) = kS - kq:=by rw [IntKind.wrap_i64]; omega
     have hv2:IntKind.i64.wrap ((kS - kq) * pn) = (kS - kq) * pn:=by rw [IntKind.wrap_i64]; omega
     have hv3:IntKind.i64.wrap (((kS - kq) * pn).tdiv 10) = ((kS - kq) * pn).tdiv 10:=by rw [IntKind.wrap_i64]; omega
     have hv4:IntKind.i64.wrap (T + kq) = T + kq:=by rw [IntKind.wrap_i64]; omega
     obtain ⟨T2,hT2⟩:∃ T2,T2 = T + kq + ((kS - kq) * pn).tdiv 10:=⟨_,rfl⟩
     have hv5:IntKind.i64.wrap (T + kq + ((kS - kq) * pn).tdiv 10) = T2:=by rw [IntKind.wrap_i64]; omega
     have hv6:IntKind.i64.wrap (E + kq) = E + kq:=by rw [IntKind.wrap_i64]; omega
     have hv7:IntKind.i64.wrap (M + kS) = M + kS:=by rw [IntKind.wrap_i64]; omega
     have hv8:IntKind.i64.wrap ((0:Int) + 1) = (0:Int) + 1:=by rw [IntKind.wrap_i64]; omega
     have hk9:((0 + 1:Nat):Int) = (0:Int) + 1:=by push_cast <;> omega
     have HNX:Hid (E + kq = fr + ((0 + 1:Nat):Int) * kq ∧ M + kS = bY + ((0 + 1:Nat):Int) * kS ∧ E + kq ≤ T2 ∧ T2 ≤ M + kS):=by
      refine ⟨?_,?_,by omega,by omega⟩
      ·rw [Int.natCast_add,Int.add_mul,hE1]; push_cast <;> omega
      ·rw [Int.natCast_add,Int.add_mul,hE2]; push_cast <;> omega
     clear hm1 hm2 hu1 hu2 hu3 hmx ht1 ht2 HTN hE1 hE2 hT2 HE hET hTM
     have zF:=lt_of_cell g0
     have zU:=lt_of_cell p0
     have hne:=Later.some w13
     have hi1:(0:Int) < (41:Int):=by omega
     go_wp2_with fail
     refine wp_region_later (by kernel_rfl) (by kernel_rfl) ?_
     repeat (go_big_quiet_step (fail))
     refine wpQuiet_nil ?_
     rintro _ ⟨x,rfl⟩
     have XU:Hid (Bxs w x.val [(F,#[.string e.name,.string kn,.int .i64 kq,.int .i64 kS,.int .i64 fr,.int .i64 bY,.int .i64 lv,.slice ra rn rc],47),(P,#[.slice (some ⟨pg,0,none⟩) (N1 + 1) pc,.int .i64 PFr,.int .i64 PBy],55),(B,#[.slice a1 ks.length c1,.slice a2 ps.length c2,.slice a3 es.length c3],29)] ∧ PtAt x.val ug L ∧ StAt x.val (.slice (some ⟨pg,0,none⟩) (N1 + 1) pc) PS):=⟨hbx.call x.below,XT.out.2.1.keep x.below,StAt_keep XT.out.2.2 x.below⟩
     clear g0 g1 g2 g3 g4 g5 g6 r0 r1 r2 p0 hp0 hp1 zF zU hne XT hbx hv1 hv2 hv3 hv4 hv5
     generalize x.val = w14 at *
     clear x
     obtain ⟨⟨g0,g1,g2,g3,g4,g5,g6⟩,r0,r1,r2⟩:=HW.out _ XU.out.1
     go_wp2_with fail
     exact ⟨⟨0 + 1,T2,E + kq,M + kS,by omega,rfl,rfl,rfl,by first | rfl | (rw [hk9]) | (congr 1),HNX,XU⟩,by simp [intOf] <;> omega⟩
    ·obtain ⟨j,rfl⟩:∃ j,k = j + 1:=⟨k - 1,by omega⟩
     clear hkz
     have XS:Hid (Bxs w (wr.alloc (.cells #[.int .i64 sx,.int .i64 sy,.int .i64 sl,.int .i64 sh,.int .i64 E,.int .i64 M] 65)) [(wr.heap.size,#[.int .i64 sx,.int .i64 sy,.int .i64 sl,.int .i64 sh,.int .i64 E,.int .i64 M],65),(F,#[.string e.name,.string kn,.int .i64 kq,.int .i64 kS,.int .i64 fr,.int .i64 bY,.int .i64 lv,.slice ra rn rc],47),(P,#[.slice (some ⟨pg,0,none⟩) (N1 + 1) pc,.int .i64 PFr,.int .i64 PBy],55),(B,#[.slice a1 ks.length c1,.slice a2 ps.length c2,.slice a3 es.length c3],29)] ∧ PtAt (wr.alloc (.cells #[.int .i64 sx,.int .i64 sy,.int .i64 sl,.int .i64 sh,.int .i64 E,.int .i64 M] 65)) ug L ∧ StAt (wr.alloc (.cells #[.int .i64 sx,.int .i64 sy,.int .i64 sl,.int .i64 sh,.int .i64 E,.int .i64 M] 65)) (.slice (some ⟨pg,0,none⟩) (N1 + 1) pc) PS):=by
      have hb:Below wr.heap.size wr (wr.alloc (.cells #[.int .i64 sx,.int .i64 sy,.int .i64 sl,.int .i64 sh,.int .i64 E,.int .i64 M] 65)):=(Below.refl _ _).alloc (Nat.le_refl _) _
      exact ⟨(HX.out.1.call hb).push (heap_newD wr _),HX.out.2.1.keep hb,StAt_keep HX.out.2.2 hb⟩
     have hk0:(0:Int) ≤ ((j:Int) + 1):=by omega
     have hk1:((j:Int) + 1) < (N1:Int) + 1:=by omega
     have hET:=HE.out.2.2.1
     have hTM:=HE.out.2.2.2
     have hd1:decide (T < E) = false:=by simp <;> omega
     have hd2:decide (M < T) = false:=by simp <;> omega
     have hd3:decide (sh < sl) = false:=by simp <;> omega
     have hd4:decide (lv < sh) = false:=by simp <;> omega
     have hd5:decide ((0:Int) < (j:Int) + 1) = true:=by simp <;> omega
     go_wp2_with fail
     clear g0 g1 g2 g3 g4 g5 g6 r0 r1 r2 z0 z1 z2 z3 z4 z5
     generalize (wr.alloc (.cells #[.int .i64 sx,.int .i64 sy,.int .i64 sl,.int .i64 sh,.int .i64 E,.int .i64 M] 65)) = w12 at *
     generalize wr.heap.size = SB at *
     have HWS:Hid (∀ wx:World,Bxs w wx [(SB,#[.int .i64 sx,.int .i64 sy,.int .i64 sl,.int .i64 sh,.int .i64 E,.int .i64 M],65),(F,#[.string e.name,.string kn,.int .i64 kq,.int .i64 kS,.int .i64 fr,.int .i64 bY,.int .i64 lv,.slice ra rn rc],47),(P,#[.slice (some ⟨pg,0,none⟩) (N1 + 1) pc,.int .i64 PFr,.int .i64 PBy],55),(B,#[.slice a1 ks.length c1,.slice a2 ps.length c2,.slice a3 es.length c3],29)] → (wx.cell? ⟨SB,0,none⟩ = some (.int .i64 sx) ∧ wx.cell? ⟨SB,1,none⟩ = some (.int .i64 sy) ∧ wx.cell? ⟨SB,2,none⟩ = some (.int .i64 sl) ∧ wx.cell? ⟨SB,3,none⟩ = some (.int .i64 sh) ∧ wx.cell? ⟨SB,4,none⟩ = some (.int .i64 E) ∧ wx.cell? ⟨SB,5,none⟩ = some (.int .i64 M)) ∧ Bxs w wx [(F,#[.string e.name,.string kn,.int .i64 kq,.int .i64 kS,.int .i64 fr,.int .i64 bY,.int .i64 lv,.slice ra rn rc],47),(P,#[.slice (some ⟨pg,0,none⟩) (N1 + 1) pc,.int .i64 PFr,.int .i64 PBy],55),(B,#[.slice a1 ks.length c1,.slice a2 ps.length c2,.slice a3 es.length c3],29)]):=fun wx h => ⟨⟨h.cell 0 rfl 0,h.cell 0 rfl 1,h.cell 0 rfl 2,h.cell 0 rfl 3,h.cell 0 rfl 4,h.cell 0 rfl 5⟩,h.below,fun p hp => h.has p (List.mem_cons_of_mem _ hp)⟩
     have GB:Hid (∀ (y:Later w12),Calls Tryz.prog 21 #[.agg #[.int .i64 (stpA cs lv fr bY kq kS j).x,.int .i64 (stpA cs lv fr bY kq kS j).y,.int .i64 (stpA cs lv fr bY kq kS j).lo,.int .i64 (stpA cs lv fr bY kq kS j).hi,.int .i64 (stpA cs lv fr bY kq kS j).fr,.int .i64 (stpA cs lv fr bY kq kS j).b],.agg #[.int .i64 sx,.int .i64 sy,.int .i64 sl,.int .i64 sh,.int .i64 E,.int .i64 M]] y.val fun e w'' => e = .returned (.bool true) ∧ ∃ z:Later w12,w'' = z.val):=fun y => Calls.later (wBehind_yes (stpA cs lv fr bY kq kS j) ⟨sx,sy,sl,sh,E,M⟩ y.val (by rw [← HQ.out]; exact stp_behind cs lv fr bY kq kS HCH.out j (by rw [HNN.out]; omega)))
     obtain ⟨⟨s0,s1,s2,s3,s4,s5⟩,hbx⟩:=HWS.out _ XS.out.1
     obtain ⟨⟨g0,g1,g2,g3,g4,g5,g6⟩,r0,r1,r2⟩:=HW.out _ hbx
     obtain ⟨⟨z0,z1,z2⟩,z3,z4,z5⟩:=HSQ.out _ XS.out.2.2 j (by omega)
     clear hbx
     generalize (stpA cs lv fr bY kq kS j).x = jx at *
     generalize (stpA cs lv fr bY kq kS j).y = jy at *
     generalize (stpA cs lv fr bY kq kS j).lo = jl at *
     generalize (stpA cs lv fr bY kq kS j).hi = jh at *
     generalize (stpA cs lv fr bY kq kS j).fr = jf at *
     generalize (stpA cs lv fr bY kq kS j).b = jb at *
     have hw1:IntKind.i64.wrap ((j:Int) + 1 - 1) = (j:Int):=by rw [IntKind.wrap_i64]; omega
     have hw3:IntKind.i64.wrap (j:Int) = (j:Int):=by rw [IntKind.wrap_i64]; omega
     have hj0:(0:Int) ≤ (j:Int):=by omega
     have hj1:(j:Int) < (N1:Int) + 1:=by omega
     have hjp:(0:Int) < (j:Int) + 1:=by omega
     have hne:=Later.some w12
     have zS:=lt_of_cell s0
     have zF:=lt_of_cell g0
     have zP:=lt_of_cell r0
     have zG:=lt_of_cell z0
     refine wp_region_later (by kernel_rfl) (by kernel_rfl) ?_
     repeat (go_big_quiet_step (first | (go_at_call 21; exact GB.out _)))
     refine wpQuiet_nil ?_
     rintro _ ⟨x,rfl⟩
     have XT:Hid (Bxs w x.val [(SB,#[.int .i64 sx,.int .i64 sy,.int .i64 sl,.int .i64 sh,.int .i64 E,.int .i64 M],65),(F,#[.string e.name,.string kn,.int .i64 kq,.int .i64 kS,.int .i64 fr,.int .i64 bY,.int .i64 lv,.slice ra rn rc],47),(P,#[.slice (some ⟨pg,0,none⟩) (N1 + 1) pc,.int .i64 PFr,.int .i64 PBy],55),(B,#[.slice a1 ks.length c1,.slice a2 ps.length c2,.slice a3 es.length c3],29)] ∧ PtAt x.val ug L ∧ StAt x.val (.slice (some ⟨pg,0,none⟩) (N1 + 1) pc) PS):=⟨XS.out.1.call x.below,XS.out.2.1.keep x.below,StAt_keep XS.out.2.2 x.below⟩
     clear s0 s1 s2 s3 s4 s5 g0 g1 g2 g3 g4 g5 g6 r0 r1 r2 z0 z1 z2 z3 z4 z5 zG hw1 hw3 hj0 hj1 hjp GB hne zS zF zP hd1 hd2 hd3 hd4 hd5 XS HX HQ hlo hhi
     generalize x.val = w13 at *
     clear x
     obtain ⟨-,hbx⟩:=HWS.out _ XT.out.1
     obtain ⟨⟨g0,g1,g2,g3,g4,g5,g6⟩,r0,r1,r2⟩:=HW.out _ hbx
     obtain ⟨p0,hp0,hp1⟩:=XT.out.2.1 (j + 1) (by omega)
     have HTN:=toHid (tenth (show 0 ≤ kS - kq by omega) hp0 hp1)
     generalize iat L (j + 1) = pn at *
     have hm1:0 ≤ (kS - kq) * pn:=Int.mul_nonneg (by omega) hp0
     have hm2:(kS - kq) * pn ≤ (kS - kq) * 10:=Int.mul_le_mul_of_nonneg_left hp1 (by omega)
     obtain ⟨hE1,hE2,-,-⟩:=HE.out
     obtain ⟨hu1,hu2,hu3⟩:=HMU.out (j + 1) (by omega)
     have hmx:=HMX.out
     have hE0:0 ≤ E:=by omega
     have hM0:M ≤ 10000:=by omega
     obtain ⟨ht1,ht2⟩:=HTN.out
     have hv1:IntKind.i64.wrap (kS - kq) = kS - kq:=by rw [IntKind.wrap_i64]; omega
     have hv2:IntKind.i64.wrap ((kS - kq) * pn) = (kS - kq) * pn:=by rw [IntKind.wrap_i64]; omega
     have hv3:IntKind.i64.wrap (((kS - kq) * pn).tdiv 10) = ((kS - kq) * pn).tdiv 10:=by rw [IntKind.wrap_i64]; omega
     have hv4:IntKind.i64.wrap (T + kq) = T + kq:=by rw [IntKind.wrap_i64]; omega
     obtain ⟨T2,hT2⟩:∃ T2,T2 = T + kq + ((kS - kq) * pn).tdiv 10:=⟨_,rfl⟩
     have hv5:IntKind.i64.wrap (T + kq + ((kS - kq) * pn).tdiv 10) = T2:=by rw [IntKind.wrap_i64]; omega
     have hv6:IntKind.i64.wrap (E + kq) = E + kq:=by rw [IntKind.wrap_i64]; omega
     have hv7:IntKind.i64.wrap (M + kS) = M + kS:=by rw [IntKind.wrap_i64]; omega
     have hv8:IntKind.i64.wrap (((j:Int) + 1) + 1) = ((j:Int) + 1) + 1:=by rw [IntKind.wrap_i64]; omega
     have hk9:(((j + 1) + 1:Nat):Int) = ((j:Int) + 1) + 1:=by push_cast <;> omega
     have HNX:Hid (E + kq = fr + (((j + 1) + 1:Nat):Int) * kq ∧ M + kS = bY + (((j + 1) + 1:Nat):Int) * kS ∧ E + kq ≤ T2 ∧ T2 ≤ M + kS):=by
      refine ⟨?_,?_,by omega,by omega⟩
      ·rw [Int.natCast_add,Int.add_mul,hE1]; push_cast <;> omega
      ·rw [Int.natCast_add,Int.add_mul,hE2]; push_cast <;> omega
     clear hm1 hm2 hu1 hu2 hu3 hmx ht1 ht2 HTN hE1 hE2 hT2 HE hET hTM
     have zF:=lt_of_cell g0
     have zU:=lt_of_cell p0
     have hne:=Later.some w13
     have hi1:((j:Int) + 1) < (41:Int):=by omega
     go_wp2_with fail
     refine wp_region_later (by kernel_rfl) (by kernel_rfl) ?_
     repeat (go_big_quiet_step (fail))
     refine wpQuiet_nil ?_
     rintro _ ⟨x,rfl⟩
     have XU:Hid (Bxs w x.val [(F,#[.string e.name,.string kn,.int .i64 kq,.int .i64 kS,.int .i64 fr,.int .i64 bY,.int .i64 lv,.slice ra rn rc],47),(P,#[.slice (some ⟨pg,0,none⟩) (N1 + 1) pc,.int .i64 PFr,.int .i64 PBy],55),(B,#[.slice a1 ks.length c1,.slice a2 ps.length c2,.slice a3 es.length c3],29)] ∧ PtAt x.val ug L ∧ StAt x.val (.slice (some ⟨pg,0,none⟩) (N1 + 1) pc) PS):=⟨hbx.call x.below,XT.out.2.1.keep x.below,StAt_keep XT.out.2.2 x.below⟩
     clear g0 g1 g2 g3 g4 g5 g6 r0 r1 r2 p0 hp0 hp1 zF zU hne XT hbx hv1 hv2 hv3 hv4 hv5
     generalize x.val = w14 at *
     clear x
     obtain ⟨⟨g0,g1,g2,g3,g4,g5,g6⟩,r0,r1,r2⟩:=HW.out _ XU.out.1
     go_wp2_with fail
     exact ⟨⟨(j + 1) + 1,T2,E + kq,M + kS,by omega,rfl,rfl,rfl,by first | rfl | (rw [hk9]) | (congr 1),HNX,XU⟩,by simp [intOf] <;> omega⟩
   ·have hke:k = N1 + 1:=by omega
    subst hke
    obtain ⟨hE1,hE2,hE3,hE4⟩:=HE.out
    have e1:E = PFr:=by rw [hE1,Q3.out,HNN.out]
    have e2:M = PBy:=by rw [hE2,Q4.out,HNN.out]
    subst e1
    subst e2
    have hd1:decide (E ≤ T) = true:=by simp <;> omega
    have hd2:decide (T ≤ M) = true:=by simp <;> omega
    have HBL:=toHid HX.out.1.below
    clear HX HE hE1 hE2
    go_wp2_with fail
    exact bodyPost_ret (v:=.bool true) (by simp [results,Tryz.results4,go_sem]) rfl ⟨rfl,HBL.out⟩
 ·have hcb:(PC == 0) = false:=by rw [beq_eq_false_iff_ne]; exact hc
  obtain ⟨e1,e2,e3⟩:=F0.out hc
  have GE:Hid (Calls Tryz.prog 20 #[.agg #[.slice pa PS.length pc,.int .i64 PFr,.int .i64 PBy],.agg #[.slice none 0 0,.int .i64 0,.int .i64 0]] w7 fun e w'' => e = .returned (.bool true) ∧ Below w7.heap.size w7 w''):=by
   have hz:StAt w7 (.slice none 0 0) PS:=by rw [e1]; exact ⟨none,0,rfl,Nat.le_refl _,Nat.zero_le _,fun i e he => by simp at he⟩
   have h:=wPath_same _ _ PS PFr PBy w7 X7.out.2.2.2 hz (by omega)
   rw [e2,e3] at h ⊢
   exact h
  have HBL:=toHid X7.out.1.below
  clear hc e1 e2 e3 F0 F1 X7
  go_wp2_with fail
  clear r0 r1 r2
  refine GE.out.mono ?_
  rintro e w8 ⟨rfl,hb8⟩
  go_wp2_with fail
  exact bodyPost_ret (v:=.bool true) (by simp [results,Tryz.results4,go_sem]) rfl ⟨rfl,below_step HBL.out hb8⟩
end Go.Proofs.YtbjmgglpiakgdaaGreatDoor.Dr
