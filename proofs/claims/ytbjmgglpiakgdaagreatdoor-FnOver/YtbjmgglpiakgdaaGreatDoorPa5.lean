import Derived.Test.YtbjmgglpiakgdaaGreatDoorPa4
import Derived.Test.YtbjmgglpiakgdaaGreatDoorPa3
set_option linter.unusedSimpArgs false
set_option linter.unusedVariables false
namespace Go.Proofs.YtbjmgglpiakgdaaGreatDoor.Pa
open Go.RowKit Go.Proofs.YtbjmgglpiakgdaaGreatDoor Go.Proofs.YtbjmgglpiakgdaaGreatDoor.Sd
theorem path_zero {ks ps:List Tri} {es:List Ent} {nm:ByteArray} (h:(pathR ks ps es nm).c=0):∃ e,standR ks ps es nm=some e∧pathR ks ps es nm=pathE ks ps e∧FlOk (kdOf ks (lastV e.fs 1)) (frOf (lastV e.fs 2)) (byOf (lastV e.fs 2)) (lvOf (lastV e.fs 3))∧1≤(cellsL ps (rtW e)).length∧(cellsL ps (rtW e)).length≤40∧Ch (cellsL ps (rtW e))∧byOf (lastV e.fs 2)+((cellsL ps (rtW e)).length:Int) * (kdOf ks (lastV e.fs 1)).y≤10000∧pathE ks ps e=⟨0,stpTo (cellsL ps (rtW e)) (lvOf (lastV e.fs 3)) (frOf (lastV e.fs 2)) (byOf (lastV e.fs 2)) (kdOf ks (lastV e.fs 1)).x (kdOf ks (lastV e.fs 1)).y (cellsL ps (rtW e)).length,frOf (lastV e.fs 2)+((cellsL ps (rtW e)).length:Int) * (kdOf ks (lastV e.fs 1)).x,byOf (lastV e.fs 2)+((cellsL ps (rtW e)).length:Int) * (kdOf ks (lastV e.fs 1)).y⟩:=by
 have h0:=h
 unfold pathR at h0
 cases hb:bookB ks ps es with
 | false=>rw [hb] at h0; simp at h0
 | true =>
  rw [hb] at h0
  simp only [cond_true] at h0
  cases hs:standR ks ps es nm with
  | none=>rw [hs] at h0; simp at h0
  | some e =>
   rw [hs] at h0
   dsimp only at h0
   obtain ⟨-,-,⟨f,hf,hrt⟩,hr,hfl⟩:=stand_ok hs
   have hp:pathR ks ps es nm=pathE ks ps e:=by
    unfold pathR
    rw [hb,hs]
    rfl
   have hE:=h0
   unfold pathE at hE
   cases hc:cellsOkB ks ps (rtW e) with
   | false=>rw [hc] at hE; simp at hE
   | true =>
    rw [hc] at hE
    simp only [cond_true] at hE
    by_cases hg:10000 < byOf (lastV e.fs 2)+((cellsL ps (rtW e)).length:Int) * (kdOf ks (lastV e.fs 1)).y
    ·rw [decide_eq_true hg] at hE; simp at hE
    ·have hl2:2≤(rtW e).length:=(route_all hr).1.1
     have h40:(cellsL ps (rtW e)).length≤40:=by
      unfold cellsOkB at hc
      rw [Bool.and_eq_true] at hc
      exact of_decide_eq_true hc.2
     have hch:Ch (cellsL ps (rtW e)):=by
      unfold cellsL
      obtain ⟨n,hn⟩:∃ n,(rtW e).length=n+1:=⟨(rtW e).length - 1,by omega⟩
      rw [hn]
      exact (along_ch _ n).1
     refine ⟨e,rfl,hp,hfl,cellsL_pos hl2,h40,hch,by omega,?_⟩
     unfold pathE
     rw [hc,decide_eq_false hg]
     rfl
end Go.Proofs.YtbjmgglpiakgdaaGreatDoor.Pa
namespace Go.Proofs.YtbjmgglpiakgdaaGreatDoor.Pa
open Go.RowKit Go.Proofs.YtbjmgglpiakgdaaGreatDoor Go.Proofs.YtbjmgglpiakgdaaGreatDoor.Sd
theorem legS_rev (a b:Cel):legS b a=(legS a b).reverse:=by
 unfold legS
 cases h:lesser a b
 ·cases h2:lesser b a
  ·obtain rfl:=lesser_none h h2
   have h0:legN a a=0:=by simp [legN,maxI,absI]
   simp [legU,h0]
  ·simp
 ·rw [lesser_swap h]; simp
theorem legS_head (a b:Cel):legS a b=a :: legI a b:=by
 have h:=leg_same a b
 have h0:(legS a b)[0]?=some a:=by
  unfold legS
  cases h2:lesser b a
  ·simp [legU]
  ·have hp:=lesser_pos h2
   simp only [cond_true]
   rw [List.getElem?_reverse (by rw [legU_len]; omega),legU_len,Nat.add_sub_cancel,Nat.sub_zero,legU_get b a _ hp (by omega),Int.toNat_of_nonneg (by omega),celS_end b a hp]
 cases hl:legS a b with
 | nil=>rw [hl] at h0; simp at h0
 | cons x l =>
  rw [hl] at h0 h
  simp only [List.getElem?_cons_zero,Option.some.injEq] at h0
  rw [List.drop_succ_cons,List.drop_zero] at h
  rw [h0,h]
theorem legI_rev (a b:Cel):(legI a b).reverse ++ [a]=b :: legI b a:=by
 have h:=legS_rev a b
 rw [legS_head,legS_head] at h
 rw [h]
 simp
theorem alongTo_front (n:Nat) (t:Nat→Cel):alongTo t (n+2)=t 0 :: (legI (t 0) (t 1) ++ (alongTo (fun k=>t (k+1)) (n+1)).drop 1):=by
 induction n with
 | zero=>simp [alongTo]
 | succ n ih =>
  have e:alongTo t (n+1+2)=alongTo t (n+2) ++ legI (t (n+1)) (t (n+2)):=rfl
  have e2:alongTo (fun k=>t (k+1)) (n+1+1)=alongTo (fun k=>t (k+1)) (n+1) ++ legI (t (n+1)) (t (n+2)):=rfl
  rw [e,ih,e2,List.drop_append_of_le_length (along_ch _ n).2.1]
  simp
theorem alongTo_head (n:Nat) (t:Nat→Cel):∃ l,alongTo t (n+1)=t 0 :: l:=by
 cases n with
 | zero=>exact ⟨[],rfl⟩
 | succ n=>exact ⟨_,alongTo_front n t⟩
theorem alongTo_congr (n:Nat) {t s:Nat→Cel} (h:∀ k,k < n→t k=s k):alongTo t n=alongTo s n:=by
 induction n with
 | zero=>rfl
 | succ n ih =>
  cases n with
  | zero=>show [t 0]=[s 0]; rw [h 0 (by omega)]
  | succ n =>
   show alongTo t (n+1) ++ legI (t n) (t (n+1))=alongTo s (n+1) ++ legI (s n) (s (n+1))
   rw [ih fun k hk=>h k (by omega),h n (by omega),h (n+1) (by omega)]
theorem alongTo_rev (n:Nat) (t:Nat→Cel):(alongTo t (n+1)).reverse=alongTo (fun k=>t (n - k)) (n+1):=by
 induction n generalizing t with
 | zero=>rfl
 | succ n ih =>
  have e:alongTo t (n+2)=alongTo t (n+1) ++ legI (t n) (t (n+1)):=rfl
  have e2:(fun k=>t (n+1 - (k+1)))=(fun k=>t (n - k)):=by funext k; rw [Nat.add_sub_add_right]
  obtain ⟨l,hl⟩:=alongTo_head n (fun k=>t (n - k))
  have h:=ih t
  rw [alongTo_front n (fun k=>t (n+1 - k)),e,List.reverse_append,h]
  simp only [e2,Nat.sub_zero,Nat.add_sub_cancel]
  rw [hl]
  simp only [Nat.sub_zero,List.drop_succ_cons,List.drop_zero]
  have hr:=legI_rev (t n) (t (n+1))
  rw [List.append_cons,hr]
  simp
theorem tat_rev {l:List Cel} {k:Nat} (hk:k < l.length):tat l.reverse k=tat l (l.length - 1 - k):=by
 unfold tat
 rw [List.getD_eq_getElem?_getD,List.getD_eq_getElem?_getD,List.getElem?_reverse hk]
theorem turns_len (ps:List Tri) (ws:List ByteArray):(turns ps ws).length=ws.length:=by simp [turns]
theorem cellsL_rev (ps:List Tri) (ws:List ByteArray):cellsL ps ws.reverse=(cellsL ps ws).reverse:=by
 unfold cellsL
 rw [List.length_reverse]
 cases hn:ws.length with
 | zero=>rfl
 | succ n =>
  rw [alongTo_rev]
  refine alongTo_congr _ fun k hk=>?_
  have e:turns ps ws.reverse=(turns ps ws).reverse:=by simp [turns]
  rw [e,tat_rev (by rw [turns_len]; omega),turns_len,hn,Nat.add_sub_cancel]
theorem wat_rev {l:List ByteArray} {k:Nat} (hk:k < l.length):wat l.reverse k=wat l (l.length - 1 - k):=by
 unfold wat
 rw [List.getD_eq_getElem?_getD,List.getD_eq_getElem?_getD,List.getElem?_reverse hk]
theorem route_iff (ps:List Tri) (ws:List ByteArray):routeB ps ws=true ↔ (2≤ws.length∧ws.length≤8)∧(∀ i,i < ws.length→hasB ps (wat ws i)=true)∧∀ i,i+1 < ws.length→wat ws i ≠ wat ws (i+1):=by
 constructor
 ·intro h
  refine ⟨(route_all h).1,(route_all h).2,fun i hi=>?_⟩
  unfold routeB at h
  rw [Bool.and_eq_true] at h
  have:=allB_get h.2 (i+1) hi
  unfold stepB at this
  rw [Nat.add_sub_cancel] at this
  simpa using (Bool.and_eq_true _ _ |>.mp this).2
 ·rintro ⟨h1,h2,h3⟩
  unfold routeB
  rw [Bool.and_eq_true]
  refine ⟨by unfold inB; simp; omega,allB_true fun i hi=>?_⟩
  unfold stepB
  rw [h2 i hi]
  cases i with
  | zero=>rfl
  | succ i=>simpa using h3 i hi
theorem route_rev1 {ps:List Tri} {ws:List ByteArray} (h:routeB ps ws=true):routeB ps ws.reverse=true:=by
 obtain ⟨h1,h2,h3⟩:=(route_iff ps ws).1 h
 refine (route_iff ps ws.reverse).2 ⟨by rw [List.length_reverse]; exact h1,fun i hi=>?_,fun i hi=>?_⟩
 ·rw [List.length_reverse] at hi
  rw [wat_rev hi]
  exact h2 _ (by omega)
 ·rw [List.length_reverse] at hi
  rw [wat_rev hi,wat_rev (show i < ws.length by omega)]
  have:=h3 (ws.length - 1 - (i+1)) (by omega)
  rw [show ws.length - 1 - (i+1)+1=ws.length - 1 - i by omega] at this
  exact fun hc=>this hc.symm
theorem route_rev (ps:List Tri) (ws:List ByteArray):routeB ps ws.reverse=routeB ps ws:=by
 cases h:routeB ps ws with
 | true=>exact route_rev1 h
 | false =>
  cases h2:routeB ps ws.reverse with
  | false=>rfl
  | true =>
   have:=route_rev1 h2
   rw [List.reverse_reverse,h] at this
   cases this
theorem cellsOk_rev (ks ps:List Tri) (ws:List ByteArray):cellsOkB ks ps ws.reverse=cellsOkB ks ps ws:=by
 unfold cellsOkB
 rw [route_rev,cellsL_rev,List.length_reverse]
theorem cellsR_rev (ks ps:List Tri) (ws:List ByteArray):cellsR ks ps ws.reverse=(cellsR ks ps ws).reverse:=by
 unfold cellsR
 rw [cellsOk_rev,cellsL_rev]
 cases cellsOkB ks ps ws <;> rfl
theorem along_mem (t:Nat→Cel) (k:Nat):∀ n,k < n→∃ i,i < (alongTo t n).length∧tat (alongTo t n) i=t k
 | 0,h=>absurd h (by omega)
 | n+1,h=>by
  by_cases hk:k=n
  ·subst hk
   obtain ⟨-,h1,h2⟩:=along_ch t k
   exact ⟨_,by omega,h2⟩
  ·cases n with
   | zero=>omega
   | succ n =>
    obtain ⟨i,hi,e⟩:=along_mem t k (n+1) (by omega)
    refine ⟨i,?_,?_⟩
    ·show i < (alongTo t (n+1) ++ legI (t n) (t (n+1))).length
     rw [List.length_append]
     omega
    ·show tat (alongTo t (n+1) ++ legI (t n) (t (n+1))) i=t k
     rw [tat_left hi,e]
theorem overL_yes {l:List Stp} {b x y:Int} {k:Nat} (hk:k < l.length) (h:atC x y (sat l k)=true):(overL l b x y).2.2=true:=by
 unfold overL
 have:l.findIdx (atC x y) < l.length:=List.findIdx_lt_length_of_exists ⟨l[k],List.getElem_mem _,by simpa [sat,hk] using h⟩
 rw [decide_eq_true this]
 rfl
theorem over_route {ks ps:List Tri} {es:List Ent} {nm:ByteArray} {e:Ent} (h:(pathR ks ps es nm).c=0) (hs:standR ks ps es nm=some e) (i:Nat) (hi:i < (rtW e).length):(overR ks ps es nm (wat (rtW e) i)).2.2=true:=by
 obtain ⟨e',hs',hp,-,-,-,-,-,hE⟩:=path_zero h
 rw [hs] at hs'
 cases hs'
 obtain ⟨-,-,-,hr,-⟩:=stand_ok hs
 have hh:=(route_all hr).2 i hi
 unfold overR
 rw [decide_eq_true h,hh]
 simp only [Bool.and_self,cond_true]
 rw [hp,hE]
 dsimp only
 have hm:∃ j,j < (cellsL ps (rtW e)).length∧tat (cellsL ps (rtW e)) j=celOf ps (wat (rtW e) i):=by
  unfold cellsL
  obtain ⟨j,hj,ej⟩:=along_mem (tat (turns ps (rtW e))) i (rtW e).length hi
  refine ⟨j,hj,ej.trans ?_⟩
  simp [tat,turns,wat,hi]
 obtain ⟨j,hj,ej⟩:=hm
 refine overL_yes (k:=j) (by rw [stpTo_len]; exact hj) ?_
 rw [stpTo_at _ _ _ _ _ _ _ _ hj]
 unfold atC stpA
 dsimp only
 rw [ej]
 simp
theorem over_le (ks ps:List Tri) (es:List Ent) (nm pt:ByteArray):(overR ks ps es nm pt).1≤(overR ks ps es nm pt).2.1:=by
 unfold overR
 by_cases h:(pathR ks ps es nm).c=0
 ·rw [decide_eq_true h]
  cases hasB ps pt
  ·simp
  simp only [Bool.and_self,cond_true]
  obtain ⟨e,hs,hp,⟨f1,f2,f3,f4,f5,f6,f7,f8⟩,-,-,-,-,hE⟩:=path_zero h
  rw [hp,hE]
  dsimp only
  generalize cellsL ps (rtW e)=cs at *
  unfold overL
  generalize hF:(stpTo cs (lvOf (lastV e.fs 3)) (frOf (lastV e.fs 2)) (byOf (lastV e.fs 2)) (kdOf ks (lastV e.fs 1)).x (kdOf ks (lastV e.fs 1)).y cs.length).findIdx _=F
  by_cases hl:F < (stpTo cs (lvOf (lastV e.fs 3)) (frOf (lastV e.fs 2)) (byOf (lastV e.fs 2)) (kdOf ks (lastV e.fs 1)).x (kdOf ks (lastV e.fs 1)).y cs.length).length
  ·rw [decide_eq_true hl]
   simp only [cond_true]
   rw [stpTo_len] at hl
   have h1:leaveA (stpTo cs (lvOf (lastV e.fs 3)) (frOf (lastV e.fs 2)) (byOf (lastV e.fs 2)) (kdOf ks (lastV e.fs 1)).x (kdOf ks (lastV e.fs 1)).y cs.length) (byOf (lastV e.fs 2)+(cs.length:Int) * (kdOf ks (lastV e.fs 1)).y) F=byOf (lastV e.fs 2)+((F+1:Nat):Int) * (kdOf ks (lastV e.fs 1)).y:=by
    unfold leaveA
    rw [stpTo_len]
    by_cases hn:F+1 < cs.length
    ·rw [if_pos hn,stpTo_at _ _ _ _ _ _ _ _ hn]
     rfl
    ·rw [if_neg hn,show cs.length=F+1 by omega]
   rw [h1,stpTo_at _ _ _ _ _ _ _ _ hl]
   show frOf (lastV e.fs 2)+(F:Int) * (kdOf ks (lastV e.fs 1)).x≤_
   have h2:(F:Int) * (kdOf ks (lastV e.fs 1)).x≤(F:Int) * (kdOf ks (lastV e.fs 1)).y:=Int.mul_le_mul_of_nonneg_left f2 (by omega)
   have h3:((F+1:Nat):Int) * (kdOf ks (lastV e.fs 1)).y=(F:Int) * (kdOf ks (lastV e.fs 1)).y+(kdOf ks (lastV e.fs 1)).y:=by rw [Int.natCast_add,Int.add_mul]; simp
   omega
  ·rw [decide_eq_false hl]
   simp
 ·rw [decide_eq_false h]
  simp
open Go.RowKit Go.Proofs.YtbjmgglpiakgdaaGreatDoor Go.Proofs.YtbjmgglpiakgdaaGreatDoor.Sd
attribute [local go_sem] Later.cell Later.frozen
theorem path_ok {ks ps:List Tri} {es:List Ent} {nm:ByteArray} (h:(pathR ks ps es nm).c=0):pointsB ps=true:=by
 cases hb:bookB ks ps es with
 | false=>unfold pathR at h; rw [hb] at h; simp at h
 | true =>
  unfold bookB baseB at hb
  rw [Bool.and_eq_true,Bool.and_eq_true] at hb
  exact hb.1.2
set_option maxRecDepth 100000 in
set_option maxHeartbeats 6400000 in
theorem specOver_any (vk vp ve:Value) (ks ps:List Tri) (es:List Ent) (nm pt:ByteArray) (w:World) (hB:BookAt w vk vp ve ks ps es) (nB:BNames ks ps es) (sB:BSmall ks ps es) :
  Calls Tryz.prog 24 #[.agg #[vk,vp,ve],.string nm,.string pt] w fun e w'=>e=.returned (.tuple #[.int .i64 (overR ks ps es nm pt).1,.int .i64 (overR ks ps es nm pt).2.1,.bool (overR ks ps es nm pt).2.2])∧Below w.heap.size w w':=by
 have HB:Hid (∀ wx:World,Below w.heap.size w wx→BookAt wx vk vp ve ks ps es):=fun wx hx=>hB.keep hx
 have GPT:Hid (∀ wx:World,Below w.heap.size w wx→Calls Tryz.prog 61 #[.agg #[vk,vp],.string pt] wx fun e w'=>e=.returned (.int .i64 (atI ps pt))∧Below wx.heap.size wx w'):=fun wx hx=>l1Point_any vk vp ps pt wx (hB.p.keep hx)
 obtain ⟨⟨ak,ck,rfl,-,-,-⟩,⟨ap,cp,rfl,hp1,hp2,-⟩,⟨ae,ce,rfl,he1,he2,-⟩⟩:=hB
 unfold maxLen at he2 hp2
 have A1:Hid (Below w.heap.size w (w.alloc (.cells #[.slice ak ks.length ck,.slice ap ps.length cp,.slice ae es.length ce] 29))):=(Below.refl _ _).alloc (Nat.le_refl _) _
 have Q0:Hid (∀ wx:World,Below (w.alloc (.cells #[.slice ak ks.length ck,.slice ap ps.length cp,.slice ae es.length ce] 29)).heap.size (w.alloc (.cells #[.slice ak ks.length ck,.slice ap ps.length cp,.slice ae es.length ce] 29)) wx→(wx.cell? ⟨w.heap.size,0,none⟩=some (.slice ak ks.length ck)∧wx.cell? ⟨w.heap.size,1,none⟩=some (.slice ap ps.length cp)∧wx.cell? ⟨w.heap.size,2,none⟩=some (.slice ae es.length ce))):=fun wx hx=>⟨cell_keep hx (Nat.le_refl _) (by simp [go_sem]),cell_keep hx (Nat.le_refl _) (by simp [go_sem]),cell_keep hx (Nat.le_refl _) (by simp [go_sem])⟩
 obtain ⟨p0,p1,p2⟩:=Q0.out _ (Below.refl _ _)
 have HLV:Hid ((pathR ks ps es nm).c=0→∀ k,k < (pathR ks ps es nm).st.length→-1000000≤leaveA (pathR ks ps es nm).st (pathR ks ps es nm).b k∧leaveA (pathR ks ps es nm).st (pathR ks ps es nm).b k≤1000000):=path_leave
 have HOV:Hid (overR ks ps es nm pt=bif decide ((pathR ks ps es nm).c=0) && hasB ps pt then overL (pathR ks ps es nm).st (pathR ks ps es nm).b (celOf ps pt).x (celOf ps pt).y else (0,0,false)):=rfl
 have HPO:Hid ((pathR ks ps es nm).c=0→pointsB ps=true):=path_ok
 go_enter Tryz.func24,Tryz.ntmps24
 go_wp2_with fail
 generalize (w.alloc (.cells #[.slice ak ks.length ck,.slice ap ps.length cp,.slice ae es.length ce] 29))=w1 at *
 refine (specPathOf_any _ _ _ ks ps es nm _ (HB.out _ A1.out) nB sB).mono ?_
 rintro e w2 ⟨v,rfl,hv,hb2⟩
 have B2:Hid (Below w1.heap.size w1 w2):=hb2
 generalize pathR ks ps es nm=pr at *
 obtain ⟨pc,st,pf,pb⟩:=pr
 dsimp only at hv HLV HOV HPO ⊢
 obtain ⟨sa,sc,rfl⟩:=ownC_slice hv
 have V2:Hid (StAt w2 (.slice sa st.length sc) st):=hv.at
 clear hv hb2
 have B3:Hid (Below w2.heap.size w2 (w2.alloc (.cells #[.slice sa st.length sc,.int .i64 pf,.int .i64 pb] 55))):=(Below.refl _ _).alloc (Nat.le_refl _) _
 have P3:Hid ((w2.alloc (.cells #[.slice sa st.length sc,.int .i64 pf,.int .i64 pb] 55)).heap[w2.heap.size]?=some (.cells #[.slice sa st.length sc,.int .i64 pf,.int .i64 pb] 55 (0,0))):=Lv.heap_newF w2 _
 have B13:Hid (Below w1.heap.size w1 (w2.alloc (.cells #[.slice sa st.length sc,.int .i64 pf,.int .i64 pb] 55))):=below_step B2.out B3.out
 clear p0 p1 p2
 obtain ⟨p0,p1,p2⟩:=Q0.out _ B13.out
 obtain ⟨p0',p1',p2'⟩:=Q0.out _ B2.out
 have zw:=lt_of_cell p0'
 go_wp2_with fail
 generalize (w2.alloc (.cells #[.slice sa st.length sc,.int .i64 pf,.int .i64 pb] 55))=w3 at *
 refine (GPT.out _ (below_step A1.out B13.out)).mono ?_
 rintro e w4 ⟨rfl,hb4⟩
 have B4:Hid (Below w3.heap.size w3 w4):=hb4
 clear hb4 p0 p1 p2 p0' p1' p2'
 by_cases hc0:pc=0
 ·subst hc0
  have HPP:=Lv.toHid (HPO.out (by trivial))
  cases hh:hasB ps pt
  ·have HE:Hid (overR ks ps es nm pt=(0,0,false)):=by show _=_; rw [HOV.out,hh]; simp
   have hat:atI ps pt < 0:=by
    have h1:=atI_no ps pt
    rw [← has_mem (points_asc HPP.out),hh] at h1
    simpa using h1
   clear hh
   generalize atI ps pt=ai at *
   go_wp2
   go_ret3
   exact ⟨by rw [HE.out]; rfl,below_step A1.out (below_step B13.out B4.out)⟩
  ·have hpl:plc ps pt < ps.length:=by
    unfold hasB at hh
    rw [Bool.and_eq_true] at hh
    exact of_decide_eq_true hh.1
   have HE:Hid (overR ks ps es nm pt=overL st pb (celOf ps pt).x (celOf ps pt).y):=by show _=_; rw [HOV.out,hh]; rfl
   have HCE:Hid (celOf ps pt=⟨(at' ps (plc ps pt)).x,(at' ps (plc ps pt)).y⟩):=rfl
   have HLE:=Lv.toHid (HLV.out (by trivial))
   rw [Sd.atI_plc (points_asc HPP.out) hh]
   clear hh HLV HOV HPO HPP
   obtain ⟨ap',cp',hea,-,-,hpc⟩:=(HB.out _ (Below.refl _ _)).p
   obtain ⟨bP,oP,hap,-⟩:=hpc (plc ps pt) _ (at_get hpl)
   cases hea
   subst hap
   have HPT:Hid (∀ wx:World,Below w.heap.size w wx→wx.cell? ⟨bP,oP+plc ps pt * 3,none⟩=some (.string (at' ps (plc ps pt)).s)∧wx.cell? ⟨bP,oP+plc ps pt * 3+1,none⟩=some (.int .i64 (at' ps (plc ps pt)).x)∧wx.cell? ⟨bP,oP+plc ps pt * 3+2,none⟩=some (.int .i64 (at' ps (plc ps pt)).y)):=fun wx hx=>by
    obtain ⟨b',o',hap',d0,d1,d2⟩:=hpc (plc ps pt) _ (at_get hpl)
    cases hap'
    exact ⟨cell_keep hx (Nat.le_refl _) d0,cell_keep hx (Nat.le_refl _) d1,cell_keep hx (Nat.le_refl _) d2⟩
   clear hpc
   have hj0:(0:Int)≤((plc ps pt:Nat):Int):=by omega
   have hjn:¬ ((plc ps pt:Nat):Int) < 0:=by omega
   have hj1:((plc ps pt:Nat):Int) < (ps.length:Int):=by omega
   have HFI:Hid (overR ks ps es nm pt=overL st pb (at' ps (plc ps pt)).x (at' ps (plc ps pt)).y):=by show _=_; rw [HE.out,HCE.out]
   clear HE HCE
   generalize at' ps (plc ps pt)=tr at *
   generalize plc ps pt=j at *
   have HSS:Hid (∀ wx:World,Below w3.heap.size w3 wx→(wx.cell? ⟨w2.heap.size,0,none⟩=some (.slice sa st.length sc)∧wx.cell? ⟨w2.heap.size,2,none⟩=some (.int .i64 pb))∧wx.cell? ⟨w.heap.size,1,none⟩=some (.slice (some ⟨bP,oP,none⟩) ps.length cp)∧wx.cell? ⟨bP,oP+j * 3+1,none⟩=some (.int .i64 tr.x)∧wx.cell? ⟨bP,oP+j * 3+2,none⟩=some (.int .i64 tr.y)):=fun wx hx=>by
    have h:=below_block hx P3.out
    exact ⟨⟨cell_blk h rfl,cell_blk h rfl⟩,(Q0.out _ (below_step B13.out hx)).2.1,(HPT.out _ (below_step A1.out (below_step B13.out hx))).2⟩
   go_wp2
   go_loopw [12] (fun i wr=>∃ k:Nat,k≤st.length∧i=.int .i64 k∧Hid (Below w3.heap.size w3 wr∧∀ j,j < k→atC tr.x tr.y (sat st j)=false)) (fun i _=>st.length - (intOf i).toNat)
   case atStart=>exact ⟨0,Nat.zero_le _,rfl,B4.out,fun j hj=>absurd hj (Nat.not_lt_zero _)⟩
   case round =>
    obtain ⟨k,hk,rfl,HI⟩:=hrel
    obtain ⟨⟨p0,p2⟩,q1,d1,d2⟩:=HSS.out _ HI.out.1
    have zp:=lt_of_cell p0
    have zq:=lt_of_cell q1
    have zd:=lt_of_cell d1
    by_cases hlt:k < st.length
    ·obtain ⟨a',cap',he,hs1,hs2,hc⟩:=V2.out.keep (below_step B3.out HI.out.1)
     obtain ⟨g,hg,⟨c0,c1,-⟩,-,c4,-⟩:=hc k _ (sat_get hlt)
     cases he
     subst hg
     unfold maxLen at hs2
     have z0:=lt_of_cell c0
     have hk0:(0:Int)≤(k:Int):=by omega
     have hk1:(k:Int) < (st.length:Int):=by omega
     obtain ⟨hl0,hl1⟩:=HLE.out k hlt
     have HAT:Hid (atC tr.x tr.y (sat st k)=(decide ((sat st k).x=tr.x) && decide ((sat st k).y=tr.y))):=rfl
     have HOV:Hid (atC tr.x tr.y (sat st k)=true→overL st pb tr.x tr.y=((sat st k).fr,leaveA st pb k - 1,true)):=fun h=>overL_at hlt h HI.out.2
     have HNX:Hid (∀ wx:World,Below w3.heap.size w3 wx→k+1 < st.length→wx.cell? ⟨g,(k+1) * 6+5,none⟩=some (.int .i64 (sat st (k+1)).b)):=fun wx hx h=>by
      obtain ⟨a',cap',he,-,-,hc⟩:=V2.out.keep (below_step B3.out hx)
      obtain ⟨g',hg,-,-,-,c5⟩:=hc (k+1) _ (sat_get h)
      cases he
      cases hg
      exact c5
     have HLA:Hid ((k+1 < st.length→leaveA st pb k=(sat st (k+1)).b)∧(¬ k+1 < st.length→leaveA st pb k=pb)):=⟨fun h=>by unfold leaveA; rw [if_pos h],fun h=>by unfold leaveA; rw [if_neg h]⟩
     clear hc
     generalize hsk:sat st k=s at *
     have HSK:Hid (sat st k=s):=hsk
     clear hsk
     generalize leaveA st pb k=lv at *
     have hne:=Later.some wr
     have HNO:Hid (atC tr.x tr.y s=false→∀ wx:World,Below w3.heap.size w3 wx→Below w3.heap.size w3 wx∧∀ j,j < k+1→atC tr.x tr.y (sat st j)=false):=fun h0 wx hx=>⟨hx,fun j hj=>by
      by_cases e:j=k
      ·subst e; rw [HSK.out]; exact h0
      ·exact HI.out.2 j (by omega)⟩
     by_cases hx:s.x=tr.x
     ·have hxe:(s.x == tr.x)=true:=by simp [hx]
      by_cases hy:s.y=tr.y
      ·have HYES:=Lv.toHid (HOV.out (by rw [HAT.out]; simp [hx,hy]))
       have hye:(s.y == tr.y)=true:=by simp [hy]
       clear hx hy
       go_wp2
       refine wp_region_later (by kernel_rfl) (by kernel_rfl) ?_
       repeat (go_big_quiet_step (fail))
       refine wpQuiet_nil ?_
       rintro _ ⟨xx,rfl⟩
       have HI2:Hid (Below w3.heap.size w3 xx.val):=below_step HI.out.1 xx.below
       have c4':=cell_keep xx.below (Nat.le_refl _) c4
       clear HI c0 c1 c4 p0 p2 q1 d1 d2 hne zp zq zd z0
       generalize xx.val=wz at *
       clear xx
       obtain ⟨⟨p0,p2⟩,q1,d1,d2⟩:=HSS.out _ HI2.out
       have zp:=lt_of_cell p0
       have z0:=lt_of_cell c4'
       have hne:=Later.some wz
       by_cases hl:k+1 < st.length
       focus
        have HV:Hid (lv=(sat st (k+1)).b):=HLA.out.1 hl
        have c5:=HNX.out _ HI2.out hl
        have hw0:IntKind.i64.wrap ((k:Int)+1)=(k:Int)+1:=by rw [IntKind.wrap_i64]; omega
        have hk2:(0:Int)≤(k:Int)+1:=by omega
        have hk3:(k:Int)+1 < (st.length:Int):=by omega
        have e5:((k:Int)+1).toNat=k+1:=by omega
        rw [HV.out] at hl0 hl1 HYES
        generalize (sat st (k+1)).b=u at *
        have hw1:IntKind.i64.wrap (u - 1)=u - 1:=by rw [IntKind.wrap_i64]; omega
       rotate_left
       focus
        have HV:Hid (lv=pb):=HLA.out.2 hl
        have hk3:¬ (k:Int)+1 < (st.length:Int):=by omega
        rw [HV.out] at hl0 hl1 HYES
        have hw1:IntKind.i64.wrap (pb - 1)=pb - 1:=by rw [IntKind.wrap_i64]; omega
       rotate_left
       all_goals
        go_wp2
        refine wp_region_later (by kernel_rfl) (by kernel_rfl) ?_
        repeat (go_big_quiet_step (fail))
        refine wpQuiet_nil ?_
        rintro _ ⟨xy,rfl⟩
        go_wp2
        go_ret3
        exact ⟨by rw [HFI.out,HYES.out]; rfl,below_step A1.out (below_step B13.out (below_step HI2.out xy.below))⟩
      ·have HN:=Lv.toHid (HNO.out (by rw [HAT.out]; simp [hy]))
       have hye:(s.y == tr.y)=false:=by simp [hy]
       clear hx hy
       go_wp2
       refine wp_region_later (by kernel_rfl) (by kernel_rfl) ?_
       repeat (go_big_quiet_step (fail))
       refine wpQuiet_nil ?_
       rintro _ ⟨xx,rfl⟩
       have HB2:=Lv.toHid (HN.out _ (below_step HI.out.1 xx.below))
       go_wp2
       exact ⟨⟨k+1,by omega,by go_num,HB2⟩,by simp [intOf]; omega⟩
     ·have HN:=Lv.toHid (HNO.out (by rw [HAT.out]; simp [hx]))
      have hxe:(s.x == tr.x)=false:=by simp [hx]
      clear hx
      go_wp2
      refine wp_region_later (by kernel_rfl) (by kernel_rfl) ?_
      repeat (go_big_quiet_step (fail))
      refine wpQuiet_nil ?_
      rintro _ ⟨xx,rfl⟩
      have HB2:=Lv.toHid (HN.out _ (below_step HI.out.1 xx.below))
      go_wp2
      exact ⟨⟨k+1,by omega,by go_num,HB2⟩,by simp [intOf]; omega⟩
    ·have HN:Hid (overL st pb tr.x tr.y=(0,0,false)):=overL_no (fun j hj=>HI.out.2 j (by omega))
     go_wp2
     go_ret3
     exact ⟨by rw [HFI.out,HN.out]; rfl,below_step A1.out (below_step B13.out HI.out.1)⟩
 ·have HE:Hid (overR ks ps es nm pt=(0,0,false)):=by show _=_; rw [HOV.out,decide_eq_false hc0]; rfl
  have hne:(pc != 0)=true:=by simp [hc0]
  go_wp2
  go_ret3
  exact ⟨by rw [HE.out]; rfl,below_step A1.out (below_step B13.out B4.out)⟩
end Go.Proofs.YtbjmgglpiakgdaaGreatDoor.Pa
