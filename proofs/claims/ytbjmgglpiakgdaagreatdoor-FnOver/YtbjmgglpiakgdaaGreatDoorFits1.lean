import Derived.Test.YtbjmgglpiakgdaaGreatDoorRows2
import Derived.BigQuiet

namespace Go.Proofs.YtbjmgglpiakgdaaGreatDoor
open Go.RowKit
theorem asc_zero (l:List Tri):ascB l 0=true:=by simp [ascB]
theorem asc_succ (l:List Tri) (m:Nat):ascB l (m+1)=!geB (at' l m).s (at' l (m+1)).s:=by simp [ascB]
def TriAt (w:World) (b o:Nat) (t:Tri):Prop :=
  w.cell? ⟨b,o,none⟩=some (.string t.s)∧w.cell? ⟨b,o+1,none⟩=some (.int .i64 t.x)∧w.cell? ⟨b,o+2,none⟩=some (.int .i64 t.y)
theorem TriAt.keep {w w':World} {b o B:Nat} {t:Tri} (h:TriAt w b o t) (hb:Below B w w') (hB:w.heap.size≤B):TriAt w' b o t :=
  ⟨cell_keep hb hB h.1,cell_keep hb hB h.2.1,cell_keep hb hB h.2.2⟩
set_option maxHeartbeats 1600000 in
theorem namesKind_any (v : Value) (l : List Tri) (most : Nat) (w : World) (hv : TrisAt w v l) (hs : ∀ t ∈ l, t.s.size ≤ maxLen) (hm : most ≤ 1000) :
    Calls Tryz.prog 113 #[v,.int .i64 most,.func (.func 114) #[] #[]] w fun e w'=>e=.returned (.bool (namesB l most))∧Below w.heap.size w w':=by
  obtain ⟨a,cap,rfl,hlc,hcm,hc⟩:=hv
  unfold maxLen at hcm
  have HC:Hid (∀ i t,l[i]?=some t→∃ b off,a=some ⟨b,off,none⟩∧TriAt w b (off+i * 3) t):=hc
  have HS:Hid (∀ t ∈ l,t.s.size≤maxLen):=hs
  clear hc hs
  by_cases hn:(most:Int) < (l.length:Int)
  · have e:namesB l most=false:=by simp [namesB]; omega
    rw [e]; clear e
    go_enter Tryz.func113,Tryz.ntmps113
    go_wp2
    go_ret
    exact ⟨rfl,Below.refl _ _⟩
  · have e : namesB l most = allB l.length fun i => nameB (at' l i).s && ascB l i := by
      have:l.length≤most:=by omega
      simp [namesB,this]
    rw [e]; clear e
    go_enter Tryz.func113,Tryz.ntmps113
    go_wp2
    go_loopw [7,8,15] (fun _ _ i wr=>∃ k:Nat,k≤l.length∧i=.int .i64 k∧Below w.heap.size w wr∧Hid (∀ j,j < k→(nameB (at' l j).s && ascB l j)=true)) (fun _ _ i _=>l.length - (intOf i).toNat)
    case atStart=>exact ⟨0,Nat.zero_le _,rfl,Below.refl _ _,fun j hj=>absurd hj (Nat.not_lt_zero _)⟩
    case round =>
      obtain ⟨k,hk,rfl,hb,HA⟩:=hrel
      by_cases hlt:k < l.length
      · obtain ⟨b,off,rfl,hc⟩:=HC.out k _ (at_get hlt)
        obtain ⟨d0,d1,d2⟩:=hc.keep hb (Nat.le_refl _)
        have hsk:(at' l k).s.size≤maxLen:=HS.out _ (List.mem_of_getElem? (at_get hlt))
        have BAD:Hid (nameB (at' l k).s=false→allB l.length (fun i=>nameB (at' l i).s && ascB l i)=false):=fun h=>allB_false hlt (by simp [h])
        have BAD':Hid (ascB l k=false→allB l.length (fun i=>nameB (at' l i).s && ascB l i)=false):=fun h=>allB_false hlt (by simp [h])
        have hk0:(0:Int)≤(k:Int):=by omega
        have hk1:(k:Int) < (l.length:Int):=by omega
        have hbl:=lt_of_cell d0
        go_wp2_with fail
        refine (kindName_any (at' l k) _).mono ?_
        rintro e w1 ⟨rfl,hb1⟩
        go_wp2_with fail
        refine (nameOk_any (at' l k).s _ hsk).mono ?_
        rintro e w2 ⟨rfl,hb2⟩
        have hb12:Below (wr.alloc (.cells #[.string (at' l k).s,.int .i64 (at' l k).x,.int .i64 (at' l k).y] 44)).heap.size (wr.alloc (.cells #[.string (at' l k).s,.int .i64 (at' l k).x,.int .i64 (at' l k).y] 44)) w2:=below_step hb1 hb2
        have hbw:Below w.heap.size w w2:=below_step (hb.alloc hb.size _) hb12
        have tk:TriAt w2 b (off+k * 3) (at' l k):=hc.keep hbw (Nat.le_refl _)
        have tn:TriAt w2 wr.heap.size 0 (at' l k):=TriAt.keep (w:=wr.alloc (.cells #[.string (at' l k).s,.int .i64 (at' l k).x,.int .i64 (at' l k).y] 44)) ⟨by simp,by simp,by simp⟩ hb12 (Nat.le_refl _)
        clear d0 d1 d2 hb1 hb2 hb12
        cases hnm:nameB (at' l k).s
        · have HN:Hid (nameB (at' l k).s=false):=hnm
          clear hnm
          go_wp2
          go_ret
          exact ⟨ret_bool (BAD.out HN.out).symm,hbw⟩
        · have HN:Hid (nameB (at' l k).s=true):=hnm
          clear hnm
          by_cases hkz:k=0
          · subst hkz
            go_wp2
            go_quiet (fail)
            go_wp2
            exact ⟨⟨1, by omega, by go_num, below_drewN hbw _, fun j hj => by obtain rfl : j = 0 := by omega
                                                                              rw [HN.out,asc_zero]; rfl⟩,by simp [intOf]; omega⟩
          · obtain ⟨m,rfl⟩:∃ m,k=m+1:=⟨k - 1,by omega⟩
            obtain ⟨b',off',hbo,hcm'⟩:=HC.out m _ (at_get (by omega))
            cases hbo
            have tm:TriAt w2 b (off+m * 3) (at' l m):=hcm'.keep hbw (Nat.le_refl _)
            have HE:Hid (ascB l (m+1)=!geB (at' l m).s (at' l (m+1)).s):=asc_succ l m
            obtain ⟨m0,m1,m2⟩:=tm
            obtain ⟨n0,n1,n2⟩:=tn
            have hi0:(0:Int)≤(m:Int):=by omega
            have hi1:(m:Int) < (l.length:Int):=by omega
            have hi2:(0:Int) < (m:Int)+1:=by omega
            have hw1:IntKind.i64.wrap (m:Int)=(m:Int):=by rw [IntKind.wrap_i64]; omega
            have hw2:IntKind.i64.wrap ((m:Int)+1 - 1)=(m:Int):=by rw [IntKind.wrap_i64]; omega
            clear hc hcm' tk
            go_wp2
            go_region_held3 (fun w' => w'.cell? ⟨b, off + m * 3, none⟩ = some (.string (at' l m).s) ∧ w'.cell? ⟨b, off + m * 3 + 1, none⟩ = some (.int .i64 (at' l m).x) ∧ w'.cell? ⟨b, off + m * 3 + 2, none⟩ = some (.int .i64 (at' l m).y) ∧
                w'.cell? ⟨wr.heap.size,0,none⟩=some (.string (at' l (m+1)).s)∧w'.cell? ⟨wr.heap.size,1,none⟩=some (.int .i64 (at' l (m+1)).x)∧w'.cell? ⟨wr.heap.size,2,none⟩=some (.int .i64 (at' l (m+1)).y)∧Below w2.heap.size w2 w')
              (first | (refine ⟨by simp [*,go_sem],by simp [*,go_sem],by simp [*,go_sem],by simp [*,go_sem],by simp [*,go_sem],by simp [*,go_sem],?_⟩; exact (Below.refl _ _).drew) | (obtain ⟨s0,s1,s2,s3,s4,s5,s6⟩:=‹_∧_∧_∧_∧_∧_∧_›; exact ⟨cell_keep hb3 (Nat.le_refl _) s0,cell_keep hb3 (Nat.le_refl _) s1,cell_keep hb3 (Nat.le_refl _) s2,cell_keep hb3 (Nat.le_refl _) s3,cell_keep hb3 (Nat.le_refl _) s4,cell_keep hb3 (Nat.le_refl _) s5,below_step s6 hb3⟩))
              (first | (go_at_call 114; refine (kindName_any _ _).mono ?_; rintro e w3 ⟨rfl,hb3⟩))
            go_wp2
            · rename_i h
              obtain ⟨_,_,_,_,_,_,hS⟩:=‹_∧_∧_∧_∧_∧_∧Below w2.heap.size w2 w3›
              go_ret
              exact ⟨ret_bool (BAD'.out (by rw [HE.out]; unfold geB; rw [h]; rfl)).symm,below_step hbw hS⟩
            · rename_i h
              obtain ⟨_,_,_,_,_,_,hS⟩:=‹_∧_∧_∧_∧_∧_∧Below w2.heap.size w2 w3›
              exact ⟨⟨m+1+1,by omega,by go_num,below_step hbw hS,fun j hj=>if e:j=m+1 then by rw [e,HN.out,HE.out]; unfold geB; rw [h]; rfl else HA.out j (by omega)⟩,by simp [intOf]; omega⟩
      · go_wp2
        go_ret
        exact ⟨ret_bool (allB_true fun j hj=>HA.out j (by omega)).symm,hb⟩
set_option maxHeartbeats 1600000 in
theorem namesPoint_any (v : Value) (l : List Tri) (most : Nat) (w : World) (hv : TrisAt w v l) (hs : ∀ t ∈ l, t.s.size ≤ maxLen) (hm : most ≤ 1000) :
    Calls Tryz.prog 116 #[v,.int .i64 most,.func (.func 58) #[] #[]] w fun e w'=>e=.returned (.bool (namesB l most))∧Below w.heap.size w w':=by
  obtain ⟨a,cap,rfl,hlc,hcm,hc⟩:=hv
  unfold maxLen at hcm
  have HC:Hid (∀ i t,l[i]?=some t→∃ b off,a=some ⟨b,off,none⟩∧TriAt w b (off+i * 3) t):=hc
  have HS:Hid (∀ t ∈ l,t.s.size≤maxLen):=hs
  clear hc hs
  by_cases hn:(most:Int) < (l.length:Int)
  · have e:namesB l most=false:=by simp [namesB]; omega
    rw [e]; clear e
    go_enter Tryz.func116,Tryz.ntmps116
    go_wp2
    go_ret
    exact ⟨rfl,Below.refl _ _⟩
  · have e : namesB l most = allB l.length fun i => nameB (at' l i).s && ascB l i := by
      have:l.length≤most:=by omega
      simp [namesB,this]
    rw [e]; clear e
    go_enter Tryz.func116,Tryz.ntmps116
    go_wp2
    go_loopw [7,8,15] (fun _ _ i wr=>∃ k:Nat,k≤l.length∧i=.int .i64 k∧Below w.heap.size w wr∧Hid (∀ j,j < k→(nameB (at' l j).s && ascB l j)=true)) (fun _ _ i _=>l.length - (intOf i).toNat)
    case atStart=>exact ⟨0,Nat.zero_le _,rfl,Below.refl _ _,fun j hj=>absurd hj (Nat.not_lt_zero _)⟩
    case round =>
      obtain ⟨k,hk,rfl,hb,HA⟩:=hrel
      by_cases hlt:k < l.length
      · obtain ⟨b,off,rfl,hc⟩:=HC.out k _ (at_get hlt)
        obtain ⟨d0,d1,d2⟩:=hc.keep hb (Nat.le_refl _)
        have hsk:(at' l k).s.size≤maxLen:=HS.out _ (List.mem_of_getElem? (at_get hlt))
        have BAD:Hid (nameB (at' l k).s=false→allB l.length (fun i=>nameB (at' l i).s && ascB l i)=false):=fun h=>allB_false hlt (by simp [h])
        have BAD':Hid (ascB l k=false→allB l.length (fun i=>nameB (at' l i).s && ascB l i)=false):=fun h=>allB_false hlt (by simp [h])
        have hk0:(0:Int)≤(k:Int):=by omega
        have hk1:(k:Int) < (l.length:Int):=by omega
        have hbl:=lt_of_cell d0
        go_wp2_with fail
        refine (pointName_any (at' l k) _).mono ?_
        rintro e w1 ⟨rfl,hb1⟩
        go_wp2_with fail
        refine (nameOk_any (at' l k).s _ hsk).mono ?_
        rintro e w2 ⟨rfl,hb2⟩
        have hb12:Below (wr.alloc (.cells #[.string (at' l k).s,.int .i64 (at' l k).x,.int .i64 (at' l k).y] 110)).heap.size (wr.alloc (.cells #[.string (at' l k).s,.int .i64 (at' l k).x,.int .i64 (at' l k).y] 110)) w2:=below_step hb1 hb2
        have hbw:Below w.heap.size w w2:=below_step (hb.alloc hb.size _) hb12
        have tk:TriAt w2 b (off+k * 3) (at' l k):=hc.keep hbw (Nat.le_refl _)
        have tn:TriAt w2 wr.heap.size 0 (at' l k):=TriAt.keep (w:=wr.alloc (.cells #[.string (at' l k).s,.int .i64 (at' l k).x,.int .i64 (at' l k).y] 110)) ⟨by simp,by simp,by simp⟩ hb12 (Nat.le_refl _)
        clear d0 d1 d2 hb1 hb2 hb12
        cases hnm:nameB (at' l k).s
        · have HN:Hid (nameB (at' l k).s=false):=hnm
          clear hnm
          go_wp2
          go_ret
          exact ⟨ret_bool (BAD.out HN.out).symm,hbw⟩
        · have HN:Hid (nameB (at' l k).s=true):=hnm
          clear hnm
          by_cases hkz:k=0
          · subst hkz
            go_wp2
            go_quiet (fail)
            go_wp2
            exact ⟨⟨1, by omega, by go_num, below_drewN hbw _, fun j hj => by obtain rfl : j = 0 := by omega
                                                                              rw [HN.out,asc_zero]; rfl⟩,by simp [intOf]; omega⟩
          · obtain ⟨m,rfl⟩:∃ m,k=m+1:=⟨k - 1,by omega⟩
            obtain ⟨b',off',hbo,hcm'⟩:=HC.out m _ (at_get (by omega))
            cases hbo
            have tm:TriAt w2 b (off+m * 3) (at' l m):=hcm'.keep hbw (Nat.le_refl _)
            have HE:Hid (ascB l (m+1)=!geB (at' l m).s (at' l (m+1)).s):=asc_succ l m
            obtain ⟨m0,m1,m2⟩:=tm
            obtain ⟨n0,n1,n2⟩:=tn
            have hi0:(0:Int)≤(m:Int):=by omega
            have hi1:(m:Int) < (l.length:Int):=by omega
            have hi2:(0:Int) < (m:Int)+1:=by omega
            have hw1:IntKind.i64.wrap (m:Int)=(m:Int):=by rw [IntKind.wrap_i64]; omega
            have hw2:IntKind.i64.wrap ((m:Int)+1 - 1)=(m:Int):=by rw [IntKind.wrap_i64]; omega
            clear hc hcm' tk
            go_wp2
            go_region_held3 (fun w' => w'.cell? ⟨b, off + m * 3, none⟩ = some (.string (at' l m).s) ∧ w'.cell? ⟨b, off + m * 3 + 1, none⟩ = some (.int .i64 (at' l m).x) ∧ w'.cell? ⟨b, off + m * 3 + 2, none⟩ = some (.int .i64 (at' l m).y) ∧
                w'.cell? ⟨wr.heap.size,0,none⟩=some (.string (at' l (m+1)).s)∧w'.cell? ⟨wr.heap.size,1,none⟩=some (.int .i64 (at' l (m+1)).x)∧w'.cell? ⟨wr.heap.size,2,none⟩=some (.int .i64 (at' l (m+1)).y)∧Below w2.heap.size w2 w')
              (first | (refine ⟨by simp [*,go_sem],by simp [*,go_sem],by simp [*,go_sem],by simp [*,go_sem],by simp [*,go_sem],by simp [*,go_sem],?_⟩; exact (Below.refl _ _).drew) | (obtain ⟨s0,s1,s2,s3,s4,s5,s6⟩:=‹_∧_∧_∧_∧_∧_∧_›; exact ⟨cell_keep hb3 (Nat.le_refl _) s0,cell_keep hb3 (Nat.le_refl _) s1,cell_keep hb3 (Nat.le_refl _) s2,cell_keep hb3 (Nat.le_refl _) s3,cell_keep hb3 (Nat.le_refl _) s4,cell_keep hb3 (Nat.le_refl _) s5,below_step s6 hb3⟩))
              (first | (go_at_call 58; refine (pointName_any _ _).mono ?_; rintro e w3 ⟨rfl,hb3⟩))
            go_wp2
            · rename_i h
              obtain ⟨_,_,_,_,_,_,hS⟩:=‹_∧_∧_∧_∧_∧_∧Below w2.heap.size w2 w3›
              go_ret
              exact ⟨ret_bool (BAD'.out (by rw [HE.out]; unfold geB; rw [h]; rfl)).symm,below_step hbw hS⟩
            · rename_i h
              obtain ⟨_,_,_,_,_,_,hS⟩:=‹_∧_∧_∧_∧_∧_∧Below w2.heap.size w2 w3›
              exact ⟨⟨m+1+1,by omega,by go_num,below_step hbw hS,fun j hj=>if e:j=m+1 then by rw [e,HN.out,HE.out]; unfold geB; rw [h]; rfl else HA.out j (by omega)⟩,by simp [intOf]; omega⟩
      · go_wp2
        go_ret
        exact ⟨ret_bool (allB_true fun j hj=>HA.out j (by omega)).symm,hb⟩
end Go.Proofs.YtbjmgglpiakgdaaGreatDoor
namespace Go.Proofs.YtbjmgglpiakgdaaGreatDoor
open Go.RowKit
set_option maxHeartbeats 1600000 in
theorem kindsOk_any (v:Value) (l:List Tri) (w:World) (hv:TrisAt w v l) (hs:∀ t ∈ l,t.s.size≤maxLen) :
  Calls Tryz.prog 90 #[v] w fun e w'=>e=.returned (.bool (kindsB l))∧Below w.heap.size w w':=by
 have hnm:=fun wx hvx=>namesKind_any v l 6 wx hvx hs (by omega)
 have HNM:Hid (∀ (wx:World),TrisAt wx v l→Calls Tryz.prog 113 #[v,.int .i64 (6:Nat),.func (.func 114) #[] #[]] wx fun e w'=>e=.returned (.bool (namesB l 6))∧Below wx.heap.size wx w'):=hnm
 clear hnm
 have HV:Hid (TrisAt w v l):=hv
 obtain ⟨a,cap,rfl,hlc,hcm,hc⟩:=hv
 unfold maxLen at hcm
 have HC:Hid (∀ i t,l[i]?=some t→∃ b off,a=some ⟨b,off,none⟩∧TriAt w b (off+i * 3) t):=hc
 clear hc
 cases hn:namesB l 6
 ·have e:kindsB l=false:=by simp [kindsB,hn]
  have HN:Hid (namesB l 6=false):=hn
  rw [e]; clear e hn
  go_enter Tryz.func90,Tryz.ntmps90
  go_wp2_with fail
  refine (HNM.out _ HV.out).mono ?_
  rw [HN.out]
  rintro e w1 ⟨rfl,hb1⟩
  go_wp2
  go_ret
  exact ⟨rfl,hb1⟩
 ·have e:kindsB l=allB l.length fun i=>paceB (at' l i):=by simp [kindsB,hn]
  have HN:Hid (namesB l 6=true):=hn
  rw [e]; clear e hn
  go_enter Tryz.func90,Tryz.ntmps90
  go_wp2_with fail
  refine (HNM.out _ HV.out).mono ?_
  rw [HN.out]
  rintro e w1 ⟨rfl,hb1⟩
  go_wp2
  go_loopw [4,10] (fun _ i wr=>∃ k:Nat,k≤l.length∧i=.int .i64 k∧Below w.heap.size w wr∧Hid (∀ j,j < k→paceB (at' l j)=true)) (fun _ i _=>l.length - (intOf i).toNat)
  case atStart=>exact ⟨0,Nat.zero_le _,rfl,hb1,fun j hj=>absurd hj (Nat.not_lt_zero _)⟩
  case round =>
   obtain ⟨k,hk,rfl,hb,HA⟩:=hrel
   by_cases hlt:k < l.length
   ·obtain ⟨b,off,rfl,hc⟩:=HC.out k _ (at_get hlt)
    obtain ⟨d0,d1,d2⟩:=hc.keep hb (Nat.le_refl _)
    have BAD:Hid (paceB (at' l k)=false→allB l.length (fun i=>paceB (at' l i))=false):=fun h=>allB_false hlt h
    have hk0:(0:Int)≤(k:Int):=by omega
    have hk1:(k:Int) < (l.length:Int):=by omega
    cases hp:paceB (at' l k)
    ·have HP:Hid (paceB (at' l k)=false):=hp
     clear hp
     go_wp2_with fail
     refine (paceOk_any (at' l k) _).mono ?_
     rw [HP.out]
     rintro e w2 ⟨rfl,hb2⟩
     go_wp2
     go_ret
     exact ⟨ret_bool (BAD.out HP.out).symm,below_step (hb.alloc hb.size _) hb2⟩
    ·have HP:Hid (paceB (at' l k)=true):=hp
     clear hp
     go_wp2_with fail
     refine (paceOk_any (at' l k) _).mono ?_
     rw [HP.out]
     rintro e w2 ⟨rfl,hb2⟩
     go_wp2
     exact ⟨⟨k+1,by omega,by go_num,below_step (hb.alloc hb.size _) hb2,fun j hj=>if e:j=k then by rw [e]; exact HP.out else HA.out j (by omega)⟩,by simp [intOf]; omega⟩
   ·go_wp2
    go_ret
    exact ⟨ret_bool (allB_true fun j hj=>HA.out j (by omega)).symm,hb⟩
set_option maxHeartbeats 1600000 in
theorem cellTaken_any (v:Value) (l:List Tri) (t:Tri) (w:World) (hv:TrisAt w v l) :
  Calls Tryz.prog 118 #[v,.agg #[.string t.s,.int .i64 t.x,.int .i64 t.y]] w fun e w'=>e=.returned (.bool (takenB l l.length t))∧Below w.heap.size w w':=by
 obtain ⟨a,cap,rfl,hlc,hcm,hc⟩:=hv
 unfold maxLen at hcm
 have HC:Hid (∀ i t,l[i]?=some t→∃ b off,a=some ⟨b,off,none⟩∧TriAt w b (off+i * 3) t):=hc
 clear hc
 go_enter Tryz.func118,Tryz.ntmps118
 go_wp2
 go_loopw [6,9] (fun _ i wr=>∃ k:Nat,k≤l.length∧i=.int .i64 k∧Below (w.heap.size+1) (w.alloc (.cells #[.string t.s,.int .i64 t.x,.int .i64 t.y] 110)) wr∧Hid (∀ j,j < k→(!sameB (at' l j) t)=true)) (fun _ i _=>l.length - (intOf i).toNat)
 case atStart=>exact ⟨0,Nat.zero_le _,rfl,Below.refl _ _,fun j hj=>absurd hj (Nat.not_lt_zero _)⟩
 case round =>
  obtain ⟨k,hk,rfl,hb,HA⟩:=hrel
  have hbw:Below w.heap.size w wr:=((Below.refl _ _).alloc (Nat.le_refl _) _).trans (hb.mono (Nat.le_succ _))
  have hsz:w.heap.size < wr.heap.size:=by have:=hb.size; simp at this; omega
  have p1:wr.cell? ⟨w.heap.size,1,none⟩=some (.int .i64 t.x):=by rw [hb.cell (p:=⟨w.heap.size,1,none⟩) (Nat.lt_succ_self _)]; simp
  have p2:wr.cell? ⟨w.heap.size,2,none⟩=some (.int .i64 t.y):=by rw [hb.cell (p:=⟨w.heap.size,2,none⟩) (Nat.lt_succ_self _)]; simp
  by_cases hlt:k < l.length
  ·obtain ⟨b,off,rfl,hc⟩:=HC.out k _ (at_get hlt)
   obtain ⟨d0,d1,d2⟩:=hc.keep hbw (Nat.le_refl _)
   have BAD:Hid ((!sameB (at' l k) t)=false→takenB l l.length t=true):=fun h=>by unfold takenB; rw [allB_false hlt h]; rfl
   have hk0:(0:Int)≤(k:Int):=by omega
   have hk1:(k:Int) < (l.length:Int):=by omega
   have hfin:Hid (Below (w.heap.size+1) (w.alloc (.cells #[.string t.s,.int .i64 t.x,.int .i64 t.y] 110)) (wr.alloc (.cells #[.string (at' l k).s,.int .i64 (at' l k).x,.int .i64 (at' l k).y] 110))):=hb.alloc (by omega) _
   have hfin':Hid (Below w.heap.size w (wr.alloc (.cells #[.string (at' l k).s,.int .i64 (at' l k).x,.int .i64 (at' l k).y] 110))):=hbw.alloc (by omega) _
   have SM:Hid (sameB (at' l k) t=(decide ((at' l k).x=t.x) && decide ((at' l k).y=t.y))):=rfl
   by_cases hx:(at' l k).x=t.x
   ·have hx':((at' l k).x == t.x)=true:=by simp [hx]
    have HX:Hid ((at' l k).x=t.x):=hx
    clear hx
    by_cases hy:(at' l k).y=t.y
    ·have hy':((at' l k).y == t.y)=true:=by simp [hy]
     have HY:Hid ((at' l k).y=t.y):=hy
     clear hy
     go_wp2
     go_ret
     exact ⟨ret_bool (BAD.out (by rw [SM.out,HX.out,HY.out]; simp)).symm,hfin'.out⟩
    ·have hy':((at' l k).y == t.y)=false:=by simp [hy]
     have HY:Hid (¬ (at' l k).y=t.y):=hy
     clear hy
     go_wp2
     exact ⟨⟨k+1,by omega,by go_num,hfin.out,fun j hj=>if e:j=k then by rw [e,SM.out]; simp [HY.out] else HA.out j (by omega)⟩,by simp [intOf]; omega⟩
   ·have hx':((at' l k).x == t.x)=false:=by simp [hx]
    have HX:Hid (¬ (at' l k).x=t.x):=hx
    clear hx
    go_wp2
    exact ⟨⟨k+1,by omega,by go_num,hfin.out,fun j hj=>if e:j=k then by rw [e,SM.out]; simp [HX.out] else HA.out j (by omega)⟩,by simp [intOf]; omega⟩
  ·go_wp2
   go_ret
   exact ⟨ret_bool (by unfold takenB; rw [allB_true fun j hj=>HA.out j (by omega)]; rfl),hbw⟩
theorem taken_take (l:List Tri) (i:Nat) (h:i≤l.length) (t:Tri):takenB (l.take i) (l.take i).length t=takenB l i t:=by
 unfold takenB
 rw [List.length_take,Nat.min_eq_left h]
 congr 1
 refine allB_congr fun j hj=>?_
 simp [at',List.getD,hj]
theorem TrisAt.take {w:World} {a:Option Addr} {l:List Tri} {cap:Nat} (h:TrisAt w (.slice a l.length cap) l) (i:Nat) (hi:i≤l.length):TrisAt w (.slice a i cap) (l.take i):=by
 obtain ⟨a',cap',he,h1,h2,h3⟩:=h
 cases he
 have hl:(l.take i).length=i:=by rw [List.length_take,Nat.min_eq_left hi]
 refine ⟨a,cap,by rw [hl],by omega,h2,fun j t ht=>h3 j t ?_⟩
 have hj:j < (l.take i).length:=(List.getElem?_eq_some_iff.1 ht).1
 rw [List.getElem?_take] at ht
 rw [hl] at hj
 simpa [hj] using ht
open Go.RowKit
set_option maxHeartbeats 1600000 in
theorem placeKind_any (v:Value) (l:List Tri) (s:ByteArray) (w:World) (hv:TrisAt w v l) :
  Calls Tryz.prog 145 #[v,.string s,.func (.func 114) #[] #[]] w fun e w'=>e=.returned (.tuple #[.int .i64 (plc l s:Nat),.bool (hasB l s)])∧Below w.heap.size w w':=by
 obtain ⟨a,cap,rfl,hlc,hcm,hc⟩:=hv
 unfold maxLen at hcm
 have HC:Hid (∀ i t,l[i]?=some t→∃ b off,a=some ⟨b,off,none⟩∧TriAt w b (off+i * 3) t):=hc
 clear hc
 go_enter Tryz.func145,Tryz.ntmps145
 go_wp2
 go_loopw [7,8,12] (fun _ _ i wr=>∃ k:Nat,k≤l.length∧i=.int .i64 k∧Below w.heap.size w wr∧Hid (∀ j,j < k→geB (at' l j).s s=false)) (fun _ _ i _=>l.length - (intOf i).toNat)
 case atStart=>exact ⟨0,Nat.zero_le _,rfl,Below.refl _ _,fun j hj=>absurd hj (Nat.not_lt_zero _)⟩
 case round =>
  obtain ⟨k,hk,rfl,hb,HA⟩:=hrel
  by_cases hlt:k < l.length
  ·obtain ⟨b,off,rfl,hc⟩:=HC.out k _ (at_get hlt)
   obtain ⟨d0,d1,d2⟩:=hc.keep hb (Nat.le_refl _)
   have hk0:(0:Int)≤(k:Int):=by omega
   have hk1:(k:Int) < (l.length:Int):=by omega
   go_wp2_with fail
   refine (kindName_any (at' l k) _).mono ?_
   rintro e w1 ⟨rfl,hb1⟩
   have tn:TriAt w1 wr.heap.size 0 (at' l k):=TriAt.keep (w:=wr.alloc (.cells #[.string (at' l k).s,.int .i64 (at' l k).x,.int .i64 (at' l k).y] 44)) ⟨by simp,by simp,by simp⟩ hb1 (Nat.le_refl _)
   have HBW:Hid (Below w.heap.size w w1):=below_step (hb.alloc hb.size _) hb1
   obtain ⟨n0,n1,n2⟩:=tn
   clear hb1 d0 d1 d2 hc
   cases hg:geB (at' l k).s s
   ·have hg':Op.bytesLess (at' l k).s.toList s.toList=true:=by unfold geB at hg; simpa using hg
    have HG:Hid (geB (at' l k).s s=false):=hg
    clear hg
    go_wp2
    exact ⟨⟨k+1,by omega,by go_num,HBW.out,fun j hj=>if e:j=k then by rw [e]; exact HG.out else HA.out j (by omega)⟩,by simp [intOf]; omega⟩
   ·have hg':Op.bytesLess (at' l k).s.toList s.toList=false:=by unfold geB at hg; simpa using hg
    have HG:Hid (geB (at' l k).s s=true):=hg
    have HP:Hid (plc l s=k):=plc_some hlt hg HA.out
    have HH:Hid (hasB l s=decide ((at' l k).s=s)):=hasB_at hlt hg HA.out
    clear hg
    have hq:((at' l k).s.toList == s.toList)=decide ((at' l k).s=s):=by
     by_cases hx:(at' l k).s=s
     ·rw [str_eq hx]; simp [hx]
     ·rw [str_ne hx]; simp [hx]
    go_wp2_with fail
    refine (kindName_any (at' l k) _).mono ?_
    rintro e w2 ⟨rfl,hb2⟩
    go_wp2
    go_ret2
    exact ⟨by rw [HP.out,HH.out]; rfl,below_step HBW.out hb2⟩
  ·go_wp2
   go_ret2
   exact ⟨by rw [plc_none fun j hj=>HA.out j (by omega),hasB_end fun j hj=>HA.out j (by omega)]; rfl,hb⟩
set_option maxHeartbeats 1600000 in
theorem placePoint_any (v:Value) (l:List Tri) (s:ByteArray) (w:World) (hv:TrisAt w v l) :
  Calls Tryz.prog 57 #[v,.string s,.func (.func 58) #[] #[]] w fun e w'=>e=.returned (.tuple #[.int .i64 (plc l s:Nat),.bool (hasB l s)])∧Below w.heap.size w w':=by
 obtain ⟨a,cap,rfl,hlc,hcm,hc⟩:=hv
 unfold maxLen at hcm
 have HC:Hid (∀ i t,l[i]?=some t→∃ b off,a=some ⟨b,off,none⟩∧TriAt w b (off+i * 3) t):=hc
 clear hc
 go_enter Tryz.func57,Tryz.ntmps57
 go_wp2
 go_loopw [7,8,12] (fun _ _ i wr=>∃ k:Nat,k≤l.length∧i=.int .i64 k∧Below w.heap.size w wr∧Hid (∀ j,j < k→geB (at' l j).s s=false)) (fun _ _ i _=>l.length - (intOf i).toNat)
 case atStart=>exact ⟨0,Nat.zero_le _,rfl,Below.refl _ _,fun j hj=>absurd hj (Nat.not_lt_zero _)⟩
 case round =>
  obtain ⟨k,hk,rfl,hb,HA⟩:=hrel
  by_cases hlt:k < l.length
  ·obtain ⟨b,off,rfl,hc⟩:=HC.out k _ (at_get hlt)
   obtain ⟨d0,d1,d2⟩:=hc.keep hb (Nat.le_refl _)
   have hk0:(0:Int)≤(k:Int):=by omega
   have hk1:(k:Int) < (l.length:Int):=by omega
   go_wp2_with fail
   refine (pointName_any (at' l k) _).mono ?_
   rintro e w1 ⟨rfl,hb1⟩
   have tn:TriAt w1 wr.heap.size 0 (at' l k):=TriAt.keep (w:=wr.alloc (.cells #[.string (at' l k).s,.int .i64 (at' l k).x,.int .i64 (at' l k).y] 110)) ⟨by simp,by simp,by simp⟩ hb1 (Nat.le_refl _)
   have HBW:Hid (Below w.heap.size w w1):=below_step (hb.alloc hb.size _) hb1
   obtain ⟨n0,n1,n2⟩:=tn
   clear hb1 d0 d1 d2 hc
   cases hg:geB (at' l k).s s
   ·have hg':Op.bytesLess (at' l k).s.toList s.toList=true:=by unfold geB at hg; simpa using hg
    have HG:Hid (geB (at' l k).s s=false):=hg
    clear hg
    go_wp2
    exact ⟨⟨k+1,by omega,by go_num,HBW.out,fun j hj=>if e:j=k then by rw [e]; exact HG.out else HA.out j (by omega)⟩,by simp [intOf]; omega⟩
   ·have hg':Op.bytesLess (at' l k).s.toList s.toList=false:=by unfold geB at hg; simpa using hg
    have HG:Hid (geB (at' l k).s s=true):=hg
    have HP:Hid (plc l s=k):=plc_some hlt hg HA.out
    have HH:Hid (hasB l s=decide ((at' l k).s=s)):=hasB_at hlt hg HA.out
    clear hg
    have hq:((at' l k).s.toList == s.toList)=decide ((at' l k).s=s):=by
     by_cases hx:(at' l k).s=s
     ·rw [str_eq hx]; simp [hx]
     ·rw [str_ne hx]; simp [hx]
    go_wp2_with fail
    refine (pointName_any (at' l k) _).mono ?_
    rintro e w2 ⟨rfl,hb2⟩
    go_wp2
    go_ret2
    exact ⟨by rw [HP.out,HH.out]; rfl,below_step HBW.out hb2⟩
  ·go_wp2
   go_ret2
   exact ⟨by rw [plc_none fun j hj=>HA.out j (by omega),hasB_end fun j hj=>HA.out j (by omega)]; rfl,hb⟩
set_option maxHeartbeats 800000 in
theorem kindRule_any (vk vp:Value) (l:List Tri) (s:ByteArray) (w:World) (hv:TrisAt w vk l) :
  Calls Tryz.prog 186 #[.agg #[],.agg #[vk,vp],.string s] w fun e w'=>e=.returned (.bool (hasB l s))∧Below w.heap.size w w':=by
 have HV:Hid (TrisAt w vk l):=hv
 obtain ⟨a,cap,rfl,-,-,-⟩:=hv
 go_enter Tryz.func186,Tryz.ntmps186
 go_wp2_with fail
 refine (placeKind_any _ l s _ (HV.out.keep (((Below.refl _ _).alloc (Nat.le_refl _) _).alloc (by simp) _))).mono ?_
 rintro e w1 ⟨rfl,hb1⟩
 go_wp2
 go_ret
 exact ⟨rfl,below_step (((Below.refl _ _).alloc (Nat.le_refl _) _).alloc (by simp) _) hb1⟩
theorem open_list:openS.toList=[111,112,101,110]:=by rw [ByteArray.toList_eq]; rfl
theorem closed_list:closedS.toList=[99,108,111,115,101,100]:=by rw [ByteArray.toList_eq]; rfl
set_option maxHeartbeats 800000 in
theorem stateRule_any (vk vp:Value) (s:ByteArray) (w:World) :
  Calls Tryz.prog 190 #[.agg #[],.agg #[vk,vp],.string s] w fun e w'=>e=.returned (.bool (stateB s))∧Below w.heap.size w w':=by
 by_cases h1:s=openS
 ·have e:stateB s=true:=by simp [stateB,h1]
  have g1:(s.toList == [111,112,101,110])=true:=open_list ▸ str_eq h1
  rw [e]; clear e h1
  go_enter Tryz.func190,Tryz.ntmps190
  go_wp2
  go_ret
  exact ⟨rfl,((Below.refl _ _).alloc (Nat.le_refl _) _).alloc (by simp) _⟩
 ·have g1:(s.toList == [111,112,101,110])=false:=open_list ▸ str_ne h1
  by_cases h2:s=closedS
  ·have e:stateB s=true:=by simp [stateB,h2]
   have g2:(s.toList == [99,108,111,115,101,100])=true:=closed_list ▸ str_eq h2
   rw [e]; clear e h1 h2
   go_enter Tryz.func190,Tryz.ntmps190
   go_wp2
   go_ret
   exact ⟨rfl,((Below.refl _ _).alloc (Nat.le_refl _) _).alloc (by simp) _⟩
  ·have e:stateB s=false:=by simp [stateB,h1,h2]
   have g2:(s.toList == [99,108,111,115,101,100])=false:=closed_list ▸ str_ne h2
   rw [e]; clear e h1 h2
   go_enter Tryz.func190,Tryz.ntmps190
   go_wp2
   go_ret
   exact ⟨rfl,((Below.refl _ _).alloc (Nat.le_refl _) _).alloc (by simp) _⟩
set_option maxHeartbeats 800000 in
theorem levelRule_any (vk vp:Value) (s:ByteArray) (w:World) (hs:s.size≤1048576) :
  Calls Tryz.prog 188 #[.agg #[],.agg #[vk,vp],.string s] w fun e w'=>e=.returned (.bool (levelB s))∧Below w.heap.size w w':=by
 have HRD:Hid (∀ wx:World,Calls Tryz.prog 136 #[.string s] wx fun e w'=>e=.returned (.tuple #[.int .i64 (bif decB s then (numV s:Int) else 0),.bool (decB s)])∧Below wx.heap.size wx w'):=fun wx=>readDecimal_any s wx (by unfold maxLen; omega)
 cases hd:decB s
 ·have e:levelB s=false:=by simp [levelB,hd]
  have HD:Hid (decB s=false):=hd
  rw [e]; clear e hd
  go_enter Tryz.func188,Tryz.ntmps188
  go_wp2_with fail
  refine (HRD.out _).mono ?_
  rw [HD.out]
  rintro e w1 ⟨rfl,hb1⟩
  go_wp2
  go_ret
  exact ⟨rfl,below_step (((Below.refl _ _).alloc (Nat.le_refl _) _).alloc (by simp) _) hb1⟩
 ·have e:levelB s=inB (numV s) 1 6:=by simp [levelB,hd]
  have HD:Hid (decB s=true):=hd
  rw [e]; clear e hd
  generalize numV s=n at HRD
  by_cases h1:1≤(n:Int)
  ·by_cases h2:(n:Int)≤6
   ·have e:inB n 1 6=true:=by simp [inB,h1,h2]
    rw [e]; clear e
    go_enter Tryz.func188,Tryz.ntmps188
    go_wp2_with fail
    refine (HRD.out _).mono ?_
    rw [HD.out,cond_true]
    rintro e w1 ⟨rfl,hb1⟩
    go_wp2
    go_ret
    exact ⟨rfl,below_step (((Below.refl _ _).alloc (Nat.le_refl _) _).alloc (by simp) _) hb1⟩
   ·have e:inB n 1 6=false:=by simp [inB]; omega
    rw [e]; clear e
    go_enter Tryz.func188,Tryz.ntmps188
    go_wp2_with fail
    refine (HRD.out _).mono ?_
    rw [HD.out,cond_true]
    rintro e w1 ⟨rfl,hb1⟩
    go_wp2
    go_ret
    exact ⟨ret_bool (decide_eq_false (by omega)),below_step (((Below.refl _ _).alloc (Nat.le_refl _) _).alloc (by simp) _) hb1⟩
  ·have e:inB n 1 6=false:=by simp [inB]; omega
   rw [e]; clear e
   go_enter Tryz.func188,Tryz.ntmps188
   go_wp2_with fail
   refine (HRD.out _).mono ?_
   rw [HD.out,cond_true]
   rintro e w1 ⟨rfl,hb1⟩
   go_wp2
   go_ret
   exact ⟨rfl,below_step (((Below.refl _ _).alloc (Nat.le_refl _) _).alloc (by simp) _) hb1⟩
end Go.Proofs.YtbjmgglpiakgdaaGreatDoor
