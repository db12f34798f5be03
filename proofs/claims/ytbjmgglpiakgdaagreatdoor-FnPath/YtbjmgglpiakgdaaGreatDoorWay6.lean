import Derived.Test.YtbjmgglpiakgdaaGreatDoorWay5
set_option linter.unusedSimpArgs false
set_option linter.unusedVariables false
namespace Go.Proofs.YtbjmgglpiakgdaaGreatDoor
open Go.RowKit
theorem partS_bd (d k n:Int) (hd:-15 ≤ d ∧ d ≤ 15) (hk:0 ≤ k) (hkn:k ≤ n) (hn:1 ≤ n) (hn':n ≤ 15):-500 ≤ partS d k n ∧ partS d k n ≤ 500:=by
 have b1:2 * k * d ≤ 2 * 15 * 15:=by
  rcases (show 0 ≤ d ∨ d ≤ 0 by omega) with h | h
  ·exact Int.mul_le_mul (by omega) (by omega) h (by omega)
  ·have:=Int.mul_nonneg (show 0 ≤ 2 * k by omega) (show 0 ≤ -d by omega)
   have e:2 * k * d = - (2 * k * (-d)):=by rw [Int.mul_neg]; omega
   omega
 have b2:- (2 * 15 * 15) ≤ 2 * k * d:=by
  rcases (show 0 ≤ d ∨ d ≤ 0 by omega) with h | h
  ·have:=Int.mul_nonneg (show 0 ≤ 2 * k by omega) h
   omega
  ·have h9:2 * k * (-d) ≤ 2 * 15 * 15:=Int.mul_le_mul (by omega) (by omega) (by omega) (by omega)
   have e:2 * k * d = - (2 * k * (-d)):=by rw [Int.mul_neg]; omega
   omega
 unfold partS
 constructor
 ·have:-500 * (2 * n) ≤ 2 * k * d + n:=by omega
  exact Int.le_ediv_of_mul_le (by omega) this
 ·have h1:(2 * k * d + n) / (2 * n) ≤ 500 ∨ 500 < (2 * k * d + n) / (2 * n):=by omega
  rcases h1 with h1 | h1
  ·exact h1
  ·exfalso
   have h2:=Int.mul_le_of_le_ediv (show 0 < 2 * n by omega) (Int.le_of_lt h1)
   omega
def legK (a b:Cel) (k:Nat):List Cel:=a :: (List.range k).map fun (j:Nat) => celS a b ((j:Int) + 1)
theorem legK_len (a b:Cel) (k:Nat):(legK a b k).length = k + 1:=by simp [legK]
theorem legK_succ (a b:Cel) (k:Nat):legK a b (k + 1) = legK a b k ++ [celS a b ((k:Int) + 1)]:=by
 unfold legK; rw [List.range_succ,List.map_append]; rfl
set_option maxRecDepth 100000 in
set_option maxHeartbeats 12800000 in
theorem l7LegU_any (a b:Cel) (w:World) (ha:a.In) (hb:b.In) (hl:lesser b a = false) :
  Calls Tryz.prog 73 #[cv a,cv b] w fun e w' => ∃ u,e = .returned u ∧ CNew w' w.heap.size u (legU a b) ∧ Below w.heap.size w w':=by
 have hle:=legN_le ha hb
 have hNc:=NNat_cast a b
 obtain ⟨i0,hi0,hz0,hz1,hz2⟩:=info_parts infoCell
 have hin:=ha
 have hin':=hb
 obtain ⟨⟨a1,a2⟩,a3,a4⟩:=ha
 obtain ⟨⟨b1,b2⟩,b3,b4⟩:=hb
 have HB:Hid (Below w.heap.size w (((w.alloc (.cells #[.int .i64 a.x,.int .i64 a.y] 77)).alloc (.cells #[.int .i64 b.x,.int .i64 b.y] 77)).alloc (.cells #[] 77))):=(((Below.refl _ _).alloc (Nat.le_refl _) _).alloc (by simp) _).alloc (by simp; omega) _
 have HS:Hid (((((w.alloc (.cells #[.int .i64 a.x,.int .i64 a.y] 77)).alloc (.cells #[.int .i64 b.x,.int .i64 b.y] 77)).alloc (.cells #[] 77)).cell? ⟨w.heap.size,0,none⟩ = some (.int .i64 a.x) ∧ (((w.alloc (.cells #[.int .i64 a.x,.int .i64 a.y] 77)).alloc (.cells #[.int .i64 b.x,.int .i64 b.y] 77)).alloc (.cells #[] 77)).cell? ⟨w.heap.size,1,none⟩ = some (.int .i64 a.y)) ∧ (((w.alloc (.cells #[.int .i64 a.x,.int .i64 a.y] 77)).alloc (.cells #[.int .i64 b.x,.int .i64 b.y] 77)).alloc (.cells #[] 77)).cell? ⟨w.heap.size + 1,0,none⟩ = some (.int .i64 b.x) ∧ (((w.alloc (.cells #[.int .i64 a.x,.int .i64 a.y] 77)).alloc (.cells #[.int .i64 b.x,.int .i64 b.y] 77)).alloc (.cells #[] 77)).cell? ⟨w.heap.size + 1,1,none⟩ = some (.int .i64 b.y)):=⟨⟨by simp [go_sem],by simp [go_sem]⟩,by simp [go_sem],by simp [go_sem]⟩
 have HR:Hid ((((w.alloc (.cells #[.int .i64 a.x,.int .i64 a.y] 77)).alloc (.cells #[.int .i64 b.x,.int .i64 b.y] 77)).alloc (.cells #[] 77)).heap[w.heap.size + 2]? = some (.cells #[] 77 (0,0))):=by
  have h:=heap_newW ((w.alloc (.cells #[.int .i64 a.x,.int .i64 a.y] 77)).alloc (.cells #[.int .i64 b.x,.int .i64 b.y] 77)) (.cells #[] 77)
  rw [show ((w.alloc (.cells #[.int .i64 a.x,.int .i64 a.y] 77)).alloc (.cells #[.int .i64 b.x,.int .i64 b.y] 77)).heap.size = w.heap.size + 2 by simp] at h
  exact h
 have HZ:Hid ((((w.alloc (.cells #[.int .i64 a.x,.int .i64 a.y] 77)).alloc (.cells #[.int .i64 b.x,.int .i64 b.y] 77)).alloc (.cells #[] 77)).heap.size = w.heap.size + 3):=by show _ = _; simp
 obtain ⟨⟨c0,c1⟩,c2,c3⟩:=HS.out
 have HA1:Hid (∀ wx:World,Calls Tryz.prog 105 #[.int .i64 (a.x - b.x)] wx fun e w' => e = .returned (.int .i64 (absI (a.x - b.x))) ∧ w' = wx):=fun wx => l7Abs_any _ wx ⟨by omega,by omega⟩
 have HA2:Hid (∀ wx:World,Calls Tryz.prog 105 #[.int .i64 (a.y - b.y)] wx fun e w' => e = .returned (.int .i64 (absI (a.y - b.y))) ∧ w' = wx):=fun wx => l7Abs_any _ wx ⟨by omega,by omega⟩
 have HMX:Hid (∀ wx:World,Calls Tryz.prog 55 #[.int .i64 (absI (a.x - b.x)),.int .i64 (absI (a.y - b.y))] wx fun e w' => e = .returned (.int .i64 (legN a b)) ∧ w' = wx):=fun wx => l7Max_any _ _ wx
 have hw1:IntKind.i64.wrap (a.x - b.x) = a.x - b.x:=by rw [IntKind.wrap_i64]; omega
 have hw2:IntKind.i64.wrap (a.y - b.y) = a.y - b.y:=by rw [IntKind.wrap_i64]; omega
 have hw3:IntKind.i64.wrap (b.x - a.x) = b.x - a.x:=by rw [IntKind.wrap_i64]; omega
 have hw4:IntKind.i64.wrap (b.y - a.y) = b.y - a.y:=by rw [IntKind.wrap_i64]; omega
 have HEN:Hid (∀ k:Nat,k = NNat a b → legK a b k = legU a b):=fun k hk => by rw [hk]; rfl
 rcases (show (¬ b.x < a.x ∧ b.x = a.x ∧ ¬ b.y < a.y) ∨ (¬ b.x < a.x ∧ ¬ b.x = a.x) by unfold lesser at hl; split at hl <;> simp at hl <;> omega) with ⟨x1,x2,x3⟩ | ⟨x1,x2⟩
 focus
  have hq:(b.x == a.x) = true:=by simp [x2]
 rotate_left
 focus
  have hq:(b.x == a.x) = false:=by simp [x2]
 rotate_left
 all_goals
  clear x2
  go_enter Tryz.func73,Tryz.ntmps73
  go_wp2_with fail
  generalize (((w.alloc (.cells #[.int .i64 a.x,.int .i64 a.y] 77)).alloc (.cells #[.int .i64 b.x,.int .i64 b.y] 77)).alloc (.cells #[] 77)) = w1 at *
  refine wp_region_noPanic ?_
  refine wp_region_held_drew (S:=fun w' => (w'.cell? ⟨w.heap.size,0,none⟩ = some (.int .i64 a.x) ∧ w'.cell? ⟨w.heap.size,1,none⟩ = some (.int .i64 a.y)) ∧ w'.cell? ⟨w.heap.size + 1,0,none⟩ = some (.int .i64 b.x) ∧ w'.cell? ⟨w.heap.size + 1,1,none⟩ = some (.int .i64 b.y)) (by kernel_rfl) ?_ (fun hHeld => ?_)
  ·exact ⟨⟨cell_keep (Below.refl _ _).drew (Nat.le_refl _) HS.out.1.1,cell_keep (Below.refl _ _).drew (Nat.le_refl _) HS.out.1.2⟩,cell_keep (Below.refl _ _).drew (Nat.le_refl _) HS.out.2.1,cell_keep (Below.refl _ _).drew (Nat.le_refl _) HS.out.2.2⟩
  have HBW:Hid (Below w.heap.size w w1.drew):=below_step HB.out (Below.refl _ _).drew
  have HRW:Hid (w1.drew.heap[w.heap.size + 2]? = some (.cells #[] 77 (0,0)) ∧ w1.drew.heap.size = w.heap.size + 3):=⟨HR.out,HZ.out⟩
  clear c0 c1 c2 c3
  generalize w1.drew = W at *
  refine tkH 0 ?_ rfl ?_ (tkH 1 ?_ rfl ?_ (tkH 2 ?_ rfl ?_ (tkH 3 ?_ rfl ?_ (tkH 4 ?_ rfl ?_ (tkH 6 ?_ rfl ?_ (tkH 7 ?_ rfl ?_ (tkH 8 ?_ rfl ?_ (tkH 9 ?_ rfl ?_ (tkH 10 ?_ rfl ?_ ?_)))))))))
  iterate 10 (rotate_left; focus (intro w hSw; (try dsimp only at hSw); simp only [Act.put,tkS]; go_simp; try with_reducible rfl))
  simp only [Act.put,tkS]
  refine rdH 5 rfl (fun K hK => ?_)
  go_simp
  refine (HA1.out _).mono ?_
  rintro e wz ⟨rfl,hz⟩
  rw [hz]
  refine hK.out _ _ hHeld (fun _ => ?_)
  clear hK K hz wz
  refine rdH 11 rfl (fun K hK => ?_)
  go_simp
  refine (HA2.out _).mono ?_
  rintro e wz ⟨rfl,hz⟩
  rw [hz]
  refine hK.out _ _ hHeld (fun _ => ?_)
  clear hK K hz wz
  refine rdH 12 rfl (fun K hK => ?_)
  go_simp
  refine (HMX.out _).mono ?_
  rintro e wz ⟨rfl,hz⟩
  rw [hz]
  refine hK.out _ _ hHeld (fun _ => ?_)
  clear hK K hz wz
  refine tkH 13 ?_ rfl ?_ ?_; rotate_left
  ·intro w hSw; (try dsimp only at hSw); go_simp; try with_reducible rfl
  simp only [Act.put,tkS]
  have HSW:Hid ((W.cell? ⟨w.heap.size,0,none⟩ = some (.int .i64 a.x) ∧ W.cell? ⟨w.heap.size,1,none⟩ = some (.int .i64 a.y)) ∧ W.cell? ⟨w.heap.size + 1,0,none⟩ = some (.int .i64 b.x) ∧ W.cell? ⟨w.heap.size + 1,1,none⟩ = some (.int .i64 b.y)):=hHeld
  clear hHeld
  refine wpAnyH_done (by kernel_rfl) ?_ _
  refine NoPanic.normal ?_
  obtain ⟨⟨c0,c1⟩,c2,c3⟩:=HSW.out
  have hid0:W.ownsRow (w.heap.size + 2) 77 2 (.slice (some ⟨w.heap.size + 2,0,none⟩) 0 0) 0 []:=⟨rfl,.inr ⟨w.heap.size + 2,0,#[],rfl,Nat.le_refl _,HRW.out.1,Nat.le_refl _,Nat.zero_le _,rfl,rfl⟩⟩
  go_wp2_with (at_builtin; refine wpList_append_any _ rfl _ _ 73 rfl (w.heap.size + 2) 77 i0 _ 2 16 Tryz.underlying73 hi0 hz0 hz1 hz2 rfl (by decide) _ 0 _ rfl (ownC_keep hid0 ((Below.refl _ _).alloc (Nat.le_refl _) _)) _ 1 1 [.int .i64 a.x,.int .i64 a.y] rfl (.inr ⟨_,rfl,World.news_of_block (heap_newW W (.cells #[.int .i64 a.x,.int .i64 a.y] 77))⟩) rfl (fun u hu => by simp at hu; rcases hu with rfl | rfl <;> rfl) (by unfold maxLen; omega) (by omega) (by have h:=HRW.out.2; simp; omega) ?_; intro vq wx hown hgrow hat)
  have hbA:Below w.heap.size w (W.alloc (.cells #[.int .i64 a.x,.int .i64 a.y] 77)):=below_step HBW.out ((Below.refl _ _).alloc (Nat.le_refl _) _)
  have HQ:Hid ((CNew wx (w.heap.size + 2) vq (legK a b 0) ∧ Below w.heap.size w wx ∧ w.heap.size + 3 ≤ wx.heap.size) ∧ (wx.cell? ⟨w.heap.size,0,none⟩ = some (.int .i64 a.x) ∧ wx.cell? ⟨w.heap.size,1,none⟩ = some (.int .i64 a.y)) ∧ wx.cell? ⟨w.heap.size + 1,0,none⟩ = some (.int .i64 b.x) ∧ wx.cell? ⟨w.heap.size + 1,1,none⟩ = some (.int .i64 b.y)):=by
   have hS:∀ (B o:Nat) (u:Value),B < w.heap.size + 2 → W.cell? ⟨B,o,none⟩ = some u → wx.cell? ⟨B,o,none⟩ = some u:=fun B o u hB hu => by
    have h1:=cell_keep ((Below.refl _ _).alloc (Nat.le_refl _) (.cells #[.int .i64 a.x,.int .i64 a.y] 77):Below W.heap.size W _) (Nat.le_refl _) hu
    exact (World.cell?_of_block (hgrow.block B (lt_of_cell h1) (fun e => by have:=ownC_ge hid0 B e.symm; omega))).trans h1
   refine ⟨⟨hown,hbA.grown hgrow hbA.size (fun q hq => by have:=ownC_ge hid0 q hq; omega),?_⟩,⟨hS _ _ _ (by omega) HSW.out.1.1,hS _ _ _ (by omega) HSW.out.1.2⟩,hS _ _ _ (by omega) HSW.out.2.1,hS _ _ _ (by omega) HSW.out.2.2⟩
   have:=hgrow.size
   rw [World.size_alloc] at this
   have h:=HRW.out.2
   omega
  obtain ⟨qa,qc,rfl⟩:=ownC_slice hown
  clear hown hgrow hat hid0 hbA HBW HRW HSW c0 c1 c2 c3
  go_loopw [5,9] (fun v i wr => ∃ k:Nat,k ≤ NNat a b ∧ i = .int .i64 ((k:Int) + 1) ∧ (∃ a' c',v = .slice a' (k + 1) c') ∧ Hid ((CNew wr (w.heap.size + 2) v (legK a b k) ∧ Below w.heap.size w wr ∧ w.heap.size + 3 ≤ wr.heap.size) ∧ (wr.cell? ⟨w.heap.size,0,none⟩ = some (.int .i64 a.x) ∧ wr.cell? ⟨w.heap.size,1,none⟩ = some (.int .i64 a.y)) ∧ wr.cell? ⟨w.heap.size + 1,0,none⟩ = some (.int .i64 b.x) ∧ wr.cell? ⟨w.heap.size + 1,1,none⟩ = some (.int .i64 b.y))) (fun _ i _ => NNat a b + 1 - (intOf i).toNat)
  case atStart => exact ⟨0,Nat.zero_le _,rfl,⟨_,_,rfl⟩,HQ⟩
  case round =>
   clear HQ
   obtain ⟨k,hk,rfl,⟨a',c',rfl⟩,HI⟩:=hrel
   by_cases hlt:k < NNat a b
   ·have hk1:(k:Int) + 1 ≤ legN a b:=by omega
    have HP1:Hid (∀ wx:World,Calls Tryz.prog 106 #[.int .i64 (b.x - a.x),.int .i64 ((k:Int) + 1),.int .i64 (legN a b)] wx fun e w' => e = .returned (.int .i64 (partS (b.x - a.x) ((k:Int) + 1) (legN a b))) ∧ w' = wx):=fun wx => l7Part_any _ _ _ wx ⟨by omega,by omega⟩ (by omega) (by omega) (by omega) hle
    have HP2:Hid (∀ wx:World,Calls Tryz.prog 106 #[.int .i64 (b.y - a.y),.int .i64 ((k:Int) + 1),.int .i64 (legN a b)] wx fun e w' => e = .returned (.int .i64 (partS (b.y - a.y) ((k:Int) + 1) (legN a b))) ∧ w' = wx):=fun wx => l7Part_any _ _ _ wx ⟨by omega,by omega⟩ (by omega) (by omega) (by omega) hle
    have e1:=partS_bd (b.x - a.x) ((k:Int) + 1) (legN a b) ⟨by omega,by omega⟩ (by omega) (by omega) (by omega) hle
    have e2:=partS_bd (b.y - a.y) ((k:Int) + 1) (legN a b) ⟨by omega,by omega⟩ (by omega) (by omega) (by omega) hle
    have HCC:Hid (celS a b ((k:Int) + 1) = ⟨a.x + partS (b.x - a.x) ((k:Int) + 1) (legN a b),a.y + partS (b.y - a.y) ((k:Int) + 1) (legN a b)⟩):=rfl
    generalize partS (b.x - a.x) ((k:Int) + 1) (legN a b) = sx at *
    generalize partS (b.y - a.y) ((k:Int) + 1) (legN a b) = sy at *
    have hw5:IntKind.i64.wrap (a.x + sx) = a.x + sx:=by rw [IntKind.wrap_i64]; omega
    have hw6:IntKind.i64.wrap (a.y + sy) = a.y + sy:=by rw [IntKind.wrap_i64]; omega
    have hid:=HI.out.1.1
    unfold CNew at hid
    rw [legK_len] at hid
    have hsz:=HI.out.1.2.2
    have HI2:Hid ((CNew wr.drew (w.heap.size + 2) (.slice a' (k + 1) c') (legK a b k) ∧ Below w.heap.size w wr.drew ∧ w.heap.size + 3 ≤ wr.drew.heap.size) ∧ (wr.drew.cell? ⟨w.heap.size,0,none⟩ = some (.int .i64 a.x) ∧ wr.drew.cell? ⟨w.heap.size,1,none⟩ = some (.int .i64 a.y)) ∧ wr.drew.cell? ⟨w.heap.size + 1,0,none⟩ = some (.int .i64 b.x) ∧ wr.drew.cell? ⟨w.heap.size + 1,1,none⟩ = some (.int .i64 b.y)):=⟨⟨ownC_keep HI.out.1.1 (Below.refl _ _).drew,below_step HI.out.1.2.1 (Below.refl _ _).drew,hsz⟩,⟨cell_keep (Below.refl _ _).drew (Nat.le_refl _) HI.out.2.1.1,cell_keep (Below.refl _ _).drew (Nat.le_refl _) HI.out.2.1.2⟩,cell_keep (Below.refl _ _).drew (Nat.le_refl _) HI.out.2.2.1,cell_keep (Below.refl _ _).drew (Nat.le_refl _) HI.out.2.2.2⟩
    go_wp2_with fail
    refine wp_region_noPanic ?_
    refine wp_region_held_drew (S:=fun w' => (w'.cell? ⟨w.heap.size,0,none⟩ = some (.int .i64 a.x) ∧ w'.cell? ⟨w.heap.size,1,none⟩ = some (.int .i64 a.y)) ∧ w'.cell? ⟨w.heap.size + 1,0,none⟩ = some (.int .i64 b.x) ∧ w'.cell? ⟨w.heap.size + 1,1,none⟩ = some (.int .i64 b.y)) (by kernel_rfl) ?_ (fun hHeld => ?_)
    ·exact HI2.out.2
    clear HI
    generalize wr.drew = W at *
    refine tkH 0 ?_ rfl ?_ (tkH 1 ?_ rfl ?_ (tkH 2 ?_ rfl ?_ (tkH 3 ?_ rfl ?_ (tkH 4 ?_ rfl ?_ (tkH 5 ?_ rfl ?_ (tkH 6 ?_ rfl ?_ (tkH 7 ?_ rfl ?_ (tkH 8 ?_ rfl ?_ (tkH 9 ?_ rfl ?_ (tkH 12 ?_ rfl ?_ (tkH 13 ?_ rfl ?_ (tkH 14 ?_ rfl ?_ (tkH 15 ?_ rfl ?_ (tkH 16 ?_ rfl ?_ (tkH 17 ?_ rfl ?_ (tkH 18 ?_ rfl ?_ (tkH 19 ?_ rfl ?_ (tkH 20 ?_ rfl ?_ ?_))))))))))))))))))
    iterate 19 (rotate_left; focus (intro w hSw; (try dsimp only at hSw); simp only [Act.put,tkS]; go_simp; try with_reducible rfl))
    simp only [Act.put,tkS]
    refine rdH 10 rfl (fun K hK => ?_)
    go_simp
    refine (HP1.out _).mono ?_
    rintro e wz ⟨rfl,hz⟩
    rw [hz]
    refine hK.out _ _ hHeld (fun _ => ?_)
    clear hK K hz wz
    refine tkH 11 ?_ rfl ?_ ?_; rotate_left
    ·intro w hSw; (try dsimp only at hSw); go_simp; try with_reducible rfl
    simp only [Act.put,tkS]
    refine rdH 21 rfl (fun K hK => ?_)
    go_simp
    refine (HP2.out _).mono ?_
    rintro e wz ⟨rfl,hz⟩
    rw [hz]
    refine hK.out _ _ hHeld (fun _ => ?_)
    clear hK K hz wz
    refine tkH 22 ?_ rfl ?_ (tkH 23 ?_ rfl ?_ ?_)
    iterate 2 (rotate_left; focus (intro w hSw; (try dsimp only at hSw); simp only [Act.put,tkS]; go_simp; try with_reducible rfl))
    simp only [Act.put,tkS]
    have hAl:Below W.heap.size W (W.alloc (.cells #[.int .i64 (a.x + sx),.int .i64 (a.y + sy)] 77)):=(Below.refl _ _).alloc (Nat.le_refl _) _
    have HI3:Hid ((CNew (W.alloc (.cells #[.int .i64 (a.x + sx),.int .i64 (a.y + sy)] 77)) (w.heap.size + 2) (.slice a' (k + 1) c') (legK a b k) ∧ Below w.heap.size w (W.alloc (.cells #[.int .i64 (a.x + sx),.int .i64 (a.y + sy)] 77)) ∧ w.heap.size + 3 ≤ (W.alloc (.cells #[.int .i64 (a.x + sx),.int .i64 (a.y + sy)] 77)).heap.size) ∧ ((W.alloc (.cells #[.int .i64 (a.x + sx),.int .i64 (a.y + sy)] 77)).cell? ⟨w.heap.size,0,none⟩ = some (.int .i64 a.x) ∧ (W.alloc (.cells #[.int .i64 (a.x + sx),.int .i64 (a.y + sy)] 77)).cell? ⟨w.heap.size,1,none⟩ = some (.int .i64 a.y)) ∧ (W.alloc (.cells #[.int .i64 (a.x + sx),.int .i64 (a.y + sy)] 77)).cell? ⟨w.heap.size + 1,0,none⟩ = some (.int .i64 b.x) ∧ (W.alloc (.cells #[.int .i64 (a.x + sx),.int .i64 (a.y + sy)] 77)).cell? ⟨w.heap.size + 1,1,none⟩ = some (.int .i64 b.y)):=⟨⟨ownC_keep HI2.out.1.1 hAl,below_step HI2.out.1.2.1 hAl,Nat.le_trans HI2.out.1.2.2 hAl.size⟩,⟨cell_keep hAl (Nat.le_refl _) HI2.out.2.1.1,cell_keep hAl (Nat.le_refl _) HI2.out.2.1.2⟩,cell_keep hAl (Nat.le_refl _) HI2.out.2.2.1,cell_keep hAl (Nat.le_refl _) HI2.out.2.2.2⟩
    have HNB:Hid ((W.alloc (.cells #[.int .i64 (a.x + sx),.int .i64 (a.y + sy)] 77)).heap[W.heap.size]? = some (.cells #[.int .i64 (a.x + sx),.int .i64 (a.y + sy)] 77 (0,0))):=heap_newW W _
    clear hHeld hAl HI2 hid
    refine rdH 24 rfl (fun K hK => ?_)
    go_simp
    refine hK.out _ _ HI3.out.2 (fun _ => ?_)
    clear hK K
    generalize (W.alloc (.cells #[.int .i64 (a.x + sx),.int .i64 (a.y + sy)] 77)) = W2 at *
    generalize W.heap.size = XN at *
    have hid:=HI3.out.1.1
    unfold CNew at hid
    rw [legK_len] at hid
    refine rdH 25 rfl (fun K hK => ?_)
    refine step_append_any _ rfl _ _ 73 rfl (w.heap.size + 2) 77 i0 _ 2 16 Tryz.underlying73 hi0 hz0 hz1 hz2 rfl (by decide) _ (k + 1) _ rfl hid _ 1 1 [.int .i64 (a.x + sx),.int .i64 (a.y + sy)] rfl (.inr ⟨_,rfl,World.news_of_block HNB.out⟩) rfl (fun u hu => by simp at hu; rcases hu with rfl | rfl <;> rfl) (by unfold maxLen; omega) (by omega) (by have:=HI3.out.1.2.2; omega) ?_
    intro vq wx hown hgrow hat
    have HI4:Hid ((CNew wx (w.heap.size + 2) vq (legK a b (k + 1)) ∧ Below w.heap.size w wx ∧ w.heap.size + 3 ≤ wx.heap.size) ∧ (wx.cell? ⟨w.heap.size,0,none⟩ = some (.int .i64 a.x) ∧ wx.cell? ⟨w.heap.size,1,none⟩ = some (.int .i64 a.y)) ∧ wx.cell? ⟨w.heap.size + 1,0,none⟩ = some (.int .i64 b.x) ∧ wx.cell? ⟨w.heap.size + 1,1,none⟩ = some (.int .i64 b.y)):=by
     have hS:∀ (B o:Nat) (u:Value),B < w.heap.size + 2 → W2.cell? ⟨B,o,none⟩ = some u → wx.cell? ⟨B,o,none⟩ = some u:=fun B o u hB hu =>
      (World.cell?_of_block (hgrow.block B (lt_of_cell hu) (fun e => by have:=ownC_ge hid B e.symm; omega))).trans hu
     refine ⟨⟨?_,HI3.out.1.2.1.grown hgrow HI3.out.1.2.1.size (fun q hq => by have:=ownC_ge hid q hq; omega),Nat.le_trans HI3.out.1.2.2 hgrow.size⟩,⟨hS _ _ _ (by omega) HI3.out.2.1.1,hS _ _ _ (by omega) HI3.out.2.1.2⟩,hS _ _ _ (by omega) HI3.out.2.2.1,hS _ _ _ (by omega) HI3.out.2.2.2⟩
     rw [legK_succ,HCC.out]
     exact CNew.snoc (legK_len a b k) hown
    obtain ⟨qa,qc,rfl⟩:=ownC_slice hown
    have hHeld:=HI4.out.2
    refine hK.out _ _ hHeld (fun _ => ?_)
    clear hK K hown hgrow hat hid HI3 HNB
    refine tkH 26 ?_ rfl ?_ ?_; rotate_left
    ·intro w hSw; (try dsimp only at hSw); go_simp; try with_reducible rfl
    simp only [Act.put,tkS]
    clear hHeld
    refine wpAnyH_done (by kernel_rfl) ?_ _
    refine NoPanic.normal ?_
    go_wp2
    exact ⟨⟨.slice qa (k + 1 + 1) qc,.int .i64 ((k:Int) + 1 + 1),_,_,_,_,_,_,_,_,_,_,_,_,_,_,_,_,_,_,_,_,_,_,_,_,_,_,_,_,_,_,_,⟨k + 1,by omega,by go_num,⟨_,_,rfl⟩,HI4⟩,rfl⟩,by simp [intOf]; omega⟩
   ·have HF:Hid (legK a b k = legU a b):=HEN.out k (by omega)
    have hk1:¬ (k:Int) + 1 ≤ legN a b:=by omega
    go_wp2
    go_ret
    exact ⟨.slice a' (k + 1) c',rfl,by have h:=HI.out.1.1; rw [HF.out] at h; exact ownC_mono h (by omega),HI.out.1.2.1⟩
open Go.RowKit
theorem rev_take (l:List Cel) (k:Nat) (h:k < l.length):l.reverse.take (k + 1) = l.reverse.take k ++ [tat l (l.length - 1 - k)]:=by
 have hl:k < l.reverse.length:=by rw [List.length_reverse]; exact h
 rw [List.take_succ_eq_append_getElem hl]
 congr 2
 rw [List.getElem_reverse]
 simp [tat,show l.length - 1 - k < l.length by omega]
theorem legS_yes {a b:Cel} (h:lesser b a = true):legS a b = (legU b a).reverse:=by unfold legS; rw [h]; rfl
theorem legS_no {a b:Cel} (h:lesser b a = false):legS a b = legU a b:=by unfold legS; rw [h]; rfl
set_option maxRecDepth 100000 in
set_option maxHeartbeats 12800000 in
theorem l7LegR_any (a b:Cel) (w:World) (ha:a.In) (hb:b.In) (hl:lesser b a = true) :
  Calls Tryz.prog 73 #[cv a,cv b] w fun e w' => ∃ u,e = .returned u ∧ CNew w' w.heap.size u (legU b a).reverse ∧ Below w.heap.size w w':=by
 obtain ⟨i0,hi0,hz0,hz1,hz2⟩:=info_parts infoCell
 have HB:Hid (Below w.heap.size w (((w.alloc (.cells #[.int .i64 a.x,.int .i64 a.y] 77)).alloc (.cells #[.int .i64 b.x,.int .i64 b.y] 77)).alloc (.cells #[] 77))):=(((Below.refl _ _).alloc (Nat.le_refl _) _).alloc (by simp) _).alloc (by simp; omega) _
 have HR:Hid ((((w.alloc (.cells #[.int .i64 a.x,.int .i64 a.y] 77)).alloc (.cells #[.int .i64 b.x,.int .i64 b.y] 77)).alloc (.cells #[] 77)).heap[w.heap.size + 2]? = some (.cells #[] 77 (0,0))):=by
  have h:=heap_newW ((w.alloc (.cells #[.int .i64 a.x,.int .i64 a.y] 77)).alloc (.cells #[.int .i64 b.x,.int .i64 b.y] 77)) (.cells #[] 77)
  rw [show ((w.alloc (.cells #[.int .i64 a.x,.int .i64 a.y] 77)).alloc (.cells #[.int .i64 b.x,.int .i64 b.y] 77)).heap.size = w.heap.size + 2 by simp] at h
  exact h
 have c0:(((w.alloc (.cells #[.int .i64 a.x,.int .i64 a.y] 77)).alloc (.cells #[.int .i64 b.x,.int .i64 b.y] 77)).alloc (.cells #[] 77)).cell? ⟨w.heap.size,0,none⟩ = some (.int .i64 a.x):=by simp [go_sem]
 have c1:(((w.alloc (.cells #[.int .i64 a.x,.int .i64 a.y] 77)).alloc (.cells #[.int .i64 b.x,.int .i64 b.y] 77)).alloc (.cells #[] 77)).cell? ⟨w.heap.size,1,none⟩ = some (.int .i64 a.y):=by simp [go_sem]
 have c2:(((w.alloc (.cells #[.int .i64 a.x,.int .i64 a.y] 77)).alloc (.cells #[.int .i64 b.x,.int .i64 b.y] 77)).alloc (.cells #[] 77)).cell? ⟨w.heap.size + 1,0,none⟩ = some (.int .i64 b.x):=by simp [go_sem]
 have c3:(((w.alloc (.cells #[.int .i64 a.x,.int .i64 a.y] 77)).alloc (.cells #[.int .i64 b.x,.int .i64 b.y] 77)).alloc (.cells #[] 77)).cell? ⟨w.heap.size + 1,1,none⟩ = some (.int .i64 b.y):=by simp [go_sem]
 have HRC:Hid (∀ wx:World,Calls Tryz.prog 73 #[cv b,cv a] wx fun e w' => ∃ u,e = .returned u ∧ CNew w' wx.heap.size u (legU b a) ∧ Below wx.heap.size wx w'):=fun wx => l7LegU_any b a wx hb ha (lesser_swap hl)
 have hlen:(legU b a).length ≤ 16:=by rw [legU_len]; have:=legN_le hb ha; omega
 have hpos:0 < (legU b a).length:=by rw [legU_len]; omega
 have hlc:=hl
 clear hl
 generalize legU b a = l at *
 rcases (show (b.x < a.x) ∨ (¬ b.x < a.x ∧ b.x = a.x ∧ b.y < a.y) by unfold lesser at hlc; split at hlc <;> simp at hlc <;> omega) with x1 | ⟨x1,x2,x3⟩
 focus
  go_enter Tryz.func73,Tryz.ntmps73
 rotate_left
 focus
  have hq:(b.x == a.x) = true:=by simp [x2]
  clear x2
  go_enter Tryz.func73,Tryz.ntmps73
 rotate_left
 all_goals
  go_wp2_with fail
  generalize (((w.alloc (.cells #[.int .i64 a.x,.int .i64 a.y] 77)).alloc (.cells #[.int .i64 b.x,.int .i64 b.y] 77)).alloc (.cells #[] 77)) = w1 at *
  refine (HRC.out _).mono ?_
  rintro e w2 ⟨u,rfl,hu,hb2⟩
  obtain ⟨aL,cL,rfl⟩:=ownC_slice hu
  obtain ⟨BL,rfl⟩:∃ BL,aL = some ⟨BL,0,none⟩:=by
   rcases hu.2 with ⟨h,h0⟩ | ⟨g,cap,cur,h,_⟩
   ·omega
   ·injection h with h1 h2 h3
    exact ⟨g,h1⟩
  have hBL:w1.heap.size ≤ BL:=ownC_ge hu BL rfl
  have hBL2:BL < w2.heap.size:=ownC_lt hu BL rfl
  have hR1:=lt_of_block HR.out
  have HI0:Hid (CNew w2 (w.heap.size + 2) (.slice (some ⟨w.heap.size + 2,0,none⟩) 0 0) (l.reverse.take 0) ∧ Below w.heap.size w w2 ∧ CAt w2 (.slice (some ⟨BL,0,none⟩) l.length cL) l ∧ (BL < w2.heap.size ∧ w.heap.size + 3 ≤ w2.heap.size) ∧ ∀ q,(Value.slice (some ⟨w.heap.size + 2,0,none⟩) 0 0).ownBlock = some q → q ≠ BL):=by
   refine ⟨⟨rfl,.inr ⟨w.heap.size + 2,0,#[],rfl,Nat.le_refl _,below_block hb2 HR.out,Nat.le_refl _,Nat.zero_le _,rfl,rfl⟩⟩,below_step HB.out hb2,hu.at,⟨hBL2,by omega⟩,fun q hq => ?_⟩
   simp only [Value.ownBlock,Option.some.injEq] at hq
   omega
  clear hu hb2 c0 c1 c2 c3 hBL hBL2 hR1
  go_wp2_with fail
  go_loopw [5,7] (fun v i wr => ∃ (k:Nat) (z:Int),k ≤ l.length ∧ z = (l.length:Int) - 1 - (k:Int) ∧ i = .int .i64 z ∧ (∃ a' c',v = .slice a' k c') ∧ Hid (CNew wr (w.heap.size + 2) v (l.reverse.take k) ∧ Below w.heap.size w wr ∧ CAt wr (.slice (some ⟨BL,0,none⟩) l.length cL) l ∧ (BL < wr.heap.size ∧ w.heap.size + 3 ≤ wr.heap.size) ∧ ∀ q,v.ownBlock = some q → q ≠ BL)) (fun _ i _ => (intOf i + 1).toNat)
  case atStart => exact ⟨0,_,Nat.zero_le _,by simp,rfl,⟨_,_,rfl⟩,HI0⟩
  case round =>
   clear HI0
   obtain ⟨k,z,hk,hz,rfl,⟨a',c',rfl⟩,HI⟩:=hrel
   by_cases hlt:k < l.length
   ·obtain ⟨j,rfl⟩:∃ j:Nat,z = j:=⟨l.length - 1 - k,by omega⟩
    have hj:j = l.length - 1 - k:=by omega
    have HJ:Hid (l.reverse.take (k + 1) = l.reverse.take k ++ [tat l j]):=by show _ = _; rw [hj]; exact rev_take l k hlt
    obtain ⟨d0,d1⟩:=HI.out.2.2.1.cells j (by omega)
    have hj0:(0:Int) ≤ (j:Int):=by omega
    have hj1:(j:Int) < (l.length:Int):=by omega
    have HTL:Hid ((l.reverse.take k).length = k):=by show _ = _; rw [List.length_take,List.length_reverse]; omega
    have hid:=HI.out.1
    unfold CNew at hid
    rw [HTL.out] at hid
    have hsz:=HI.out.2.1.size
    have hbw:w.heap.size + 3 ≤ wr.heap.size:=HI.out.2.2.2.1.2
    have HJJ:Hid (j + 1 + k = l.length):=by show _ = _; omega
    clear hj hz
    generalize tat l j = tc at *
    go_wp2_with (at_builtin; refine wpList_append_any _ rfl _ _ 73 rfl (w.heap.size + 2) 77 i0 _ 2 16 Tryz.underlying73 hi0 hz0 hz1 hz2 rfl (by decide) _ k _ rfl (ownC_keep hid ((Below.refl _ _).alloc (Nat.le_refl _) _)) _ 1 1 [.int .i64 tc.x,.int .i64 tc.y] rfl (.inr ⟨_,rfl,World.news_of_block (heap_newW wr (.cells #[.int .i64 tc.x,.int .i64 tc.y] 77))⟩) rfl (fun u hu => by simp at hu; rcases hu with rfl | rfl <;> rfl) (by unfold maxLen; omega) (by omega) (by simp; omega) ?_; intro vq wx hown hgrow hat)
    have hal:Below wr.heap.size wr (wr.alloc (.cells #[.int .i64 tc.x,.int .i64 tc.y] 77)):=(Below.refl _ _).alloc (Nat.le_refl _) _
    have HN:Hid (CNew wx (w.heap.size + 2) vq (l.reverse.take (k + 1)) ∧ Below w.heap.size w wx ∧ CAt wx (.slice (some ⟨BL,0,none⟩) l.length cL) l ∧ (BL < wx.heap.size ∧ w.heap.size + 3 ≤ wx.heap.size) ∧ ∀ q,vq.ownBlock = some q → q ≠ BL):=by
     have hz3:=hgrow.size
     rw [World.size_alloc] at hz3
     have hBB:=HI.out.2.2.2.1.1
     have hne:some BL ≠ (Value.slice a' k c').ownBlock:=fun e => HI.out.2.2.2.2 BL e.symm rfl
     refine ⟨?_,(below_step HI.out.2.1 hal).grown hgrow (below_step HI.out.2.1 hal).size (fun q hq => by have:=ownC_ge hid q hq; omega),?_,⟨by omega,by omega⟩,fun q hq => ?_⟩
     ·rw [HJ.out]
      exact CNew.snoc HTL.out hown
     ·obtain ⟨a9,c9,h1,h2,h3,h4⟩:=HI.out.2.2.1.keep hal
      refine ⟨a9,c9,h1,h2,h3,fun i t ht => ?_⟩
      obtain ⟨g9,e9,e0,e1⟩:=h4 i t ht
      have hgg:g9 = BL:=by rw [e9] at h1; injection h1 with h1; injection h1 with h1; injection h1 with h1; exact h1.symm
      subst hgg
      have hblk:=hgrow.block g9 (lt_of_cell e0) hne
      exact ⟨g9,e9,(World.cell?_of_block hblk).trans e0,(World.cell?_of_block hblk).trans e1⟩
     ·rcases hat with e | e
      ·rw [e] at hq
       exact HI.out.2.2.2.2 q hq
      ·rw [e,World.size_alloc] at hq
       injection hq with hq
       omega
    obtain ⟨qa,qc,rfl⟩:=ownC_slice hown
    exact ⟨⟨k + 1,(j:Int) - 1,by omega,by have:=HJJ.out; omega,by first | rfl | go_num,⟨_,_,rfl⟩,HN⟩,by first | (simp [intOf]; done) | (simp [intOf]; omega)⟩
   ·have HF:Hid (l.reverse.take k = l.reverse):=List.take_of_length_le (by rw [List.length_reverse]; omega)
    have hz2:z < 0:=by omega
    go_wp2
    go_ret
    exact ⟨.slice a' k c',rfl,by have h:=HI.out.1; rw [HF.out] at h; exact ownC_mono h (by omega),HI.out.2.1⟩
open Go.RowKit
def cellsL (ps:List Tri) (ws:List ByteArray):List Cel:=alongTo (tat (turns ps ws)) ws.length
def cellsOkB (ks ps:List Tri) (ws:List ByteArray):Bool:=((kindsB ks && pointsB ps) && routeB ps ws) && decide ((cellsL ps ws).length ≤ 40)
def cellsR (ks ps:List Tri) (ws:List ByteArray):List Cel:=bif cellsOkB ks ps ws then cellsL ps ws else []
theorem points_in {ps:List Tri} (h:pointsB ps = true):∀ i,i < ps.length → insideB (at' ps i) = true:=fun i hi => by
 unfold pointsB at h
 rw [Bool.and_eq_true] at h
 have:=allB_get h.2 i hi
 rw [Bool.and_eq_true] at this
 exact this.1
theorem celOf_in {ps:List Tri} {x:ByteArray} (h:pointsB ps = true) (hx:hasB ps x = true):(celOf ps x).In:=by
 unfold hasB at hx
 rw [Bool.and_eq_true] at hx
 have h1:=points_in h _ (of_decide_eq_true hx.1)
 unfold insideB inB at h1
 simp at h1
 exact ⟨⟨h1.1.1,h1.1.2⟩,h1.2.1,h1.2.2⟩
theorem route_all {ps:List Tri} {ws:List ByteArray} (h:routeB ps ws = true):(2 ≤ ws.length ∧ ws.length ≤ 8) ∧ ∀ i,i < ws.length → hasB ps (wat ws i) = true:=by
 unfold routeB at h
 rw [Bool.and_eq_true] at h
 refine ⟨by have:=h.1; unfold inB at this; simp at this; omega,fun i hi => ?_⟩
 have:=allB_get h.2 i hi
 unfold stepB at this
 rw [Bool.and_eq_true] at this
 exact this.1
theorem turns_in {ps:List Tri} {ws:List ByteArray} (hp:pointsB ps = true) (h:routeB ps ws = true):∀ c ∈ turns ps ws,c.In:=fun c hc => by
 obtain ⟨x,hx,rfl⟩:=List.mem_map.1 hc
 obtain ⟨i,hi,rfl⟩:=List.getElem_of_mem hx
 have:=(route_all h).2 i hi
 have e:wat ws i = ws[i]:=by simp [wat,hi]
 rw [e] at this
 exact celOf_in hp this
theorem cellsL_len {ps:List Tri} {ws:List ByteArray} (hp:pointsB ps = true) (h:routeB ps ws = true):(cellsL ps ws).length ≤ 121:=by
 have h1:=alongTo_len (turns_in hp h) ws.length (by unfold turns; rw [List.length_map]; exact Nat.le_refl _)
 have h2:=(route_all h).1
 unfold cellsL
 omega
set_option maxRecDepth 100000 in
set_option maxHeartbeats 3200000 in
theorem planCells_any (vk vp v:Value) (ks ps:List Tri) (ws:List ByteArray) (w:World) (hk:TrisAt w vk ks) (hp:TrisAt w vp ps) (nk:Names ks) (np:Names ps) (hst:StrsAt w v ws) :
  Calls Tryz.prog 27 #[.agg #[vk,vp],v] w fun e w' => ∃ u,e = .returned (.tuple #[u,.bool (cellsOkB ks ps ws)]) ∧ CNew w' w.heap.size u (cellsR ks ps ws) ∧ Below w.heap.size w w':=by
 have HB1:Hid (Below w.heap.size w (w.alloc (.cells #[vk,vp] 26))):=(Below.refl _ _).alloc (Nat.le_refl _) _
 have GB:Hid (∀ wx:World,Below w.heap.size w wx → Calls Tryz.prog 44 #[.agg #[vk,vp]] wx fun e w' => e = .returned (.bool (kindsB ks && pointsB ps)) ∧ Below wx.heap.size wx w'):=fun wx hx => baseOk_any vk vp ks ps wx (hk.keep hx) (hp.keep hx) nk np
 have GR:Hid (∀ wx:World,Below w.heap.size w wx → Calls Tryz.prog 68 #[.agg #[vk,vp],v] wx fun e w' => e = .returned (.bool (routeB ps ws)) ∧ Below wx.heap.size wx w'):=fun wx hx => routeFits_any vk vp v ps ws wx (hp.keep hx) (hst.keep hx)
 have GT:Hid (routeB ps ws = true → ∀ wx:World,Below w.heap.size w wx → Calls Tryz.prog 70 #[.agg #[vk,vp],v] wx fun e w' => ∃ u,e = .returned u ∧ CNew w' wx.heap.size u (turns ps ws) ∧ Below wx.heap.size wx w'):=fun hr wx hx => cellsOfPoints_any vk vp v ps ws wx (hp.keep hx) (hst.keep hx) (route_all hr).1.2 (route_all hr).2
 have p0:(w.alloc (.cells #[vk,vp] 26)).cell? ⟨w.heap.size,0,none⟩ = some vk:=by simp [go_sem]
 have p1:(w.alloc (.cells #[vk,vp] 26)).cell? ⟨w.heap.size,1,none⟩ = some vp:=by simp [go_sem]
 obtain ⟨g,off,cap,rfl,hlc,hcm,-⟩:=hst
 clear hk hp
 go_enter Tryz.func27,Tryz.ntmps27
 go_wp2_with fail
 generalize (w.alloc (.cells #[vk,vp] 26)) = w1 at *
 have Q0:Hid (∀ wx:World,Below w1.heap.size w1 wx → wx.cell? ⟨w.heap.size,0,none⟩ = some vk ∧ wx.cell? ⟨w.heap.size,1,none⟩ = some vp):=fun wx hx => ⟨cell_keep hx (Nat.le_refl _) p0,cell_keep hx (Nat.le_refl _) p1⟩
 refine (GB.out _ HB1.out).mono ?_
 rintro e w2 ⟨rfl,hb2⟩
 have B2:Hid (Below w1.heap.size w1 w2):=hb2
 clear hb2 p0 p1
 obtain ⟨p0,p1⟩:=Q0.out _ B2.out
 cases hbb:(kindsB ks && pointsB ps)
 ·have HE:Hid (cellsOkB ks ps ws = false ∧ cellsR ks ps ws = []):=by
   have h:cellsOkB ks ps ws = false:=by unfold cellsOkB; rw [hbb]; rfl
   exact ⟨h,by unfold cellsR; rw [h]; rfl⟩
  clear hbb
  go_wp2
  go_ret2
  exact ⟨.slice none 0 0,by rw [HE.out.1]; rfl,by rw [HE.out.2]; exact ⟨rfl,.inl ⟨rfl,rfl⟩⟩,below_step HB1.out B2.out⟩
 ·have HBB:Hid ((kindsB ks && pointsB ps) = true):=hbb
  clear hbb
  go_wp2_with fail
  refine (GR.out _ (below_step HB1.out B2.out)).mono ?_
  rintro e w3 ⟨rfl,hb3⟩
  have B3:Hid (Below w1.heap.size w1 w3):=below_step B2.out hb3
  clear hb3 p0 p1 B2
  obtain ⟨p0,p1⟩:=Q0.out _ B3.out
  cases hrr:routeB ps ws
  ·have HE:Hid (cellsOkB ks ps ws = false ∧ cellsR ks ps ws = []):=by
    have h:cellsOkB ks ps ws = false:=by unfold cellsOkB; rw [HBB.out,hrr]; rfl
    exact ⟨h,by unfold cellsR; rw [h]; rfl⟩
   clear hrr
   go_wp2
   go_ret2
   exact ⟨.slice none 0 0,by rw [HE.out.1]; rfl,by rw [HE.out.2]; exact ⟨rfl,.inl ⟨rfl,rfl⟩⟩,below_step HB1.out B3.out⟩
  ·have HRR:Hid (routeB ps ws = true):=hrr
   clear hrr
   have hpp:pointsB ps = true:=by have:=HBB.out; rw [Bool.and_eq_true] at this; exact this.2
   have HIN:Hid (∀ c ∈ turns ps ws,c.In):=turns_in hpp HRR.out
   have hlen:=cellsL_len hpp HRR.out
   have HTL:Hid ((turns ps ws).length = ws.length):=by show _ = _; unfold turns; rw [List.length_map]
   have HW8:Hid (ws.length ≤ 8):=(route_all HRR.out).1.2
   go_wp2_with fail
   refine (GT.out HRR.out _ (below_step HB1.out B3.out)).mono ?_
   rintro e w4 ⟨u,rfl,hu,hb4⟩
   obtain ⟨a4,c4,rfl⟩:=ownC_slice hu
   have U4:Hid (CAt w4 (.slice a4 (turns ps ws).length c4) (turns ps ws)):=hu.at
   have B4:Hid (Below w1.heap.size w1 w4):=below_step B3.out hb4
   clear hb4 p0 p1 B3 hu
   go_wp2_with fail
   refine (cellsAlong_any _ (turns ps ws) _ U4.out (by rw [HTL.out]; exact HW8.out) HIN.out).mono ?_
   rw [HTL.out]
   rintro e w5 ⟨u,rfl,hu,hb5⟩
   have hu':CNew w5 w4.heap.size u (cellsL ps ws):=hu
   obtain ⟨a5,c5,rfl⟩:=ownC_slice hu'
   have U5:Hid (CNew w5 w.heap.size (.slice a5 (cellsL ps ws).length c5) (cellsL ps ws)):=ownC_mono hu' (below_step HB1.out B4.out).size
   have B5:Hid (Below w1.heap.size w1 w5):=below_step B4.out hb5
   clear hb5 B4 hu hu' U4
   by_cases h40:(cellsL ps ws).length ≤ 40
   ·have HE:Hid (cellsOkB ks ps ws = true ∧ cellsR ks ps ws = cellsL ps ws):=by
     have h:cellsOkB ks ps ws = true:=by unfold cellsOkB; rw [HBB.out,HRR.out,decide_eq_true h40]; rfl
     exact ⟨h,by unfold cellsR; rw [h]; rfl⟩
    go_wp2
    go_ret2
    exact ⟨.slice a5 (cellsL ps ws).length c5,by rw [HE.out.1]; rfl,by rw [HE.out.2]; exact U5.out,below_step HB1.out B5.out⟩
   ·have HE:Hid (cellsOkB ks ps ws = false ∧ cellsR ks ps ws = []):=by
     have h:cellsOkB ks ps ws = false:=by unfold cellsOkB; rw [decide_eq_false h40]; simp
     exact ⟨h,by unfold cellsR; rw [h]; rfl⟩
    go_wp2
    go_ret2
    exact ⟨.slice none 0 0,by rw [HE.out.1]; rfl,by rw [HE.out.2]; exact ⟨rfl,.inl ⟨rfl,rfl⟩⟩,below_step HB1.out B5.out⟩
end Go.Proofs.YtbjmgglpiakgdaaGreatDoor
