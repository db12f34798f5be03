import Derived.Test.YtbjmgglpiakgdaaGreatDoorTkU
import Derived.Test.YtbjmgglpiakgdaaGreatDoorSame
set_option linter.unusedSimpArgs false
set_option linter.unusedVariables false
namespace Go.Proofs.YtbjmgglpiakgdaaGreatDoor.Dr
open Go.RowKit Go.Proofs.YtbjmgglpiakgdaaGreatDoor
attribute [local go_sem] Later.cell Later.frozen
theorem toHid {P:Prop} (h:P):Hid P:=h
def BysAt (w:World) (R:Nat) (v:Value) (n:Nat):Prop:=∃ a cap,v=.slice a n cap∧n≤cap∧cap≤maxLen∧∀ i,i < n→∃ b off x,a=some ⟨b,off,none⟩∧b < R∧w.cell? ⟨b,off+i,none⟩=some (.int .u8 x)∧0≤x∧x < 256
structure Rd (w:World) (R p:Nat):Prop where
 box:∃ v n,n≤2000∧w.heap[R]?=some (.cells #[v,.int .i64 (p:Int)] 126 (0,0))∧BysAt w R v n
theorem lt_blk {w:World} {b:Nat} {o:Obj} (h:w.heap[b]?=some o):b < w.heap.size:=(Array.getElem?_eq_some_iff.1 h).1
theorem cell_blkD {w:World} {b i:Nat} {C:Array Value} {T:TypeId} {u:Value} (h:w.heap[b]?=some (.cells C T (0,0))) (hc:C[i]?=some u):w.cell? ⟨b,i,none⟩=some u:=by simp [World.cell?,h,hc]
theorem Rd.far {w w':World} {R p:Nat} (h:Rd w R p) (hb:Below w.heap.size w w'):Rd w' R p:=by
 obtain ⟨v,n,hn,hx,a,cap,rfl,h1,h2,h3⟩:=h.box
 refine ⟨.slice a n cap,n,hn,(hb.block R (lt_blk hx)).trans hx,a,cap,rfl,h1,h2,fun i hi=>?_⟩
 obtain ⟨b,off,x,e,hbR,hc,hr⟩:=h3 i hi
 exact ⟨b,off,x,e,hbR,cell_keep hb (Nat.le_refl _) hc,hr⟩
theorem Rd.next {w:World} {R p:Nat} (h:Rd w R p) (q:Nat):Rd (w.setCell ⟨R,1,none⟩ (.int .i64 (q:Int))) R q:=by
 obtain ⟨v,n,hn,hx,hb⟩:=h.box
 obtain ⟨a,cap,rfl,h1,h2,h3⟩:=hb
 have hlt:=lt_blk hx
 have hh:(w.setCell ⟨R,1,none⟩ (.int .i64 (q:Int))).heap[R]?=some (.cells #[.slice a n cap,.int .i64 (q:Int)] 126 (0,0)):=by
  have h':w.heap[R]=.cells #[.slice a n cap,.int .i64 (p:Int)] 126 (0,0):=by simpa [Array.getElem?_eq_getElem hlt] using hx
  show (w.heap.modify R _)[R]?=_
  rw [Array.getElem?_eq_getElem (by simpa using hlt),Array.getElem_modify_self,h']
  rfl
 refine ⟨.slice a n cap,n,hn,hh,a,cap,rfl,h1,h2,fun i hi=>?_⟩
 obtain ⟨b,off,x,e,hbR,hc,hr⟩:=h3 i hi
 refine ⟨b,off,x,e,hbR,?_,hr⟩
 rw [World.cell?_of_block (w:=w) (Below.heap_setCell w ⟨R,1,none⟩ _ b (by show b ≠ R; omega))]
 exact hc
theorem Rd.late {w w':World} {R p:Nat} (h:Rd w R p) (hs:∀ j,j≤R→w'.heap[j]?=w.heap[j]?):Rd w' R p:=by
 obtain ⟨v,n,hn,hx,a,cap,rfl,h1,h2,h3⟩:=h.box
 refine ⟨.slice a n cap,n,hn,(hs R (Nat.le_refl _)).trans hx,a,cap,rfl,h1,h2,fun i hi=>?_⟩
 obtain ⟨b,off,x,e,hbR,hc,hr⟩:=h3 i hi
 refine ⟨b,off,x,e,hbR,?_,hr⟩
 rw [World.cell?_of_block (w:=w) (hs b (by omega))]
 exact hc
theorem grown_cell {w w7:World} {r:Option Nat} (h:w.grownBy w7 r) {b:Nat} (i:Nat) (v:Value) (hb:w.heap.size≤b):w.grownBy (w7.setCell ⟨b,i,none⟩ v) r :=
 ⟨h.1,h.2,h.3,by simpa using h.4,fun j hj hr=>(Below.heap_setCell w7 ⟨b,i,none⟩ v j (by show j ≠ b; omega)).trans (h.5 j hj hr)⟩
theorem grown_row {w w7:World} {r:Option Nat} (h:w.grownBy w7 r) {b:Nat} (C:Array Value) (hb:w.heap.size≤b):w.grownBy (w7.setRow b C) r :=
 ⟨h.1,h.2,h.3,by simpa using h.4,fun j hj hr=>(setRow_other _ _ _ _ (by omega)).trans (h.5 j hj hr)⟩
theorem grown_box (w:World) (R i:Nat) (v:Value):w.grownBy (w.setCell ⟨R,i,none⟩ v) (some R) :=
 ⟨rfl,rfl,rfl,by simp,fun j _ hr=>Below.heap_setCell w ⟨R,i,none⟩ v j (fun e=>hr (by rw [e]))⟩
theorem grown_on {w w1 w2:World} {r:Option Nat} (h:w.grownBy w1 r) (k:w1.grownBy w2 r):w.grownBy w2 r :=
 ⟨k.1.trans h.1,k.2.trans h.2,k.3.trans h.3,Nat.le_trans h.4 k.4,fun j hj hr=>(k.5 j (Nat.lt_of_lt_of_le hj h.4) hr).trans (h.5 j hj hr)⟩
theorem grown_of {w w':World} (h:Below w.heap.size w w') (r:Option Nat):w.grownBy w' r:=⟨h.1,h.2,h.3,h.4,fun k hk _=>h.5 k hk⟩
theorem xor_i64 (a b:Nat) (ha:a < 4611686018427387904) (hb:b < 4611686018427387904):bits .xor .i64 (a:Int) (b:Int)=((a ^^^ b:Nat):Int):=by
 have hx:a ^^^ b < 2 ^ 62:=Nat.xor_lt_two_pow (by omega) (by omega)
 have h1:(BitVec.ofInt 64 (a:Int)).toNat=a:=by
  rw [BitVec.ofInt_natCast,BitVec.toNat_ofNat]; exact Nat.mod_eq_of_lt (by omega)
 have h2:(BitVec.ofInt 64 (b:Int)).toNat=b:=by
  rw [BitVec.ofInt_natCast,BitVec.toNat_ofNat]; exact Nat.mod_eq_of_lt (by omega)
 show IntKind.i64.wrap ((BitVec.ofInt 64 (a:Int) ^^^ BitVec.ofInt 64 (b:Int)).toNat:Int)=_
 rw [BitVec.toNat_xor,h1,h2,IntKind.wrap_i64]
 omega
set_option maxRecDepth 100000 in
set_option maxHeartbeats 6400000 in
theorem pick_any (R p:Nat) (n:Int) (w:World) (h:Rd w R p) (hp:p≤1000000) (hn:n≤1000000) :
  Calls Tryz.prog 33 #[.pointer (some ⟨R,0,none⟩),.int .i64 n] w fun e w'=>∃ x:Int,e=.returned (.int .i64 x)∧0≤x∧(1≤n→x < n)∧(n < 1→x=0)∧Rd w' R (p+1)∧w.grownBy w' (some R):=by
 have HN:=toHid (h.next (p+1))
 obtain ⟨v,m,hm,hx,hb⟩:=h.box
 obtain ⟨a,cap,rfl,h1,h2,h3⟩:=hb
 unfold maxLen at h2
 have hlt:=lt_blk hx
 have c0:=cell_blkD hx (i:=0) rfl
 have c1:=cell_blkD hx (i:=1) rfl
 have f1:w.frozen? ⟨R,1,none⟩=false:=by simp [World.frozen?,hx]
 have HG:Hid (w.grownBy (w.setCell ⟨R,1,none⟩ (.int .i64 ((p+1:Nat):Int))) (some R)):=grown_box w R 1 _
 rw [show ((p+1:Nat):Int)=(p:Int)+1 by omega] at HG HN
 have d0:(w.setCell ⟨R,1,none⟩ (.int .i64 ((p:Int)+1))).cell? ⟨R,0,none⟩=some (.slice a m cap):=by
  rw [World.cell?_setCell_other w ⟨R,1,none⟩ ⟨R,0,none⟩ _ (by simp)]; exact c0
 by_cases hn1:n < 1
 ·go_enter Tryz.func33,Tryz.ntmps33
  go_wp2
  go_ret
  exact ⟨0,rfl,Int.le_refl _,fun h=>absurd h (by omega),fun _=>rfl,HN.out,HG.out⟩
 ·by_cases hm0:m=0
  ·subst hm0
   go_enter Tryz.func33,Tryz.ntmps33
   go_wp2
   go_ret
   exact ⟨0,rfl,Int.le_refl _,(by first | omega | exact fun _=>by omega),(by first | trivial | exact fun _=>rfl | omega),HN.out,HG.out⟩
  ·obtain ⟨b,off,x00,rfl,hbR,hc00,-⟩:=h3 0 (by omega)
   have HNB:Hid (b ≠ R):=by show b ≠ R; omega
   have H3:Hid (∀ i,i < m→∃ x,(w.setCell ⟨R,1,none⟩ (.int .i64 ((p:Int)+1))).cell? ⟨b,off+i,none⟩=some (.int .u8 x)∧0≤x∧x < 256):=fun i hi=>by
    obtain ⟨b',off',x,e,-,hc,hr⟩:=h3 i hi
    cases e
    refine ⟨x,?_,hr⟩
    rw [World.cell?_of_block (w:=w) (Below.heap_setCell w ⟨R,1,none⟩ _ b HNB.out)]
    exact hc
   have d1:(w.setCell ⟨R,1,none⟩ (.int .i64 ((p:Int)+1))).cell? ⟨R,1,none⟩=some (.int .i64 ((p:Int)+1)):=World.cell?_setCell_same w ⟨R,1,none⟩ _ c1
   clear h3 hc00
   have hp0:(0:Int)≤(p:Int):=by omega
   have hmp:(0:Int) < (m:Int):=by omega
   have hmz:¬ (m:Int)=0:=by omega
   have hmb:((m:Int) == 0)=false:=by simp; omega
   have hnz:¬ n=0:=by omega
   by_cases hpm:(p:Int) < (m:Int)
   ·obtain ⟨x,e0,hx0,hx1⟩:=H3.out p (by omega)
    go_enter Tryz.func33,Tryz.ntmps33
    go_wp2
    go_ret
    exact ⟨x % n,rfl,Int.emod_nonneg _ hnz,(by first | exact Int.emod_lt_of_pos _ (by omega) | exact fun _=>Int.emod_lt_of_pos _ (by omega)),(by first | omega | exact fun _=>by omega),HN.out,HG.out⟩
   ·obtain ⟨i1,hi1⟩:∃ i:Nat,(p:Int) % (m:Int)=(i:Int):=⟨p % m,by simp⟩
    obtain ⟨i2,hi2⟩:∃ i:Nat,((p:Int) * 7+3) % (m:Int)=(i:Int):=⟨(p * 7+3) % m,by simp⟩
    have l1:(0:Int)≤(i1:Int):=by omega
    have l2:(i1:Int) < (m:Int):=by rw [← hi1]; exact Int.emod_lt_of_pos _ hmp
    have l3:(0:Int)≤(i2:Int):=by omega
    have l4:(i2:Int) < (m:Int):=by rw [← hi2]; exact Int.emod_lt_of_pos _ hmp
    obtain ⟨x1,e1,hx0,hx1⟩:=H3.out i1 (by omega)
    obtain ⟨x2,e2,hx2,hx3⟩:=H3.out i2 (by omega)
    obtain ⟨dv,hdv⟩:∃ d:Int,(p:Int) / (m:Int)=d:=⟨_,rfl⟩
    have hd0:0≤dv:=by rw [← hdv]; exact Int.ediv_nonneg hp0 (by omega)
    have hd1:dv≤1000000:=by rw [← hdv]; have:=Int.ediv_le_self (m:Int) hp0; omega
    have z1:=lt_of_cell e1
    have zR:=lt_of_cell d0
    have hw1:IntKind.i64.wrap ((p:Int) * 7)=(p:Int) * 7:=by rw [IntKind.wrap_i64]; omega
    have hw2:IntKind.i64.wrap ((p:Int) * 7+3)=(p:Int) * 7+3:=by rw [IntKind.wrap_i64]; omega
    have hw3:IntKind.i64.wrap (x1 * 131)=x1 * 131:=by rw [IntKind.wrap_i64]; omega
    have hw4:IntKind.i64.wrap (x2 * 1117)=x2 * 1117:=by rw [IntKind.wrap_i64]; omega
    have hw5:IntKind.i64.wrap (x1 * 131+x2 * 1117)=x1 * 131+x2 * 1117:=by rw [IntKind.wrap_i64]; omega
    have hw6:IntKind.i64.wrap ((p:Int) * 29)=(p:Int) * 29:=by rw [IntKind.wrap_i64]; omega
    have hw7:IntKind.i64.wrap (x1 * 131+x2 * 1117+(p:Int) * 29)=x1 * 131+x2 * 1117+(p:Int) * 29:=by rw [IntKind.wrap_i64]; omega
    have hw8:IntKind.i64.wrap (dv * 53)=dv * 53:=by rw [IntKind.wrap_i64]; omega
    have hw9:IntKind.i64.wrap (x1 * 131+x2 * 1117+(p:Int) * 29+dv * 53)=x1 * 131+x2 * 1117+(p:Int) * 29+dv * 53:=by rw [IntKind.wrap_i64]; omega
    have hwd:IntKind.i64.wrap dv=dv:=by rw [IntKind.wrap_i64]; omega
    go_enter Tryz.func33,Tryz.ntmps33
    go_wp2
    generalize (w.setCell ⟨R,1,none⟩ (.int .i64 ((p:Int)+1)))=w1 at *
    have hne:=Later.some w1
    refine wp_region_later (by kernel_rfl) (by kernel_rfl) ?_
    repeat (go_big_quiet_step (fail))
    refine wpQuiet_nil ?_
    rintro _ ⟨xx,rfl⟩
    have HN2:=toHid (HN.out.far xx.below)
    have HG2:=toHid (grown_on HG.out (grown_of xx.below _))
    have ht0:0≤x1 * 131+x2 * 1117+(p:Int) * 29+dv * 53:=by omega
    have ht1:x1 * 131+x2 * 1117+(p:Int) * 29+dv * 53≤100000000:=by omega
    generalize x1 * 131+x2 * 1117+(p:Int) * 29+dv * 53=t at *
    obtain ⟨u,hu0,hu1⟩:∃ u:Nat,bits .xor .i64 t (t / 64)=(u:Int)∧u < 2 ^ 62:=by
     obtain ⟨tn,rfl⟩:∃ tn:Nat,t=tn:=⟨t.toNat,by omega⟩
     refine ⟨tn ^^^ (tn / 64),?_,Nat.xor_lt_two_pow (by omega) (by omega)⟩
     rw [show ((tn:Int) / 64)=((tn / 64:Nat):Int) by simp]
     exact xor_i64 _ _ (by omega) (by omega)
    have hun:(0:Int)≤(u:Int):=by omega
    go_wp2
    go_ret
    exact ⟨(u:Int) % n,rfl,Int.emod_nonneg _ hnz,(by first | exact Int.emod_lt_of_pos _ (by omega) | exact fun _=>Int.emod_lt_of_pos _ (by omega)),(by first | omega | exact fun _=>by omega),HN2.out,HG2.out⟩
end Go.Proofs.YtbjmgglpiakgdaaGreatDoor.Dr
namespace Go.Proofs.YtbjmgglpiakgdaaGreatDoor
open Go.RowKit
def EntsOwn (lo:Nat) (w:World) (v:Value) (l:List Ent):Prop :=
 ∃ (b:Nat) (rows:List (List Value)),lo≤b∧v=.slice (some ⟨b,0,none⟩) l.length l.length∧HeldL w b l.length 2 rows∧rows.length=l.length ∧
  ∀ (i:Nat) (e:Ent),l[i]?=some e→∃ fb:Nat,fb ≠ b∧lo≤fb∧rows[i]?=some [.string e.name,.slice (some ⟨fb,0,none⟩) e.fs.length e.fs.length]∧HeldL w fb e.fs.length 3 (e.fs.map fldRow)
theorem HeldL.flds {wr:World} {B n:Nat} {l:List Fld} (h:HeldL wr B n 3 (l.map fldRow)) (hn:l.length=n) (cap:Nat) (hc:n≤cap) (hm:cap≤maxLen):FldsAt wr (.slice (some ⟨B,0,none⟩) n cap) l :=
 ⟨some ⟨B,0,none⟩,cap,by rw [hn],by omega,hm,fun i f hf=>⟨B,0,rfl,by
  have hr:(l.map fldRow)[i]?=some (fldRow f):=by rw [List.getElem?_map,hf]; rfl
  refine ⟨?_,?_,?_⟩
  ·simpa using h.cell hr (j:=0) (v:=.int .i64 f.what) rfl
  ·simpa using h.cell hr (j:=1) (v:=.int .i64 f.num) rfl
  ·simpa using h.cell hr (j:=2) (v:=.string f.v) rfl⟩⟩
theorem EntsOwn.at {lo:Nat} {w:World} {v:Value} {l:List Ent} (h:EntsOwn lo w v l) (hm:l.length≤1048576) (hf:∀ e ∈ l,e.fs.length≤1048576):EntsAt w v l:=by
 obtain ⟨b,rows,_,rfl,hh,_,hr⟩:=h
 refine ⟨some ⟨b,0,none⟩,l.length,rfl,Nat.le_refl _,by unfold maxLen; omega,fun i e he=>⟨b,0,rfl,?_⟩⟩
 obtain ⟨fb,_,_,h1,h2⟩:=hr i e he
 refine ⟨_,?_,?_,h2.flds rfl _ (Nat.le_refl _) (by have:=hf e (List.mem_of_getElem? he); unfold maxLen; omega)⟩
 ·simpa using hh.cell h1 (j:=0) rfl
 ·simpa using hh.cell h1 (j:=1) rfl
theorem EntsOwn.keep {lo:Nat} {w w':World} {v:Value} {l:List Ent} (h:EntsOwn lo w v l) (hb:Below w.heap.size w w'):EntsOwn lo w' v l:=by
 obtain ⟨b,rows,hl,hv,hh,hn,hr⟩:=h
 refine ⟨b,rows,hl,hv,hh.keep hb,hn,fun i e he=>?_⟩
 obtain ⟨fb,h0,h1,h2,h3⟩:=hr i e he
 exact ⟨fb,h0,h1,h2,h3.keep hb⟩
theorem EntsOwn.other {lo:Nat} {w:World} {v:Value} {l:List Ent} (h:EntsOwn lo w v l) {k o:Nat} (hk:k < lo) (x:Value):EntsOwn lo (w.setCell ⟨k,o,none⟩ x) v l:=by
 obtain ⟨b,rows,hl,hv,hh,hn,hr⟩:=h
 refine ⟨b,rows,hl,hv,hh.other (by omega) x,hn,fun i e he=>?_⟩
 obtain ⟨fb,h0,h1,h2,h3⟩:=hr i e he
 exact ⟨fb,h0,h1,h2,h3.other (by omega) x⟩
theorem EntsOwn.mono {lo lo':Nat} {w:World} {v:Value} {l:List Ent} (h:EntsOwn lo w v l) (hlo:lo'≤lo):EntsOwn lo' w v l:=by
 obtain ⟨b,rows,hl,hv,hh,hn,hr⟩:=h
 refine ⟨b,rows,by omega,hv,hh,hn,fun i e he=>?_⟩
 obtain ⟨fb,h0,h1,h2,h3⟩:=hr i e he
 exact ⟨fb,h0,by omega,h2,h3⟩
structure EntsTo (w wr:World) (B:Nat) (l:List Ent) (k:Nat) (rows:List (List Value)):Prop where
 fill:FilledL w wr B l.length 2 rows
 len:rows.length=k
 has:∀ (i:Nat) (e:Ent),i < k→l[i]?=some e→∃ fb:Nat,fb ≠ B∧w.heap.size≤fb∧rows[i]?=some [.string e.name,.slice (some ⟨fb,0,none⟩) e.fs.length e.fs.length]∧HeldL wr fb e.fs.length 3 (e.fs.map fldRow)
theorem EntsTo.done {w wr:World} {B lo:Nat} {l:List Ent} {rows:List (List Value)} (h:EntsTo w wr B l l.length rows) (hlo:lo≤w.heap.size):EntsOwn lo wr (.slice (some ⟨B,0,none⟩) l.length l.length) l :=
 ⟨B,rows,by have:=h.fill.old; omega,rfl,h.fill.held,h.len,fun i e he=>by
  obtain ⟨fb,h0,h1,h2,h3⟩:=h.has i e (List.getElem?_eq_some_iff.1 he).1 he
  exact ⟨fb,h0,by omega,h2,h3⟩⟩
open Go.RowKit
structure BookAt (w:World) (vk vp ve:Value) (ks ps:List Tri) (es:List Ent):Prop where
 k:TrisAt w vk ks
 p:TrisAt w vp ps
 e:EntsAt w ve es
theorem BookAt.keep {w w':World} {vk vp ve:Value} {ks ps:List Tri} {es:List Ent} (h:BookAt w vk vp ve ks ps es) (hb:Below w.heap.size w w'):BookAt w' vk vp ve ks ps es:=⟨h.k.keep hb,h.p.keep hb,h.e.keep hb⟩
structure BNames (ks ps:List Tri) (es:List Ent):Prop where
 k:Names ks
 p:Names ps
 e:ENames es
structure BookOwn (lo:Nat) (w:World) (vk vp ve:Value) (ks ps:List Tri) (es:List Ent):Prop where
 k:TrisOwn lo w vk ks
 p:TrisOwn lo w vp ps
 e:EntsOwn lo w ve es
 d:∀ b n c b' n' c',vk=.slice (some ⟨b,0,none⟩) n c ∨ vp=.slice (some ⟨b,0,none⟩) n c→ve=.slice (some ⟨b',0,none⟩) n' c'→b ≠ b'
theorem BookOwn.keep {lo:Nat} {w w':World} {vk vp ve:Value} {ks ps:List Tri} {es:List Ent} (h:BookOwn lo w vk vp ve ks ps es) (hb:Below w.heap.size w w'):BookOwn lo w' vk vp ve ks ps es:=⟨h.k.keep hb,h.p.keep hb,h.e.keep hb,h.d⟩
def szBook (ks ps:List Tri) (es:List Ent):Nat:=szTris ks+szTris ps+szEnts es
structure BSmall (ks ps:List Tri) (es:List Ent):Prop where
 k:ks.length≤1048576
 p:ps.length≤1048576
 e:es.length≤1048576
 f:∀ e ∈ es,e.fs.length≤1048576
 n:∀ e ∈ es,e.name.size≤1048576
 v:∀ e ∈ es,∀ f ∈ e.fs,f.v.size≤1048576
theorem BSmall.of {ks ps:List Tri} {es:List Ent} (h:szBook ks ps es≤1048576):BSmall ks ps es:=by
 unfold szBook szTris szEnts at h
 have one:∀ e ∈ es,szEnt e≤1048576:=fun e he=>by have:=sumN_mem szEnt es e he; omega
 refine ⟨by omega,by omega,by omega,fun e he=>?_,fun e he=>?_,fun e he f hf=>?_⟩
 ·have:=one e he; unfold szEnt szFlds at this; omega
 ·have:=one e he; unfold szEnt szFlds at this; omega
 ·have:=one e he; unfold szEnt szFlds at this; have h2:f.v.size≤_:=sumN_mem (fun f:Fld=>f.v.size) e.fs f hf; omega
theorem BookOwn.at {lo:Nat} {w:World} {vk vp ve:Value} {ks ps:List Tri} {es:List Ent} (h:BookOwn lo w vk vp ve ks ps es) (hs:BSmall ks ps es):BookAt w vk vp ve ks ps es:=⟨h.k.at hs.k,h.p.at hs.p,h.e.at hs.e hs.f⟩
end Go.Proofs.YtbjmgglpiakgdaaGreatDoor
namespace Go.Proofs.YtbjmgglpiakgdaaGreatDoor.Dr
open Go.RowKit Go.Proofs.YtbjmgglpiakgdaaGreatDoor
theorem str_not {w:World} {R p b o:Nat} {s:ByteArray} (h:Rd w R p) (hc:w.cell? ⟨b,o,none⟩=some (.string s)):b ≠ R:=by
 obtain ⟨v,n,hn,hx,a,cap,rfl,-⟩:=h.box
 intro e
 subst e
 simp only [World.cell?,hx] at hc
 rcases o with - | - | o <;> simp at hc
theorem cell_box {w w':World} {R b o:Nat} {u:Value} (hg:w.grownBy w' (some R)) (hb:b ≠ R) (hc:w.cell? ⟨b,o,none⟩=some u):w'.cell? ⟨b,o,none⟩=some u:=by
 rw [World.cell?_of_block (w:=w) (hg.block b (lt_of_cell hc) (fun e=>hb (Option.some.inj e)))]
 exact hc
theorem StrsAt_box {w w':World} {R p:Nat} {v:Value} {ws:List ByteArray} (h:StrsAt w v ws) (hr:Rd w R p) (hg:w.grownBy w' (some R)):StrsAt w' v ws:=by
 obtain ⟨g,off,cap,rfl,h1,h2,h3⟩:=h
 exact ⟨g,off,cap,rfl,h1,h2,fun i x hx=>cell_box hg (str_not hr (h3 i x hx)) (h3 i x hx)⟩
theorem TrisAt_box {w w':World} {R p:Nat} {v:Value} {l:List Tri} (h:TrisAt w v l) (hr:Rd w R p) (hg:w.grownBy w' (some R)):TrisAt w' v l:=by
 obtain ⟨a,cap,rfl,h1,h2,h3⟩:=h
 refine ⟨a,cap,rfl,h1,h2,fun i t ht=>?_⟩
 obtain ⟨b,off,e,d0,d1,d2⟩:=h3 i t ht
 have hb:=str_not hr d0
 exact ⟨b,off,e,cell_box hg hb d0,cell_box hg hb d1,cell_box hg hb d2⟩
def wst (ws:List ByteArray) (i:Nat):ByteArray:=ws.getD i ⟨#[]⟩
theorem wst_get {ws:List ByteArray} {i:Nat} (h:i < ws.length):ws[i]?=some (wst ws i):=by simp [wst,h]
set_option maxHeartbeats 1600000 in
theorem of_any (R p:Nat) (v:Value) (ws:List ByteArray) (w:World) (h:Rd w R p) (hp:p≤1000000) (hv:StrsAt w v ws) (hw:1≤ws.length∧ws.length≤1000) :
  Calls Tryz.prog 56 #[.pointer (some ⟨R,0,none⟩),v] w fun e w'=>∃ s,e=.returned (.string s)∧s ∈ ws∧Rd w' R (p+1)∧w.grownBy w' (some R):=by
 have HV:Hid (∀ w',w.grownBy w' (some R)→StrsAt w' v ws):=fun w' hg=>StrsAt_box hv h hg
 have HP:Hid (Calls Tryz.prog 33 #[.pointer (some ⟨R,0,none⟩),.int .i64 (ws.length:Int)] w fun e w'=>∃ x:Int,e=.returned (.int .i64 x)∧0≤x∧(1≤(ws.length:Int)→x < (ws.length:Int))∧((ws.length:Int) < 1→x=0)∧Rd w' R (p+1)∧w.grownBy w' (some R)):=pick_any R p _ w h hp (by omega)
 obtain ⟨g,off,cap,rfl,h1,h2,-⟩:=hv
 unfold maxLen at h2
 obtain ⟨hw1,hw2⟩:=hw
 go_enter Tryz.func56,Tryz.ntmps56
 go_wp2_with fail
 refine HP.out.mono ?_
 rintro e w1 ⟨x,rfl,hx0,hx1,-,hr,hg⟩
 have hx1':=hx1 (by omega)
 obtain ⟨i,rfl⟩:∃ i:Nat,x=i:=⟨x.toNat,by omega⟩
 obtain ⟨g',off',cap',e9,-,-,h3⟩:=HV.out _ hg
 cases e9
 have c0:=h3 i _ (wst_get (by omega))
 have HM:Hid (wst ws i ∈ ws):=List.mem_of_getElem? (wst_get (by omega))
 have HR:=toHid hr
 have HG:=toHid hg
 clear h3 hr hg hx1
 generalize wst ws i=s at *
 go_wp2
 go_ret
 exact ⟨s,rfl,HM.out,HR.out,HG.out⟩
set_option maxHeartbeats 1600000 in
theorem l1Many_any (s:ByteArray) (n:Nat) (w:World) (hs:s.size * n≤1000) (hn:n≤1000) (hs1:s.size≤1000) :
  Calls Tryz.prog 76 #[.string s,.int .i64 n] w fun e w'=>∃ t:ByteArray,e=.returned (.string t)∧t.size≤s.size * n∧w'=w:=by
 go_enter Tryz.func76,Tryz.ntmps76
 go_wp2
 go_loopw [0,1,5] (fun sv nv ov wr=>∃ (a b:ByteArray) (m:Nat),sv=.string a∧nv=.int .i64 m∧ov=.string b∧Hid (wr=w)∧Hid (a.size * m+b.size=s.size * n∧m≤n∧(m=0 ∨ a.size≤1000))) (fun _ nv _ _=>(intOf nv).toNat)
 case atStart=>exact ⟨s,⟨#[]⟩,n,rfl,rfl,rfl,rfl,(by show s.size * n+0=_; omega),Nat.le_refl _,.inr hs1⟩
 case round =>
  obtain ⟨a,b,m,rfl,rfl,rfl,HW,HI⟩:=hrel
  by_cases hm:m=0
  ·subst hm
   have hb:=HI.out.1
   have HB:Hid (b.size≤s.size * n):=by show _≤_; omega
   clear HI
   go_wp2
   go_ret
   exact ⟨b,rfl,HB.out,HW.out⟩
  ·have hm0:(0:Int) < (m:Int):=by omega
   have hmn:(0:Int)≤(m:Int):=by omega
   obtain ⟨h1,h2,h3⟩:=HI.out
   have ha:a.size≤1000:=by omega
   have hb:b.size≤1000:=by omega
   obtain ⟨q,r,hq,hr⟩:∃ q r:Nat,m=2 * q+r∧r < 2:=⟨m / 2,m % 2,by omega,by omega⟩
   have hdiv:((m:Int) / 2)=(q:Int):=by omega
   have hmod:((m:Int) % 2)=(r:Int):=by omega
   have HQW:Hid (wrap64 (q:Int)=(q:Int)):=by show _=_; unfold wrap64; omega
   have e1:a.size * m=(a.size+a.size) * q+a.size * r:=by rw [hq,Nat.mul_add,← Nat.mul_assoc,Nat.mul_comm a.size 2,Nat.two_mul]
   by_cases hr1:r=1
   ·have hrb:((r:Int) == 1)=true:=by simp [hr1]
    have HN:Hid ((a ++ a).size * q+(b ++ a).size=s.size * n∧q≤n∧(q=0 ∨ (a ++ a).size≤1000)):=by
     rw [hr1] at e1
     refine ⟨by simp only [ByteArray.size_append]; omega,by omega,?_⟩
     by_cases hq0:q=0
     ·exact .inl hq0
     ·right
      simp only [ByteArray.size_append]
      have:=Nat.le_mul_of_pos_right (a.size+a.size) (show 0 < q by omega)
      omega
    have HQ:Hid (q < m):=by show q < m; omega
    clear h1 h2 h3 e1 hq hr hr1 HI
    go_wp2
    exact ⟨⟨a ++ a,b ++ a,q,rfl,by rw [HQW.out],rfl,HW,HN⟩,by have:=HQ.out; rw [HQW.out]; simp only [intOf]; omega⟩
   ·have hrb:((r:Int) == 1)=false:=by simp; omega
    have HN:Hid ((a ++ a).size * q+b.size=s.size * n∧q≤n∧(q=0 ∨ (a ++ a).size≤1000)):=by
     have hr0:r=0:=by omega
     rw [hr0] at e1
     refine ⟨by simp only [ByteArray.size_append]; omega,by omega,?_⟩
     by_cases hq0:q=0
     ·exact .inl hq0
     ·right
      simp only [ByteArray.size_append]
      have:=Nat.le_mul_of_pos_right (a.size+a.size) (show 0 < q by omega)
      omega
    have HQ:Hid (q < m):=by show q < m; omega
    clear h1 h2 h3 e1 hq hr hr1 HI
    go_wp2
    exact ⟨⟨a ++ a,b,q,rfl,by rw [HQW.out],rfl,HW,HN⟩,by have:=HQ.out; rw [HQW.out]; simp only [intOf]; omega⟩
end Go.Proofs.YtbjmgglpiakgdaaGreatDoor.Dr
namespace Go.Proofs.YtbjmgglpiakgdaaGreatDoor
open Go.RowKit
attribute [local go_sem] Later.cell Later.frozen
theorem StrsAt.cell {w:World} {g off n cap:Nat} {ws:List ByteArray} (h:StrsAt w (.slice (some ⟨g,off,none⟩) n cap) ws) (i:Nat) (hi:i < ws.length):w.cell? ⟨g,off+i,none⟩=some (.string (wat ws i)):=by
 obtain ⟨g',off',cap',e,_,_,hc⟩:=h
 cases e
 exact hc i _ (wat_get hi)
def rdN (x:ByteArray):Int:=bif decB x then (numV x:Int) else 0
def tmF (ws:List ByteArray):Int:=bif decide (ws.length=2) then rdN (wat ws 0) else 0
def tmY (ws:List ByteArray):Int:=bif decide (ws.length=2) then rdN (wat ws 1) else 0
def tmO (ws:List ByteArray):Bool:=decide (ws.length=2) && (decB (wat ws 0) && decB (wat ws 1))
theorem timeB_tm (ws:List ByteArray):timeB ws=(tmO ws && (decide (tmF ws≤tmY ws) && decide (tmY ws≤10000))):=by
 unfold timeB tmO tmF tmY rdN
 by_cases h:ws.length=2
 ·have e1:decide (((numV (wat ws 0):Nat):Int)≤((numV (wat ws 1):Nat):Int))=decide (numV (wat ws 0)≤numV (wat ws 1)):=by rw [Bool.eq_iff_iff]; simp
  have e2:decide (((numV (wat ws 1):Nat):Int)≤10000)=decide (numV (wat ws 1)≤10000):=by rw [Bool.eq_iff_iff]; simp; omega
  simp only [h,decide_true,Bool.true_and,cond_true]
  cases decB (wat ws 0) <;> cases decB (wat ws 1) <;> simp only [cond_true,cond_false,e1,e2,Bool.true_and,Bool.false_and,Bool.and_false]
 ·simp [h]
set_option maxHeartbeats 1600000 in
theorem readTimes_any (s:ByteArray) (w:World) (hs:s.size≤1048576) :
  Calls Tryz.prog 135 #[.string s] w fun e w'=>e=.returned (.tuple #[.int .i64 (tmF (cutW s)),.int .i64 (tmY (cutW s)),.bool (tmO (cutW s))])∧Below w.heap.size w w':=by
 have HRD:Hid (∀ (x:ByteArray) (wx:World),x.size≤s.size→Calls Tryz.prog 136 #[.string x] wx fun e w'=>e=.returned (.tuple #[.int .i64 (rdN x),.bool (decB x)])∧Below wx.heap.size wx w'):=fun x wx hx=>readDecimal_any x wx (by unfold maxLen; omega)
 have HSZ:Hid (∀ i,i < (cutW s).length→(wat (cutW s) i).size≤s.size):=fun i hi=>wat_size hi
 have HWD:Hid (∀ wx:World,Calls Tryz.prog 146 #[.string s] wx fun e w'=>∃ v,e=.returned v∧StrsAt w' v (cutW s)∧Below wx.heap.size wx w'):=fun wx=>wordsOf_any s wx hs
 generalize cutW s=ws at *
 go_enter Tryz.func135,Tryz.ntmps135
 go_wp2_with fail
 refine (HWD.out _).mono ?_
 rintro e w1 ⟨v,rfl,hst,hb1⟩
 have HST:Hid (StrsAt w1 v ws):=hst
 obtain ⟨g,off,cap,rfl,hlc,hcm,-⟩:=hst
 have HB1:Hid (Below w.heap.size w w1):=hb1
 clear hb1
 by_cases h2:ws.length=2
 ·have h2':(((ws.length:Nat):Int) == 2)=true:=by simp [h2]
  have h2i:(1:Int) < ((ws.length:Nat):Int):=by omega
  have h2j:1 < ws.length:=by omega
  have h2k:0 < ws.length:=by omega
  have c0:w1.cell? ⟨g,off+0,none⟩=some (.string (wat ws 0)):=HST.out.cell 0 (by omega)
  have c1:w1.cell? ⟨g,off+1,none⟩=some (.string (wat ws 1)):=HST.out.cell 1 (by omega)
  simp only [Nat.add_zero] at c0
  have HF:Hid (tmF ws=rdN (wat ws 0)):=by show tmF ws=_; unfold tmF; simp [h2]
  have HY:Hid (tmY ws=rdN (wat ws 1)):=by show tmY ws=_; unfold tmY; simp [h2]
  have HO:Hid (tmO ws=(decB (wat ws 0) && decB (wat ws 1))):=by show tmO ws=_; unfold tmO; simp [h2]
  have Z0:Hid ((wat ws 0).size≤s.size):=HSZ.out 0 (by omega)
  have Z1:Hid ((wat ws 1).size≤s.size):=HSZ.out 1 (by omega)
  clear HST HSZ h2 HWD
  generalize wat ws 0=x0 at *
  generalize wat ws 1=x1 at *
  go_wp2_with fail
  refine (HRD.out x0 _ Z0.out).mono ?_
  rintro e w2 ⟨rfl,hb2⟩
  have d1:=cell_keep hb2 (Nat.le_refl _) c1
  go_wp2_with fail
  refine (HRD.out x1 _ Z1.out).mono ?_
  rintro e w3 ⟨rfl,hb3⟩
  have HB:Hid (Below w.heap.size w w3):=below_step (below_step HB1.out hb2) hb3
  clear hb2 hb3 HRD c0 c1 d1
  generalize decB x0=b0 at *
  generalize decB x1=b1 at *
  cases b0
  ·go_wp2
   exact bodyPost_ret (v:=.tuple #[.int .i64 (rdN x0),.int .i64 (rdN x1),.bool false]) (by simp [results,Tryz.results135,go_sem]) rfl ⟨by rw [HF.out,HY.out,HO.out]; rfl,HB.out⟩
  ·cases b1
   ·go_wp2
    exact bodyPost_ret (v:=.tuple #[.int .i64 (rdN x0),.int .i64 (rdN x1),.bool false]) (by simp [results,Tryz.results135,go_sem]) rfl ⟨by rw [HF.out,HY.out,HO.out]; rfl,HB.out⟩
   ·go_wp2
    exact bodyPost_ret (v:=.tuple #[.int .i64 (rdN x0),.int .i64 (rdN x1),.bool true]) (by simp [results,Tryz.results135,go_sem]) rfl ⟨by rw [HF.out,HY.out,HO.out]; rfl,HB.out⟩
 ·have h2':(((ws.length:Nat):Int) == 2)=false:=by simp; omega
  have HF:Hid (tmF ws=0):=by show tmF ws=_; unfold tmF; simp [h2]
  have HY:Hid (tmY ws=0):=by show tmY ws=_; unfold tmY; simp [h2]
  have HO:Hid (tmO ws=false):=by show tmO ws=_; unfold tmO; simp [h2]
  go_wp2
  exact bodyPost_ret (v:=.tuple #[.int .i64 (0),.int .i64 (0),.bool false]) (by simp [results,Tryz.results135,go_sem]) rfl ⟨by rw [HF.out,HY.out,HO.out],HB1.out⟩
set_option maxHeartbeats 1600000 in
theorem timeRule_any (vk vp:Value) (s:ByteArray) (w:World) (hs:s.size≤1048576) :
  Calls Tryz.prog 187 #[.agg #[],.agg #[vk,vp],.string s] w fun e w'=>e=.returned (.bool (timeB (cutW s)))∧Below w.heap.size w w':=by
 have HRT:=fun wx=>readTimes_any s wx hs
 have HE:Hid (timeB (cutW s)=(tmO (cutW s) && (decide (tmF (cutW s)≤tmY (cutW s)) && decide (tmY (cutW s)≤10000)))):=timeB_tm _
 have HR:Hid (∀ wx:World,Calls Tryz.prog 135 #[.string s] wx fun e w'=>e=.returned (.tuple #[.int .i64 (tmF (cutW s)),.int .i64 (tmY (cutW s)),.bool (tmO (cutW s))])∧Below wx.heap.size wx w'):=HRT
 clear HRT
 generalize timeB (cutW s)=r at *
 generalize tmO (cutW s)=o at *
 generalize tmF (cutW s)=n0 at *
 generalize tmY (cutW s)=n1 at *
 go_enter Tryz.func187,Tryz.ntmps187
 go_wp2_with fail
 refine (HR.out _).mono ?_
 rintro e w1 ⟨rfl,hb1⟩
 have HB:Hid (Below w.heap.size w w1):=below_step (((Below.refl _ _).alloc (Nat.le_refl _) _).alloc (by simp) _) hb1
 clear hb1
 cases o
 ·go_wp2
  go_ret
  exact ⟨ret_bool (by rw [HE.out]; rfl),HB.out⟩
 ·by_cases h3:n0≤n1
  ·by_cases h4:n1≤10000
   ·go_wp2
    go_ret
    exact ⟨ret_bool (by rw [HE.out]; simp; omega),HB.out⟩
   ·go_wp2
    go_ret
    exact ⟨ret_bool (by rw [HE.out]; simp; omega),HB.out⟩
  ·go_wp2
   go_ret
   exact ⟨ret_bool (by rw [HE.out]; simp; omega),HB.out⟩
theorem routeB_no {ps:List Tri} {ws:List ByteArray} (h:inB ws.length 2 8=false):routeB ps ws=false:=by unfold routeB; rw [h]; rfl
theorem routeB_yes {ps:List Tri} {ws:List ByteArray} (h:inB ws.length 2 8=true):routeB ps ws=allB ws.length (stepB ps ws):=by unfold routeB; rw [h]; rfl
set_option maxHeartbeats 1600000 in
theorem routeFits_any (vk vp v:Value) (ps:List Tri) (ws:List ByteArray) (w:World) (hp:TrisAt w vp ps) (hst0:StrsAt w v ws) :
  Calls Tryz.prog 68 #[.agg #[vk,vp],v] w fun e w'=>e=.returned (.bool (routeB ps ws))∧Below w.heap.size w w':=by
 have HHP:Hid (∀ (x:ByteArray) (wx:World),Below w.heap.size w wx→Calls Tryz.prog 57 #[vp,.string x,.func (.func 58) #[] #[]] wx fun e w'=>e=.returned (.tuple #[.int .i64 (plc ps x:Nat),.bool (hasB ps x)])∧Below wx.heap.size wx w'):=fun x wx hx=>placePoint_any vp ps x wx (hp.keep hx)
 clear hp
 have HB1:Hid (Below w.heap.size w (w.alloc (.cells #[vk,vp] 26))):=(Below.refl _ _).alloc (Nat.le_refl _) _
 have hst:=hst0.keep HB1.out
 have HST:Hid (StrsAt (w.alloc (.cells #[vk,vp] 26)) v ws):=hst
 clear hst0
 obtain ⟨g,off,cap,rfl,hlc,hcm,-⟩:=hst
 have p0:(w.alloc (.cells #[vk,vp] 26)).cell? ⟨w.heap.size,0,none⟩=some vk:=by simp [go_sem]
 have p1:(w.alloc (.cells #[vk,vp] 26)).cell? ⟨w.heap.size,1,none⟩=some vp:=by simp [go_sem]
 unfold maxLen at hcm
 go_enter Tryz.func68,Tryz.ntmps68
 by_cases h1:(ws.length:Int) < 2
 ·have HE:Hid (routeB ps ws=false):=routeB_no (by simp [inB]; omega)
  go_wp2
  go_ret
  exact ⟨ret_bool HE.out.symm,HB1.out⟩
 by_cases h2:(8:Int) < (ws.length:Int)
 ·have HE:Hid (routeB ps ws=false):=routeB_no (by simp [inB]; omega)
  go_wp2
  go_ret
  exact ⟨ret_bool HE.out.symm,HB1.out⟩
 have HE:Hid (routeB ps ws=allB ws.length (stepB ps ws)):=routeB_yes (by simp [inB]; omega)
 have Q0:Hid ((w.alloc (.cells #[vk,vp] 26)).cell? ⟨w.heap.size,0,none⟩=some vk∧(w.alloc (.cells #[vk,vp] 26)).cell? ⟨w.heap.size,1,none⟩=some vp):=⟨p0,p1⟩
 clear p0 p1
 go_wp2_with fail
 generalize (w.alloc (.cells #[vk,vp] 26))=w1 at *
 go_loopw [5,6,19] (fun _ _ i wr=>∃ k:Nat,k≤ws.length∧i=.int .i64 k∧Below w1.heap.size w1 wr∧Hid (∀ j,j < k→stepB ps ws j=true)) (fun _ _ i _=>ws.length - (intOf i).toNat)
 case atStart=>exact ⟨0,Nat.zero_le _,rfl,Below.refl _ _,fun j hj=>absurd hj (Nat.not_lt_zero _)⟩
 case round =>
  obtain ⟨k,hk,rfl,hb,HA⟩:=hrel
  by_cases hlt:k < ws.length
  ·have c0:wr.cell? ⟨g,off+k,none⟩=some (.string (wat ws k)):=(HST.out.keep hb).cell k hlt
   have p0:=cell_keep hb (Nat.le_refl _) Q0.out.1
   have p1:=cell_keep hb (Nat.le_refl _) Q0.out.2
   have hk0:(0:Int)≤(k:Int):=by omega
   have hk1:(k:Int) < (ws.length:Int):=by omega
   cases hh:hasB ps (wat ws k)
   ·have HH:Hid (hasB ps (wat ws k)=false):=hh
    clear hh
    go_wp2_with fail
    refine (HHP.out (wat ws k) _ (below_step HB1.out hb)).mono ?_
    rw [HH.out]
    rintro e w2 ⟨rfl,hb2⟩
    go_wp2
    go_ret
    exact ⟨ret_bool (by rw [HE.out]; exact (allB_false hlt (by unfold stepB; rw [HH.out]; rfl)).symm),below_step (below_step HB1.out hb) hb2⟩
   ·have HH:Hid (hasB ps (wat ws k)=true):=hh
    clear hh
    by_cases hz:0 < k
    ·have c1:wr.cell? ⟨g,off+(k - 1),none⟩=some (.string (wat ws (k - 1))):=(HST.out.keep hb).cell (k - 1) (by omega)
     by_cases hx:wat ws (k - 1)=wat ws k
     ·have hq:((wat ws (k - 1)).toList == (wat ws k).toList)=true:=str_eq hx
      have HX:Hid (stepB ps ws k=false):=by show stepB ps ws k=false; unfold stepB; simp [hx,hz]
      clear hx
      go_wp2_with fail
      refine (HHP.out (wat ws k) _ (below_step HB1.out hb)).mono ?_
      rw [HH.out]
      rintro e w2 ⟨rfl,hb2⟩
      have c2:=cell_keep hb2 (Nat.le_refl _) c1
      go_wp2
      go_ret
      exact ⟨ret_bool (by rw [HE.out]; exact (allB_false hlt HX.out).symm),below_step (below_step HB1.out hb) hb2⟩
     ·have hq:((wat ws (k - 1)).toList == (wat ws k).toList)=false:=str_ne hx
      have HX:Hid (stepB ps ws k=true):=by show stepB ps ws k=true; unfold stepB; rw [HH.out]; simp [hx]
      clear hx
      go_wp2_with fail
      refine (HHP.out (wat ws k) _ (below_step HB1.out hb)).mono ?_
      rw [HH.out]
      rintro e w2 ⟨rfl,hb2⟩
      have c2:=cell_keep hb2 (Nat.le_refl _) c1
      go_wp2
      exact ⟨⟨k+1,by omega,by go_num,below_step hb hb2,fun j hj=>if e:j=k then by rw [e]; exact HX.out else HA.out j (by omega)⟩,by simp [intOf]; omega⟩
    ·have HX:Hid (stepB ps ws k=true):=by show stepB ps ws k=true; unfold stepB; rw [HH.out]; simp [hz]
     go_wp2_with fail
     refine (HHP.out (wat ws k) _ (below_step HB1.out hb)).mono ?_
     rw [HH.out]
     rintro e w2 ⟨rfl,hb2⟩
     go_wp2
     exact ⟨⟨k+1,by omega,by go_num,below_step hb hb2,fun j hj=>if e:j=k then by rw [e]; exact HX.out else HA.out j (by omega)⟩,by simp [intOf]; omega⟩
  ·go_wp2
   go_ret
   exact ⟨ret_bool (by rw [HE.out]; exact (allB_true fun j hj=>HA.out j (by omega)).symm),below_step HB1.out hb⟩
set_option maxHeartbeats 1600000 in
theorem routeRule_any (vk vp:Value) (ps:List Tri) (s:ByteArray) (w:World) (hs:s.size≤1048576) (hp:TrisAt w vp ps) :
  Calls Tryz.prog 189 #[.agg #[],.agg #[vk,vp],.string s] w fun e w'=>e=.returned (.bool (routeB ps (cutW s)))∧Below w.heap.size w w':=by
 have HWD:Hid (∀ wx:World,Calls Tryz.prog 146 #[.string s] wx fun e w'=>∃ v,e=.returned v∧StrsAt w' v (cutW s)∧Below wx.heap.size wx w'):=fun wx=>wordsOf_any s wx hs
 generalize cutW s=ws at *
 have HRF:Hid (∀ (v:Value) (wx:World),Below w.heap.size w wx→StrsAt wx v ws→Calls Tryz.prog 68 #[.agg #[vk,vp],v] wx fun e w'=>e=.returned (.bool (routeB ps ws))∧Below wx.heap.size wx w'):=fun v wx hx hv=>routeFits_any vk vp v ps ws wx (hp.keep hx) hv
 clear hp
 have HAL:Hid (Below w.heap.size w ((w.alloc (.cells #[] 226)).alloc (.cells #[vk,vp] 26))):=((Below.refl _ _).alloc (Nat.le_refl _) _).alloc (by simp) _
 have p0:((w.alloc (.cells #[] 226)).alloc (.cells #[vk,vp] 26)).cell? ⟨w.heap.size+1,0,none⟩=some vk:=by simp [go_sem]
 have p1:((w.alloc (.cells #[] 226)).alloc (.cells #[vk,vp] 26)).cell? ⟨w.heap.size+1,1,none⟩=some vp:=by simp [go_sem]
 go_enter Tryz.func189,Tryz.ntmps189
 go_wp2_with fail
 generalize ((w.alloc (.cells #[] 226)).alloc (.cells #[vk,vp] 26))=w1 at *
 refine wp_region_noPanic ?_
 refine wp_region_held_drew (S:=fun w'=>w'.cell? ⟨w.heap.size+1,0,none⟩=some vk∧w'.cell? ⟨w.heap.size+1,1,none⟩=some vp) (by kernel_rfl) ?_ (fun hHeld=>?_)
 ·exact ⟨cell_keep (Below.refl _ _).drew (Nat.le_refl _) p0,cell_keep (Below.refl _ _).drew (Nat.le_refl _) p1⟩
 have HBW:Hid (Below w.heap.size w w1.drew):=below_step HAL.out (Below.refl _ _).drew
 have Q0:Hid (∀ wx:World,Below w1.heap.size w1 wx→wx.cell? ⟨w.heap.size+1,0,none⟩=some vk∧wx.cell? ⟨w.heap.size+1,1,none⟩=some vp):=fun wx hx=>⟨cell_keep hx (Nat.le_refl _) p0,cell_keep hx (Nat.le_refl _) p1⟩
 have HB1:Hid (Below w1.heap.size w1 w1.drew):=(Below.refl _ _).drew
 clear p0 p1
 refine tkH 0 ?_ rfl ?_ (tkH 1 ?_ rfl ?_ ?_)
 iterate 2 (rotate_left; focus (intro w hSw; (try dsimp only at hSw); simp only [Act.put,tkS]; go_simp; try with_reducible rfl))
 simp only [Act.put,tkS]
 clear hHeld
 refine rdH 2 rfl (fun K hK=>?_)
 go_simp
 refine (HWD.out _).mono ?_
 rintro e w2 ⟨v,rfl,hst,hb2⟩
 have HB2:Hid (Below w1.heap.size w1 w2):=below_step HB1.out hb2
 have HC2:Hid (Below w.heap.size w w2):=below_step HBW.out hb2
 have HST:Hid (StrsAt w2 v ws):=hst
 obtain ⟨g,off,cap,rfl,hlc,hcm,-⟩:=hst
 refine hK.out _ _ (Q0.out _ HB2.out) (fun _=>?_)
 clear hK K hb2 HBW HB1
 refine rdH 3 rfl (fun K hK=>?_)
 go_simp
 refine (HRF.out _ _ HC2.out HST.out).mono ?_
 rintro e w3 ⟨rfl,hb3⟩
 have HB3:Hid (Below w1.heap.size w1 w3):=below_step HB2.out hb3
 have HC3:Hid (Below w.heap.size w w3):=below_step HC2.out hb3
 have hHeld:=Q0.out _ HB3.out
 refine hK.out _ _ hHeld (fun _=>?_)
 clear hK K
 refine tkH 4 ?_ rfl ?_ ?_; rotate_left
 ·intro w hSw; (try dsimp only at hSw); go_simp; try with_reducible rfl
 simp only [Act.put,tkS]
 clear hHeld
 refine wpAnyH_done (by kernel_rfl) ?_ _
 refine NoPanic.normal ?_
 go_wp2
 go_ret
 exact ⟨rfl,HC3.out⟩
end Go.Proofs.YtbjmgglpiakgdaaGreatDoor
namespace Go.Proofs.YtbjmgglpiakgdaaGreatDoor
open Go.RowKit
attribute [local go_sem] Later.cell Later.frozen
def ruleV (what:Int):Value :=
 if what=1 then .iface 223 (.agg #[]) else if what=2 then .iface 224 (.agg #[]) else if what=3 then .iface 225 (.agg #[]) else if what=4 then .iface 226 (.agg #[]) else if what=5 then .iface 227 (.agg #[]) else .nilIface
set_option maxHeartbeats 800000 in
theorem ruleOf_any (what:Int) (w:World) :
  Calls Tryz.prog 130 #[.int .i64 what] w fun e w'=>e=.returned (ruleV what)∧w'=w:=by
 have HR:Hid (ruleV what=ruleV what):=rfl
 by_cases h1:what=1
 ·subst h1
  go_enter Tryz.func130,Tryz.ntmps130
  go_wp2
  go_ret
  exact ⟨rfl,rfl⟩
 by_cases h2:what=2
 ·subst h2
  go_enter Tryz.func130,Tryz.ntmps130
  go_wp2
  go_ret
  exact ⟨rfl,rfl⟩
 by_cases h3:what=3
 ·subst h3
  go_enter Tryz.func130,Tryz.ntmps130
  go_wp2
  go_ret
  exact ⟨rfl,rfl⟩
 by_cases h4:what=4
 ·subst h4
  go_enter Tryz.func130,Tryz.ntmps130
  go_wp2
  go_ret
  exact ⟨rfl,rfl⟩
 by_cases h5:what=5
 ·subst h5
  go_enter Tryz.func130,Tryz.ntmps130
  go_wp2
  go_ret
  exact ⟨rfl,rfl⟩
 have e:ruleV what=.nilIface:=by simp [ruleV,h1,h2,h3,h4,h5]
 have g1:(what == 1)=false:=by simp [h1]
 have g2:(what == 2)=false:=by simp [h2]
 have g3:(what == 3)=false:=by simp [h3]
 have g4:(what == 4)=false:=by simp [h4]
 have g5:(what == 5)=false:=by simp [h5]
 rw [e]
 clear h1 h2 h3 h4 h5 e HR
 go_enter Tryz.func130,Tryz.ntmps130
 go_wp2
 go_ret
 exact ⟨rfl,rfl⟩
theorem meth1:∀ w:World,(method 363 223 (.agg #[]) "loop.example/lapplan/impl.fits").run Tryz.prog w=.ok (186,.agg #[]) w:=fun _=>by kernel_rfl
theorem meth2:∀ w:World,(method 363 224 (.agg #[]) "loop.example/lapplan/impl.fits").run Tryz.prog w=.ok (187,.agg #[]) w:=fun _=>by kernel_rfl
theorem meth3:∀ w:World,(method 363 225 (.agg #[]) "loop.example/lapplan/impl.fits").run Tryz.prog w=.ok (188,.agg #[]) w:=fun _=>by kernel_rfl
theorem meth4:∀ w:World,(method 363 226 (.agg #[]) "loop.example/lapplan/impl.fits").run Tryz.prog w=.ok (189,.agg #[]) w:=fun _=>by kernel_rfl
theorem meth5:∀ w:World,(method 363 227 (.agg #[]) "loop.example/lapplan/impl.fits").run Tryz.prog w=.ok (190,.agg #[]) w:=fun _=>by kernel_rfl
set_option maxHeartbeats 1600000 in
theorem valueFits_any (vk vp:Value) (ks ps:List Tri) (what:Int) (s:ByteArray) (w:World) (hk:TrisAt w vk ks) (hp:TrisAt w vp ps) (hs:s.size≤1048576) :
  Calls Tryz.prog 110 #[.agg #[vk,vp],.int .i64 what,.string s] w fun e w'=>e=.returned (.bool (valB2 ks ps what s))∧Below w.heap.size w w':=by
 have HK:=hk; have HP:=hp
 obtain ⟨ak,ck,rfl,-,-,-⟩:=hk
 obtain ⟨ap,cp,rfl,-,-,-⟩:=hp
 have HK1:Hid (TrisAt w (.slice ak ks.length ck) ks):=HK
 have HP1:Hid (TrisAt w (.slice ap ps.length cp) ps):=HP
 clear HK HP
 by_cases h1:what=1
 ·subst h1
  have HE:Hid (valB2 ks ps 1 s=hasB ks s):=rfl
  have hm:=meth1
  go_enter Tryz.func110,Tryz.ntmps110
  go_wp2_with fail
  refine (ruleOf_any _ _).mono ?_
  rintro e w1 ⟨rfl,rfl⟩
  have e1:ruleV 1=.iface 223 (.agg #[]):=rfl
  rw [e1]; clear e1
  go_wp2_with fail
  refine (kindRule_any _ _ ks s _ (HK1.out.alloc _)).mono ?_
  rintro e w2 ⟨rfl,hb2⟩
  go_wp2
  go_ret
  exact ⟨ret_bool HE.out.symm,below_step ((Below.refl _ _).alloc (Nat.le_refl _) _) hb2⟩
 by_cases h2:what=2
 ·subst h2
  have HE:Hid (valB2 ks ps 2 s=timeB (cutW s)):=rfl
  have hm:=meth2
  go_enter Tryz.func110,Tryz.ntmps110
  go_wp2_with fail
  refine (ruleOf_any _ _).mono ?_
  rintro e w1 ⟨rfl,rfl⟩
  have e1:ruleV 2=.iface 224 (.agg #[]):=rfl
  rw [e1]; clear e1
  go_wp2_with fail
  refine (timeRule_any _ _ s _ hs).mono ?_
  rintro e w2 ⟨rfl,hb2⟩
  go_wp2
  go_ret
  exact ⟨ret_bool HE.out.symm,below_step ((Below.refl _ _).alloc (Nat.le_refl _) _) hb2⟩
 by_cases h3:what=3
 ·subst h3
  have HE:Hid (valB2 ks ps 3 s=levelB s):=rfl
  have hm:=meth3
  go_enter Tryz.func110,Tryz.ntmps110
  go_wp2_with fail
  refine (ruleOf_any _ _).mono ?_
  rintro e w1 ⟨rfl,rfl⟩
  have e1:ruleV 3=.iface 225 (.agg #[]):=rfl
  rw [e1]; clear e1
  go_wp2_with fail
  refine (levelRule_any _ _ s _ hs).mono ?_
  rintro e w2 ⟨rfl,hb2⟩
  go_wp2
  go_ret
  exact ⟨ret_bool HE.out.symm,below_step ((Below.refl _ _).alloc (Nat.le_refl _) _) hb2⟩
 by_cases h4:what=4
 ·subst h4
  have HE:Hid (valB2 ks ps 4 s=routeB ps (cutW s)):=rfl
  have hm:=meth4
  go_enter Tryz.func110,Tryz.ntmps110
  go_wp2_with fail
  refine (ruleOf_any _ _).mono ?_
  rintro e w1 ⟨rfl,rfl⟩
  have e1:ruleV 4=.iface 226 (.agg #[]):=rfl
  rw [e1]; clear e1
  go_wp2_with fail
  refine (routeRule_any _ _ ps s _ hs (HP1.out.alloc _)).mono ?_
  rintro e w2 ⟨rfl,hb2⟩
  go_wp2
  go_ret
  exact ⟨ret_bool HE.out.symm,below_step ((Below.refl _ _).alloc (Nat.le_refl _) _) hb2⟩
 by_cases h5:what=5
 ·subst h5
  have HE:Hid (valB2 ks ps 5 s=stateB s):=rfl
  have hm:=meth5
  go_enter Tryz.func110,Tryz.ntmps110
  go_wp2_with fail
  refine (ruleOf_any _ _).mono ?_
  rintro e w1 ⟨rfl,rfl⟩
  have e1:ruleV 5=.iface 227 (.agg #[]):=rfl
  rw [e1]; clear e1
  go_wp2_with fail
  refine (stateRule_any _ _ s _).mono ?_
  rintro e w2 ⟨rfl,hb2⟩
  go_wp2
  go_ret
  exact ⟨ret_bool HE.out.symm,below_step ((Below.refl _ _).alloc (Nat.le_refl _) _) hb2⟩
 have HE:Hid (valB2 ks ps what s=false):=by show valB2 ks ps what s=false; simp [valB2,h1,h2,h3,h4,h5]
 have HR:Hid (ruleV what=.nilIface):=by show ruleV what=_; simp [ruleV,h1,h2,h3,h4,h5]
 clear h1 h2 h3 h4 h5
 go_enter Tryz.func110,Tryz.ntmps110
 go_wp2_with fail
 refine (ruleOf_any _ _).mono ?_
 rw [HR.out]
 rintro e w1 ⟨rfl,rfl⟩
 go_wp2
 go_ret
 exact ⟨ret_bool HE.out.symm,(Below.refl _ _).alloc (Nat.le_refl _) _⟩
end Go.Proofs.YtbjmgglpiakgdaaGreatDoor
namespace Go.Proofs.YtbjmgglpiakgdaaGreatDoor
open Go.RowKit
attribute [local go_sem] Later.cell Later.frozen
set_option maxHeartbeats 1600000 in
theorem changeFits_any (vk vp:Value) (ks ps:List Tri) (c:Chg) (w:World) (hk:TrisAt w vk ks) (hp:TrisAt w vp ps) (hf:c.f.size≤1048576) (hs:c.v.size≤1048576) :
  Calls Tryz.prog 83 #[.agg #[vk,vp],.agg #[.string c.f,.int .i64 c.what,.int .i64 c.num,.string c.v]] w fun e w'=>e=.returned (.bool (fitB ks ps c))∧Below w.heap.size w w':=by
 have HK:=hk; have HP:=hp
 obtain ⟨ak,ck,rfl,-,-,-⟩:=hk
 obtain ⟨ap,cp,rfl,-,-,-⟩:=hp
 have HK1:Hid (TrisAt w (.slice ak ks.length ck) ks):=HK
 have HP1:Hid (TrisAt w (.slice ap ps.length cp) ps):=HP
 clear HK HP
 obtain ⟨f,what,num,v⟩:=c
 dsimp only at *
 have HE:Hid (fitB ks ps ⟨f,what,num,v⟩=(nameB f && (inB num 1 1000000 && valB2 ks ps what v))):=rfl
 generalize fitB ks ps ⟨f,what,num,v⟩=res at HE ⊢
 go_enter Tryz.func83,Tryz.ntmps83
 go_wp2_with fail
 refine (nameOk_any f _ (by unfold maxLen; omega)).mono ?_
 rintro e w1 ⟨rfl,hb1⟩
 have k0:w1.cell? ⟨w.heap.size,0,none⟩=some (.slice ak ks.length ck):=cell_keep hb1 (Nat.le_refl _) (by simp [go_sem])
 have k1:w1.cell? ⟨w.heap.size,1,none⟩=some (.slice ap ps.length cp):=cell_keep hb1 (Nat.le_refl _) (by simp [go_sem])
 have c0:w1.cell? ⟨w.heap.size+1,0,none⟩=some (.string f):=cell_keep hb1 (Nat.le_refl _) (by simp [go_sem])
 have c1:w1.cell? ⟨w.heap.size+1,1,none⟩=some (.int .i64 what):=cell_keep hb1 (Nat.le_refl _) (by simp [go_sem])
 have c2:w1.cell? ⟨w.heap.size+1,2,none⟩=some (.int .i64 num):=cell_keep hb1 (Nat.le_refl _) (by simp [go_sem])
 have c3:w1.cell? ⟨w.heap.size+1,3,none⟩=some (.string v):=cell_keep hb1 (Nat.le_refl _) (by simp [go_sem])
 have HB1:Hid (Below w.heap.size w w1):=below_step (((Below.refl _ _).alloc (Nat.le_refl _) _).alloc (by simp) _) hb1
 clear hb1
 generalize nameB f=b1 at *
 cases b1
 ·go_wp2
  go_ret
  exact ⟨ret_bool (by rw [HE.out]; rfl),HB1.out⟩
 ·go_wp2_with fail
  refine (numberOk_any _ _).mono ?_
  rintro e w2 ⟨rfl,hw2⟩
  subst hw2
  generalize inB num 1 1000000=b2 at *
  cases b2
  ·go_wp2
   go_ret
   exact ⟨ret_bool (by rw [HE.out]; rfl),HB1.out⟩
  ·go_wp2_with fail
   refine (valueFits_any _ _ ks ps what v _ (HK1.out.keep HB1.out) (HP1.out.keep HB1.out) hs).mono ?_
   rintro e w3 ⟨rfl,hb3⟩
   go_wp2
   go_ret
   exact ⟨ret_bool (by rw [HE.out]; rfl),below_step HB1.out hb3⟩
end Go.Proofs.YtbjmgglpiakgdaaGreatDoor
namespace Go.Proofs.YtbjmgglpiakgdaaGreatDoor
open Go.RowKit
attribute [local go_sem] Later.cell Later.frozen
def ascE (l:List Ent) (i:Nat):Bool:=!(decide (0 < i) && geB (eat l (i - 1)).name (eat l i).name)
theorem ascE_zero (l:List Ent):ascE l 0=true:=by simp [ascE]
theorem ascE_succ (l:List Ent) (m:Nat):ascE l (m+1)=!geB (eat l m).name (eat l (m+1)).name:=by simp [ascE]
def namesE (l:List Ent):Bool:=decide (l.length≤12) && allB l.length fun i=>nameB (eat l i).name && ascE l i
def chgOf (n:ByteArray) (f:Fld):Chg:=⟨n,f.what,f.num,f.v⟩
def ascF (l:List Fld) (i:Nat):Bool:=!(decide (0 < i) && decide ((fat l i).what≤(fat l (i - 1)).what))
def fieldsB (ks ps:List Tri) (n:ByteArray) (l:List Fld):Bool:=(allB l.length fun i=>ascF l i && fitB ks ps (chgOf n (fat l i))) && decide (0 < l.length)
def bookB (ks ps:List Tri) (es:List Ent):Bool:=baseB ks ps && (namesE es && allB es.length fun i=>fieldsB ks ps (eat es i).name (eat es i).fs)
theorem entryName_any (n:ByteArray) (fv:Value) (w:World) :
  Calls Tryz.prog 46 #[.agg #[.string n,fv]] w fun e w'=>e=.returned (.string n)∧Below w.heap.size w w':=by
 go_enter Tryz.func46,Tryz.ntmps46
 go_wp2
 go_ret
 exact ⟨rfl,(Below.refl _ _).alloc (Nat.le_refl _) _⟩
set_option maxHeartbeats 3200000 in
theorem namesEntry_any (v:Value) (l:List Ent) (w:World) (hv:EntsAt w v l) (hs:ENames l) :
  Calls Tryz.prog 45 #[v,.int .i64 12,.func (.func 46) #[] #[]] w fun e w'=>e=.returned (.bool (namesE l))∧Below w.heap.size w w':=by
 obtain ⟨a,cap,rfl,hlc,hcm,hc⟩:=hv
 unfold maxLen at hcm
 have HC:Hid (∀ i f,l[i]?=some f→∃ b off,a=some ⟨b,off,none⟩∧EntAt w b (off+i * 2) f):=hc
 have HS:Hid (ENames l):=hs
 clear hc hs
 by_cases hn:(12:Int) < (l.length:Int)
 ·have e:namesE l=false:=by simp [namesE]; omega
  rw [e]; clear e
  go_enter Tryz.func45,Tryz.ntmps45
  go_wp2
  go_ret
  exact ⟨rfl,Below.refl _ _⟩
 ·have e:namesE l=allB l.length fun i=>nameB (eat l i).name && ascE l i:=by
   have:l.length≤12:=by omega
   simp [namesE,this]
  rw [e]; clear e
  go_enter Tryz.func45,Tryz.ntmps45
  go_wp2
  go_loopw [7,8,15] (fun _ _ i wr=>∃ k:Nat,k≤l.length∧i=.int .i64 k∧Below w.heap.size w wr∧Hid (∀ j,j < k→(nameB (eat l j).name && ascE l j)=true)) (fun _ _ i _=>l.length - (intOf i).toNat)
  case atStart=>exact ⟨0,Nat.zero_le _,rfl,Below.refl _ _,fun j hj=>absurd hj (Nat.not_lt_zero _)⟩
  case round =>
   obtain ⟨k,hk,rfl,hb,HA⟩:=hrel
   by_cases hlt:k < l.length
   ·obtain ⟨b,off,rfl,hc⟩:=HC.out k _ (eat_get hlt)
    obtain ⟨fv,d0,d1,hfl⟩:=hc.keep hb
    obtain ⟨fa,fc,rfl,-,-,-⟩:=hfl
    have hsk:(eat l k).name.size≤maxLen:=(HS.out _ (List.mem_of_getElem? (eat_get hlt))).1
    have BAD:Hid (nameB (eat l k).name=false→allB l.length (fun i=>nameB (eat l i).name && ascE l i)=false):=fun h=>allB_false hlt (by simp [h])
    have BAD':Hid (ascE l k=false→allB l.length (fun i=>nameB (eat l i).name && ascE l i)=false):=fun h=>allB_false hlt (by simp [h])
    have hk0:(0:Int)≤(k:Int):=by omega
    have hk1:(k:Int) < (l.length:Int):=by omega
    have HO0:Hid (OwnAt wr (wr.alloc (.cells #[.string (eat l k).name,.slice fa (eat l k).fs.length fc] 52)) [[.string (eat l k).name,.slice fa (eat l k).fs.length fc]]):=(OwnAt.start wr).push rfl _ _
    generalize hnl:(eat l k).fs.length=nl at *
    clear hnl
    go_wp2_with fail
    refine (entryName_any (eat l k).name _ _).mono ?_
    rintro e w1 ⟨rfl,hb1⟩
    go_wp2_with fail
    refine (nameOk_any (eat l k).name _ hsk).mono ?_
    rintro e w2 ⟨rfl,hb2⟩
    have HO2:Hid (OwnAt wr w2 _):=(HO0.out.call hb1).call hb2
    have HBW:Hid (Below w.heap.size w w2):=below_step hb HO2.out.below
    have n0:w2.cell? ⟨wr.heap.size,0,none⟩=some (.string (eat l k).name):=(HO2.out.has 0 _ rfl 0 _ rfl).1
    have n1:w2.cell? ⟨wr.heap.size,1,none⟩=some (.slice fa nl fc):=(HO2.out.has 0 _ rfl 1 _ rfl).1
    have nz:wr.heap.size < w2.heap.size:=lt_of_cell n0
    clear d0 d1 hb1 hb2 HO0 HO2
    cases hnm:nameB (eat l k).name
    ·have HN:Hid (nameB (eat l k).name=false):=hnm
     clear hnm
     go_wp2
     go_ret
     exact ⟨ret_bool (BAD.out HN.out).symm,HBW.out⟩
    ·have HN:Hid (nameB (eat l k).name=true):=hnm
     clear hnm
     have hne:=Later.some w2
     have GN:Hid (∀ (n:ByteArray) (u:Value) (y:Later w2),Calls Tryz.prog 46 #[.agg #[.string n,u]] y.val fun e w''=>e=.returned (.string n)∧∃ z:Later w2,w''=z.val):=fun n u y=>Calls.later (entryName_any n u y.val)
     by_cases hkz:k=0
     ·subst hkz
      go_wp2
      refine wp_region_later (by kernel_rfl) (by kernel_rfl) ?_
      repeat (go_big_quiet_step (first | (go_at_call 46; exact GN.out _ _ _)))
      refine wpQuiet_nil ?_
      rintro _ ⟨x,rfl⟩
      go_wp2
      exact ⟨⟨1,by omega,by go_num,below_step HBW.out x.below,fun j hj=>by
       obtain rfl:j=0:=by omega
       rw [HN.out,ascE_zero]; rfl⟩,by simp [intOf]; omega⟩
     ·obtain ⟨m,rfl⟩:∃ m,k=m+1:=⟨k - 1,by omega⟩
      obtain ⟨b',off',hbo,hcm'⟩:=HC.out m _ (eat_get (by omega))
      cases hbo
      obtain ⟨fv',m0,m1,hfl'⟩:=hcm'.keep HBW.out
      obtain ⟨fa',fc',rfl,-,-,-⟩:=hfl'
      have mz:b < w2.heap.size:=lt_of_cell m0
      have HE:Hid (ascE l (m+1)=!geB (eat l m).name (eat l (m+1)).name):=ascE_succ l m
      have hi0:(0:Int)≤(m:Int):=by omega
      have hi1:(m:Int) < (l.length:Int):=by omega
      have hi2:(0:Int) < (m:Int)+1:=by omega
      have hw1:IntKind.i64.wrap (m:Int)=(m:Int):=by rw [IntKind.wrap_i64]; omega
      have hw2:IntKind.i64.wrap ((m:Int)+1 - 1)=(m:Int):=by rw [IntKind.wrap_i64]; omega
      clear hc hcm'
      go_wp2
      refine wp_region_later (by kernel_rfl) (by kernel_rfl) ?_
      repeat (go_big_quiet_step (first | (go_at_call 46; exact GN.out _ _ _)))
      refine wpQuiet_nil ?_
      rintro _ ⟨x,rfl⟩
      go_wp2
      ·rename_i h
       go_ret
       exact ⟨ret_bool (BAD'.out (by rw [HE.out]; unfold geB; rw [h]; rfl)).symm,below_step HBW.out x.below⟩
      ·rename_i h
       exact ⟨⟨m+1+1,by omega,by go_num,below_step HBW.out x.below,fun j hj=>if e:j=m+1 then by rw [e,HN.out,HE.out]; unfold geB; rw [h]; rfl else HA.out j (by omega)⟩,by simp [intOf]; omega⟩
   ·go_wp2
    go_ret
    exact ⟨ret_bool (allB_true fun j hj=>HA.out j (by omega)).symm,hb⟩
end Go.Proofs.YtbjmgglpiakgdaaGreatDoor
