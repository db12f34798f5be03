import Derived.Test.YtbjmgglpiakgdaaGreatDoorSp1
import Derived.Test.YtbjmgglpiakgdaaGreatDoorWFl
set_option maxRecDepth 100000
set_option maxHeartbeats 6400000
set_option linter.unusedSimpArgs false
set_option linter.unusedVariables false
namespace Go.Proofs.YtbjmgglpiakgdaaGreatDoor.Dr
open Go.RowKit
attribute [local go_sem] Later.cell Later.frozen
theorem cell_row3 {w:World} {X:Nat} {T:TypeId} {u1 u2 u3:Value} {a1 a2 a3:Option Addr} {n1 n2 n3 c1 c2 c3:Nat} (hX:w.heap[X]?=some (.cells #[.slice a1 n1 c1,.slice a2 n2 c2,.slice a3 n3 c3] T (0,0))) (C:Array Value) {b o:Nat} {s:ByteArray} (hc:w.cell? ⟨b,o,none⟩=some (.string s)):(w.setRow X C).heap[b]?=w.heap[b]?:=by
 refine setRow_other _ _ _ _ (fun e=>?_);subst e
 simp only [World.cell?,hX] at hc
 rcases o with - | - | - | o <;> simp at hc
theorem cell_same {w w':World} {b o:Nat} {u:Value} (hb:w'.heap[b]?=w.heap[b]?) (hc:w.cell? ⟨b,o,none⟩=some u):w'.cell? ⟨b,o,none⟩=some u:=by
 rw [World.cell?_of_block (w:=w) hb];exact hc
theorem TrisAt_str {w w':World} {v:Value} {l:List Tri} (h:TrisAt w v l) (hs:∀ b o s,w.cell? ⟨b,o,none⟩=some (.string s)→w'.heap[b]?=w.heap[b]?):TrisAt w' v l:=by
 obtain ⟨a,cap,rfl,h1,h2,h3⟩:=h;refine ⟨a,cap,rfl,h1,h2,fun i t ht=>?_⟩;obtain ⟨b,off,e,d0,d1,d2⟩:=h3 i t ht;have hb:=hs _ _ _ d0;exact ⟨b,off,e,cell_same hb d0,cell_same hb d1,cell_same hb d2⟩
theorem FldsAt_str {w w':World} {v:Value} {l:List Fld} (h:FldsAt w v l) (hs:∀ b o s,w.cell? ⟨b,o,none⟩=some (.string s)→w'.heap[b]?=w.heap[b]?):FldsAt w' v l:=by
 obtain ⟨a,cap,rfl,h1,h2,h3⟩:=h;refine ⟨a,cap,rfl,h1,h2,fun i t ht=>?_⟩;obtain ⟨b,off,e,d0,d1,d2⟩:=h3 i t ht;have hb:=hs _ _ _ d2;exact ⟨b,off,e,cell_same hb d0,cell_same hb d1,cell_same hb d2⟩
theorem EntsAt_str {w w':World} {v:Value} {l:List Ent} (h:EntsAt w v l) (hs:∀ b o s,w.cell? ⟨b,o,none⟩=some (.string s)→w'.heap[b]?=w.heap[b]?):EntsAt w' v l:=by
 obtain ⟨a,cap,rfl,h1,h2,h3⟩:=h;refine ⟨a,cap,rfl,h1,h2,fun i t ht=>?_⟩;obtain ⟨b,off,e,fv,d0,d1,hf⟩:=h3 i t ht;have hb:=hs _ _ _ d0;exact ⟨b,off,e,fv,cell_same hb d0,cell_same hb d1,FldsAt_str hf hs⟩
theorem BookAt_str {w w':World} {vk vp ve:Value} {ks ps:List Tri} {es:List Ent} (h:BookAt w vk vp ve ks ps es) (hs:∀ b o s,w.cell? ⟨b,o,none⟩=some (.string s)→w'.heap[b]?=w.heap[b]?):BookAt w' vk vp ve ks ps es :=
 ⟨TrisAt_str h.k hs,TrisAt_str h.p hs,EntsAt_str h.e hs⟩
theorem BookAt.slices {w:World} {vk vp ve:Value} {ks ps:List Tri} {es:List Ent} (h:BookAt w vk vp ve ks ps es):∃ a1 c1 a2 c2 a3 c3,vk=.slice a1 ks.length c1∧vp=.slice a2 ps.length c2∧ve=.slice a3 es.length c3:=by
 obtain ⟨⟨a1,c1,h1,-⟩,⟨a2,c2,h2,-⟩,⟨a3,c3,h3,-⟩⟩:=h;exact ⟨a1,c1,a2,c2,a3,c3,h1,h2,h3⟩
end Go.Proofs.YtbjmgglpiakgdaaGreatDoor.Dr
namespace Go.Proofs.YtbjmgglpiakgdaaGreatDoor.Dr
open Go.RowKit
attribute [local go_sem] Later.cell Later.frozen
structure DT (w z:World) (R q bs:Nat) (x y u:Value) (ks ps:List Tri) (es:List Ent):Prop where
 rd:Rd z R q
 bl:Below w.heap.size w z
 r0:z.heap[w.heap.size]?=some (.cells #[.slice none 0 0,.slice none 0 0,.slice none 0 0] 29 (0,0))
 r1:z.heap[w.heap.size+1]?=some (.cells #[.string ⟨#[]⟩,.int .i64 0,.int .i64 0,.string ⟨#[]⟩] 40 (0,0))
 bk:BookFar bs z x y u ks ps es
theorem DT.call {w z z':World} {R q bs:Nat} {x y u:Value} {ks ps:List Tri} {es:List Ent} (h:DT w z R q bs x y u ks ps es) (hb:Below z.heap.size z z'):DT w z' R q bs x y u ks ps es :=
 ⟨h.rd.far hb,below_step h.bl hb,(hb.block _ (lt_blk h.r0)).trans h.r0,(hb.block _ (lt_blk h.r1)).trans h.r1,h.bk.to hb.size (fun b _ h2=>hb.block b h2)⟩
end Go.Proofs.YtbjmgglpiakgdaaGreatDoor.Dr
namespace Go.Proofs.YtbjmgglpiakgdaaGreatDoor.Dr
open Go.RowKit
attribute [local go_sem] Later.cell Later.frozen
def Str (w w':World):Prop:=∀ b o s,w.cell? ⟨b,o,none⟩=some (.string s)→w'.heap[b]?=w.heap[b]?
theorem Str.trans {w w' w2:World} (h:Str w w') (k:Str w' w2):Str w w2:=fun b o s hc=>by
 have h1:=h b o s hc;rw [k b o s (cell_same h1 hc),h1]
theorem Str.below {w w':World} (h:Below w.heap.size w w'):Str w w':=fun b o s hc=>h.block b (lt_of_cell hc)
theorem Str.rd {w w':World} {R p:Nat} (hr:Rd w R p) (h:w.grownBy w' (some R)):Str w w':=fun b o s hc=>by
 obtain ⟨v,n,hn,hb,a,cap,rfl,-⟩:=hr.box;refine h.block b (lt_of_cell hc) (fun e=>?_)
 injection e with e
 subst e
 simp only [World.cell?,hb] at hc
 rcases o with - | - | o <;> simp at hc
theorem Str.row3 {w:World} {X:Nat} {T:TypeId} {a1 a2 a3:Option Addr} {n1 n2 n3 c1 c2 c3:Nat} (hX:w.heap[X]?=some (.cells #[.slice a1 n1 c1,.slice a2 n2 c2,.slice a3 n3 c3] T (0,0))) (C:Array Value):Str w (w.setRow X C):=fun b o s hc=>cell_row3 (u1:=.slice none 0 0) (u2:=.slice none 0 0) (u3:=.slice none 0 0) hX C hc
theorem Str.book {w w':World} {vk vp ve:Value} {ks ps:List Tri} {es:List Ent} (h:Str w w') (hb:BookAt w vk vp ve ks ps es):BookAt w' vk vp ve ks ps es:=BookAt_str hb h
theorem Str.tris {w w':World} {v:Value} {l:List Tri} (h:Str w w') (hb:TrisAt w v l):TrisAt w' v l:=TrisAt_str hb h
structure DM (w z:World) (R q:Nat) (bs:List Bx):Prop where
 rd:Rd z R q
 bx:Bxs w z bs
 lo:w.heap.size≤R
 no:∀ p∈bs,p.1≠R
theorem DM.call {w z z':World} {R q:Nat} {bs:List Bx} (h:DM w z R q bs) (hb:Below z.heap.size z z'):DM w z' R q bs:=⟨h.rd.far hb,h.bx.call hb,h.lo,h.no⟩
theorem DM.grow {w z z':World} {R q q':Nat} {bs:List Bx} (h:DM w z R q bs) (hr:Rd z' R q') (hg:z.grownBy z' (some R)):DM w z' R q' bs :=
 ⟨hr,⟨below_grown h.bx.below hg h.lo,fun p hp=>box_keep hg (h.no p hp) (h.bx.has p hp)⟩,h.lo,h.no⟩
theorem DM.push {w z:World} {R q:Nat} {bs:List Bx} (h:DM w z R q bs) (C:Array Value) (T:TypeId):DM w (z.alloc (.cells C T)) R q ((z.heap.size,C,T)::bs):=by
 have h1:=h.call ((Below.refl _ _).alloc nlr (.cells C T));refine ⟨h1.rd,h1.bx.push (heap_newD z _),h1.lo,fun p hp=>?_⟩
 rcases List.mem_cons.1 hp with rfl | hp
 ·have:=h.rd.lt
  show z.heap.size≠R
  omega
 ·exact h1.no p hp
end Go.Proofs.YtbjmgglpiakgdaaGreatDoor.Dr
namespace Go.Proofs.YtbjmgglpiakgdaaGreatDoor.Dr
open Go.RowKit
attribute [local go_sem] Later.cell Later.frozen
theorem chgRows_set:∀ (l:List Chg) (k:Nat) (c c':Chg),l[k]?=some c→chgRows (l.set k c')=((((chgRows l).set (k*4) (.string c'.f)).set (k*4+1) (.int .i64 c'.what)).set (k*4+2) (.int .i64 c'.num)).set (k*4+3) (.string c'.v)
 | [],k,c,c',h=>by simp at h
 | a::l,0,c,c',h=>by simp [chgRows,chgRow]
 | a::l,k+1,c,c',h=>by
  have e:chgRows (a::l)=chgRow a++chgRows l:=by simp [chgRows]
  have e':chgRows ((a::l).set (k+1) c')=chgRow a++chgRows (l.set k c'):=by simp [chgRows]
  have hl:(chgRow a).length=4:=rfl
  have one:∀ (m:List Value) (j:Nat) (x:Value),(chgRow a++m).set ((k+1)*4+j) x=chgRow a++m.set (k*4+j) x:=fun m j x=>by
   rw [List.set_append_right _ _ (by omega),hl]
   congr 2
   omega
  rw [e,e',chgRows_set l k c c' (by simpa using h)]
  have o0:=one (chgRows l) 0 (.string c'.f);rw [Nat.add_zero,Nat.add_zero] at o0;rw [o0,one,one,one]
  rfl
theorem own_set4 {w:World} {base g n cap k:Nat} {l:List Chg} {c:Chg} (h:w.ownsRow base 40 4 (.slice (some ⟨g,0,none⟩) n cap) n (chgRows l)) (hn:l.length=n) (hk:k<n):(w.setCells g (k*4) [.string c.f,.int .i64 c.what,.int .i64 c.num,.string c.v]).ownsRow base 40 4 (.slice (some ⟨g,0,none⟩) n cap) n (chgRows (l.set k c)):=by
 rw [chgRows_set l k _ c (cat_get (by omega))]
 exact own_setD (own_setD (own_setD (own_setD h (by omega)) (by omega)) (by omega)) (by omega)
theorem there4 {w:World} {base g n cap k:Nat} {l:List Chg} (h:w.ownsRow base 40 4 (.slice (some ⟨g,0,none⟩) n cap) n (chgRows l)) (hk:k<n):w.there g (k*4) 4:=by
 obtain ⟨h1,h2⟩:=h
 rcases h2 with ⟨h0,hn⟩ | ⟨g',cap',cur,hv,hg,hc,hn,hm,hs,ht⟩
 ·cases h0
 ·cases hv
  intro j hj
  have hlt:k*4+j<cur.size:=by have:=Nat.mul_le_mul_right 4 (show k+1≤cap by omega);omega
  exact ⟨by simp [World.cell?,hc,hlt],by simp [World.frozen?,hc]⟩
theorem set4_heap (w:World) (g o:Nat) (a b c d:Value) (q:Nat) (hq:q≠g):(w.setCells g o [a,b,c,d]).heap[q]?=w.heap[q]?:=by
 show ((((w.setCell ⟨g,o,none⟩ a).setCell ⟨g,o+1,none⟩ b).setCell ⟨g,o+1+1,none⟩ c).setCell ⟨g,o+1+1+1,none⟩ d).heap[q]?=_
 rw [Below.heap_setCell _ ⟨g,o+1+1+1,none⟩ d q hq,Below.heap_setCell _ ⟨g,o+1+1,none⟩ c q hq,Below.heap_setCell _ ⟨g,o+1,none⟩ b q hq,Below.heap_setCell _ ⟨g,o,none⟩ a q hq]
theorem set4_grown {w W:World} {R g o:Nat} {a b c d:Value} (h:w.grownBy W (some R)) (hg:w.heap.size≤g):w.grownBy (W.setCells g o [a,b,c,d]) (some R) :=
 grown_cell (grown_cell (grown_cell (grown_cell h _ a hg) _ b hg) _ c hg) _ d hg
theorem ChgsAt_str {w w':World} {v:Value} {l:List Chg} (h:ChgsAt w v l) (hs:Str w w'):ChgsAt w' v l:=by
 obtain ⟨a,cap,rfl,h1,h2,h3⟩:=h;refine ⟨a,cap,rfl,h1,h2,fun i t ht=>?_⟩;obtain ⟨b,off,e,d0,d1,d2,d3⟩:=h3 i t ht;have hb:=hs _ _ _ d0;exact ⟨b,off,e,cell_same hb d0,cell_same hb d1,cell_same hb d2,cell_same hb d3⟩
structure DL (w wr:World) (R q:Nat) (v:Value) (n:Nat) (l:List Chg):Prop where
 rd:Rd wr R q
 gr:w.grownBy wr (some R)
 ow:wr.ownsRow w.heap.size 40 4 v n (chgRows l)
 len:l.length=n
 sm:∀ c∈l,SmC c
theorem DL.at {w wr:World} {R q n:Nat} {v:Value} {l:List Chg} (h:DL w wr R q v n l):ChgsAt wr v l:=by
 have h1:=h.ow;rw [← h.len] at h1;exact ChgsNew.at h1
theorem DL.cells {w wr:World} {R q n g cap k:Nat} {l:List Chg} (h:DL w wr R q (.slice (some ⟨g,0,none⟩) n cap) n l) (hk:k<n):ChgAt wr g (k*4) (cat' l k)∧SmC (cat' l k):=by
 have hl:k<l.length:=by have:=h.len;omega
 obtain ⟨a,c',hv,-,-,h3⟩:=h.at;obtain ⟨b,off,hb,hc⟩:=h3 k _ (cat_get hl)
 injection hv with e1 e2 e3
 rw [hb] at e1
 cases e1
 rw [Nat.zero_add] at hc;exact ⟨hc,h.sm _ (List.mem_of_getElem? (cat_get hl))⟩
theorem DL.grow {w wr wx:World} {R q qx n:Nat} {v:Value} {l:List Chg} (h:DL w wr R q v n l) (hR:R<w.heap.size) (hr:Rd wx R qx) (hg:wr.grownBy wx (some R)):DL w wx R qx v n l:=⟨hr,grown_on h.gr hg,own_box h.ow hg hR,h.len,h.sm⟩
theorem DL.set {w wr:World} {R q n g cap k:Nat} {l:List Chg} {c:Chg} (h:DL w wr R q (.slice (some ⟨g,0,none⟩) n cap) n l) (hR:R<w.heap.size) (hk:k<n) (hc:SmC c):DL w (wr.setCells g (k*4) [.string c.f,.int .i64 c.what,.int .i64 c.num,.string c.v]) R q (.slice (some ⟨g,0,none⟩) n cap) n (l.set k c):=by
 have hg:w.heap.size≤g:=own_geD h.ow g rfl
 exact ⟨h.rd.late (fun j hj=>set4_heap _ _ _ _ _ _ _ _ (by omega)),set4_grown h.gr hg,own_set4 h.ow h.len hk,by rw [List.length_set];exact h.len,fun x hx=>by
  rcases List.mem_or_eq_of_mem_set hx with h1 | h1
  ·exact h.sm x h1
  ·rw [h1];exact hc⟩
theorem drawTakeAll_any (v:Value) (n:Nat) (w:World) (h:BysArg w v n) :
  Calls Tryz.prog 6 #[v] w fun e w'=>∃ (x y z u:Value) (ks ps:List Tri) (es:List Ent) (L:List Chg),e=.returned (.tuple #[.agg #[x,y,z],u])∧BookAt w' x y z ks ps es∧SmB (ks,ps,es)∧ChgsAt w' u L∧L.length≤24∧(∀ c∈L,SmC c)∧Below w.heap.size w w':=by
 have HA:=toHid h;obtain ⟨a,cap,rfl,-⟩:=h
 have HB:Hid (Bxs w (w.alloc (.cells #[.slice none 0 0,.slice none 0 0,.slice none 0 0] 29)) [(w.heap.size,#[.slice none 0 0,.slice none 0 0,.slice none 0 0],29)]):=⟨(bal),fun p hp=>by
  simp only [List.mem_cons,List.not_mem_nil,or_false] at hp
  subst hp
  exact heap_newD w _⟩
 go_enter Tryz.func6,Tryz.ntmps6
 go_wp2_with fail;generalize (w.alloc (.cells #[.slice none 0 0,.slice none 0 0,.slice none 0 0] 29))=w1 at *;refine (l1Open_any _ n _ (HA.out.keep HB.out.below)).mono ?_;rintro e w2 ⟨R,rfl,hR,hr2,hb2⟩
 have hRw:w.heap.size<R:=by have:=HB.out.lt (p:=(w.heap.size,#[.slice none 0 0,.slice none 0 0,.slice none 0 0],29)) (by simp);dsimp only at this;omega
 have D2:Hid (DM w w2 R 0 [(w.heap.size,#[.slice none 0 0,.slice none 0 0,.slice none 0 0],29)]):=⟨hr2,HB.out.call hb2,by omega,fun p hp=>by
  simp only [List.mem_cons,List.not_mem_nil,or_false] at hp
  subst hp
  show w.heap.size≠R;omega⟩
 clear hr2 hb2 HB hR;go_wp2_with fail
 refine (l1Base_all R 0 _ D2.out.rd (by omega)).mono ?_
 rintro e w3 ⟨kv,pv,ks,ps,rfl,htk,htp,hkb,hpb,hp1,hk1,q3,hq0,hq1,hr3,hg3⟩;have HT3:Hid (TrisAt w3 kv ks∧TrisAt w3 pv ps):=⟨tris_own htk,tris_own htp⟩;obtain ⟨ka,kc,rfl⟩:=own_sliceD htk;obtain ⟨pa,pc,rfl⟩:=own_sliceD htp;have KB:=toHid hkb;have PB:=toHid hpb;have D4:=toHid ((D2.out.grow hr3 hg3).push #[.slice ka ks.length kc,.slice pa ps.length pc] 26);have S4:Hid (Str w3 (w3.alloc (.cells #[.slice ka ks.length kc,.slice pa ps.length pc] 26))):=Str.below (bal);have HT4:Hid (TrisAt (w3.alloc (.cells #[.slice ka ks.length kc,.slice pa ps.length pc] 26)) (.slice ka ks.length kc) ks∧TrisAt (w3.alloc (.cells #[.slice ka ks.length kc,.slice pa ps.length pc] 26)) (.slice pa ps.length pc) ps):=⟨S4.out.tris HT3.out.1,S4.out.tris HT3.out.2⟩;clear hr3 hg3 htk htp hkb hpb D2 HT3 S4;go_wp2_with fail;generalize (w3.alloc (.cells #[.slice ka ks.length kc,.slice pa ps.length pc] 26))=w4 at *;generalize w3.heap.size=BB at *
 refine (l3Book_any R q3 _ _ ks ps _ D4.out.rd (by omega) HT4.out.1 HT4.out.2 KB.out PB.out hp1).mono ?_
 rintro e w5 ⟨x,y,z,es,rfl,hbn,hok,hsm,q5,hq2,hq3,hr5,hg5⟩;obtain ⟨a1,c1,a2,c2,a3,c3,rfl,rfl,rfl⟩:=hbn.slices;have S5:=Str.rd D4.out.rd hg5;have D6:=toHid ((D4.out.grow hr5 hg5).push #[.slice a1 ks.length c1,.slice a2 ps.length c2,.slice a3 es.length c3] 29);have S6:Str w5 (w5.alloc (.cells #[.slice a1 ks.length c1,.slice a2 ps.length c2,.slice a3 es.length c3] 29)):=Str.below (bal);have HT6:Hid (TrisAt (w5.alloc (.cells #[.slice a1 ks.length c1,.slice a2 ps.length c2,.slice a3 es.length c3] 29)) (.slice ka ks.length kc) ks∧TrisAt (w5.alloc (.cells #[.slice a1 ks.length c1,.slice a2 ps.length c2,.slice a3 es.length c3] 29)) (.slice pa ps.length pc) ps∧BookAt (w5.alloc (.cells #[.slice a1 ks.length c1,.slice a2 ps.length c2,.slice a3 es.length c3] 29)) (.slice a1 ks.length c1) (.slice a2 ps.length c2) (.slice a3 es.length c3) ks ps es):=⟨(S5.trans S6).tris HT4.out.1,(S5.trans S6).tris HT4.out.2,S6.book hbn.at⟩;have OKA:Hid (bookB ks ps es=true∧SmB (ks,ps,es)):=⟨hok,hsm⟩
 have HBA:Hid (w.heap.size<w5.heap.size):=by
  have h1:=(D4.out.grow hr5 hg5).bx.lt (p:=(w.heap.size,#[.slice none 0 0,.slice none 0 0,.slice none 0 0],29)) (by simp)
  exact h1
 clear hr5 hg5 hbn hok hsm S5 S6 D4 HT4;have c0:=D6.out.bx.cell 1 rfl 0;have c1':=D6.out.bx.cell 1 rfl 1;go_wp2_with fail;clear c0 c1';have hBA:w.heap.size<w5.heap.size:=HBA.out;clear HBA;generalize (w5.alloc (.cells #[.slice a1 ks.length c1,.slice a2 ps.length c2,.slice a3 es.length c3] 29))=w6 at *;generalize w5.heap.size=BA at *
 refine (l3Changes_any R q5 _ _ ps 20 _ D6.out.rd (by omega) ⟨by omega,by omega⟩ HT6.out.2.1 ⟨hp1,by have:=(points_le PB.out).1;omega⟩ (fun t ht=>by have:=(points_le PB.out).2 t ht;omega)).mono ?_
 rintro e w7 ⟨v,l,rfl,hln,hl24,hlc,q7,hq4,hq5,hr7,hg7⟩;have hR6:R<w6.heap.size:=D6.out.rd.lt;have L7:Hid (DL w6 w7 R q7 v l.length l):=⟨hr7,hg7,hln,rfl,hlc⟩;obtain ⟨la,lc,rfl⟩:=own_sliceD hln;clear hr7 hg7 hln hlc;go_wp2_with fail
 go_loopw [8] (fun i wr=>∃ (k q:Nat) (l':List Chg),k≤l.length∧i=.int .i64 k∧q≤q7+20*k∧Hid (DL w6 wr R q (.slice la l.length lc) l.length l')) (fun i _=>l.length-(intOf i).toNat)
 case atStart=>exact ⟨0,q7,l,Nat.zero_le _,rfl,by omega,L7.out⟩
 case round =>
  clear L7;obtain ⟨k,q,l',hk,rfl,hq,HL⟩:=hrel
  by_cases hlt:k<l.length
  ·have hk0:(0:Int)≤(k:Int):=by omega
   have hk1':(k:Int)<(l.length:Int):=by omega
   go_wp2_with fail
   refine (pick_any R q 12 _ HL.out.rd (by omega) (by omega)).mono ?_
   rintro e w8 ⟨x,rfl,hx0,hx1,-,hr8,hg8⟩;have L8:=toHid (HL.out.grow hR6 hr8 hg8);clear hr8 hg8 HL hx0 hx1
   by_cases hx:x=0
   ·have hxb:(x==0)=true:=by simp [hx]
    clear hx
    obtain ⟨g,cap',hv,hlc,hcm⟩:=own_someD L8.out.ow (by omega)
    unfold maxLen at hcm
    cases hv
    obtain ⟨⟨d0,d1,d2,d3⟩,hsf,hsv⟩:=L8.out.cells hlt;generalize cat' l' k=cc at *;go_wp2_with fail;clear d0 d1 d2 d3
    refine (l2SpoilChange_any R (q+1) cc.f cc.what cc.num cc.v _ L8.out.rd (by omega) hsf hsv).mono ?_
    rintro e w9 ⟨f',wh',num',s',rfl,hf',hs',q9,hq6,hq7,hr9,hg9⟩;have L9:=toHid (L8.out.grow hR6 hr9 hg9);have hth:w9.there g (k*4) #[Value.string f',.int .i64 wh',.int .i64 num',.string s'].size:=there4 L9.out.ow hlt;have LA:Hid (DL w6 (w9.setCells g (k*4) #[Value.string f',.int .i64 wh',.int .i64 num',.string s'].toList) R q9 (.slice (some ⟨g,0,none⟩) l.length lc) l.length (l'.set k ⟨f',wh',num',s'⟩)):=L9.out.set (c:=⟨f',wh',num',s'⟩) hR6 hlt ⟨hf',hs'⟩;clear hr9 hg9 L8 L9
    go_wp2_with (refine wpList_store_mid rfl 40 _ _ rfl g (k*4) #[.string f',.int .i64 wh',.int .i64 num',.string s'] rfl rfl hth (by kernel_rfl) (by simp [Value.oneCell']) ?_;clear hth;generalize (w9.setCells g (k*4) #[Value.string f',.int .i64 wh',.int .i64 num',.string s'].toList)=wB at *)
    exact ⟨⟨k+1,q9,_,by omega,by go_num,by omega,LA⟩,by simp [intOf];omega⟩
   ·have hxb:(x==0)=false:=by simp [hx]
    clear hx;go_wp2_with fail
    exact ⟨⟨k+1,q+1,l',by omega,by go_num,by omega,L8⟩,by simp [intOf];omega⟩
  ·have hke:k=l.length:=by omega
   go_wp2_with fail
   refine (pick_any R q 20 _ HL.out.rd (by omega) (by omega)).mono ?_
   rintro e w8 ⟨x,rfl,hx0,hx1,-,hr8,hg8⟩;have L8:=toHid (HL.out.grow hR6 hr8 hg8);have D8:=toHid (D6.out.grow L8.out.rd L8.out.gr);have B8:Hid (BookAt w8 (.slice a1 ks.length c1) (.slice a2 ps.length c2) (.slice a3 es.length c3) ks ps es):=(Str.rd D6.out.rd L8.out.gr).book HT6.out.2.2;clear hr8 hg8 HL hx0 hx1 HT6 D6
   by_cases hx:x=0
   ·have hxb:(x==0)=true:=by simp [hx]
    clear hx;obtain ⟨p0,p1,p2⟩:w8.cell? ⟨BA,0,none⟩=some (.slice a1 ks.length c1)∧w8.cell? ⟨BA,1,none⟩=some (.slice a2 ps.length c2)∧w8.cell? ⟨BA,2,none⟩=some (.slice a3 es.length c3):=⟨D8.out.bx.cell 0 rfl 0,D8.out.bx.cell 0 rfl 1,D8.out.bx.cell 0 rfl 2⟩;go_wp2_with fail;clear p0 p1 p2
    refine (l3Spoil_any R (q+1) _ _ _ ks ps es _ D8.out.rd (by omega) B8.out OKA.out.1 OKA.out.2 hk1 hp1).mono ?_
    rintro e wA ⟨x',y',z',ks',ps',es',rfl,hat,hsp,q6,hq6,hq7,hrA,hgA⟩;obtain ⟨t1,e1,t2,e2,t3,e3,rfl,rfl,rfl⟩:=BookAt.slices hat.at
    have hBX:=(D8.out.grow hrA hgA).bx.has (BA,#[.slice a1 ks.length c1,.slice a2 ps.length c2,.slice a3 es.length c3],29) (by simp)
    have HP:Hid (Below w.heap.size w (wA.setRow BA #[.slice t1 ks'.length e1,.slice t2 ps'.length e2,.slice t3 es'.length e3])∧(wA.setRow BA #[.slice t1 ks'.length e1,.slice t2 ps'.length e2,.slice t3 es'.length e3]).heap[w.heap.size]?=some (.cells #[.slice none 0 0,.slice none 0 0,.slice none 0 0] 29 (0,0))∧(wA.setRow BA #[.slice t1 ks'.length e1,.slice t2 ps'.length e2,.slice t3 es'.length e3]).heap[BA]?=some (.cells #[.slice t1 ks'.length e1,.slice t2 ps'.length e2,.slice t3 es'.length e3] 29 (0,0))∧BookAt (wA.setRow BA #[.slice t1 ks'.length e1,.slice t2 ps'.length e2,.slice t3 es'.length e3]) (.slice t1 ks'.length e1) (.slice t2 ps'.length e2) (.slice t3 es'.length e3) ks' ps' es'∧SmB (ks',ps',es')∧ChgsAt (wA.setRow BA #[.slice t1 ks'.length e1,.slice t2 ps'.length e2,.slice t3 es'.length e3]) (.slice la l.length lc) l'∧l'.length≤24∧∀ c∈l',SmC c):=by
     have hD:=D8.out.grow hrA hgA;have h1:=Str.row3 hBX #[.slice t1 ks'.length e1,.slice t2 ps'.length e2,.slice t3 es'.length e3]
     exact ⟨below_setRow hD.bx.below (by omega) _,(setRow_other _ _ _ _ (by omega)).trans (hD.bx.has (w.heap.size,#[.slice none 0 0,.slice none 0 0,.slice none 0 0],29) (by simp)),setRow_heap _ _ _ _ _ _ hBX,h1.book hat.at,hsp.1,ChgsAt_str L8.out.at ((Str.rd D8.out.rd hgA).trans h1),by rw [L8.out.len];exact hl24,L8.out.sm⟩
    clear hrA hgA hat hsp D8 B8 L8 OKA;have b0:=cell_blkD HP.out.2.2.1 (i:=0) rfl;have b1:=cell_blkD HP.out.2.2.1 (i:=1) rfl;have b2:=cell_blkD HP.out.2.2.1 (i:=2) rfl;have hR0:=HP.out.2.1
    go_wp2_with (first | (refine wpList_store_row rfl 29 _ _ rfl BA #[.slice t1 ks'.length e1,.slice t2 ps'.length e2,.slice t3 es'.length e3] rfl rfl 29 _ hBX (by kernel_rfl) rfl (by simp [Value.oneCell']) ?_;clear hBX;generalize (wA.setRow BA #[.slice t1 ks'.length e1,.slice t2 ps'.length e2,.slice t3 es'.length e3])=wB at *) | refine wpList_store_row rfl 29 _ _ rfl w.heap.size #[.slice t1 ks'.length e1,.slice t2 ps'.length e2,.slice t3 es'.length e3] rfl rfl 29 _ hR0 (by kernel_rfl) rfl (by simp [Value.oneCell']) ?_)
    have k0:=setRow_heap _ _ _ #[.slice t1 ks'.length e1,.slice t2 ps'.length e2,.slice t3 es'.length e3] _ _ hR0;have h00:=cell_blkD k0 (i:=0) rfl;have h01:=cell_blkD k0 (i:=1) rfl;have h02:=cell_blkD k0 (i:=2) rfl
    exact bodyPost_ret (v:=.tuple #[.agg #[.slice t1 ks'.length e1,.slice t2 ps'.length e2,.slice t3 es'.length e3],.slice la l.length lc]) (by simp [results,Tryz.results6,go_sem,h00,h01,h02]) rfl ⟨_,_,_,_,_,_,_,l',rfl,(Str.row3 hR0 _).book HP.out.2.2.2.1,HP.out.2.2.2.2.1,ChgsAt_str HP.out.2.2.2.2.2.1 (Str.row3 hR0 _),HP.out.2.2.2.2.2.2.1,HP.out.2.2.2.2.2.2.2,below_setRow HP.out.1 nlr _⟩
   ·have hxb:(x==0)=false:=by simp [hx]
    clear hx
    have HP:Hid (Below w.heap.size w w8∧w8.heap[w.heap.size]?=some (.cells #[.slice none 0 0,.slice none 0 0,.slice none 0 0] 29 (0,0))∧w8.heap[BA]?=some (.cells #[.slice a1 ks.length c1,.slice a2 ps.length c2,.slice a3 es.length c3] 29 (0,0))∧BookAt w8 (.slice a1 ks.length c1) (.slice a2 ps.length c2) (.slice a3 es.length c3) ks ps es∧SmB (ks,ps,es)∧ChgsAt w8 (.slice la l.length lc) l'∧l'.length≤24∧∀ c∈l',SmC c):=⟨D8.out.bx.below,D8.out.bx.has (w.heap.size,#[.slice none 0 0,.slice none 0 0,.slice none 0 0],29) (by simp),D8.out.bx.has (BA,#[.slice a1 ks.length c1,.slice a2 ps.length c2,.slice a3 es.length c3],29) (by simp),B8.out,OKA.out.2,L8.out.at,by rw [L8.out.len];exact hl24,L8.out.sm⟩
    clear D8 B8 L8 OKA;have b0:=cell_blkD HP.out.2.2.1 (i:=0) rfl;have b1:=cell_blkD HP.out.2.2.1 (i:=1) rfl;have b2:=cell_blkD HP.out.2.2.1 (i:=2) rfl;have hR0:=HP.out.2.1
    go_wp2_with (refine wpList_store_row rfl 29 _ _ rfl w.heap.size #[.slice a1 ks.length c1,.slice a2 ps.length c2,.slice a3 es.length c3] rfl rfl 29 _ hR0 (by kernel_rfl) rfl (by simp [Value.oneCell']) ?_)
    have k0:=setRow_heap _ _ _ #[.slice a1 ks.length c1,.slice a2 ps.length c2,.slice a3 es.length c3] _ _ hR0;have h00:=cell_blkD k0 (i:=0) rfl;have h01:=cell_blkD k0 (i:=1) rfl;have h02:=cell_blkD k0 (i:=2) rfl
    exact bodyPost_ret (v:=.tuple #[.agg #[.slice a1 ks.length c1,.slice a2 ps.length c2,.slice a3 es.length c3],.slice la l.length lc]) (by simp [results,Tryz.results6,go_sem,h00,h01,h02]) rfl ⟨_,_,_,_,_,_,_,l',rfl,(Str.row3 hR0 _).book HP.out.2.2.2.1,HP.out.2.2.2.2.1,ChgsAt_str HP.out.2.2.2.2.2.1 (Str.row3 hR0 _),HP.out.2.2.2.2.2.2.1,HP.out.2.2.2.2.2.2.2,below_setRow HP.out.1 nlr _⟩
end Go.Proofs.YtbjmgglpiakgdaaGreatDoor.Dr
namespace Go.Proofs.YtbjmgglpiakgdaaGreatDoor.Dr
open Go.RowKit
structure MX (w z:World) (bs:List Bx) (l:List (Value×Value×Value×Bk)):Prop where
 bx:Bxs w z bs
 bk:∀ p∈l,BookAt z p.1 p.2.1 p.2.2.1 p.2.2.2.1 p.2.2.2.2.1 p.2.2.2.2.2
theorem MX.call {w z z':World} {bs:List Bx} {l:List (Value×Value×Value×Bk)} (h:MX w z bs l) (hb:Below z.heap.size z z'):MX w z' bs l:=⟨h.bx.call hb,fun p hp=>(h.bk p hp).keep hb⟩
theorem MX.push {w z:World} {bs:List Bx} {l:List (Value×Value×Value×Bk)} {x y u:Value} {ks ps:List Tri} {es:List Ent} (h:MX w z bs l) (hb:BookAt z x y u ks ps es):MX w (z.alloc (.cells #[x,y,u] 29)) ((z.heap.size,#[x,y,u],29)::bs) ((x,y,u,(ks,ps,es))::l):=by
 have h1:Below z.heap.size z (z.alloc (.cells #[x,y,u] 29)):=(bal);refine ⟨(h.bx.call h1).push (heap_newD z _),fun p hp=>?_⟩
 rcases List.mem_cons.1 hp with rfl | hp
 ·exact hb.keep h1
 ·exact (h.bk p hp).keep h1
theorem MX.at {w z:World} {bs:List Bx} {l:List (Value×Value×Value×Bk)} (h:MX w z bs l) (i:Nat) {x y u:Value} {ks ps:List Tri} {es:List Ent} (hi:l[i]?=some (x,y,u,(ks,ps,es))):BookAt z x y u ks ps es:=h.bk _ (List.mem_of_getElem? hi)
theorem MX.start {w w1:World} {x y u:Value} {ks ps:List Tri} {es:List Ent} (h:Below w.heap.size w w1) (hb:BookAt w1 x y u ks ps es):MX w (w1.alloc (.cells #[x,y,u] 29)) [(w1.heap.size,#[x,y,u],29)] [(x,y,u,(ks,ps,es))] :=
 MX.push (bs:=[]) (l:=[]) ⟨⟨h,fun p hp=>by cases hp⟩,fun p hp=>by cases hp⟩ hb
theorem bx3M {w z:World} {bs:List Bx} (h:Bxs w z bs) (i:Nat) {X:Nat} {a b c:Value} {T:TypeId} (hi:bs[i]?=some (X,#[a,b,c],T)):z.cell? ⟨X,0,none⟩=some a∧z.cell? ⟨X,1,none⟩=some b∧z.cell? ⟨X,2,none⟩=some c:=⟨h.cell i hi 0,h.cell i hi 1,h.cell i hi 2⟩
end Go.Proofs.YtbjmgglpiakgdaaGreatDoor.Dr
namespace Go.Proofs.YtbjmgglpiakgdaaGreatDoor.Dr
open Go.RowKit Sd
attribute [local go_sem] Later.cell Later.frozen
theorem cut_pos:∀ (l acc:List UInt8),1≤(cutA acc l).length
 | [],acc=>by simp [cutA]
 | c::l,acc=>by
  unfold cutA
  split
  ·simp
  ·exact cut_pos l _
theorem cutW_pos (s:ByteArray):1≤(cutW s).length:=by
 unfold cutW;rw [List.length_map];exact cut_pos _ _
theorem strs_own {w:World} {B:Nat} {v:Value} {l:List ByteArray} (h:SNew w B v l) (hl:1≤l.length):StrsAt w v l:=by
 rcases h.2 with ⟨hv,h0⟩ | ⟨g,cap,cur,hv,_,hg,hn,hc,hs,ht⟩
 ·omega
 ·refine ⟨g,0,cap,hv,hn,hc,fun i t hi=>?_⟩
  have hil:i<l.length:=(List.getElem?_eq_some_iff.1 hi).1
  have e:(cur.toList.take (l.length*1))[i]?=some (.string t):=by rw [ht];simp [hi]
  rw [List.getElem?_take,if_pos (by omega)] at e
  simp only [World.cell?,hg]
  simpa using e
end Go.Proofs.YtbjmgglpiakgdaaGreatDoor.Dr
namespace Go.Proofs.YtbjmgglpiakgdaaGreatDoor.Fa
open Go.RowKit Sd Pa
theorem all_at {es:List Ent} {k:Nat} (h:k<es.length) (hs:stB (eat es k).fs=true):(allE es)[(allE (es.take k)).length]?=some (eat es k):=by
 have e:es=es.take k++(eat es k::es.drop (k+1)):=by
  have h1:es.drop k=eat es k::es.drop (k+1):=by rw [List.drop_eq_getElem_cons h];simp [eat,h]
  rw [← h1,List.take_append_drop]
 have e2:allE es=allE (es.take k)++(eat es k::allE (es.drop (k+1))):=by
  conv=>lhs;rw [e]
  unfold allE
  rw [List.filter_append,List.filter_cons_of_pos (by simpa using hs)]
 rw [e2,List.getElem?_append_right nlr]
 simp
def fat8 (w:World) (g o:Nat) (p:FlV) (rt:Value):Prop:=(w.cell? ⟨g,o,none⟩=some (.string p.q)∧w.cell? ⟨g,o+1,none⟩=some (.string p.t.s)∧w.cell? ⟨g,o+2,none⟩=some (.int .i64 p.t.x)∧w.cell? ⟨g,o+3,none⟩=some (.int .i64 p.t.y))∧w.cell? ⟨g,o+4,none⟩=some (.int .i64 p.x)∧w.cell? ⟨g,o+5,none⟩=some (.int .i64 p.y)∧w.cell? ⟨g,o+6,none⟩=some (.int .i64 p.z)∧w.cell? ⟨g,o+7,none⟩=some rt
theorem FlsNew.cells {w:World} {B:Nat} {v:Value} {l:List FlV} (h:FlsNew w B v l):∃ a c,v=.slice a l.length c∧∀ i p,l[i]?=some p→∃ g rt,a=some ⟨g,0,none⟩∧fat8 w g (i*8) p rt∧SNew w B rt p.L:=by
 obtain ⟨ps,rfl,h⟩:=h
 rcases h.row.2 with ⟨rfl,h0⟩ | ⟨g,cap,cur,rfl,hB,hb,hn,hc,hs,ht⟩
 ·have hp:ps=[]:=List.length_eq_zero_iff.1 h0
  subst hp
  exact ⟨none,0,rfl,fun i p hi=>by simp at hi⟩
 ·refine ⟨some ⟨g,0,none⟩,cap,by rw [List.length_map],fun i p hi=>?_⟩
  rw [List.getElem?_map] at hi
  cases hq:ps[i]? with
  | none=>rw [hq] at hi;cases hi
  | some q =>
   rw [hq] at hi
   have hqe:q.1=p:=by simpa using hi
   have hil:=(List.getElem?_eq_some_iff.1 hq).1
   have hcell:∀ j u,j<8→(flRow q)[j]?=some u→w.cell? ⟨g,i*8+j,none⟩=some u:=fun j u hj hu=>by
    have e:=flRows_get ps i j q hq hj
    rw [hu,← ht,List.getElem?_take,if_pos (by omega)] at e
    simp only [World.cell?,hb,Option.isSome_none,Bool.false_eq_true,if_false]
    simpa using e
   rw [← hqe]
   exact ⟨g,q.2,rfl,⟨⟨hcell 0 _ (by omega) rfl,hcell 1 _ (by omega) rfl,hcell 2 _ (by omega) rfl,hcell 3 _ (by omega) rfl⟩,hcell 4 _ (by omega) rfl,hcell 5 _ (by omega) rfl,hcell 6 _ (by omega) rfl,hcell 7 _ (by omega) rfl⟩,h.rt q (List.mem_of_getElem? hq)⟩
theorem rt_words {ks ps:List Tri} {es:List Ent} {nm:ByteArray} {e:Ent} (h:standR ks ps es nm=some e):1≤(rtW e).length:=by
 obtain ⟨-,-,⟨f,hf,hrt⟩,-,-⟩:=stand_ok h;rw [hrt];exact Dr.cutW_pos _
def rndL (L:List Chg):List Chg:=L.reverse.flatMap fun c=>[c,c]
theorem rnd_len (L:List Chg):(rndL L).length=2*L.length:=by
 unfold rndL
 have:∀ l:List Chg,(l.flatMap fun c=>[c,c]).length=2*l.length:=fun l=>by
  induction l with
  | nil=>rfl
  | cons a l ih=>simp at ih ⊢;omega
 rw [this,List.length_reverse]
theorem rnd_mem {L:List Chg} {c:Chg} (h:c∈rndL L):c∈L:=by
 unfold rndL at h;obtain ⟨d,hd,hc⟩:=List.mem_flatMap.1 h
 simp at hd hc
 rw [hc];exact hd
theorem top_book {ks ps:List Tri} {es:List Ent} (L:List Chg) (h:bookB ks ps es=true):∃ ex,Proofs.YtbjmgglpiakgdaaGreatDoor.allR ks ps es L=(ks,ps,ex)∧bookB ks ps ex=true∧((∀ k∈allC ks ps es L,k≠3)→Proofs.YtbjmgglpiakgdaaGreatDoor.allR ks ps es (rndL L)=(ks,ps,ex)):=by
 obtain ⟨ex,h1,h2⟩:=steps_ok L h
 refine ⟨ex,by unfold Proofs.YtbjmgglpiakgdaaGreatDoor.allR;rw [h];exact h1,h2,fun hn=>?_⟩
 unfold allC at hn;rw [h] at hn;unfold Proofs.YtbjmgglpiakgdaaGreatDoor.allR;rw [h];exact (round_one h hn).trans h1
theorem top_no {ks ps:List Tri} {es:List Ent} (L:List Chg) (h:bookB ks ps es=false):allC ks ps es L=[]:=by unfold allC;rw [h];rfl
theorem top_len (ks ps:List Tri) (es:List Ent) (L:List Chg):(allC ks ps es L).length≤L.length:=by
 unfold allC
 cases bookB ks ps es with
 | false=>simp
 | true=>simp [codesBk_len]
theorem top_small {ks ps:List Tri} {es:List Ent} {L:List Chg} (h:SmB (ks,ps,es)) (hL:∀ c∈L,c.f.size≤1048576∧c.v.size≤1048576):SmB (Proofs.YtbjmgglpiakgdaaGreatDoor.allR ks ps es L):=by
 unfold Proofs.YtbjmgglpiakgdaaGreatDoor.allR
 cases bookB ks ps es with
 | true=>exact h.steps hL
 | false=>exact ⟨⟨(fun t ht=>by cases ht),(fun t ht=>by cases ht),(fun t ht=>by cases ht)⟩,⟨by simp,by simp,by simp,by simp,by simp,by simp⟩,by simp [sumN]⟩
end Go.Proofs.YtbjmgglpiakgdaaGreatDoor.Fa
