import Derived.Test.YtcmgddnckohdaaaGreatDoorSp0
set_option maxRecDepth 100000
set_option maxHeartbeats 12800000
namespace Go.Proofs.YtcmgddnckohdaaaGreatDoor.Dr
open Go.RowKit
attribute [local go_sem] Later.cell Later.frozen
set_option linter.unusedSimpArgs false
set_option linter.unusedVariables false
def BookFar (lo:Nat) (w:World) (x y z:Value) (ks ps:List Tri) (es:List Ent):Prop:=∀ w':World,(∀ b,lo≤b→b<w.heap.size→w'.heap[b]?=w.heap[b]?)→BookAt w' x y z ks ps es
theorem BookFar.mono {lo lo':Nat} {w:World} {x y z:Value} {ks ps:List Tri} {es:List Ent} (h:BookFar lo w x y z ks ps es) (hl:lo'≤lo):BookFar lo' w x y z ks ps es:=fun w' hw=>h w' (fun b h1 h2=>hw b (by omega) h2)
theorem BookFar.at {lo:Nat} {w:World} {x y z:Value} {ks ps:List Tri} {es:List Ent} (h:BookFar lo w x y z ks ps es):BookAt w x y z ks ps es:=h w (fun _ _ _=>rfl)
theorem BookFar.to {lo:Nat} {w w':World} {x y z:Value} {ks ps:List Tri} {es:List Ent} (h:BookFar lo w x y z ks ps es) (hz:w.heap.size≤w'.heap.size) (hs:∀ b,lo≤b→b<w.heap.size→w'.heap[b]?=w.heap[b]?):BookFar lo w' x y z ks ps es:=fun w2 h2=>h w2 (fun b h3 h4=>(h2 b h3 (by omega)).trans (hs b h3 h4))
theorem SB.fin {w wr:World} {R BB px:Nat} {xk xp xe:Value} {ks ps:List Tri} {l:List EntV} (h:SB w wr R BB px xk xp xe ks ps l) (hR:R<w.heap.size) (C:Array Value):BookFar (w.heap.size+1) (wr.setRow w.heap.size C) xk xp xe ks ps (l.map (·.1))∧Rd (wr.setRow w.heap.size C) R px∧w.grownBy (wr.setRow w.heap.size C) (some R):=by
 have ho:∀ b,b≠w.heap.size→(wr.setRow w.heap.size C).heap[b]?=wr.heap[b]?:=fun b hb=>setRow_other _ _ _ _ hb
 have hg:wr.grownBy (wr.setRow w.heap.size C) (some w.heap.size):=⟨rfl,rfl,rfl,by simp,fun j _ hj=>ho j (fun e=>hj (by rw [e]))⟩
 have go:∀ {t:TypeId} {c n:Nat} {v:Value} {xs:List Value},wr.ownsRow (w.heap.size+1) t c v n xs→(wr.setRow w.heap.size C).ownsRow (w.heap.size+1) t c v n xs:=fun h1=>aE h1 hg (fun k hk e=>by have:=bf h1 k hk;injection e;omega)
 refine ⟨fun w' hw'=>?_,h.rd.late (fun j hj=>ho j (by omega)),aW h.gr _ aH⟩
 have go2:∀ {t:TypeId} {c n:Nat} {v:Value} {xs:List Value},wr.ownsRow (w.heap.size+1) t c v n xs→w'.ownsRow (w.heap.size+1) t c v n xs:=fun h1=>ownsRow_sameM (go h1) (fun k hk hl=>hw' k (bf h1 k hk) hl);refine ⟨b8 (go2 h.k),b8 (go2 h.p),?_⟩;obtain ⟨a,cap,h1,h2,h3,h4⟩:=own_rows pairRow pairRow_len (go2 h.e)
 refine ⟨a,cap,by rw [List.length_map];exact h1,by rw [List.length_map];exact h2,h3,fun i t ht=>?_⟩
 rw [List.getElem?_map] at ht
 cases hp:l[i]? with
 | none=>rw [hp] at ht;cases ht
 | some p =>
  rw [hp] at ht
  cases ht
  obtain ⟨g,ha,hc⟩:=h4 i p hp
  exact ⟨g,0,ha,p.2,by simpa using hc 0 _ rfl,by simpa using hc 1 _ rfl,flds_new (go2 (h.f p (List.mem_of_getElem? hp)))⟩
theorem SB.base {w W W':World} {R BB px qx lo:Nat} {xk xp xe kv pv:Value} {ks ps ks' ps':List Tri} {l:List EntV} (h:SB w W R BB px xk xp xe ks ps l) (hR:R<w.heap.size) (hB:w.heap.size<BB) (hr:Rd W' R qx) (hg:W.grownBy W' (some R)) (hlo:w.heap.size+1≤lo) (hk:W'.ownsRow lo 69 3 kv ks'.length (Go.Proofs.YtcmgddnckohdaaaGreatDoor.triRows ks')) (hp:W'.ownsRow lo 72 3 pv ps'.length (Go.Proofs.YtcmgddnckohdaaaGreatDoor.triRows ps')):SB w (W'.setCells BB 0 [kv,pv]) R BB qx kv pv xe ks' ps' l:=by
 have h1:=h.pick hR hB hr hg;have e:W'.setCells BB 0 [kv,pv]=(W'.setCell ⟨BB,0,none⟩ kv).setCell ⟨BB,1,none⟩ pv:=rfl;rw [e];have ho:∀ b,b≠BB→((W'.setCell ⟨BB,0,none⟩ kv).setCell ⟨BB,1,none⟩ pv).heap[b]?=W'.heap[b]?:=fun b hb=>(Below.heap_setCell _ ⟨BB,1,none⟩ pv b hb).trans (Below.heap_setCell W' ⟨BB,0,none⟩ kv b hb);have hgg:W'.grownBy ((W'.setCell ⟨BB,0,none⟩ kv).setCell ⟨BB,1,none⟩ pv) (some BB):=av (bd W' BB 0 kv) (bd _ BB 1 pv);have hz:=h1.gr.size
 have go:∀ {t:TypeId} {c n:Nat} {v:Value} {xs:List Value} {lo:Nat},W'.ownsRow lo t c v n xs→t≠30→((W'.setCell ⟨BB,0,none⟩ kv).setCell ⟨BB,1,none⟩ pv).ownsRow lo t c v n xs:=fun h2 h3=>aE h2 hgg (fun k hk e=>aV h2 h1.box h3 (by rw [hk,e]))
 exact ⟨h1.rd.late (fun j hj=>ho j (by omega)),bM (bM h1.gr 0 _ (by omega)) 1 _ (by omega),(ho _ (by omega)).trans h1.res,cI (cI h1.box),aN (go hk (by decide)) hlo,aN (go hp (by decide)) hlo,go h1.e (by decide),fun q hq=>go (h1.f q hq) (by decide)⟩
def SpB (ks ps:List Tri) (es:List Ent):Prop:=SmB (ks,ps,es)∧ps.length≤150∧(∀ t∈ps,t.s.size≤100)
theorem spb_of {ks ps:List Tri} {l:List EntV} (hk:ks.length≤150) (hp:ps.length≤150) (nk:∀ t∈ks,t.s.size≤100) (np:∀ t∈ps,t.s.size≤100) (hl:l.length≤100) (he:∀ q∈l,q.1.name.size≤1048576∧q.1.fs.length≤10∧∀ f∈q.1.fs,f.v.size≤1048576):SpB ks ps (l.map (·.1)):=by
 have hm:∀ e∈l.map (·.1),e.name.size≤1048576∧e.fs.length≤10∧∀ f∈e.fs,f.v.size≤1048576:=fun e h=>by
  obtain ⟨q,hq,rfl⟩:=List.mem_map.1 h;exact he q hq
 have hs:=sumN_le_mul (fun e:Ent=>e.fs.length) 10 (l.map (·.1)) (fun e h=>(hm e h).2.1)
 have hll:(l.map (·.1)).length=l.length:=by simp
 refine ⟨⟨⟨fun t ht=>Nat.le_trans (nk t ht) (by unfold maxLen;omega),fun t ht=>Nat.le_trans (np t ht) (by unfold maxLen;omega),fun e h=>⟨Nat.le_trans (hm e h).1 (by unfold maxLen;omega),fun f hf=>Nat.le_trans ((hm e h).2.2 f hf) (by unfold maxLen;omega)⟩⟩,⟨by show ks.length≤_;omega,by show ps.length≤_;omega,by show (l.map (·.1)).length≤_;omega,fun e h=>Nat.le_trans (hm e h).2.1 (by omega),fun e h=>(hm e h).1,fun e h=>(hm e h).2.2⟩,?_⟩,hp,np⟩
 show sumN (fun e:Ent=>e.fs.length) (l.map (·.1))≤1048576
 have:=Nat.mul_le_mul_right 10 (show (l.map (·.1)).length≤100 by omega)
 omega
theorem set_ents {l:List EntV} {k:Nat} {q:EntV} {P:EntV→Prop} (h:∀ r∈l,P r) (hq:P q):∀ r∈l.set k q,P r:=fun r hr=>by
 rcases List.mem_or_eq_of_mem_set hr with h1 | h1
 ·exact h r h1
 ·rw [h1];exact hq
theorem SB.cells {w wr:World} {R BB px g cap n kn:Nat} {xk xp:Value} {ks ps:List Tri} {l:List EntV} {q:EntV} (h:SB w wr R BB px xk xp (.slice (some ⟨g,0,none⟩) n cap) ks ps l) (hq:l[kn]?=some q):wr.cell? ⟨g,kn*2,none⟩=some (.string q.1.name)∧wr.cell? ⟨g,kn*2+1,none⟩=some q.2:=by
 obtain ⟨a,cap',h1,h2,h3,h4⟩:=own_rows pairRow pairRow_len h.e;obtain ⟨g',ha,hc⟩:=h4 kn q hq
 cases h1
 cases ha
 exact ⟨by simpa using hc 0 _ rfl,by simpa using hc 1 _ rfl⟩
theorem SB.keepE {w wr:World} {R BB px g cap n kn gf cf nf o:Nat} {xk xp x:Value} {ks ps:List Tri} {l:List EntV} {e:Ent} (h:SB w wr R BB px xk xp (.slice (some ⟨g,0,none⟩) n cap) ks ps l) (hq:l[kn]?=some (e,.slice (some ⟨gf,0,none⟩) nf cf)):(wr.setCell ⟨gf,o,none⟩ x).cell? ⟨g,kn*2,none⟩=some (.string e.name)∧(wr.setCell ⟨gf,o,none⟩ x).cell? ⟨g,kn*2+1,none⟩=some (.slice (some ⟨gf,0,none⟩) nf cf):=by
 have hne:g≠gf:=fun e2=>by
  have h0:=h.f _ (List.mem_of_getElem? hq)
  exact bw h.e h0 (by decide) g rfl (by rw [e2];rfl)
 have hb:(wr.setCell ⟨gf,o,none⟩ x).heap[g]?=wr.heap[g]?:=Below.heap_setCell wr ⟨gf,o,none⟩ x g hne;have h1:=h.cells hq;exact ⟨(World.cell?_of_block (w:=wr) hb).trans h1.1,(World.cell?_of_block (w:=wr) hb).trans h1.2⟩
theorem own_free {w:World} {base:Nat} {e:TypeId} {size g n cap:Nat} {xs:List Value} (h:w.ownsRow base e size (.slice (some ⟨g,0,none⟩) n cap) n xs):∀ j,w.frozen? ⟨g,j,none⟩=false:=fun j=>by
 obtain ⟨-,h2⟩:=h
 rcases h2 with ⟨h0,-⟩ | ⟨g',cap',cur,hv,-,hc,-⟩
 ·cases h0
 ·cases hv;simp [World.frozen?,hc]
theorem l3Spoil_any (R p:Nat) (vk vp ve:Value) (ks ps:List Tri) (es:List Ent) (w:World) (h:Rd w R p) (hp:p≤600000) (hB:BookAt w vk vp ve ks ps es) (hok:bookB ks ps es=true) (hsm:SmB (ks,ps,es)) (hk1:1≤ks.length) (hp1:1≤ps.length) :
  Calls Tryz.prog 82 #[.pointer (some ⟨R,0,none⟩),.agg #[vk,vp,ve]] w fun e w'=>∃ (x y z:Value) (ks' ps':List Tri) (es':List Ent),e=.returned (.agg #[x,y,z])∧BookFar w.heap.size w' x y z ks' ps' es'∧SpB ks' ps' es'∧Out w R p 200 w':=by
 obtain ⟨iE,hiE,hzE0,hzE1,hzE2⟩:=info_parts infoEnt;have hRlt:=h.lt;have hbase:=book_base hok;unfold baseB at hbase;rw [Bool.and_eq_true] at hbase;have hkl:=kinds_le hbase.1;have hpl:=points_le hbase.2;have hkL:=hkl.1;have hpL:=hpl.1
 have NK:Hid (∀ t∈ks,t.s.size≤100):=fun t ht=>by have:=hkl.2 t ht;omega
 have NP:Hid (∀ t∈ps,t.s.size≤100):=fun t ht=>by have:=hpl.2 t ht;omega
 have heL:=book_len hok;have HOK:=am hok;have HSM:=am hsm;have HFN:Hid (∀ e∈es,e.fs≠[]):=book_ne hok;clear hbase hkl hpl;have HC0:Hid (∀ wx:World,Below w.heap.size w wx→Calls Tryz.prog 34 #[.agg #[vk,vp,ve]] wx fun e w'=>∃ x y z,e=.returned (.agg #[x,y,z])∧BookNew (wx.heap.size+2) w' x y z ks ps es∧Below wx.heap.size wx w'):=fun wx hx=>cg vk vp ve ks ps es wx (hB.keep hx) hsm.s.k hsm.s.p hsm.s.e hsm.s.f;obtain ⟨⟨vka,vkc,rfl,-⟩,⟨vpa,vpc,rfl,-⟩,⟨vea,vec,rfl,-⟩⟩:=hB;have HA:Hid (Below w.heap.size w (w.alloc (.cells #[.slice vka ks.length vkc,.slice vpa ps.length vpc,.slice vea es.length vec] 30))):=(aO)
 have HAS:(w.alloc (.cells #[.slice vka ks.length vkc,.slice vpa ps.length vpc,.slice vea es.length vec] 30)).heap.size=w.heap.size+1:=by simp
 have HB1:Hid (Below (w.alloc (.cells #[.slice vka ks.length vkc,.slice vpa ps.length vpc,.slice vea es.length vec] 30)).heap.size (w.alloc (.cells #[.slice vka ks.length vkc,.slice vpa ps.length vpc,.slice vea es.length vec] 30)) ((w.alloc (.cells #[.slice vka ks.length vkc,.slice vpa ps.length vpc,.slice vea es.length vec] 30)).alloc (.cells #[.slice none 0 0,.slice none 0 0,.slice none 0 0] 30))):=(aO)
 have HB:Hid (Below w.heap.size w ((w.alloc (.cells #[.slice vka ks.length vkc,.slice vpa ps.length vpc,.slice vea es.length vec] 30)).alloc (.cells #[.slice none 0 0,.slice none 0 0,.slice none 0 0] 30))):=(aO).alloc (by simp) _
 have HR1:Hid (Rd ((w.alloc (.cells #[.slice vka ks.length vkc,.slice vpa ps.length vpc,.slice vea es.length vec] 30)).alloc (.cells #[.slice none 0 0,.slice none 0 0,.slice none 0 0] 30)) R p):=h.far HB.out
 have HX1:((w.alloc (.cells #[.slice vka ks.length vkc,.slice vpa ps.length vpc,.slice vea es.length vec] 30)).alloc (.cells #[.slice none 0 0,.slice none 0 0,.slice none 0 0] 30)).heap[w.heap.size]?=some (.cells #[.slice vka ks.length vkc,.slice vpa ps.length vpc,.slice vea es.length vec] 30 (0,0)):=by
  rw [HB1.out.block _ (by simp)]
  exact ay w _
 have HX2:Hid (((w.alloc (.cells #[.slice vka ks.length vkc,.slice vpa ps.length vpc,.slice vea es.length vec] 30)).alloc (.cells #[.slice none 0 0,.slice none 0 0,.slice none 0 0] 30)).heap[(w.alloc (.cells #[.slice vka ks.length vkc,.slice vpa ps.length vpc,.slice vea es.length vec] 30)).heap.size]?=some (.cells #[.slice none 0 0,.slice none 0 0,.slice none 0 0] 30 (0,0))):=ay (w.alloc (.cells #[.slice vka ks.length vkc,.slice vpa ps.length vpc,.slice vea es.length vec] 30)) _
 have hz1:((w.alloc (.cells #[.slice vka ks.length vkc,.slice vpa ps.length vpc,.slice vea es.length vec] 30)).alloc (.cells #[.slice none 0 0,.slice none 0 0,.slice none 0 0] 30)).heap.size=w.heap.size+2:=by simp
 have HC:=am (HC0.out _ HB.out);have b0:=ab HX1 (i:=0) rfl;have b1:=ab HX1 (i:=1) rfl;have b2:=ab HX1 (i:=2) rfl;clear h hok hsm HC0
 go_enter Tryz.func82,Tryz.ntmps82
 go_wp2_with fail;clear b0 b1 b2 HX1;refine HC.out.mono ?_;rintro e w2 ⟨xk,xp,xe,rfl,hnew,hb2⟩;generalize ((w.alloc (.cells #[.slice vka ks.length vkc,.slice vpa ps.length vpc,.slice vea es.length vec] 30)).alloc (.cells #[.slice none 0 0,.slice none 0 0,.slice none 0 0] 30))=w1 at *;generalize (w.alloc (.cells #[.slice vka ks.length vkc,.slice vpa ps.length vpc,.slice vea es.length vec] 30))=wA at *;clear HC;obtain ⟨hxk,hxp,l,hle,hpn⟩:=hnew;have AP:=am hpn.apart
 have HLL:Hid (l.length=es.length):=by show _=_;rw [← hle,List.length_map]
 have hlL:l.length≤12:=by have:=HLL.out;omega
 have hRA:R<wA.heap.size:=by omega
 have hz2:=hb2.size
 have B3:Hid (SB wA ((w2.alloc (.cells #[.slice none 0 0,.slice none 0 0,.slice none 0 0] 30)).setRow w2.heap.size #[xk,xp,xe]) R w2.heap.size p xk xp xe ks ps l):=by
  have hba:Below w2.heap.size w2 (w2.alloc (.cells #[.slice none 0 0,.slice none 0 0,.slice none 0 0] 30)):=(aO);have hox:∀ b,b≠w2.heap.size→((w2.alloc (.cells #[.slice none 0 0,.slice none 0 0,.slice none 0 0] 30)).setRow w2.heap.size #[xk,xp,xe]).heap[b]?=(w2.alloc (.cells #[.slice none 0 0,.slice none 0 0,.slice none 0 0] 30)).heap[b]?:=fun b hb=>setRow_other _ _ _ _ hb
  have hgr:(w2.alloc (.cells #[.slice none 0 0,.slice none 0 0,.slice none 0 0] 30)).grownBy ((w2.alloc (.cells #[.slice none 0 0,.slice none 0 0,.slice none 0 0] 30)).setRow w2.heap.size #[xk,xp,xe]) (some w2.heap.size):=⟨rfl,rfl,rfl,by simp,fun j _ hj=>hox j (fun e=>hj (by rw [e]))⟩
  have go:∀ {t:TypeId} {c n:Nat} {v:Value} {xs:List Value},w2.ownsRow (w1.heap.size+2) t c v n xs→((w2.alloc (.cells #[.slice none 0 0,.slice none 0 0,.slice none 0 0] 30)).setRow w2.heap.size #[xk,xp,xe]).ownsRow (wA.heap.size+1) t c v n xs:=fun h1=>by
   refine aN (aE (bO h1 hba) hgr (fun k hk e=>?_)) (by omega)
   have:=own_ltD h1 k hk;injection e;omega
  exact ⟨((HR1.out.far hb2).far hba).late (fun j hj=>hox j (by omega)),aW (av (az HB1.out _) (av (az hb2 _) (az hba _))) _ (by omega),(hox _ (by omega)).trans ((hba.block _ (by omega)).trans ((hb2.block _ (by omega)).trans HX2.out)),setRow_heap _ _ _ _ _ _ (ay w2 _),go hxk,go hxp,go hpn.row,fun q hq=>go (hpn.flds q hq)⟩
 obtain ⟨gk,ck,hxe1,hkc1,hkc2⟩:=bG hxk hk1;obtain ⟨gp,cp,hxe2,hpc1,hpc2⟩:=bG hxp hp1;subst hxe1;subst hxe2;obtain ⟨ea,ce,hxe3⟩:=bD hpn.row;subst hxe3;have hR9:(w2.alloc (.cells #[.slice none 0 0,.slice none 0 0,.slice none 0 0] 30)).heap[w2.heap.size]?=some (.cells #[.slice none 0 0,.slice none 0 0,.slice none 0 0] 30 (0,0)):=ay w2 _;unfold maxLen at hkc2 hpc2;have HLE:=am hle
 have hwz:w.heap.size+2≤w2.heap.size:=by omega
 clear hxk hxp hpn hb2 HB HX2 HB1 HR1 hle hz2 hz1 heL
 by_cases he:l.length=0
 ·have heb:(((l.length:Nat):Int)==0)=true:=by simp [he]
  clear he
  go_wp2_with (refine wpList_store_row rfl 30 _ _ rfl w2.heap.size #[(.slice (some ⟨gk,0,none⟩) ks.length ck),(.slice (some ⟨gp,0,none⟩) ps.length cp),.slice ea l.length ce] rfl rfl 30 _ hR9 (by kernel_rfl) rfl (by simp [Value.oneCell']) ?_;have B3X:=B3.out;have q0:=ab B3X.box (i:=0) rfl;have q1:=ab B3X.box (i:=1) rfl;have q2:=ab B3X.box (i:=2) rfl;clear B3X hR9;generalize (w2.alloc (.cells #[.slice none 0 0,.slice none 0 0,.slice none 0 0] 30)).setRow w2.heap.size #[(.slice (some ⟨gk,0,none⟩) ks.length ck),(.slice (some ⟨gp,0,none⟩) ps.length cp),.slice ea l.length ce]=w3 at *)
  refine (l1SpoilBase_any R (p) _ _ ks ps _ B3.out.rd (by omega) (b8 B3.out.k) (b8 B3.out.p) ⟨hk1,by omega⟩ ⟨hp1,by omega⟩ NK.out NP.out).mono ?_
  rintro e W4 ⟨kv,pv,ks4,ps4,rfl,hko,hpo,hspo,p4,hp41,hp42,hr4,hg4⟩;obtain ⟨ka4,kc4,hk4⟩:=bD hko;obtain ⟨pa4,pc4,hp4⟩:=bD hpo;subst hk4;subst hp4
  have B5:=am (B3.out.base hRA (by omega) hr4 hg4 (by have:=B3.out.gr.size;have:=aG B3.out.res;omega) hko hpo)
  have HSP:=am hspo
  have hth:W4.there w2.heap.size 0 2:=fun j hj=>by
   have hx:=(B3.out.pick hRA (by omega) hr4 hg4).box
   rcases (show j=0∨j=1 by omega) with rfl | rfl
   ·exact ⟨by simp [World.cell?,hx],by simp [World.frozen?,hx]⟩
   ·exact ⟨by simp [World.cell?,hx],by simp [World.frozen?,hx]⟩
  clear hko hpo hspo hr4 hg4 B3;have hR9:=B5.out.res;rw [HAS] at hR9
  have HFI:Hid (∀ Z:World,Z=W4.setCells w2.heap.size 0 [.slice ka4 ks4.length kc4,.slice pa4 ps4.length pc4]→BookFar w.heap.size (Z.setRow (w.heap.size+1) #[.slice ka4 ks4.length kc4,.slice pa4 ps4.length pc4,.slice ea l.length ce]) (.slice ka4 ks4.length kc4) (.slice pa4 ps4.length pc4) (.slice ea l.length ce) ks4 ps4 (l.map (·.1))∧SpB ks4 ps4 (l.map (·.1))∧Out w R p 200 (Z.setRow (w.heap.size+1) #[.slice ka4 ks4.length kc4,.slice pa4 ps4.length pc4,.slice ea l.length ce])):=fun Z hZ=>by
   subst hZ;have hf:=B5.out.fin hRA #[.slice ka4 ks4.length kc4,.slice pa4 ps4.length pc4,.slice ea l.length ce];rw [HAS] at hf;obtain ⟨s1,s2,s3,s4,s5⟩:=HSP.out;have hsm:=HSM.out;rw [← HLE.out] at hsm
   refine ⟨hf.1.mono (by omega),⟨⟨⟨fun t ht=>Nat.le_trans (s4 t ht) (by unfold maxLen;omega),fun t ht=>Nat.le_trans (s5 t ht) (by unfold maxLen;omega),hsm.n.e⟩,⟨Nat.le_trans s1 (by omega),Nat.le_trans s3 (by omega),hsm.s.e,hsm.s.f,hsm.s.n,hsm.s.v⟩,hsm.u⟩,s3,s5⟩,p4,by omega,by omega,hf.2.1,av (az HA.out _) hf.2.2⟩
  obtain ⟨W5,hW5⟩:∃ Z:World,Z=W4.setCells w2.heap.size 0 [.slice ka4 ks4.length kc4,.slice pa4 ps4.length pc4]:=⟨_,rfl⟩;have HFJ:=am (HFI.out W5 hW5);rw [← hW5] at hR9 B5;have q0:=ab B5.out.box (i:=0) rfl;have q1:=ab B5.out.box (i:=1) rfl;have q2:=ab B5.out.box (i:=2) rfl;have HW5:=am hW5;clear hW5 HFI
  go_wp2_with (first | (refine wpList_store_mid rfl 27 _ _ rfl w2.heap.size 0 #[.slice ka4 ks4.length kc4,.slice pa4 ps4.length pc4] rfl rfl hth (by kernel_rfl) (by simp [Value.oneCell']) ?_;rw [show W4.setCells w2.heap.size 0 (#[Value.slice ka4 ks4.length kc4,Value.slice pa4 ps4.length pc4]:Array Value).toList=W5 from HW5.out.symm]) | (refine wpList_store_row rfl 30 _ _ rfl (w.heap.size+1) #[.slice ka4 ks4.length kc4,.slice pa4 ps4.length pc4,.slice ea l.length ce] rfl rfl 30 _ hR9 (by kernel_rfl) rfl (by simp [Value.oneCell']) ?_))
  exact bodyPost_ret (v:=.agg #[.slice ka4 ks4.length kc4,.slice pa4 ps4.length pc4,.slice ea l.length ce]) (by simp [results,Tryz.results82,go_sem,cell_setRow_same _ _ _ _ _ _ _ hR9]) rfl (by first | exact ⟨_,_,_,_,_,_,rfl,HFJ.out⟩ | exact ⟨_,_,_,rfl,_,_,_,HFJ.out⟩)
 have heb:(((l.length:Nat):Int)==0)=false:=by rw [beq_eq_false_iff_ne];omega
 go_wp2_with (refine wpList_store_row rfl 30 _ _ rfl w2.heap.size #[(.slice (some ⟨gk,0,none⟩) ks.length ck),(.slice (some ⟨gp,0,none⟩) ps.length cp),.slice ea l.length ce] rfl rfl 30 _ hR9 (by kernel_rfl) rfl (by simp [Value.oneCell']) ?_;have B3X:=B3.out;have q0:=ab B3X.box (i:=0) rfl;have q1:=ab B3X.box (i:=1) rfl;have q2:=ab B3X.box (i:=2) rfl;clear B3X hR9;generalize (w2.alloc (.cells #[.slice none 0 0,.slice none 0 0,.slice none 0 0] 30)).setRow w2.heap.size #[(.slice (some ⟨gk,0,none⟩) ks.length ck),(.slice (some ⟨gp,0,none⟩) ps.length cp),.slice ea l.length ce]=w3 at *)
 obtain ⟨ge,ce9,hxe9,hec1,hec2⟩:=bG B3.out.e (by omega)
 cases hxe9
 unfold maxLen at hec2
 have HSE:Hid (∀ q∈l,q.1.name.size≤1048576∧q.1.fs.length≤5∧∀ f∈q.1.fs,f.v.size≤1048576):=fun q hq=>by
  have hm:q.1∈es:=by rw [← HLE.out];exact List.mem_map.2 ⟨q,hq,rfl⟩
  exact ⟨HSM.out.s.n _ hm,book_fs5 HOK.out _ hm,HSM.out.s.v _ hm⟩
 have HFE:Hid (∀ q∈l,q.1.fs≠[]):=fun q hq=>HFN.out _ (by rw [← HLE.out];exact List.mem_map.2 ⟨q,hq,rfl⟩)
 refine (aF R p l.length _ B3.out.rd (by omega) (by omega)).mono ?_
 rintro e w3a ⟨kx,rfl,hkx0,hkx1,-,hr,hg⟩
 have hkx1:=hkx1 (by omega)
 obtain ⟨kn,rfl⟩:∃ n:Nat,kx=n:=⟨kx.toNat,by omega⟩
 have hkn:kn<l.length:=by omega
 have B3a:=am (B3.out.pick hRA (by omega) hr hg)
 clear hr hg B3 q0 q1 q2;obtain ⟨⟨en,fv⟩,hq⟩:∃ q,l[kn]?=some q:=⟨_,List.getElem?_eq_getElem hkn⟩;have HQ:=am hq;have hmem:=List.mem_of_getElem? hq;have HSN:Hid (en.name.size≤1048576∧en.fs.length≤5∧∀ f∈en.fs,f.v.size≤1048576):=HSE.out _ hmem;have hfne:1≤en.fs.length:=List.length_pos_iff.2 (HFE.out _ hmem);have hf5:=HSN.out.2.1;obtain ⟨gf,cf,hfve,hfc1,hfc2⟩:=bG (B3a.out.f _ hmem) hfne;have hfve:fv=.slice (some ⟨gf,0,none⟩) en.fs.length cf:=hfve;subst hfve;unfold maxLen at hfc2;have HCE:Hid (∀ (wx:World) (q:Nat),SB wA wx R w2.heap.size q (.slice (some ⟨gk,0,none⟩) ks.length ck) (.slice (some ⟨gp,0,none⟩) ps.length cp) (.slice (some ⟨ge,0,none⟩) l.length ce) ks ps l→wx.cell? ⟨w2.heap.size,2,none⟩=some (.slice (some ⟨ge,0,none⟩) l.length ce)∧wx.cell? ⟨ge,kn*2,none⟩=some (.string en.name)∧wx.cell? ⟨ge,kn*2+1,none⟩=some (.slice (some ⟨gf,0,none⟩) en.fs.length cf)):=fun wx q h=>⟨ab h.box rfl,(h.cells HQ.out).1,(h.cells HQ.out).2⟩;obtain ⟨q2,c0,c1⟩:=HCE.out _ _ B3a.out;have z1:=ar c0;clear hq hmem;go_wp2_with fail;clear q2 c0 c1 z1
 refine (aF R (p+1) en.fs.length _ B3a.out.rd (by omega) (by omega)).mono ?_
 rintro e w3b ⟨fx,rfl,hfx0,hfx1,-,hr,hg⟩
 have hfx1:=hfx1 (by omega)
 obtain ⟨fn,rfl⟩:∃ n:Nat,fx=n:=⟨fx.toNat,by omega⟩
 have hfn:fn<en.fs.length:=by omega
 have B3b:=am (B3a.out.pick hRA (by omega) hr hg)
 clear hr hg B3a;go_wp2_with fail
 refine (aF R (p+1+1) 8 _ B3b.out.rd (by omega) (by omega)).mono ?_
 rintro e w4 ⟨c,rfl,hc0,hc1,-,hr,hg⟩
 have hc1:=hc1 (by omega)
 have B4:=am (B3b.out.pick hRA (by omega) hr hg)
 clear hr hg B3b
 by_cases h0:c=0
 ·have h0b:(c==0)=true:=by simp [h0]
  clear h0;obtain ⟨q2,c0,c1⟩:=HCE.out _ _ B4.out;have q0:=ab B4.out.box (i:=0) rfl;have q1:=ab B4.out.box (i:=1) rfl;go_wp2_with fail;clear q0 q1 q2 c0 c1
  refine (l1SpoilBase_any R (p+1+1+1) _ _ ks ps _ B4.out.rd (by omega) (b8 B4.out.k) (b8 B4.out.p) ⟨hk1,by omega⟩ ⟨hp1,by omega⟩ NK.out NP.out).mono ?_
  rintro e W4 ⟨kv,pv,ks4,ps4,rfl,hko,hpo,hspo,p4,hp41,hp42,hr4,hg4⟩;obtain ⟨ka4,kc4,hk4⟩:=bD hko;obtain ⟨pa4,pc4,hp4⟩:=bD hpo;subst hk4;subst hp4
  have B5:=am (B4.out.base hRA (by omega) hr4 hg4 (by have:=B4.out.gr.size;have:=aG B4.out.res;omega) hko hpo)
  have HSP:=am hspo
  have hth:W4.there w2.heap.size 0 2:=fun j hj=>by
   have hx:=(B4.out.pick hRA (by omega) hr4 hg4).box
   rcases (show j=0∨j=1 by omega) with rfl | rfl
   ·exact ⟨by simp [World.cell?,hx],by simp [World.frozen?,hx]⟩
   ·exact ⟨by simp [World.cell?,hx],by simp [World.frozen?,hx]⟩
  clear hko hpo hspo hr4 hg4 B4;have hR9:=B5.out.res;rw [HAS] at hR9
  have HFI:Hid (∀ Z:World,Z=W4.setCells w2.heap.size 0 [.slice ka4 ks4.length kc4,.slice pa4 ps4.length pc4]→BookFar w.heap.size (Z.setRow (w.heap.size+1) #[.slice ka4 ks4.length kc4,.slice pa4 ps4.length pc4,.slice (some ⟨ge,0,none⟩) l.length ce]) (.slice ka4 ks4.length kc4) (.slice pa4 ps4.length pc4) (.slice (some ⟨ge,0,none⟩) l.length ce) ks4 ps4 (l.map (·.1))∧SpB ks4 ps4 (l.map (·.1))∧Out w R p 200 (Z.setRow (w.heap.size+1) #[.slice ka4 ks4.length kc4,.slice pa4 ps4.length pc4,.slice (some ⟨ge,0,none⟩) l.length ce])):=fun Z hZ=>by
   subst hZ;have hf:=B5.out.fin hRA #[.slice ka4 ks4.length kc4,.slice pa4 ps4.length pc4,.slice (some ⟨ge,0,none⟩) l.length ce];rw [HAS] at hf;obtain ⟨s1,s2,s3,s4,s5⟩:=HSP.out;have hsm:=HSM.out;rw [← HLE.out] at hsm
   refine ⟨hf.1.mono (by omega),⟨⟨⟨fun t ht=>Nat.le_trans (s4 t ht) (by unfold maxLen;omega),fun t ht=>Nat.le_trans (s5 t ht) (by unfold maxLen;omega),hsm.n.e⟩,⟨Nat.le_trans s1 (by omega),Nat.le_trans s3 (by omega),hsm.s.e,hsm.s.f,hsm.s.n,hsm.s.v⟩,hsm.u⟩,s3,s5⟩,p4,by omega,by omega,hf.2.1,av (az HA.out _) hf.2.2⟩
  obtain ⟨W5,hW5⟩:∃ Z:World,Z=W4.setCells w2.heap.size 0 [.slice ka4 ks4.length kc4,.slice pa4 ps4.length pc4]:=⟨_,rfl⟩;have HFJ:=am (HFI.out W5 hW5);rw [← hW5] at hR9 B5;have q0:=ab B5.out.box (i:=0) rfl;have q1:=ab B5.out.box (i:=1) rfl;have q2:=ab B5.out.box (i:=2) rfl;have HW5:=am hW5;clear hW5 HFI
  go_wp2_with (first | (refine wpList_store_mid rfl 27 _ _ rfl w2.heap.size 0 #[.slice ka4 ks4.length kc4,.slice pa4 ps4.length pc4] rfl rfl hth (by kernel_rfl) (by simp [Value.oneCell']) ?_;rw [show W4.setCells w2.heap.size 0 (#[Value.slice ka4 ks4.length kc4,Value.slice pa4 ps4.length pc4]:Array Value).toList=W5 from HW5.out.symm]) | (refine wpList_store_row rfl 30 _ _ rfl (w.heap.size+1) #[.slice ka4 ks4.length kc4,.slice pa4 ps4.length pc4,.slice (some ⟨ge,0,none⟩) l.length ce] rfl rfl 30 _ hR9 (by kernel_rfl) rfl (by simp [Value.oneCell']) ?_))
  exact bodyPost_ret (v:=.agg #[.slice ka4 ks4.length kc4,.slice pa4 ps4.length pc4,.slice (some ⟨ge,0,none⟩) l.length ce]) (by simp [results,Tryz.results82,go_sem,cell_setRow_same _ _ _ _ _ _ _ hR9]) rfl (by first | exact ⟨_,_,_,_,_,_,rfl,HFJ.out⟩ | exact ⟨_,_,_,rfl,_,_,_,HFJ.out⟩)
 have h0b:(c==0)=false:=by simp [h0]
 clear h0
 by_cases h1:c=1
 ·have h1b:(c==1)=true:=by simp [h1]
  clear h1;go_wp2;refine wp_region_noPanic ?_
  refine wp_region_held_drew (S:=fun wx=>wx.cell? ⟨w2.heap.size,2,none⟩=some (.slice (some ⟨ge,0,none⟩) l.length ce)) (by kernel_rfl) ?_ (fun hHeld=>?_)
  ·exact (HCE.out _ _ (B4.out.call (Below.refl _ _).drew)).1
  have B0:=am (B4.out.call (Below.refl _ _).drew);generalize w4.drew=W0 at *;clear B4;refine aJ 0 ?_ rfl ?_ (aJ 1 ?_ rfl ?_ (aJ 2 ?_ rfl ?_ (aJ 3 ?_ rfl ?_ ?_)))
  iterate 4 (rotate_left;focus (intro w hSw;(try dsimp only at hSw);simp only [Act.put,aR];go_simp;try with_reducible rfl))
  simp only [Act.put,aR]
  clear hHeld;refine bh 4 rfl (fun K hK=>?_);have BA:Hid (Below W0.heap.size W0 (W0.alloc (.cells #[.string ⟨#[]⟩,.string ⟨#[97]⟩,.string ⟨#[122,122]⟩,.string ⟨#[75]⟩] 9))):=(aO);have XS:Hid ((W0.alloc (.cells #[.string ⟨#[]⟩,.string ⟨#[97]⟩,.string ⟨#[122,122]⟩,.string ⟨#[75]⟩] 9)).heap[W0.heap.size]?=some (.cells #[.string ⟨#[]⟩,.string ⟨#[97]⟩,.string ⟨#[122,122]⟩,.string ⟨#[75]⟩] 9 (0,0))):=ay W0 _;have B5:=am (B0.out.call BA.out);have hRN:R<W0.heap.size:=B0.out.rd.lt;go_simp;refine hK.out _ _ ((HCE.out _ _ B5.out).1) (fun _=>?_);clear hK K B0;generalize (W0.alloc (.cells #[.string ⟨#[]⟩,.string ⟨#[97]⟩,.string ⟨#[122,122]⟩,.string ⟨#[75]⟩] 9))=W5 at *;generalize W0.heap.size=NS at *;clear BA;refine bh 5 rfl (fun K hK=>?_)
  have HO:=am (of_any R (p+1+1+1) _ [⟨#[]⟩,⟨#[97]⟩,⟨#[122,122]⟩,⟨#[75]⟩] _ B5.out.rd (by omega) (strs_of [⟨#[]⟩,⟨#[97]⟩,⟨#[122,122]⟩,⟨#[75]⟩] XS.out rfl (by simp)) (by simp))
  go_simp;refine HO.out.mono ?_;rintro e W6 ⟨g,rfl,hgm,hr,hg⟩
  have hgs:g.size≤100:=by
   simp at hgm
   rcases hgm with rfl | rfl | rfl | rfl
   ·show 0≤100;omega
   ·show 1≤100;omega
   ·show 2≤100;omega
   ·show 1≤100;omega
  have B6:=am (B5.out.pick hRA (by omega) hr hg)
  have hHeld:=(HCE.out _ _ B6.out).1;refine hK.out _ _ hHeld (fun _=>?_);clear hK K hr hg B5 hgm HO;refine aJ 6 ?_ rfl ?_ (aJ 7 ?_ rfl ?_ ?_)
  iterate 2 (rotate_left;focus (intro w hSw;(try dsimp only at hSw);simp only [Act.put,aR];go_simp;try with_reducible rfl))
  simp only [Act.put,aR]
  clear hHeld;refine bh 8 rfl (fun K hK=>?_);have d0:=(B6.out.cells HQ.out).1;have zd:=ar d0;have lfz:=own_free B6.out.e;have B9:Hid (SB wA (W6.setCell ⟨ge,kn*2,none⟩ (.string g)) R w2.heap.size _ (.slice (some ⟨gk,0,none⟩) ks.length ck) (.slice (some ⟨gp,0,none⟩) ps.length cp) (.slice (some ⟨ge,0,none⟩) l.length ce) ks ps (l.set kn (⟨g,en.fs⟩,.slice (some ⟨gf,0,none⟩) en.fs.length cf))):=B6.out.name rfl hRA HQ.out
  have HSP:Hid (SpB ks ps ((l.set kn (⟨g,en.fs⟩,.slice (some ⟨gf,0,none⟩) en.fs.length cf)).map (·.1))):=spb_of (by omega) (by omega) NK.out NP.out (by simp;omega) (set_ents (fun r hr=>⟨(HSE.out r hr).1,by have:=(HSE.out r hr).2.1;omega,(HSE.out r hr).2.2⟩) ⟨by show g.size≤_;omega,by show en.fs.length≤_;omega,HSN.out.2.2⟩)
  go_simp;refine hK.out _ _ (ab B9.out.box rfl) (fun _=>?_);clear hK K
  refine wpAnyH_done (by kernel_rfl) ?_ _
  refine NoPanic.normal ?_;generalize (W6.setCell ⟨ge,kn*2,none⟩ (.string g))=W9 at *;clear d0 zd lfz B6;have q0:=ab B9.out.box (i:=0) rfl;have q1:=ab B9.out.box (i:=1) rfl;have q2:=ab B9.out.box (i:=2) rfl;have hR9:=B9.out.res;rw [HAS] at hR9
  have HFI:Hid (BookFar w.heap.size (W9.setRow (w.heap.size+1) #[.slice (some ⟨gk,0,none⟩) ks.length ck,.slice (some ⟨gp,0,none⟩) ps.length cp,.slice (some ⟨ge,0,none⟩) l.length ce]) (.slice (some ⟨gk,0,none⟩) ks.length ck) (.slice (some ⟨gp,0,none⟩) ps.length cp) (.slice (some ⟨ge,0,none⟩) l.length ce) (ks) (ps) ((l.set kn (⟨g,en.fs⟩,.slice (some ⟨gf,0,none⟩) en.fs.length cf)).map (·.1))∧SpB (ks) (ps) ((l.set kn (⟨g,en.fs⟩,.slice (some ⟨gf,0,none⟩) en.fs.length cf)).map (·.1))∧Out w R p 200 (W9.setRow (w.heap.size+1) #[.slice (some ⟨gk,0,none⟩) ks.length ck,.slice (some ⟨gp,0,none⟩) ps.length cp,.slice (some ⟨ge,0,none⟩) l.length ce])):=by
   have hf:=B9.out.fin hRA #[.slice (some ⟨gk,0,none⟩) ks.length ck,.slice (some ⟨gp,0,none⟩) ps.length cp,.slice (some ⟨ge,0,none⟩) l.length ce];rw [HAS] at hf
   exact ⟨hf.1.mono (by omega),HSP.out,_,by omega,by omega,hf.2.1,av (az HA.out _) hf.2.2⟩
  go_wp2_with (refine wpList_store_row rfl 30 _ _ rfl (w.heap.size+1) #[.slice (some ⟨gk,0,none⟩) ks.length ck,.slice (some ⟨gp,0,none⟩) ps.length cp,.slice (some ⟨ge,0,none⟩) l.length ce] rfl rfl 30 _ hR9 (by kernel_rfl) rfl (by simp [Value.oneCell']) ?_)
  exact bodyPost_ret (v:=.agg #[.slice (some ⟨gk,0,none⟩) ks.length ck,.slice (some ⟨gp,0,none⟩) ps.length cp,.slice (some ⟨ge,0,none⟩) l.length ce]) (by simp [results,Tryz.results82,go_sem,cell_setRow_same _ _ _ _ _ _ _ hR9]) rfl (by first | exact ⟨_,_,_,ks,ps,(l.set kn (⟨g,en.fs⟩,.slice (some ⟨gf,0,none⟩) en.fs.length cf)).map (·.1),rfl,HFI.out⟩ | exact ⟨_,_,_,rfl,ks,ps,(l.set kn (⟨g,en.fs⟩,.slice (some ⟨gf,0,none⟩) en.fs.length cf)).map (·.1),HFI.out⟩)
 have h1b:(c==1)=false:=by simp [h1]
 clear h1
 by_cases h2:c=2
 ·have h2b:(c==2)=true:=by simp [h2]
  clear h2;obtain ⟨p2,c0,c1⟩:=HCE.out _ _ B4.out;have z1:=ar c0;have lfz:=own_free B4.out.e (kn*2+1);have hb9:Below w4.heap.size w4 (w4.alloc (.cells #[] 67)):=(aO);have hgz:=B4.out.gr.size;have hrz:=aG B4.out.res
  have B9:Hid (SB wA ((w4.alloc (.cells #[] 67)).setCell ⟨ge,kn*2+1,none⟩ (.slice (some ⟨w4.heap.size,0,none⟩) 0 0)) R w2.heap.size _ (.slice (some ⟨gk,0,none⟩) ks.length ck) (.slice (some ⟨gp,0,none⟩) ps.length cp) (.slice (some ⟨ge,0,none⟩) l.length ce) ks ps (l.set kn (⟨en.name,[]⟩,.slice (some ⟨w4.heap.size,0,none⟩) 0 0))):=B4.out.turn rfl hRA HQ.out hb9 ⟨rfl,.inr ⟨w4.heap.size,0,#[],rfl,by omega,ay w4 _,Nat.le_refl _,Nat.zero_le _,rfl,rfl⟩⟩
  have HSP:Hid (SpB ks ps ((l.set kn (⟨en.name,[]⟩,.slice (some ⟨w4.heap.size,0,none⟩) 0 0)).map (·.1))):=spb_of (by omega) (by omega) NK.out NP.out (by simp;omega) (set_ents (fun r hr=>⟨(HSE.out r hr).1,by have:=(HSE.out r hr).2.1;omega,(HSE.out r hr).2.2⟩) ⟨HSN.out.1,Nat.zero_le _,fun f hf=>by cases hf⟩)
  have eW:((w4.alloc (.cells #[] 67)).setCell ⟨ge,kn*2+1,none⟩ (.slice (some ⟨w4.heap.size,0,none⟩) 0 0))=((w4.setCell ⟨ge,kn*2+1,none⟩ (.slice (some ⟨w4.heap.size,0,none⟩) 0 0)).alloc (.cells #[] 67)):=by simp [go_sem,z1]
  rw [eW] at B9;clear hb9 eW;have q0:=ab B9.out.box (i:=0) rfl;have q1:=ab B9.out.box (i:=1) rfl;have q2:=ab B9.out.box (i:=2) rfl;have hR9:=B9.out.res;rw [HAS] at hR9
  have HFI:Hid (BookFar w.heap.size (((w4.setCell ⟨ge,kn*2+1,none⟩ (.slice (some ⟨w4.heap.size,0,none⟩) 0 0)).alloc (.cells #[] 67)).setRow (w.heap.size+1) #[.slice (some ⟨gk,0,none⟩) ks.length ck,.slice (some ⟨gp,0,none⟩) ps.length cp,.slice (some ⟨ge,0,none⟩) l.length ce]) (.slice (some ⟨gk,0,none⟩) ks.length ck) (.slice (some ⟨gp,0,none⟩) ps.length cp) (.slice (some ⟨ge,0,none⟩) l.length ce) (ks) (ps) ((l.set kn (⟨en.name,[]⟩,.slice (some ⟨w4.heap.size,0,none⟩) 0 0)).map (·.1))∧SpB (ks) (ps) ((l.set kn (⟨en.name,[]⟩,.slice (some ⟨w4.heap.size,0,none⟩) 0 0)).map (·.1))∧Out w R p 200 (((w4.setCell ⟨ge,kn*2+1,none⟩ (.slice (some ⟨w4.heap.size,0,none⟩) 0 0)).alloc (.cells #[] 67)).setRow (w.heap.size+1) #[.slice (some ⟨gk,0,none⟩) ks.length ck,.slice (some ⟨gp,0,none⟩) ps.length cp,.slice (some ⟨ge,0,none⟩) l.length ce])):=by
   have hf:=B9.out.fin hRA #[.slice (some ⟨gk,0,none⟩) ks.length ck,.slice (some ⟨gp,0,none⟩) ps.length cp,.slice (some ⟨ge,0,none⟩) l.length ce];rw [HAS] at hf
   exact ⟨hf.1.mono (by omega),HSP.out,_,by omega,by omega,hf.2.1,av (az HA.out _) hf.2.2⟩
  go_wp2_with (refine wpList_store_row rfl 30 _ _ rfl (w.heap.size+1) #[.slice (some ⟨gk,0,none⟩) ks.length ck,.slice (some ⟨gp,0,none⟩) ps.length cp,.slice (some ⟨ge,0,none⟩) l.length ce] rfl rfl 30 _ hR9 (by kernel_rfl) rfl (by simp [Value.oneCell']) ?_)
  exact bodyPost_ret (v:=.agg #[.slice (some ⟨gk,0,none⟩) ks.length ck,.slice (some ⟨gp,0,none⟩) ps.length cp,.slice (some ⟨ge,0,none⟩) l.length ce]) (by simp [results,Tryz.results82,go_sem,cell_setRow_same _ _ _ _ _ _ _ hR9]) rfl (by first | exact ⟨_,_,_,ks,ps,(l.set kn (⟨en.name,[]⟩,.slice (some ⟨w4.heap.size,0,none⟩) 0 0)).map (·.1),rfl,HFI.out⟩ | exact ⟨_,_,_,rfl,ks,ps,(l.set kn (⟨en.name,[]⟩,.slice (some ⟨w4.heap.size,0,none⟩) 0 0)).map (·.1),HFI.out⟩)
 have h2b:(c==2)=false:=by simp [h2]
 clear h2
 by_cases h3:c=3
 ·have h3b:(c==3)=true:=by simp [h3]
  clear h3;go_wp2;refine wp_region_noPanic ?_
  refine wp_region_held_drew (S:=fun wx=>(wx.cell? ⟨w2.heap.size,2,none⟩=some (.slice (some ⟨ge,0,none⟩) l.length ce)∧wx.cell? ⟨ge,kn*2,none⟩=some (.string en.name)∧wx.cell? ⟨ge,kn*2+1,none⟩=some (.slice (some ⟨gf,0,none⟩) en.fs.length cf))) (by kernel_rfl) ?_ (fun hHeld=>?_)
  ·exact HCE.out _ _ (B4.out.call (Below.refl _ _).drew)
  have B0:=am (B4.out.call (Below.refl _ _).drew);generalize w4.drew=W0 at *;clear B4;refine aJ 0 ?_ rfl ?_ (aJ 1 ?_ rfl ?_ (aJ 2 ?_ rfl ?_ (aJ 3 ?_ rfl ?_ (aJ 4 ?_ rfl ?_ (aJ 5 ?_ rfl ?_ (aJ 6 ?_ rfl ?_ (aJ 7 ?_ rfl ?_ ?_)))))))
  iterate 8 (rotate_left;focus (intro w hSw;(try dsimp only at hSw);simp only [Act.put,aR];go_simp;try with_reducible rfl))
  simp only [Act.put,aR]
  clear hHeld;refine bh 8 rfl (fun K hK=>?_);go_simp
  refine (aF R (p+1+1+1) 7 _ B0.out.rd (by omega) (by omega)).mono ?_
  rintro e W5 ⟨y,rfl,hy0,hy1,-,hr,hg⟩
  have hy1:=hy1 (by omega)
  have B5:=am (B0.out.pick hRA (by omega) hr hg)
  have hHeld:=HCE.out _ _ B5.out;refine hK.out _ _ hHeld (fun _=>?_);clear hK K hr hg B0;refine aJ 9 ?_ rfl ?_ (aJ 10 ?_ rfl ?_ ?_)
  iterate 2 (rotate_left;focus (intro w hSw;(try dsimp only at hSw);simp only [Act.put,aR];go_simp;try with_reducible rfl))
  simp only [Act.put,aR]
  clear hHeld;refine bh 11 rfl (fun K hK=>?_);have hrow:=B5.out.f _ (List.mem_of_getElem? HQ.out);obtain ⟨a',c',e',-,-,hcs⟩:=flds_new hrow;obtain ⟨bP,oP,hap,d0,d1,d2⟩:=hcs fn _ (bE hfn)
  cases e'
  cases hap
  rw [Nat.zero_add] at d0 d1 d2;have HAT:Hid (en.fs[fn]?=some (fat en.fs fn)):=bE hfn;have HVS:Hid ((fat en.fs fn).v.size≤1048576):=HSN.out.2.2 _ (List.mem_of_getElem? HAT.out);generalize fat en.fs fn=fd at *;have zd:=ar d0;have lfz:=own_free hrow;clear hcs hrow
  have B9:Hid (SB wA (W5.setCell ⟨gf,fn*3,none⟩ (.int .i64 y)) R w2.heap.size _ (.slice (some ⟨gk,0,none⟩) ks.length ck) (.slice (some ⟨gp,0,none⟩) ps.length cp) (.slice (some ⟨ge,0,none⟩) l.length ce) ks ps (l.set kn (⟨en.name,en.fs.set fn ⟨y,fd.num,fd.v⟩⟩,.slice (some ⟨gf,0,none⟩) en.fs.length cf))):=B5.out.fld hRA AP.out HQ.out rfl (by omega) (by simp) (ci en.fs fn 0 fd _ _ HAT.out (by omega) rfl)
  have HSP:Hid (SpB ks ps ((l.set kn (⟨en.name,en.fs.set fn ⟨y,fd.num,fd.v⟩⟩,.slice (some ⟨gf,0,none⟩) en.fs.length cf)).map (·.1))):=by
   refine spb_of (by omega) (by omega) NK.out NP.out (by simp;omega) (set_ents (fun r hr=>⟨(HSE.out r hr).1,by have:=(HSE.out r hr).2.1;omega,(HSE.out r hr).2.2⟩) ⟨HSN.out.1,by simp;omega,fun f hf=>?_⟩)
   rcases List.mem_or_eq_of_mem_set hf with h1 | h1
   ·exact HSN.out.2.2 f h1
   ·rw [h1];exact HVS.out
  go_simp;refine hK.out _ _ (⟨ab B9.out.box rfl,(B5.out.keepE (o:=fn*3) (x:=.int .i64 y) HQ.out).1,(B5.out.keepE (o:=fn*3) (x:=.int .i64 y) HQ.out).2⟩) (fun _=>?_);clear hK K
  refine wpAnyH_done (by kernel_rfl) ?_ _
  refine NoPanic.normal ?_;generalize (W5.setCell ⟨gf,fn*3,none⟩ (.int .i64 y))=W9 at *;clear d0 d1 d2 zd lfz B5;have q0:=ab B9.out.box (i:=0) rfl;have q1:=ab B9.out.box (i:=1) rfl;have q2:=ab B9.out.box (i:=2) rfl;have hR9:=B9.out.res;rw [HAS] at hR9
  have HFI:Hid (BookFar w.heap.size (W9.setRow (w.heap.size+1) #[.slice (some ⟨gk,0,none⟩) ks.length ck,.slice (some ⟨gp,0,none⟩) ps.length cp,.slice (some ⟨ge,0,none⟩) l.length ce]) (.slice (some ⟨gk,0,none⟩) ks.length ck) (.slice (some ⟨gp,0,none⟩) ps.length cp) (.slice (some ⟨ge,0,none⟩) l.length ce) (ks) (ps) ((l.set kn (⟨en.name,en.fs.set fn ⟨y,fd.num,fd.v⟩⟩,.slice (some ⟨gf,0,none⟩) en.fs.length cf)).map (·.1))∧SpB (ks) (ps) ((l.set kn (⟨en.name,en.fs.set fn ⟨y,fd.num,fd.v⟩⟩,.slice (some ⟨gf,0,none⟩) en.fs.length cf)).map (·.1))∧Out w R p 200 (W9.setRow (w.heap.size+1) #[.slice (some ⟨gk,0,none⟩) ks.length ck,.slice (some ⟨gp,0,none⟩) ps.length cp,.slice (some ⟨ge,0,none⟩) l.length ce])):=by
   have hf:=B9.out.fin hRA #[.slice (some ⟨gk,0,none⟩) ks.length ck,.slice (some ⟨gp,0,none⟩) ps.length cp,.slice (some ⟨ge,0,none⟩) l.length ce];rw [HAS] at hf
   exact ⟨hf.1.mono (by omega),HSP.out,_,by omega,by omega,hf.2.1,av (az HA.out _) hf.2.2⟩
  go_wp2_with (refine wpList_store_row rfl 30 _ _ rfl (w.heap.size+1) #[.slice (some ⟨gk,0,none⟩) ks.length ck,.slice (some ⟨gp,0,none⟩) ps.length cp,.slice (some ⟨ge,0,none⟩) l.length ce] rfl rfl 30 _ hR9 (by kernel_rfl) rfl (by simp [Value.oneCell']) ?_)
  exact bodyPost_ret (v:=.agg #[.slice (some ⟨gk,0,none⟩) ks.length ck,.slice (some ⟨gp,0,none⟩) ps.length cp,.slice (some ⟨ge,0,none⟩) l.length ce]) (by simp [results,Tryz.results82,go_sem,cell_setRow_same _ _ _ _ _ _ _ hR9]) rfl (by first | exact ⟨_,_,_,ks,ps,(l.set kn (⟨en.name,en.fs.set fn ⟨y,fd.num,fd.v⟩⟩,.slice (some ⟨gf,0,none⟩) en.fs.length cf)).map (·.1),rfl,HFI.out⟩ | exact ⟨_,_,_,rfl,ks,ps,(l.set kn (⟨en.name,en.fs.set fn ⟨y,fd.num,fd.v⟩⟩,.slice (some ⟨gf,0,none⟩) en.fs.length cf)).map (·.1),HFI.out⟩)
 have h3b:(c==3)=false:=by simp [h3]
 clear h3
 by_cases h4:c=4
 ·have h4b:(c==4)=true:=by simp [h4]
  clear h4;go_wp2;refine wp_region_noPanic ?_
  refine wp_region_held_drew (S:=fun wx=>(wx.cell? ⟨w2.heap.size,2,none⟩=some (.slice (some ⟨ge,0,none⟩) l.length ce)∧wx.cell? ⟨ge,kn*2,none⟩=some (.string en.name)∧wx.cell? ⟨ge,kn*2+1,none⟩=some (.slice (some ⟨gf,0,none⟩) en.fs.length cf))) (by kernel_rfl) ?_ (fun hHeld=>?_)
  ·exact HCE.out _ _ (B4.out.call (Below.refl _ _).drew)
  have B0:=am (B4.out.call (Below.refl _ _).drew);generalize w4.drew=W0 at *;clear B4;refine aJ 0 ?_ rfl ?_ (aJ 1 ?_ rfl ?_ (aJ 2 ?_ rfl ?_ (aJ 3 ?_ rfl ?_ (aJ 4 ?_ rfl ?_ (aJ 5 ?_ rfl ?_ (aJ 6 ?_ rfl ?_ (aJ 8 ?_ rfl ?_ ?_)))))))
  iterate 8 (rotate_left;focus (intro w hSw;(try dsimp only at hSw);simp only [Act.put,aR];go_simp;try with_reducible rfl))
  simp only [Act.put,aR]
  clear hHeld;refine rdH2 7 9 rfl rfl (fun K hK=>?_) (fun K hK=>?_)
  focus
   skip
   have BA:Hid (Below W0.heap.size W0 (W0.alloc (.cells #[.int .i64 0,.int .i64 1000001,.int .i64 1000000] 3))):=(aO);have XS:Hid ((W0.alloc (.cells #[.int .i64 0,.int .i64 1000001,.int .i64 1000000] 3)).heap[W0.heap.size]?=some (.cells #[.int .i64 0,.int .i64 1000001,.int .i64 1000000] 3 (0,0))):=ay W0 _;have B5:=am (B0.out.call BA.out);have hRN:R<W0.heap.size:=B0.out.rd.lt;go_simp;refine hK.out _ _ (HCE.out _ _ B5.out) (fun _=>?_);clear hK K B0;generalize (W0.alloc (.cells #[.int .i64 0,.int .i64 1000001,.int .i64 1000000] 3))=W5 at *;generalize W0.heap.size=NS at *;clear BA;refine bh 9 rfl (fun K hK=>?_);go_simp
   refine (aF R (p+1+1+1) 3 _ B5.out.rd (by omega) (by omega)).mono ?_
   rintro e W6 ⟨y,rfl,hy0,hy1,-,hr,hg⟩
   have hy1:=hy1 (by omega)
   obtain ⟨yn,rfl⟩:∃ n:Nat,y=n:=⟨y.toNat,by omega⟩
   have B6:=am (B5.out.pick hRA (by omega) hr hg)
   have hHeld:=HCE.out _ _ B6.out;refine hK.out _ _ hHeld (fun _=>?_)
   have XS6:=am (aL hg (show NS≠R by omega) XS.out)
   clear hK K hr hg B5 XS;clear hHeld
  rotate_left
  focus
   skip
   go_simp
   refine (aF R (p+1+1+1) 3 _ B0.out.rd (by omega) (by omega)).mono ?_
   rintro e W5 ⟨y,rfl,hy0,hy1,-,hr,hg⟩
   have hy1:=hy1 (by omega)
   obtain ⟨yn,rfl⟩:∃ n:Nat,y=n:=⟨y.toNat,by omega⟩
   have B5:=am (B0.out.pick hRA (by omega) hr hg)
   have hHeld:=HCE.out _ _ B5.out;refine hK.out _ _ hHeld (fun _=>?_);clear hK K hr hg B0;clear hHeld;refine bh 7 rfl (fun K hK=>?_);have BA:Hid (Below W5.heap.size W5 (W5.alloc (.cells #[.int .i64 0,.int .i64 1000001,.int .i64 1000000] 3))):=(aO);have XS6:Hid ((W5.alloc (.cells #[.int .i64 0,.int .i64 1000001,.int .i64 1000000] 3)).heap[W5.heap.size]?=some (.cells #[.int .i64 0,.int .i64 1000001,.int .i64 1000000] 3 (0,0))):=ay W5 _;have B6:=am (B5.out.call BA.out);have hRN:R<W5.heap.size:=B5.out.rd.lt;go_simp;refine hK.out _ _ (HCE.out _ _ B6.out) (fun _=>?_);clear hK K B5;generalize (W5.alloc (.cells #[.int .i64 0,.int .i64 1000001,.int .i64 1000000] 3))=W6 at *;generalize W5.heap.size=NS at *;clear BA
  rotate_left
  all_goals
   obtain ⟨u,hu⟩:∃ u:Int,(#[.int .i64 0,.int .i64 1000001,.int .i64 1000000]:Array Value)[yn]?=some (.int .i64 u):=by
    rcases (show yn=0∨yn=1∨yn=2 by omega) with rfl | rfl | rfl <;> exact ⟨_,rfl⟩
   have c0:=ab XS6.out hu;refine bh 10 rfl (fun K hK=>?_);go_simp;refine hK.out _ _ (HCE.out _ _ B6.out) (fun _=>?_);clear hK K;refine bh 11 rfl (fun K hK=>?_);go_simp;refine hK.out _ _ (HCE.out _ _ B6.out) (fun _=>?_);clear hK K c0 hu;have hHeld:=HCE.out _ _ B6.out;refine aJ 12 ?_ rfl ?_ (aJ 13 ?_ rfl ?_ ?_)
   iterate 2 (rotate_left;focus (intro w hSw;(try dsimp only at hSw);simp only [Act.put,aR];go_simp;try with_reducible rfl))
   simp only [Act.put,aR]
   clear hHeld;refine bh 14 rfl (fun K hK=>?_);have hrow:=B6.out.f _ (List.mem_of_getElem? HQ.out);obtain ⟨a',c',e',-,-,hcs⟩:=flds_new hrow;obtain ⟨bP,oP,hap,d0,d1,d2⟩:=hcs fn _ (bE hfn)
   cases e'
   cases hap
   rw [Nat.zero_add] at d0 d1 d2;have HAT:Hid (en.fs[fn]?=some (fat en.fs fn)):=bE hfn;have HVS:Hid ((fat en.fs fn).v.size≤1048576):=HSN.out.2.2 _ (List.mem_of_getElem? HAT.out);generalize fat en.fs fn=fd at *;have zd:=ar d0;have lfz:=own_free hrow;clear hcs hrow
   have B9:Hid (SB wA (W6.setCell ⟨gf,fn*3+1,none⟩ (.int .i64 u)) R w2.heap.size _ (.slice (some ⟨gk,0,none⟩) ks.length ck) (.slice (some ⟨gp,0,none⟩) ps.length cp) (.slice (some ⟨ge,0,none⟩) l.length ce) ks ps (l.set kn (⟨en.name,en.fs.set fn ⟨fd.what,u,fd.v⟩⟩,.slice (some ⟨gf,0,none⟩) en.fs.length cf))):=B6.out.fld hRA AP.out HQ.out rfl (by omega) (by simp) (ci en.fs fn 1 fd _ _ HAT.out (by omega) rfl)
   have HSP:Hid (SpB ks ps ((l.set kn (⟨en.name,en.fs.set fn ⟨fd.what,u,fd.v⟩⟩,.slice (some ⟨gf,0,none⟩) en.fs.length cf)).map (·.1))):=by
    refine spb_of (by omega) (by omega) NK.out NP.out (by simp;omega) (set_ents (fun r hr=>⟨(HSE.out r hr).1,by have:=(HSE.out r hr).2.1;omega,(HSE.out r hr).2.2⟩) ⟨HSN.out.1,by simp;omega,fun f hf=>?_⟩)
    rcases List.mem_or_eq_of_mem_set hf with h1 | h1
    ·exact HSN.out.2.2 f h1
    ·rw [h1];exact HVS.out
   go_simp;refine hK.out _ _ (⟨ab B9.out.box rfl,(B6.out.keepE (o:=fn*3+1) (x:=.int .i64 u) HQ.out).1,(B6.out.keepE (o:=fn*3+1) (x:=.int .i64 u) HQ.out).2⟩) (fun _=>?_);clear hK K
   refine wpAnyH_done (by kernel_rfl) ?_ _
   refine NoPanic.normal ?_;generalize (W6.setCell ⟨gf,fn*3+1,none⟩ (.int .i64 u))=W9 at *;clear d0 d1 d2 zd lfz B6;have q0:=ab B9.out.box (i:=0) rfl;have q1:=ab B9.out.box (i:=1) rfl;have q2:=ab B9.out.box (i:=2) rfl;have hR9:=B9.out.res;rw [HAS] at hR9
   have HFI:Hid (BookFar w.heap.size (W9.setRow (w.heap.size+1) #[.slice (some ⟨gk,0,none⟩) ks.length ck,.slice (some ⟨gp,0,none⟩) ps.length cp,.slice (some ⟨ge,0,none⟩) l.length ce]) (.slice (some ⟨gk,0,none⟩) ks.length ck) (.slice (some ⟨gp,0,none⟩) ps.length cp) (.slice (some ⟨ge,0,none⟩) l.length ce) (ks) (ps) ((l.set kn (⟨en.name,en.fs.set fn ⟨fd.what,u,fd.v⟩⟩,.slice (some ⟨gf,0,none⟩) en.fs.length cf)).map (·.1))∧SpB (ks) (ps) ((l.set kn (⟨en.name,en.fs.set fn ⟨fd.what,u,fd.v⟩⟩,.slice (some ⟨gf,0,none⟩) en.fs.length cf)).map (·.1))∧Out w R p 200 (W9.setRow (w.heap.size+1) #[.slice (some ⟨gk,0,none⟩) ks.length ck,.slice (some ⟨gp,0,none⟩) ps.length cp,.slice (some ⟨ge,0,none⟩) l.length ce])):=by
    have hf:=B9.out.fin hRA #[.slice (some ⟨gk,0,none⟩) ks.length ck,.slice (some ⟨gp,0,none⟩) ps.length cp,.slice (some ⟨ge,0,none⟩) l.length ce];rw [HAS] at hf
    exact ⟨hf.1.mono (by omega),HSP.out,_,by omega,by omega,hf.2.1,av (az HA.out _) hf.2.2⟩
   go_wp2_with (refine wpList_store_row rfl 30 _ _ rfl (w.heap.size+1) #[.slice (some ⟨gk,0,none⟩) ks.length ck,.slice (some ⟨gp,0,none⟩) ps.length cp,.slice (some ⟨ge,0,none⟩) l.length ce] rfl rfl 30 _ hR9 (by kernel_rfl) rfl (by simp [Value.oneCell']) ?_)
   exact bodyPost_ret (v:=.agg #[.slice (some ⟨gk,0,none⟩) ks.length ck,.slice (some ⟨gp,0,none⟩) ps.length cp,.slice (some ⟨ge,0,none⟩) l.length ce]) (by simp [results,Tryz.results82,go_sem,cell_setRow_same _ _ _ _ _ _ _ hR9]) rfl (by first | exact ⟨_,_,_,ks,ps,(l.set kn (⟨en.name,en.fs.set fn ⟨fd.what,u,fd.v⟩⟩,.slice (some ⟨gf,0,none⟩) en.fs.length cf)).map (·.1),rfl,HFI.out⟩ | exact ⟨_,_,_,rfl,ks,ps,(l.set kn (⟨en.name,en.fs.set fn ⟨fd.what,u,fd.v⟩⟩,.slice (some ⟨gf,0,none⟩) en.fs.length cf)).map (·.1),HFI.out⟩)
 have h4b:(c==4)=false:=by simp [h4]
 clear h4
 by_cases h5:c=5
 ·have h5b:(c==5)=true:=by simp [h5]
  clear h5;go_wp2;refine wp_region_noPanic ?_
  refine wp_region_held_drew (S:=fun wx=>(wx.cell? ⟨w2.heap.size,2,none⟩=some (.slice (some ⟨ge,0,none⟩) l.length ce)∧wx.cell? ⟨ge,kn*2,none⟩=some (.string en.name)∧wx.cell? ⟨ge,kn*2+1,none⟩=some (.slice (some ⟨gf,0,none⟩) en.fs.length cf))) (by kernel_rfl) ?_ (fun hHeld=>?_)
  ·exact HCE.out _ _ (B4.out.call (Below.refl _ _).drew)
  have B0:=am (B4.out.call (Below.refl _ _).drew);generalize w4.drew=W0 at *;clear B4;refine aJ 0 ?_ rfl ?_ (aJ 1 ?_ rfl ?_ (aJ 2 ?_ rfl ?_ (aJ 3 ?_ rfl ?_ (aJ 4 ?_ rfl ?_ (aJ 5 ?_ rfl ?_ (aJ 6 ?_ rfl ?_ (aJ 7 ?_ rfl ?_ ?_)))))))
  iterate 8 (rotate_left;focus (intro w hSw;(try dsimp only at hSw);simp only [Act.put,aR];go_simp;try with_reducible rfl))
  simp only [Act.put,aR]
  clear hHeld;refine bh 8 rfl (fun K hK=>?_);go_simp
  refine (l2BadValue_any R (p+1+1+1) _ B0.out.rd (by omega)).mono ?_
  rintro e W5 ⟨g,rfl,hgs,hr,hg⟩
  have B5:=am (B0.out.pick hRA (by omega) hr hg)
  have hHeld:=HCE.out _ _ B5.out;refine hK.out _ _ hHeld (fun _=>?_);clear hK K hr hg B0;refine aJ 9 ?_ rfl ?_ (aJ 10 ?_ rfl ?_ ?_)
  iterate 2 (rotate_left;focus (intro w hSw;(try dsimp only at hSw);simp only [Act.put,aR];go_simp;try with_reducible rfl))
  simp only [Act.put,aR]
  clear hHeld;refine bh 11 rfl (fun K hK=>?_);have hrow:=B5.out.f _ (List.mem_of_getElem? HQ.out);obtain ⟨a',c',e',-,-,hcs⟩:=flds_new hrow;obtain ⟨bP,oP,hap,d0,d1,d2⟩:=hcs fn _ (bE hfn)
  cases e'
  cases hap
  rw [Nat.zero_add] at d0 d1 d2;have HAT:Hid (en.fs[fn]?=some (fat en.fs fn)):=bE hfn;have HVS:Hid ((fat en.fs fn).v.size≤1048576):=HSN.out.2.2 _ (List.mem_of_getElem? HAT.out);generalize fat en.fs fn=fd at *;have zd:=ar d0;have lfz:=own_free hrow;clear hcs hrow
  have B9:Hid (SB wA (W5.setCell ⟨gf,fn*3+2,none⟩ (.string g)) R w2.heap.size _ (.slice (some ⟨gk,0,none⟩) ks.length ck) (.slice (some ⟨gp,0,none⟩) ps.length cp) (.slice (some ⟨ge,0,none⟩) l.length ce) ks ps (l.set kn (⟨en.name,en.fs.set fn ⟨fd.what,fd.num,g⟩⟩,.slice (some ⟨gf,0,none⟩) en.fs.length cf))):=B5.out.fld hRA AP.out HQ.out rfl (by omega) (by simp) (ci en.fs fn 2 fd _ _ HAT.out (by omega) rfl)
  have HSP:Hid (SpB ks ps ((l.set kn (⟨en.name,en.fs.set fn ⟨fd.what,fd.num,g⟩⟩,.slice (some ⟨gf,0,none⟩) en.fs.length cf)).map (·.1))):=by
   refine spb_of (by omega) (by omega) NK.out NP.out (by simp;omega) (set_ents (fun r hr=>⟨(HSE.out r hr).1,by have:=(HSE.out r hr).2.1;omega,(HSE.out r hr).2.2⟩) ⟨HSN.out.1,by simp;omega,fun f hf=>?_⟩)
   rcases List.mem_or_eq_of_mem_set hf with h1 | h1
   ·exact HSN.out.2.2 f h1
   ·rw [h1];exact (by show g.size≤1048576;omega)
  go_simp;refine hK.out _ _ (⟨ab B9.out.box rfl,(B5.out.keepE (o:=fn*3+2) (x:=.string g) HQ.out).1,(B5.out.keepE (o:=fn*3+2) (x:=.string g) HQ.out).2⟩) (fun _=>?_);clear hK K
  refine wpAnyH_done (by kernel_rfl) ?_ _
  refine NoPanic.normal ?_;generalize (W5.setCell ⟨gf,fn*3+2,none⟩ (.string g))=W9 at *;clear d0 d1 d2 zd lfz B5;have q0:=ab B9.out.box (i:=0) rfl;have q1:=ab B9.out.box (i:=1) rfl;have q2:=ab B9.out.box (i:=2) rfl;have hR9:=B9.out.res;rw [HAS] at hR9
  have HFI:Hid (BookFar w.heap.size (W9.setRow (w.heap.size+1) #[.slice (some ⟨gk,0,none⟩) ks.length ck,.slice (some ⟨gp,0,none⟩) ps.length cp,.slice (some ⟨ge,0,none⟩) l.length ce]) (.slice (some ⟨gk,0,none⟩) ks.length ck) (.slice (some ⟨gp,0,none⟩) ps.length cp) (.slice (some ⟨ge,0,none⟩) l.length ce) (ks) (ps) ((l.set kn (⟨en.name,en.fs.set fn ⟨fd.what,fd.num,g⟩⟩,.slice (some ⟨gf,0,none⟩) en.fs.length cf)).map (·.1))∧SpB (ks) (ps) ((l.set kn (⟨en.name,en.fs.set fn ⟨fd.what,fd.num,g⟩⟩,.slice (some ⟨gf,0,none⟩) en.fs.length cf)).map (·.1))∧Out w R p 200 (W9.setRow (w.heap.size+1) #[.slice (some ⟨gk,0,none⟩) ks.length ck,.slice (some ⟨gp,0,none⟩) ps.length cp,.slice (some ⟨ge,0,none⟩) l.length ce])):=by
   have hf:=B9.out.fin hRA #[.slice (some ⟨gk,0,none⟩) ks.length ck,.slice (some ⟨gp,0,none⟩) ps.length cp,.slice (some ⟨ge,0,none⟩) l.length ce];rw [HAS] at hf
   exact ⟨hf.1.mono (by omega),HSP.out,_,by omega,by omega,hf.2.1,av (az HA.out _) hf.2.2⟩
  go_wp2_with (refine wpList_store_row rfl 30 _ _ rfl (w.heap.size+1) #[.slice (some ⟨gk,0,none⟩) ks.length ck,.slice (some ⟨gp,0,none⟩) ps.length cp,.slice (some ⟨ge,0,none⟩) l.length ce] rfl rfl 30 _ hR9 (by kernel_rfl) rfl (by simp [Value.oneCell']) ?_)
  exact bodyPost_ret (v:=.agg #[.slice (some ⟨gk,0,none⟩) ks.length ck,.slice (some ⟨gp,0,none⟩) ps.length cp,.slice (some ⟨ge,0,none⟩) l.length ce]) (by simp [results,Tryz.results82,go_sem,cell_setRow_same _ _ _ _ _ _ _ hR9]) rfl (by first | exact ⟨_,_,_,ks,ps,(l.set kn (⟨en.name,en.fs.set fn ⟨fd.what,fd.num,g⟩⟩,.slice (some ⟨gf,0,none⟩) en.fs.length cf)).map (·.1),rfl,HFI.out⟩ | exact ⟨_,_,_,rfl,ks,ps,(l.set kn (⟨en.name,en.fs.set fn ⟨fd.what,fd.num,g⟩⟩,.slice (some ⟨gf,0,none⟩) en.fs.length cf)).map (·.1),HFI.out⟩)
 have h5b:(c==5)=false:=by simp [h5]
 clear h5
 by_cases h6:c=6
 ·have h6b:(c==6)=true:=by simp [h6]
  clear h6;go_wp2;refine wp_region_noPanic ?_
  refine aZ (S:=fun wx=>wx.cell? ⟨w2.heap.size,2,none⟩=some (.slice (some ⟨ge,0,none⟩) l.length ce)) 10 (by kernel_rfl) ?_ (fun hHeld=>?_)
  ·exact (HCE.out _ _ (B4.out.call (Below.refl _ _).drew)).1
  have B0:=am (B4.out.call (Below.refl _ _).drew);generalize w4.drew=W0 at *;clear B4;refine bp 0 ?_ rfl ?_ (bp 1 ?_ rfl ?_ (bp 2 ?_ rfl ?_ (bp 3 ?_ rfl ?_ (bp 4 ?_ rfl ?_ (bp 5 ?_ rfl ?_ ?_)))))
  iterate 6 (rotate_left;focus (intro w hSw;(try dsimp only at hSw);simp only [Act.put,aR];go_simp;try with_reducible rfl))
  simp only [Act.put,aR]
  clear hHeld;obtain ⟨-,d0,d1⟩:=HCE.out _ _ B0.out;have z1:=ar d0;refine bU 6 rfl (fun K hK=>?_);go_simp;refine hK.out _ _ (.inr (HCE.out _ _ B0.out).1) ?_;clear hK K d0 d1 z1;refine bU 7 rfl (fun K hK=>?_);have BC:Hid (Below W0.heap.size W0 (W0.alloc (.cells #[.string en.name,.slice (some ⟨gf,0,none⟩) en.fs.length cf] 65))):=(aO);have HSRC:Hid ((W0.alloc (.cells #[.string en.name,.slice (some ⟨gf,0,none⟩) en.fs.length cf] 65)).heap[W0.heap.size]?=some (.cells #[.string en.name,.slice (some ⟨gf,0,none⟩) en.fs.length cf] 65 (0,0))):=ay W0 _;have BX2:=am (B0.out.call BC.out);go_simp;refine hK.out _ _ (.inr (ab BX2.out.box rfl)) ?_;clear hK K;generalize (W0.alloc (.cells #[.string en.name,.slice (some ⟨gf,0,none⟩) en.fs.length cf] 65))=WX2 at *;refine bU 8 rfl (fun K hK=>?_);have hw2:=BX2.out.gr.size;have hw2b:=aG BX2.out.res
  refine ai _ rfl _ _ 28 rfl (wA.heap.size+1) 65 iE _ 2 40 Tryz.underlying28 hiE hzE0 hzE1 hzE2 rfl (by decide) _ l.length _ rfl BX2.out.e _ 1 1 [.string en.name,.slice (some ⟨gf,0,none⟩) en.fs.length cf] rfl (.inr ⟨_,rfl,World.news_of_block HSRC.out⟩) rfl (fun u hu=>by simp at hu;rcases hu with rfl | rfl <;> rfl) (by unfold maxLen;omega) (by omega) (by omega) ?_
  intro va WX3 hown hgrow hat
  obtain ⟨ga,gc,hve9,hgc1,hgc2⟩:=bG hown (by omega)
  subst hve9
  have hbx3:=(hgrow.block _ (aG BX2.out.box) (aV BX2.out.e BX2.out.box (by decide))).trans BX2.out.box
  have lz:WX3.cell? ⟨w2.heap.size,2,none⟩=some (.slice (some ⟨ge,0,none⟩) l.length ce):=ab hbx3 rfl
  have lfz9:WX3.frozen? ⟨w2.heap.size,2,none⟩=false:=by simp [World.frozen?,hbx3]
  have BX3:=am (BX2.out.more (q:=((en,.slice (some ⟨gf,0,none⟩) en.fs.length cf):EntV)) hRA (by omega) hgrow hown (BX2.out.f _ (List.mem_of_getElem? HQ.out)))
  refine hK.out _ _ (.inr lz) ?_;clear hK K hat;have hHeld:=lz;refine bp 9 ?_ rfl ?_ ?_;rotate_left
  ·intro w hSw;(try dsimp only at hSw);go_simp;try with_reducible rfl
  simp only [Act.put,aR]
  clear hHeld hbx3;refine bU 10 rfl (fun K hK=>?_);go_simp;refine hK.out _ _ (.inl rfl) ?_;clear hK K lz lfz9
  refine be (by kernel_rfl) ?_ _
  refine NoPanic.normal ?_;generalize (WX3.setCell ⟨w2.heap.size,2,none⟩ (.slice (some ⟨ga,0,none⟩) (l.length+1) gc))=W9 at *;clear hown hgrow BX2 B0 HSRC BC
  have HSP:Hid (SpB ks ps ((l++[((en,.slice (some ⟨gf,0,none⟩) en.fs.length cf):EntV)]).map (·.1))):=spb_of (by omega) (by omega) NK.out NP.out (by simp;omega) (fun r hr=>by
   rcases List.mem_append.1 hr with h1 | h1
   ·exact ⟨(HSE.out r h1).1,by have:=(HSE.out r h1).2.1;omega,(HSE.out r h1).2.2⟩
   ·rw [List.mem_singleton.1 h1];exact ⟨HSN.out.1,by show en.fs.length≤10;omega,HSN.out.2.2⟩)
  have q0:=ab BX3.out.box (i:=0) rfl;have q1:=ab BX3.out.box (i:=1) rfl;have q2:=ab BX3.out.box (i:=2) rfl;have hR9:=BX3.out.res;rw [HAS] at hR9
  have HFI:Hid (BookFar w.heap.size (W9.setRow (w.heap.size+1) #[.slice (some ⟨gk,0,none⟩) ks.length ck,.slice (some ⟨gp,0,none⟩) ps.length cp,.slice (some ⟨ga,0,none⟩) (l.length+1) gc]) (.slice (some ⟨gk,0,none⟩) ks.length ck) (.slice (some ⟨gp,0,none⟩) ps.length cp) (.slice (some ⟨ga,0,none⟩) (l.length+1) gc) (ks) (ps) ((l++[((en,.slice (some ⟨gf,0,none⟩) en.fs.length cf):EntV)]).map (·.1))∧SpB (ks) (ps) ((l++[((en,.slice (some ⟨gf,0,none⟩) en.fs.length cf):EntV)]).map (·.1))∧Out w R p 200 (W9.setRow (w.heap.size+1) #[.slice (some ⟨gk,0,none⟩) ks.length ck,.slice (some ⟨gp,0,none⟩) ps.length cp,.slice (some ⟨ga,0,none⟩) (l.length+1) gc])):=by
   have hf:=BX3.out.fin hRA #[.slice (some ⟨gk,0,none⟩) ks.length ck,.slice (some ⟨gp,0,none⟩) ps.length cp,.slice (some ⟨ga,0,none⟩) (l.length+1) gc];rw [HAS] at hf
   exact ⟨hf.1.mono (by omega),HSP.out,_,by omega,by omega,hf.2.1,av (az HA.out _) hf.2.2⟩
  go_wp2_with (refine wpList_store_row rfl 30 _ _ rfl (w.heap.size+1) #[.slice (some ⟨gk,0,none⟩) ks.length ck,.slice (some ⟨gp,0,none⟩) ps.length cp,.slice (some ⟨ga,0,none⟩) (l.length+1) gc] rfl rfl 30 _ hR9 (by kernel_rfl) rfl (by simp [Value.oneCell']) ?_)
  exact bodyPost_ret (v:=.agg #[.slice (some ⟨gk,0,none⟩) ks.length ck,.slice (some ⟨gp,0,none⟩) ps.length cp,.slice (some ⟨ga,0,none⟩) (l.length+1) gc]) (by simp [results,Tryz.results82,go_sem,cell_setRow_same _ _ _ _ _ _ _ hR9]) rfl (by first | exact ⟨_,_,_,ks,ps,(l++[((en,.slice (some ⟨gf,0,none⟩) en.fs.length cf):EntV)]).map (·.1),rfl,HFI.out⟩ | exact ⟨_,_,_,rfl,ks,ps,(l++[((en,.slice (some ⟨gf,0,none⟩) en.fs.length cf):EntV)]).map (·.1),HFI.out⟩)
 have h6b:(c==6)=false:=by simp [h6]
 clear h6;go_wp2_with fail
 refine (aF R (p+1+1+1) 2 _ B4.out.rd (by omega) (by omega)).mono ?_
 rintro e w5 ⟨y,rfl,hy0,hy1,-,hr,hg⟩
 have hy1:=hy1 (by omega)
 have B5:=am (B4.out.pick hRA (by omega) hr hg)
 clear hr hg B4;go_wp2
 go_loopw [9] (fun i wr=>∃ k:Nat,k≤13∧i=.int .i64 k∧Hid (∃ xe' ls',SB wA wr R w2.heap.size (p+1+1+1+1) (.slice (some ⟨gk,0,none⟩) ks.length ck) (.slice (some ⟨gp,0,none⟩) ps.length cp) xe' ks ps ls'∧List.length ls'=l.length+k∧ls'.length≤13∧(∀ q∈ls',q.1.name.size≤1048576∧q.1.fs.length≤10∧∀ f∈q.1.fs,f.v.size≤1048576))) (fun i _=>14-(intOf i).toNat)
 case atStart=>exact ⟨0,Nat.zero_le _,rfl,_,_,B5.out,rfl,by omega,fun r hr=>⟨(HSE.out r hr).1,by have:=(HSE.out r hr).2.1;omega,(HSE.out r hr).2.2⟩⟩
 case round =>
  obtain ⟨k,hk13,rfl,HI⟩:=hrel;obtain ⟨xe',ls,hsb,hl1,hl2,hb'⟩:=HI.out
  obtain ⟨gE,cE,hve,hc1',hc2'⟩:=bG hsb.e (by omega)
  subst hve;unfold maxLen at hc2';have HBI:=am hsb;have HBD:=am hb'
  have hl1a:ls.length≤l.length+k:=by omega
  have hl1b:l.length+k≤ls.length:=by omega
  have hl1c:1≤ls.length:=by omega
  clear HI hsb hb' B5 hl1
  by_cases hlt:(ls.length:Int)<12+y
  ·have q2:=ab HBI.out.box (i:=2) rfl
   have hds:=aP (10+k) (by omega)
   have hdn:¬ 9223372036854775807<1+(decS (10+k)).size:=by omega
   have hnms:(⟨#[122]⟩++decS (10+k):ByteArray).size≤100:=by simp only [ByteArray.size_append];show 1+_≤100;omega
   have hw10:IntKind.i64.wrap (10+(k:Int))=10+(k:Int):=by rw [IntKind.wrap_i64];omega
   have HDC:Hid (∀ wx:World,Calls Tryz.prog 45 #[.int .i64 (10+(k:Int))] wx fun e w'=>e=.returned (.string (decS (10+k)))∧Below wx.heap.size wx w'):=fun wx=>by
    have h:=bq (10+k) (by omega) wx
    rw [show ((10+k:Nat):Int)=10+(k:Int) by omega] at h
    exact h
   go_wp2;refine wp_region_noPanic ?_
   refine aZ (S:=fun wx=>wx.cell? ⟨w2.heap.size,2,none⟩=some (.slice (some ⟨gE,0,none⟩) ls.length cE)) 12 (by kernel_rfl) ?_ (fun hHeld=>?_)
   ·exact ab (HBI.out.call (Below.refl _ _).drew).box rfl
   have B0:=am (HBI.out.call (Below.refl _ _).drew);generalize wr.drew=W0 at *;clear HBI q2;refine bp 0 ?_ rfl ?_ (bp 1 ?_ rfl ?_ (bp 2 ?_ rfl ?_ (bp 3 ?_ rfl ?_ (bp 6 ?_ rfl ?_ ?_))))
   iterate 5 (rotate_left;focus (intro w hSw;(try dsimp only at hSw);simp only [Act.put,aR];go_simp;try with_reducible rfl))
   simp only [Act.put,aR]
   clear hHeld
   refine bA (rs:=[4,7]) (by kernel_rfl) (by simp) ?_
   refine AllReadyT.cons rfl (fun K hK=>?_) (AllReadyT.cons rfl (fun K hK=>?_) AllReadyT.nil)
   focus
    skip
    go_simp;refine (HDC.out _).mono ?_;rintro e W5 ⟨rfl,hb6⟩;have B5:=am (B0.out.call hb6);refine hK.out _ _ (.inr (ab B5.out.box rfl)) ?_;clear hK K hb6 B0;have hHeld:W5.cell? ⟨w2.heap.size,2,none⟩=some (.slice (some ⟨gE,0,none⟩) ls.length cE):=ab B5.out.box rfl;refine bp 5 ?_ rfl ?_ ?_;rotate_left
    ·intro w hSw;(try dsimp only at hSw);go_simp;try with_reducible rfl
    simp only [Act.put,aR]
    generalize (⟨#[122]⟩++decS (10+k):ByteArray)=nm at *;clear hHeld hds hdn;refine bU 7 rfl (fun K hK=>?_);have BA:Hid (Below W5.heap.size W5 (W5.alloc (.cells #[.int .i64 5,.int .i64 1,.string ⟨#[111,112,101,110]⟩] 67))):=(aO);have XF:Hid ((W5.alloc (.cells #[.int .i64 5,.int .i64 1,.string ⟨#[111,112,101,110]⟩] 67)).heap[W5.heap.size]?=some (.cells #[.int .i64 5,.int .i64 1,.string ⟨#[111,112,101,110]⟩] 67 (0,0))):=ay W5 _;have B6:=am (B5.out.call BA.out);have hNF:wA.heap.size+1≤W5.heap.size:=aG B5.out.res;go_simp;refine hK.out _ _ (.inr (ab B6.out.box rfl)) ?_;clear hK K B5;generalize (W5.alloc (.cells #[.int .i64 5,.int .i64 1,.string ⟨#[111,112,101,110]⟩] 67))=W6 at *;generalize W5.heap.size=NF at *;clear BA
   rotate_left
   focus
    skip
    have BA:Hid (Below W0.heap.size W0 (W0.alloc (.cells #[.int .i64 5,.int .i64 1,.string ⟨#[111,112,101,110]⟩] 67))):=(aO);have XF:Hid ((W0.alloc (.cells #[.int .i64 5,.int .i64 1,.string ⟨#[111,112,101,110]⟩] 67)).heap[W0.heap.size]?=some (.cells #[.int .i64 5,.int .i64 1,.string ⟨#[111,112,101,110]⟩] 67 (0,0))):=ay W0 _;have B5:=am (B0.out.call BA.out);have hNF:wA.heap.size+1≤W0.heap.size:=aG B0.out.res;go_simp;refine hK.out _ _ (.inr (ab B5.out.box rfl)) ?_;clear hK K B0;generalize (W0.alloc (.cells #[.int .i64 5,.int .i64 1,.string ⟨#[111,112,101,110]⟩] 67))=W5 at *;generalize W0.heap.size=NF at *;clear BA;refine bU 4 rfl (fun K hK=>?_);go_simp;refine (HDC.out _).mono ?_;rintro e W6 ⟨rfl,hb6⟩;have B6:=am (B5.out.call hb6);have XF6:=am ((hb6.block _ (aG XF.out)).trans XF.out);clear XF;have XF:=XF6;clear XF6;refine hK.out _ _ (.inr (ab B6.out.box rfl)) ?_;clear hK K hb6 B5;have hHeld:W6.cell? ⟨w2.heap.size,2,none⟩=some (.slice (some ⟨gE,0,none⟩) ls.length cE):=ab B6.out.box rfl;refine bp 5 ?_ rfl ?_ ?_;rotate_left
    ·intro w hSw;(try dsimp only at hSw);go_simp;try with_reducible rfl
    simp only [Act.put,aR]
    generalize (⟨#[122]⟩++decS (10+k):ByteArray)=nm at *;clear hHeld hds hdn
   rotate_left
   all_goals
    have hHeld:W6.cell? ⟨w2.heap.size,2,none⟩=some (.slice (some ⟨gE,0,none⟩) ls.length cE):=ab B6.out.box rfl;refine bp 8 ?_ rfl ?_ ?_;rotate_left
    ·intro w hSw;(try dsimp only at hSw);go_simp;try with_reducible rfl
    simp only [Act.put,aR]
    clear hHeld;refine bU 9 rfl (fun K hK=>?_);have BC:Hid (Below W6.heap.size W6 (W6.alloc (.cells #[.string nm,.slice (some ⟨NF,0,none⟩) 1 1] 65))):=(aO);have HSRC:Hid ((W6.alloc (.cells #[.string nm,.slice (some ⟨NF,0,none⟩) 1 1] 65)).heap[W6.heap.size]?=some (.cells #[.string nm,.slice (some ⟨NF,0,none⟩) 1 1] 65 (0,0))):=ay W6 _;have BX2:=am (B6.out.call BC.out);have XF2:=am ((BC.out.block _ (aG XF.out)).trans XF.out);go_simp;refine hK.out _ _ (.inr (ab BX2.out.box rfl)) ?_;clear hK K;generalize (W6.alloc (.cells #[.string nm,.slice (some ⟨NF,0,none⟩) 1 1] 65))=WX2 at *;refine bU 10 rfl (fun K hK=>?_);have hw2:=BX2.out.gr.size;have hw2b:=aG BX2.out.res
    refine ai _ rfl _ _ 28 rfl (wA.heap.size+1) 65 iE _ 2 40 Tryz.underlying28 hiE hzE0 hzE1 hzE2 rfl (by decide) _ ls.length _ rfl BX2.out.e _ 1 1 [.string nm,.slice (some ⟨NF,0,none⟩) 1 1] rfl (.inr ⟨_,rfl,World.news_of_block HSRC.out⟩) rfl (fun u hu=>by simp at hu;rcases hu with rfl | rfl <;> rfl) (by unfold maxLen;omega) (by omega) (by omega) ?_
    intro va WX3 hown hgrow hat
    obtain ⟨ga,gc,hve9,hgc1,hgc2⟩:=bG hown (by omega)
    subst hve9
    have hbx3:=(hgrow.block _ (aG BX2.out.box) (aV BX2.out.e BX2.out.box (by decide))).trans BX2.out.box
    have lz:WX3.cell? ⟨w2.heap.size,2,none⟩=some (.slice (some ⟨gE,0,none⟩) ls.length cE):=ab hbx3 rfl
    have lfz9:WX3.frozen? ⟨w2.heap.size,2,none⟩=false:=by simp [World.frozen?,hbx3]
    have BX3:=am (BX2.out.more (q:=((⟨nm,[⟨5,1,⟨#[111,112,101,110]⟩⟩]⟩,.slice (some ⟨NF,0,none⟩) 1 1):EntV)) hRA (by omega) hgrow hown ⟨rfl,.inr ⟨NF,1,#[.int .i64 5,.int .i64 1,.string ⟨#[111,112,101,110]⟩],rfl,hNF,XF2.out,Nat.le_refl _,by unfold maxLen;omega,rfl,rfl⟩⟩)
    refine hK.out _ _ (.inr lz) ?_;clear hK K hat;have hHeld:=lz;refine bp 11 ?_ rfl ?_ ?_;rotate_left
    ·intro w hSw;(try dsimp only at hSw);go_simp;try with_reducible rfl
    simp only [Act.put,aR]
    clear hHeld hbx3;refine bU 12 rfl (fun K hK=>?_);go_simp;refine hK.out _ _ (.inl rfl) ?_;clear hK K lz lfz9
    refine be (by kernel_rfl) ?_ _
    refine NoPanic.normal ?_;generalize (WX3.setCell ⟨w2.heap.size,2,none⟩ (.slice (some ⟨ga,0,none⟩) (ls.length+1) gc))=W9 at *;clear hown hgrow BX2 B6 HSRC BC
    have HNX:Hid (∃ xe' ls',SB wA W9 R w2.heap.size (p+1+1+1+1) (.slice (some ⟨gk,0,none⟩) ks.length ck) (.slice (some ⟨gp,0,none⟩) ps.length cp) xe' ks ps ls'∧List.length ls'=l.length+(k+1)∧ls'.length≤13∧(∀ q∈ls',q.1.name.size≤1048576∧q.1.fs.length≤10∧∀ f∈q.1.fs,f.v.size≤1048576)):=⟨_,_,BX3.out,by simp;omega,by simp;omega,fun r hr=>by
     rcases List.mem_append.1 hr with h1 | h1
     ·exact HBD.out r h1
     ·rw [List.mem_singleton.1 h1]
      refine ⟨by show nm.size≤_;omega,by show 1≤10;omega,fun f hf=>?_⟩
      rw [List.mem_singleton.1 hf]
      show 4≤1048576
      omega⟩
    go_wp2
    exact ⟨⟨k+1,by omega,by go_num,HNX⟩,by simp [intOf];omega⟩
  ·have HSP:Hid (SpB ks ps (ls.map (·.1))):=spb_of (by omega) (by omega) NK.out NP.out (by omega) HBD.out
   have q0:=ab HBI.out.box (i:=0) rfl;have q1:=ab HBI.out.box (i:=1) rfl;have q2:=ab HBI.out.box (i:=2) rfl;have hR9:=HBI.out.res;rw [HAS] at hR9
   have HFI:Hid (BookFar w.heap.size (wr.setRow (w.heap.size+1) #[.slice (some ⟨gk,0,none⟩) ks.length ck,.slice (some ⟨gp,0,none⟩) ps.length cp,.slice (some ⟨gE,0,none⟩) ls.length cE]) (.slice (some ⟨gk,0,none⟩) ks.length ck) (.slice (some ⟨gp,0,none⟩) ps.length cp) (.slice (some ⟨gE,0,none⟩) ls.length cE) (ks) (ps) ((ls).map (·.1))∧SpB (ks) (ps) ((ls).map (·.1))∧Out w R p 200 (wr.setRow (w.heap.size+1) #[.slice (some ⟨gk,0,none⟩) ks.length ck,.slice (some ⟨gp,0,none⟩) ps.length cp,.slice (some ⟨gE,0,none⟩) ls.length cE])):=by
    have hf:=HBI.out.fin hRA #[.slice (some ⟨gk,0,none⟩) ks.length ck,.slice (some ⟨gp,0,none⟩) ps.length cp,.slice (some ⟨gE,0,none⟩) ls.length cE];rw [HAS] at hf
    exact ⟨hf.1.mono (by omega),HSP.out,_,by omega,by omega,hf.2.1,av (az HA.out _) hf.2.2⟩
   go_wp2_with (refine wpList_store_row rfl 30 _ _ rfl (w.heap.size+1) #[.slice (some ⟨gk,0,none⟩) ks.length ck,.slice (some ⟨gp,0,none⟩) ps.length cp,.slice (some ⟨gE,0,none⟩) ls.length cE] rfl rfl 30 _ hR9 (by kernel_rfl) rfl (by simp [Value.oneCell']) ?_)
   exact bodyPost_ret (v:=.agg #[.slice (some ⟨gk,0,none⟩) ks.length ck,.slice (some ⟨gp,0,none⟩) ps.length cp,.slice (some ⟨gE,0,none⟩) ls.length cE]) (by simp [results,Tryz.results82,go_sem,cell_setRow_same _ _ _ _ _ _ _ hR9]) rfl (by first | exact ⟨_,_,_,ks,ps,(ls).map (·.1),rfl,HFI.out⟩ | exact ⟨_,_,_,rfl,ks,ps,(ls).map (·.1),HFI.out⟩)
end Go.Proofs.YtcmgddnckohdaaaGreatDoor.Dr
