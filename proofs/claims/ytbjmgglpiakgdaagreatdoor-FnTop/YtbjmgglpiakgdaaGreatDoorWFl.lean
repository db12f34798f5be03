import Derived.Test.YtbjmgglpiakgdaaGreatDoorSt11
import Derived.Test.YtbjmgglpiakgdaaGreatDoorWay10
set_option maxRecDepth 100000
set_option maxHeartbeats 6400000
set_option linter.unusedSimpArgs false
set_option linter.unusedVariables false
namespace Go.Proofs.YtbjmgglpiakgdaaGreatDoor.Sd
open Go.RowKit
theorem find_at {α:Type} {p:α→Bool} {l:List α} {k:Nat} {x:α} (hk:l[k]?=some x) (hp:p x=true) (hn:∀ (j:Nat) (y:α),j<k→l[j]?=some y→p y=false):l.find? p=some x:=by
 obtain ⟨hlt,rfl⟩:=List.getElem?_eq_some_iff.1 hk;rw [List.find?_eq_some_iff_getElem]
 exact ⟨hp,k,hlt,rfl,fun j hj=>by simp [hn j _ hj (List.getElem?_eq_getElem (by omega))]⟩
theorem find_no {α:Type} {p:α→Bool} {l:List α} (hn:∀ (j:Nat) (y:α),l[j]?=some y→p y=false):l.find? p=none:=by
 rw [List.find?_eq_none];intro x hx;obtain ⟨i,hi,rfl⟩:=List.getElem_of_mem hx
 simp [hn i _ (List.getElem?_eq_getElem hi)]
theorem l3At_any (vk vp ve:Value) (es:List Ent) (n:ByteArray) (w:World) (he:EntsAt w ve es) :
  Calls Tryz.prog 62 #[.agg #[vk,vp,ve],.string n] w fun e w'=>∃ r:Int,e=.returned (.int .i64 r)∧((r=-1∧es.find? (fun e=>decide (e.name=n))=none) ∨ ∃ k:Nat,k<es.length∧r=(k:Int)∧es.find? (fun e=>decide (e.name=n))=some (eat es k))∧Below w.heap.size w w':=by
 obtain ⟨ae,ce,rfl,hlc,hcm,hc⟩:=he;unfold maxLen at hcm;have HC:Hid (∀ i f,es[i]?=some f→∃ b off,ae=some ⟨b,off,none⟩∧EntAt w b (off+i*2) f):=hc;clear hc;have HX0:Hid (OwnAt w (w.alloc (.cells #[vk,vp,.slice ae es.length ce] 29)) [[vk,vp,.slice ae es.length ce]]):=(OwnAt.start w).push rfl _ _
 have y0:(w.alloc (.cells #[vk,vp,.slice ae es.length ce] 29)).cell? ⟨w.heap.size,0,none⟩=some vk:=by simp
 have y1:(w.alloc (.cells #[vk,vp,.slice ae es.length ce] 29)).cell? ⟨w.heap.size,1,none⟩=some vp:=by simp
 have y2:(w.alloc (.cells #[vk,vp,.slice ae es.length ce] 29)).cell? ⟨w.heap.size,2,none⟩=some (.slice ae es.length ce):=by simp
 go_enter Tryz.func62,Tryz.ntmps62
 go_wp2;generalize w.alloc (.cells #[vk,vp,.slice ae es.length ce] 29)=w1 at *
 go_loopw [5] (fun i wr=>wr=w1∧∃ k:Nat,k≤es.length∧i=.int .i64 k∧Hid (∀ j y,j<k→es[j]?=some y→decide (y.name=n)=false)) (fun i _=>es.length-(intOf i).toNat)
 case atStart=>exact ⟨rfl,0,Nat.zero_le _,rfl,fun j y hj=>absurd hj (Nat.not_lt_zero _)⟩
 case round =>
  obtain ⟨rfl,k,hk,rfl,HA⟩:=hrel
  by_cases hlt:k<es.length
  ·obtain ⟨b,off,rfl,hc⟩:=HC.out k _ (eat_get hlt)
   obtain ⟨fv,d0,d1,hfl⟩:=hc.keep HX0.out.below;obtain ⟨fa,fc,rfl,-,-,-⟩:=hfl
   have hk0:(0:Int)≤(k:Int):=by omega
   have hk1:(k:Int)<(es.length:Int):=by omega
   have HG:Hid (es[k]?=some (eat es k)):=eat_get hlt
   by_cases hx:(eat es k).name=n
   ·have h1:((eat es k).name.toList==n.toList)=true:=str_eq hx
    have HX:Hid ((eat es k).name=n):=hx;clear hx hc;go_wp2;go_ret
    exact ⟨_,rfl,.inr ⟨k,hlt,rfl,find_at HG.out (by simp [HX.out]) HA.out⟩,HX0.out.below⟩
   ·have h1:((eat es k).name.toList==n.toList)=false:=str_ne hx
    have HX:Hid (¬ (eat es k).name=n):=hx;clear hx hc;go_wp2
    exact ⟨⟨by trivial,k+1,by omega,by go_num,fun j y hj hy=>if e:j=k then by subst e;rw [HG.out] at hy;cases hy;simp [HX.out] else HA.out j y (by omega) hy⟩,by simp [intOf];omega⟩
  ·go_wp2
   go_ret
   exact ⟨_,rfl,.inl ⟨rfl,find_no fun j y hy=>HA.out j y (by have:=(List.getElem?_eq_some_iff.1 hy).1;omega) hy⟩,HX0.out.below⟩
def fndV (fs:List Fld) (x:Int):Option Fld:=fs.find? fun f=>decide (f.what=x)
theorem fndV_no {fs:List Fld} {x:Int} (hn:∀ j,j<fs.length→¬ (fat fs j).what=x):fndV fs x=none:=by
 unfold fndV;rw [List.find?_eq_none];intro y hy;obtain ⟨i,hi,rfl⟩:=List.getElem_of_mem hy;have:=hn i hi
 have e:fat fs i=fs[i]:=by simp [fat,hi]
 rw [e] at this
 simp [this]
def AscF (fs:List Fld):Prop:=∀ i,i<fs.length→ascF fs i=true
theorem asc_wlt {fs:List Fld} (h:AscF fs):∀ i j,i<j→j<fs.length→(fat fs i).what<(fat fs j).what:=by
 have one:∀ i,i+1<fs.length→(fat fs i).what<(fat fs (i+1)).what:=fun i hi=>by
  have:=h (i+1) hi;unfold ascF at this
  simp at this
  exact this
 intro i j hij
 induction j with
 | zero=>omega
 | succ j ih =>
  intro hj
  by_cases e:i=j
  ·subst e;exact one i hj
  ·have h1:=ih (by omega) (by omega)
   have h2:=one j hj
   omega
theorem last_find {x:Int}:∀ (fs:List Fld),(∀ i j,i<j→j<fs.length→(fat fs i).what<(fat fs j).what)→lastV fs x=fndV fs x
 | [],_=>rfl
 | f::r,h=>by
  have hr:∀ i j,i<j→j<r.length→(fat r i).what<(fat r j).what:=fun i j hij hj=>by
   have:=h (i+1) (j+1) (by omega) (by simp;omega)
   simpa [fat] using this
  have ih:=last_find (x:=x) r hr;unfold fndV at ih ⊢;rw [lastV,ih]
  by_cases hf:f.what=x
  ·have hnone:r.find? (fun f=>decide (f.what=x))=none:=by
    rw [List.find?_eq_none];intro y hy;obtain ⟨i,hi,rfl⟩:=List.getElem_of_mem hy
    have h1:=h 0 (i+1) (by omega) (by simp;omega)
    have h2:(fat (f::r) (i+1))=r[i]:=by simp [fat,hi]
    have h3:fat (f::r) 0=f:=by simp [fat]
    rw [h2,h3,hf] at h1
    simp;omega
   rw [hnone]
   simp [hf]
  ·rw [List.find?_cons_of_neg (by simp [hf])]
   cases r.find? (fun f=>decide (f.what=x)) with
   | none=>simp [hf]
   | some g=>rfl
theorem book_ascF {ks ps:List Tri} {es:List Ent} (h:bookB ks ps es=true):∀ e∈es,AscF e.fs:=fun e he=>by
 obtain ⟨i,hi,rfl⟩:=List.getElem_of_mem he;unfold bookB at h;rw [Bool.and_eq_true,Bool.and_eq_true] at h;have h1:=allB_get h.2.2 i hi
 have e1:eat es i=es[i]:=by simp [eat,hi]
 rw [e1] at h1;unfold fieldsB at h1;rw [Bool.and_eq_true] at h1;intro j hj;have h2:=allB_get h1.1 j hj;rw [Bool.and_eq_true] at h2;exact h2.1
theorem said_find (fs:List Fld) (x:Int):saidB fs x=(fndV fs x).isSome:=by
 by_cases h:∃ k,k<fs.length∧(fat fs k).what=x
 ·obtain ⟨k,hk,he⟩:=h
  rw [saidB_true hk he]
  cases hf:fndV fs x with
  | some f=>rfl
  | none =>
   exfalso
   unfold fndV at hf;rw [List.find?_eq_none] at hf;have:=hf (fat fs k) (List.mem_of_getElem? (fat_get hk))
   simp [he] at this
 ·rw [saidB_false fun j hj e=>h ⟨j,hj,e⟩,fndV_no fun j hj e=>h ⟨j,hj,e⟩]
  rfl
open Go.RowKit
attribute [local go_sem] Later.cell Later.frozen
def clB (f:Fld):Bool:=!decide (f.what<5)&&decide (f.v=closedS)
def cntW (fs:List Fld):Nat:=(fs.filter fun f=>decide (f.what<5)).length
def wsB (fs:List Fld):Bool:=!(fs.any clB)&&decide (cntW fs=4)
theorem cnt_snoc (fs:List Fld) (f:Fld):cntW (fs++[f])=cntW fs+(if f.what<5 then 1 else 0):=by
 unfold cntW;rw [List.filter_append,List.length_append]
 by_cases h:f.what<5 <;> simp [h]
theorem cnt_le (fs:List Fld):cntW fs≤fs.length:=List.length_filter_le _ _
theorem take_fat {fs:List Fld} {k:Nat} (h:k<fs.length):fs.take (k+1)=fs.take k++[fat fs k]:=by
 rw [List.take_add_one,fat_get h]
 rfl
theorem wStands_any (nm:ByteArray) (v:Value) (fs:List Fld) (w:World) (hv:FldsAt w v fs) (hl:fs.length≤1048576) :
  Calls Tryz.prog 16 #[.agg #[.string nm,v]] w fun e w'=>e=.returned (.bool (wsB fs))∧Below w.heap.size w w':=by
 obtain ⟨a,c,rfl,-,m1,h1⟩:=hv;unfold maxLen at m1;have H1:Hid (∀ i f,fs[i]?=some f→∃ b off,a=some ⟨b,off,none⟩∧FldAt w b (off+i*3) f):=h1;clear h1;have HX0:Hid (OwnAt w (w.alloc (.cells #[.string nm,.slice a fs.length c] 52)) [[.string nm,.slice a fs.length c]]):=(OwnAt.start w).push rfl _ _;have HZ:Hid (∀ wr:World,OwnAt w wr [[.string nm,.slice a fs.length c]]→wr.cell? ⟨w.heap.size,0,none⟩=some (.string nm)∧wr.cell? ⟨w.heap.size,1,none⟩=some (.slice a fs.length c)):=fun wr h=>⟨(h.has 0 _ rfl 0 _ rfl).1,(h.has 0 _ rfl 1 _ rfl).1⟩;obtain ⟨x0,x1⟩:=HZ.out _ HX0.out
 go_enter Tryz.func16,Tryz.ntmps16
 go_wp2_with fail;clear x0 x1;generalize (w.alloc (.cells #[.string nm,.slice a fs.length c] 52))=w0 at *
 go_loopw [3,4] (fun nv i wr=>∃ k:Nat,k≤fs.length∧i=.int .i64 k∧nv=.int .i64 (cntW (fs.take k):Nat)∧(fs.take k).any clB=false∧Hid (OwnAt w wr [[.string nm,.slice a fs.length c]])) (fun _ i _=>fs.length-(intOf i).toNat)
 case atStart=>exact ⟨0,Nat.zero_le _,rfl,rfl,rfl,HX0.out⟩
 case round =>
  clear HX0;obtain ⟨k,hk,rfl,rfl,hno,HX⟩:=hrel;obtain ⟨x0,x1⟩:=HZ.out _ HX.out;have hxz:w.heap.size<wr.heap.size:=lt_of_cell x0
  by_cases hlt:k<fs.length
  ·obtain ⟨b,off,rfl,d0,d1,d2⟩:=H1.out k _ (fat_get hlt)
   have hts:=take_fat hlt;have hc0:=cnt_le (fs.take k);have hc1:=cnt_snoc (fs.take k) (fat fs k);rw [← hts] at hc1
   have hcl:(fs.take (k+1)).any clB=clB (fat fs k):=by rw [hts];simp [hno]
   have hwf:clB (fat fs k)=true→wsB fs=false:=fun h=>by
    have:fs.any clB=true:=List.any_eq_true.2 ⟨fat fs k,List.mem_of_getElem? (fat_get hlt),h⟩;unfold wsB;rw [this]
    rfl
   rw [List.length_take] at hc0;unfold clB at hcl hwf;generalize fat fs k=f at *;generalize cntW (fs.take k)=cn at *;have s0:=cell_keep HX.out.below nlr d0;have s2:=cell_keep HX.out.below nlr d2;have z3:=lt_of_cell s0;clear d0 d1 d2
   have hj0:(0:Int)≤(k:Int):=by omega
   have hj1:(k:Int)<(fs.length:Int):=by omega
   obtain ⟨fw,fnn,fv⟩:=f;dsimp only at s0 s2 hc1 hcl hwf
   by_cases h5:fw<5
   ·rw [if_pos h5] at hc1
    rw [decide_eq_true h5] at hcl
    replace hcl:(fs.take (k+1)).any clB=false:=hcl
    go_wp2_with fail
    exact ⟨⟨k+1,by omega,by go_num,by rw [hc1];go_num,hcl,HX⟩,by simp [intOf];omega⟩
   ·rw [if_neg h5] at hc1
    rw [decide_eq_false h5] at hcl hwf
    by_cases hv:fv=closedS
    ·subst hv
     have HB:Hid (Below w.heap.size w wr):=HX.out.below
     have hE:=hwf (by simp)
     clear hcl hwf;unfold closedS at s2;go_wp2_with fail;go_ret
     exact ⟨by first | rfl | (rw [hE];rfl),HB.out⟩
    ·rw [decide_eq_false hv] at hcl
     replace hcl:(fs.take (k+1)).any clB=false:=hcl
     have hvn:(fv.toList==[99,108,111,115,101,100])=false:=closed_list ▸ str_ne hv;go_wp2_with fail
     exact ⟨⟨k+1,by omega,by go_num,by rw [hc1];first | rfl | simp,hcl,HX⟩,by simp [intOf];omega⟩
  ·have hke:k=fs.length:=by omega
   subst hke;rw [List.take_length] at hno;have HB:Hid (Below w.heap.size w wr):=HX.out.below
   have hE:wsB fs=decide (cntW fs=4):=by unfold wsB;rw [hno];rfl
   rw [List.take_length];generalize cntW fs=cn at *;go_wp2_with fail;go_ret;refine ⟨?_,HB.out⟩;rw [hE]
   by_cases h4:cn=4
   ·subst h4;rfl
   ·rw [decide_eq_false h4]
    have:((cn:Int)==4)=false:=by rw [beq_eq_false_iff_ne];omega
    first | rfl | simp [this]
end Go.Proofs.YtbjmgglpiakgdaaGreatDoor.Sd
namespace Go.Proofs.YtbjmgglpiakgdaaGreatDoor.Fa
open Go.RowKit Sd Pa
structure FlV where
 q:ByteArray
 t:Tri
 x:Int
 y:Int
 z:Int
 L:List ByteArray
abbrev FlP:=FlV×Value
def flRow (p:FlP):List Value:=[.string p.1.q,.string p.1.t.s,.int .i64 p.1.t.x,.int .i64 p.1.t.y,.int .i64 p.1.x,.int .i64 p.1.y,.int .i64 p.1.z,p.2]
def flRows (l:List FlP):List Value:=l.flatMap flRow
theorem flRows_get:∀ (l:List FlP) (i j:Nat) (p:FlP),l[i]?=some p→j<8→(flRows l)[i*8+j]?=(flRow p)[j]?
 | [],i,j,p,h,hj=>by simp at h
 | a::l,0,j,p,h,hj=>by
  simp at h;subst h
  have:(flRows (a::l))=flRow a++flRows l:=by simp [flRows]
  rw [this,Nat.zero_mul,Nat.zero_add,List.getElem?_append_left (by simpa [flRow] using hj)]
 | a::l,i+1,j,p,h,hj=>by
  have h1:=flRows_get l i j p (by simpa using h) hj
  have h2:(flRows (a::l))=flRow a++flRows l:=by simp [flRows]
  rw [h2,List.getElem?_append_right (by simp [flRow];omega),← h1]
  congr 1
  simp [flRow]
  omega
def Apart (u v:Value):Prop:=∀ k,u.ownBlock=some k→v.ownBlock≠some k
theorem Apart.symm {u v:Value} (h:Apart u v):Apart v u:=fun k hk e=>h k e hk
theorem own_apart {w:World} {b b':Nat} {e e':TypeId} {s s' n n':Nat} {u v:Value} {xs ys:List Value} (h:w.ownsRow b e s u n xs) (h':w.ownsRow b' e' s' v n' ys) (hne:e≠e'):Apart u v:=by
 intro k hk hv
 rcases h'.2 with ⟨rfl,_⟩ | ⟨g,cap,cur,rfl,hb,hc,_⟩
 ·cases hv
 ·have e2:g=k:=by
   have h3:(some g:Option Nat)=some k:=hv;injection h3
  subst e2;exact Sd.own_type h hc hne hk.symm
structure FlsP (w:World) (B:Nat) (v:Value) (l:List FlP):Prop where
 row:w.ownsRow B 47 8 v l.length (flRows l)
 rt:∀ p∈l,SNew w B p.2 p.1.L
 ap:l.Pairwise fun p p'=>Apart p.2 p'.2
def FlsNew (w:World) (B:Nat) (v:Value) (l:List FlV):Prop:=∃ ps:List FlP,ps.map Prod.fst=l∧FlsP w B v ps
theorem FlsP.nil (w:World) (B:Nat):FlsP w B (.slice none 0 0) []:=⟨⟨rfl,.inl ⟨rfl,rfl⟩⟩,(fun p hp=>by cases hp),List.Pairwise.nil⟩
theorem FlsNew.nil (w:World) (B:Nat):FlsNew w B (.slice none 0 0) []:=⟨[],rfl,FlsP.nil w B⟩
theorem FlsP.keep {w w':World} {B:Nat} {v:Value} {l:List FlP} (h:FlsP w B v l) (hb:Below w.heap.size w w'):FlsP w' B v l:=⟨ownF_keep h.row hb,fun p hp=>ownF_keep (h.rt p hp) hb,h.ap⟩
theorem FlsNew.keep {w w':World} {B:Nat} {v:Value} {l:List FlV} (h:FlsNew w B v l) (hb:Below w.heap.size w w'):FlsNew w' B v l:=by
 obtain ⟨ps,e,h⟩:=h;exact ⟨ps,e,h.keep hb⟩
theorem FlsP.mono {w:World} {B B':Nat} {v:Value} {l:List FlP} (h:FlsP w B v l) (hb:B'≤B):FlsP w B' v l:=⟨ownF_mono h.row hb,fun p hp=>ownF_mono (h.rt p hp) hb,h.ap⟩
theorem FlsNew.mono {w:World} {B B':Nat} {v:Value} {l:List FlV} (h:FlsNew w B v l) (hb:B'≤B):FlsNew w B' v l:=by
 obtain ⟨ps,e,h⟩:=h;exact ⟨ps,e,h.mono hb⟩
theorem FlsNew.slice {w:World} {B:Nat} {v:Value} {l:List FlV} (h:FlsNew w B v l):∃ a c,v=.slice a l.length c:=by
 obtain ⟨ps,rfl,h⟩:=h;obtain ⟨a,c,e⟩:=ownF_slice h.row
 exact ⟨a,c,by rw [e,List.length_map]⟩
theorem FlsP.push {w wx:World} {B:Nat} {v v':Value} {l:List FlP} {p:FlP} (h:FlsP w B v l) (hrt:SNew w B p.2 p.1.L) (hy:∀ p'∈l,Apart p'.2 p.2) (hg:w.grownBy wx v.ownBlock) (hown:wx.ownsRow B 47 8 v' (l.length+1) (flRows l++flRow p)):FlsP wx B v' (l++[p]):=by
 have hf:∀ (q:FlP),SNew w B q.2 q.1.L→SNew wx B q.2 q.1.L:=fun q hq=>ownF_far hq hg (fun k hk e=>own_apart hq h.row (by decide) k hk e.symm)
 refine ⟨?_,fun q hq=>?_,?_⟩
 ·rw [List.length_append]
  have e:flRows (l++[p])=flRows l++flRow p:=by simp [flRows]
  rw [e];exact hown
 ·rcases List.mem_append.1 hq with hq | hq
  ·exact hf q (h.rt q hq)
  ·simp at hq;subst hq;exact hf q hrt
 ·rw [List.pairwise_append]
  exact ⟨h.ap,List.pairwise_singleton _ _,fun a ha b hb=>by simp at hb;subst hb;exact hy a ha⟩
def flV (ks:List Tri) (e:Ent):FlV:=⟨e.name,kdOf ks (lastV e.fs 1),frOf (lastV e.fs 2),byOf (lastV e.fs 2),lvOf (lastV e.fs 3),rtW e⟩
def allE (es:List Ent):List Ent:=es.filter fun e=>stB e.fs
def allR (ks ps:List Tri) (es:List Ent):List FlV:=bif bookB ks ps es then (allE es).map (flV ks) else []
theorem allE_take {es:List Ent} {k:Nat} (h:k<es.length):allE (es.take (k+1))=allE (es.take k)++(bif stB (eat es k).fs then [eat es k] else []):=by
 have e:es.take (k+1)=es.take k++[eat es k]:=by
  rw [List.take_succ_eq_append_getElem h]
  simp [eat,h]
 unfold allE;rw [e,List.filter_append]
 cases hs:stB (eat es k).fs <;> simp [hs]
theorem allE_len (es:List Ent):(allE es).length≤es.length:=List.length_filter_le _ _
theorem infoFl:(Tryz.prog.info? 47).map (fun i=>(i.zero,i.size,i.bytes))=some (some (.agg zero8),8,96):=by kernel_rfl
theorem rt_new {w:World} {B:Nat} {rt:Value} {e:Ent} (h:RtIs w B rt (lastV e.fs 4)):SNew w B rt (rtW e):=by
 unfold rtW
 cases h4:lastV e.fs 4 with
 | none =>
  rw [h4] at h;have h2:rt=.slice none 0 0:=h;rw [h2];exact ⟨rfl,.inl ⟨rfl,rfl⟩⟩
 | some f=>rw [h4] at h;exact h
end Go.Proofs.YtbjmgglpiakgdaaGreatDoor.Fa
namespace Go.Proofs.YtbjmgglpiakgdaaGreatDoor.Sd
open Go.RowKit
open Go.RowKit
theorem fnd_mem {fs:List Fld} {x:Int} {f:Fld} (h:fndV fs x=some f):f∈fs∧f.what=x:=by
 unfold fndV at h
 exact ⟨List.mem_of_find?_eq_some h,by simpa using List.find?_some h⟩
theorem need_some {fs:List Fld} {k:Nat} (hk:1≤k∧k≤4) (h:saidB fs (k:Int)=false):stB fs=false:=by
 have:(needL fs 4).length≠0:=by
  intro h0;have h1:needL fs 4=[]:=List.eq_nil_of_length_eq_zero h0
  have h2:(k:Int)∈needL fs 4:=by
   unfold needL;rw [List.mem_filter]
   refine ⟨?_,by simp [h]⟩
   rcases (show k=1∨k=2∨k=3∨k=4 by omega) with rfl | rfl | rfl | rfl <;> simp
  rw [h1] at h2
  simp at h2
 unfold stB;rw [decide_eq_false this]
 rfl
open Go.RowKit
theorem book_kindsB {ks ps:List Tri} {es:List Ent} (h:bookB ks ps es=true):kindsB ks=true:=by
 unfold bookB baseB at h
 simp only [Bool.and_eq_true] at h
 exact h.1.1
end Go.Proofs.YtbjmgglpiakgdaaGreatDoor.Sd
namespace Go.Proofs.YtbjmgglpiakgdaaGreatDoor.Pa
open Go.RowKit Sd
structure Stp where
 x:Int
 y:Int
 lo:Int
 hi:Int
 fr:Int
 b:Int
deriving DecidableEq
def lvA (N:Nat) (l:Int) (k:Nat):Int:=minI l (minI (k:Int) ((N:Int)-1-(k:Int)))
def stpA (cs:List Cel) (l fr b q s:Int) (k:Nat):Stp :=
 ⟨(tat cs k).x,(tat cs k).y,minI (lvA cs.length l (k-1)) (lvA cs.length l k),maxI (lvA cs.length l (k-1)) (lvA cs.length l k),fr+(k:Int)*q,b+(k:Int)*s⟩
def stpTo (cs:List Cel) (l fr b q s:Int) (k:Nat):List Stp:=(List.range k).map (stpA cs l fr b q s)
theorem stpTo_succ (cs:List Cel) (l fr b q s:Int) (k:Nat):stpTo cs l fr b q s (k+1)=stpTo cs l fr b q s k++[stpA cs l fr b q s k]:=by
 simp [stpTo,List.range_succ]
theorem stpTo_len (cs:List Cel) (l fr b q s:Int) (k:Nat):(stpTo cs l fr b q s k).length=k:=by simp [stpTo]
theorem levels_get {N:Nat} {l:Int} (hN:1≤N∧N≤40) (hl:1≤l∧l≤6) (k:Nat) (hk:k<N):(levelsL (N:Int) l)[k]?=some (lvA N l k):=by
 unfold levelsL
 rw [decide_eq_true (by omega)]
 simp [lvA,hk]
theorem levels_len {N:Nat} {l:Int} (hN:1≤N∧N≤40) (hl:1≤l∧l≤6):(levelsL (N:Int) l).length=N:=by
 unfold levelsL
 rw [decide_eq_true (by omega)]
 simp
structure FlOk (t:Tri) (x y z:Int):Prop where
 q:1≤t.x
 qs:t.x≤t.y
 s:t.y≤50
 fr:0≤x
 fb:x≤y
 b:y≤10000
 l:1≤z
 lm:z≤6
theorem rdN_nonneg (x:ByteArray):0≤rdN x:=by
 unfold rdN
 cases decB x <;> simp
theorem st_said {fs:List Fld} (h:stB fs=true) (k:Nat) (hk:1≤k∧k≤4) (ha:AscF fs):∃ f,lastV fs (k:Int)=some f∧f∈fs∧f.what=(k:Int):=by
 cases hs:saidB fs (k:Int) with
 | false=>rw [need_some hk hs] at h;cases h
 | true =>
  rw [said_find] at hs;obtain ⟨f,hf⟩:=Option.isSome_iff_exists.1 hs
  exact ⟨f,by rw [last_find (x:=(k:Int)) fs (asc_wlt ha)];exact hf,fnd_mem hf⟩
theorem kind_pace {ks:List Tri} (h:kindsB ks=true) {v:ByteArray} (hv:hasB ks v=true):paceB (at' ks (plc ks v))=true:=by
 unfold kindsB at h;rw [Bool.and_eq_true] at h;unfold hasB at hv;rw [Bool.and_eq_true] at hv;exact allB_get h.2 _ (of_decide_eq_true hv.1)
theorem stand_ok {ks ps:List Tri} {es:List Ent} {nm:ByteArray} {e:Ent} (h:standR ks ps es nm=some e) :
  bookB ks ps es=true∧e∈es∧(∃ f,lastV e.fs 4=some f∧rtW e=cutW f.v)∧routeB ps (rtW e)=true∧FlOk (kdOf ks (lastV e.fs 1)) (frOf (lastV e.fs 2)) (byOf (lastV e.fs 2)) (lvOf (lastV e.fs 3)):=by
 have hb:bookB ks ps es=true:=by
  unfold standR at h
  cases hb:bookB ks ps es with
  | true=>rfl
  | false=>rw [hb] at h;cases h
 obtain ⟨he,hst⟩:e∈es∧stB e.fs=true:=by
  unfold standR at h;rw [hb] at h
  simp only [cond_true] at h
  cases hf:es.find? (fun e=>decide (e.name=nm)) with
  | none=>rw [hf] at h;cases h
  | some e' =>
   rw [hf] at h;dsimp only at h
   cases hs:stB e'.fs with
   | false=>rw [hs] at h;cases h
   | true =>
    rw [hs] at h
    injection h with h
    subst h;exact ⟨List.mem_of_find?_eq_some hf,hs⟩
 have ha:=book_ascF hb e he
 obtain ⟨f1,l1,m1,w1⟩:=st_said hst 1 (by omega) ha
 obtain ⟨f2,l2,m2,w2⟩:=st_said hst 2 (by omega) ha
 obtain ⟨f3,l3,m3,w3⟩:=st_said hst 3 (by omega) ha
 obtain ⟨f4,l4,m4,w4⟩:=st_said hst 4 (by omega) ha
 have v1:=book_fits hb e he f1 m1;have v2:=book_fits hb e he f2 m2;have v3:=book_fits hb e he f3 m3;have v4:=book_fits hb e he f4 m4;rw [w1] at v1;rw [w2] at v2;rw [w3] at v3;rw [w4] at v4
 have v1':hasB ks f1.v=true:=by simpa [valB2] using v1
 have v2':timeB (cutW f2.v)=true:=by simpa [valB2] using v2
 have v3':levelB f3.v=true:=by simpa [valB2] using v3
 have v4':routeB ps (cutW f4.v)=true:=by simpa [valB2] using v4
 have l1':lastV e.fs 1=some f1:=l1;have l2':lastV e.fs 2=some f2:=l2;have l3':lastV e.fs 3=some f3:=l3;have l4':lastV e.fs 4=some f4:=l4
 have hr:rtW e=cutW f4.v:=by unfold rtW;rw [l4']
 refine ⟨hb,he,⟨f4,l4',hr⟩,by rw [hr];exact v4',?_⟩
 rw [l1',l2',l3'];have p:=kind_pace (book_kindsB hb) v1';unfold paceB at p
 simp at p
 rw [timeB_tm] at v2'
 simp at v2'
 have h0:0≤tmF (cutW f2.v):=by
  unfold tmF
  cases decide ((cutW f2.v).length=2)
  ·simp
  ·exact rdN_nonneg _
 unfold levelB inB at v3'
 simp at v3'
 have hl:rdN f3.v=(numV f3.v:Int):=by unfold rdN;rw [v3'.1];rfl
 exact ⟨p.1,p.2.1,p.2.2,h0,v2'.2.1,v2'.2.2,by show 1≤rdN f3.v;rw [hl];omega,by show rdN f3.v≤6;rw [hl];omega⟩
theorem cellsL_pos {ps:List Tri} {ws:List ByteArray} (h:2≤ws.length):1≤(cellsL ps ws).length:=by
 have:∀ n,1≤(alongTo (tat (turns ps ws)) (n+1)).length:=fun n=>by
  induction n with
  | zero=>simp [alongTo]
  | succ n ih=>rw [alongTo,List.length_append];omega
 unfold cellsL
 obtain ⟨n,hn⟩:∃ n,ws.length=n+1:=⟨ws.length-1,by omega⟩
 rw [hn];exact this n
structure Pth where
 c:Int
 st:List Stp
 fr:Int
 b:Int
def pathE (ks ps:List Tri) (e:Ent):Pth :=
 bif cellsOkB ks ps (rtW e) then
  (bif decide (10000<byOf (lastV e.fs 2)+((cellsL ps (rtW e)).length:Int)*(kdOf ks (lastV e.fs 1)).y) then ⟨4,[],0,0⟩ else
   ⟨0,stpTo (cellsL ps (rtW e)) (lvOf (lastV e.fs 3)) (frOf (lastV e.fs 2)) (byOf (lastV e.fs 2)) (kdOf ks (lastV e.fs 1)).x (kdOf ks (lastV e.fs 1)).y (cellsL ps (rtW e)).length,
    frOf (lastV e.fs 2)+((cellsL ps (rtW e)).length:Int)*(kdOf ks (lastV e.fs 1)).x,byOf (lastV e.fs 2)+((cellsL ps (rtW e)).length:Int)*(kdOf ks (lastV e.fs 1)).y⟩)
 else ⟨3,[],0,0⟩
def pathR (ks ps:List Tri) (es:List Ent) (nm:ByteArray):Pth:=bif bookB ks ps es then (match standR ks ps es nm with
 | some e=>pathE ks ps e
 | none=>⟨2,[],0,0⟩) else ⟨1,[],0,0⟩
def stpRow (s:Stp):List Value:=[.int .i64 s.x,.int .i64 s.y,.int .i64 s.lo,.int .i64 s.hi,.int .i64 s.fr,.int .i64 s.b]
def stpRows (l:List Stp):List Value:=l.flatMap stpRow
theorem stpRows_get:∀ (l:List Stp) (i:Nat) (c:Stp),l[i]?=some c→(stpRows l)[i*6]?=some (.int .i64 c.x)∧(stpRows l)[i*6+1]?=some (.int .i64 c.y)∧(stpRows l)[i*6+2]?=some (.int .i64 c.lo)∧(stpRows l)[i*6+3]?=some (.int .i64 c.hi)∧(stpRows l)[i*6+4]?=some (.int .i64 c.fr)∧(stpRows l)[i*6+5]?=some (.int .i64 c.b)
 | [],i,c,h=>by simp at h
 | a::l,0,c,h=>by simp at h;subst h;simp [stpRows,stpRow]
 | a::l,i+1,c,h=>by
  have:=stpRows_get l i c (by simpa using h)
  rw [show (i+1)*6=i*6+6 by omega]
  simpa [stpRows,stpRow] using this
def StNew (w:World) (B:Nat) (v:Value) (l:List Stp):Prop:=w.ownsRow B 65 6 v l.length (stpRows l)
def StAt (w:World) (v:Value) (l:List Stp):Prop:=∃ a cap,v=.slice a l.length cap∧l.length≤cap∧cap≤maxLen∧∀ i c,l[i]?=some c→∃ g,a=some ⟨g,0,none⟩∧(w.cell? ⟨g,i*6,none⟩=some (.int .i64 c.x)∧w.cell? ⟨g,i*6+1,none⟩=some (.int .i64 c.y)∧w.cell? ⟨g,i*6+2,none⟩=some (.int .i64 c.lo))∧w.cell? ⟨g,i*6+3,none⟩=some (.int .i64 c.hi)∧w.cell? ⟨g,i*6+4,none⟩=some (.int .i64 c.fr)∧w.cell? ⟨g,i*6+5,none⟩=some (.int .i64 c.b)
theorem StNew.at {w:World} {B:Nat} {v:Value} {l:List Stp} (h:StNew w B v l):StAt w v l:=by
 obtain ⟨h1,h2⟩:=h
 rcases h2 with ⟨rfl,h0⟩ | ⟨g,cap,cur,rfl,hB,hb,hn,hc,hs,ht⟩
 ·refine ⟨none,0,by rw [h0],by omega,Nat.zero_le _,fun i t hi=>?_⟩
  have:=(List.getElem?_eq_some_iff.1 hi).1
  omega
 ·refine ⟨_,cap,rfl,hn,hc,fun i t hi=>⟨g,rfl,?_⟩⟩
  have hil:=(List.getElem?_eq_some_iff.1 hi).1;obtain ⟨e0,e1,e2,e3,e4,e5⟩:=stpRows_get l i t hi;rw [← ht] at e0 e1 e2 e3 e4 e5
  rw [List.getElem?_take,if_pos (by omega)] at e0 e1 e2 e3 e4 e5
  simp only [World.cell?,hb,Option.isSome_none,Bool.false_eq_true,if_false]
  exact ⟨⟨by simpa using e0,by simpa using e1,by simpa using e2⟩,by simpa using e3,by simpa using e4,by simpa using e5⟩
theorem StAt.keep {w w':World} {v:Value} {l:List Stp} (h:StAt w v l) (hb:Below w.heap.size w w'):StAt w' v l:=by
 obtain ⟨a,cap,h1,h2,h3,h4⟩:=h;refine ⟨a,cap,h1,h2,h3,fun i t ht=>?_⟩;obtain ⟨g,ha,⟨c0,c1,c2⟩,c3,c4,c5⟩:=h4 i t ht;exact ⟨g,ha,⟨cell_keep hb nlr c0,cell_keep hb nlr c1,cell_keep hb nlr c2⟩,cell_keep hb nlr c3,cell_keep hb nlr c4,cell_keep hb nlr c5⟩
theorem StNew.nil (w:World) (B:Nat):StNew w B (.slice none 0 0) []:=⟨rfl,.inl ⟨rfl,rfl⟩⟩
theorem StNew.snoc {w:World} {B n:Nat} {v:Value} {l:List Stp} {c:Stp} (hn:l.length=n) (h:w.ownsRow B 65 6 v (n+1) (stpRows l++stpRow c)):StNew w B v (l++[c]):=by
 unfold StNew;rw [List.length_append]
 have e:stpRows (l++[c])=stpRows l++stpRow c:=by simp [stpRows]
 rw [e];subst hn;exact h
theorem infoStep:(Tryz.prog.info? 65).map (fun i=>(i.zero,i.size,i.bytes))=some (some (.agg #[.int .i64 0,.int .i64 0,.int .i64 0,.int .i64 0,.int .i64 0,.int .i64 0]),6,48):=by kernel_rfl
end Go.Proofs.YtbjmgglpiakgdaaGreatDoor.Pa
namespace Go.Proofs.YtbjmgglpiakgdaaGreatDoor.Fa
open Go.RowKit Sd Pa
theorem names_ne {l:List Ent} (h:∀ i,i<l.length→ascE l i=true):∀ i j,i<j→j<l.length→(eat l i).name≠(eat l j).name:=by
 have one:∀ i,i+1<l.length→blS (eat l i).name (eat l (i+1)).name=true:=fun i hi=>by
  have:=h (i+1) hi;rw [ascE_succ,geB_bl] at this
  simpa using this
 have lt:∀ i j,i<j→j<l.length→blS (eat l i).name (eat l j).name=true:=by
  intro i j hij
  induction j with
  | zero=>omega
  | succ j ih =>
   intro hj
   by_cases e:i=j
   ·subst e;exact one i hj
   ·exact blS_trans (ih (by omega) (by omega)) (one j hj)
 intro i j hij hj e;have:=lt i j hij hj;rw [e,blS_irrefl] at this
 cases this
theorem eat_get' {l:List Ent} {i:Nat} (h:i<l.length):l[i]?=some (eat l i):=by simp [eat,h]
theorem stand_eat {ks ps:List Tri} {es:List Ent} (h:bookB ks ps es=true) (i:Nat) (hi:i<es.length):standR ks ps es (eat es i).name=bif stB (eat es i).fs then some (eat es i) else none:=by
 have hf:es.find? (fun e=>decide (e.name=(eat es i).name))=some (eat es i):=by
  refine find_at (eat_get' hi) (by simp) fun j y hj hy=>?_
  rw [eat_get' (by omega)] at hy
  injection hy with hy
  rw [← hy];exact decide_eq_false (names_ne (book_asc h) j i hj hi)
 unfold standR;rw [h,hf]
 rfl
theorem said_cons (f:Fld) (r:List Fld) (x:Int):saidB (f::r) x=(decide (f.what=x)||saidB r x):=by
 rw [said_find,said_find];unfold fndV
 by_cases h:f.what=x
 ·rw [List.find?_cons_of_pos (by simp [h])];simp [h]
 ·rw [List.find?_cons_of_neg (by simp [h])];simp [h]
theorem said_no {r:List Fld} {x:Int} (h:∀ g∈r,x<g.what):saidB r x=false:=by
 rw [said_find];unfold fndV
 have:r.find? (fun f=>decide (f.what=x))=none:=by
  rw [List.find?_eq_none];intro y hy;have:=h y hy
  simp;omega
 rw [this]
 rfl
def b1 (b:Bool):Nat:=bif b then 1 else 0
theorem cnt_said:∀ (fs:List Fld),fs.Pairwise (fun a b=>a.what<b.what)→(∀ f∈fs,1≤f.what∧f.what≤5)→cntW fs=b1 (saidB fs 1)+b1 (saidB fs 2)+b1 (saidB fs 3)+b1 (saidB fs 4)
 | [],_,_=>rfl
 | f::r,hp,hw=>by
  obtain ⟨h1,h2⟩:=List.pairwise_cons.1 hp;have ih:=cnt_said r h2 fun g hg=>hw g (List.mem_cons_of_mem _ hg);have hn:=said_no h1;have hf:=hw f (List.mem_cons_self ..)
  have hc:cntW (f::r)=(if f.what<5 then 1 else 0)+cntW r:=by
   unfold cntW
   by_cases h:f.what<5
   ·rw [List.filter_cons_of_pos (by simp [h])];simp [h];omega
   ·rw [List.filter_cons_of_neg (by simp [h])];simp [h]
  rw [hc,ih]
  simp only [said_cons]
  have hcase:f.what=1∨f.what=2∨f.what=3∨f.what=4∨f.what=5:=by omega
  rcases hcase with e | e | e | e | e <;> rw [e] at hn ⊢ <;> simp [b1,hn] <;> omega
theorem any_closed:∀ (fs:List Fld),fs.Pairwise (fun a b=>a.what<b.what)→(∀ f∈fs,1≤f.what∧f.what≤5)→fs.any clB=closedB fs
 | [],_,_=>rfl
 | f::r,hp,hw=>by
  obtain ⟨h1,h2⟩:=List.pairwise_cons.1 hp;have ih:=any_closed r h2 fun g hg=>hw g (List.mem_cons_of_mem _ hg);have hf:=hw f (List.mem_cons_self ..);rw [List.any_cons,ih]
  by_cases h5:f.what=5
  ·have hr:r=[]:=by
    cases r with
    | nil=>rfl
    | cons g r =>
     have:=h1 g (List.mem_cons_self ..);have:=hw g (List.mem_cons_of_mem _ (List.mem_cons_self ..))
     omega
   subst hr;unfold closedB clB
   rw [List.find?_cons_of_pos (by simp [h5])]
   simp [h5]
  ·have:clB f=false:=by
    unfold clB
    have:f.what<5:=by omega
    simp [this]
   rw [this];unfold closedB
   rw [List.find?_cons_of_neg (by simp [h5])]
   rfl
theorem asc_pair {fs:List Fld} (h:AscF fs):fs.Pairwise (fun a b=>a.what<b.what):=by
 rw [List.pairwise_iff_getElem];intro i j hi hj hij;have:=asc_wlt h i j hij hj
 simpa [fat,hi,hj] using this
theorem what_in {ks ps:List Tri} {w:Int} {v:ByteArray} (h:valB2 ks ps w v=true):1≤w∧w≤5:=by
 unfold valB2 at h
 by_cases h1:w=1
 ·omega
 by_cases h2:w=2
 ·omega
 by_cases h3:w=3
 ·omega
 by_cases h4:w=4
 ·omega
 by_cases h5:w=5
 ·omega
 rw [if_neg h1,if_neg h2,if_neg h3,if_neg h4,if_neg h5] at h
 cases h
theorem ws_stB {ks ps:List Tri} {es:List Ent} (h:bookB ks ps es=true) (i:Nat) (hi:i<es.length):wsB (eat es i).fs=stB (eat es i).fs:=by
 have hm:eat es i∈es:=List.mem_of_getElem? (eat_get' hi);have hp:=asc_pair (book_ascF h _ hm);have hw:∀ f∈(eat es i).fs,1≤f.what∧f.what≤5:=fun f hf=>what_in (book_fits h _ hm f hf);unfold wsB stB;rw [any_closed _ hp hw,cnt_said _ hp hw,Bool.and_comm]
 congr 1
 unfold needL b1
 cases h1:saidB (eat es i).fs 1 <;> cases h2:saidB (eat es i).fs 2 <;> cases h3:saidB (eat es i).fs 3 <;> cases h4:saidB (eat es i).fs 4 <;> simp [List.filter,h1,h2,h3,h4]
theorem path_two {ks ps:List Tri} {es:List Ent} (nm:ByteArray) (h:bookB ks ps es=true):((pathR ks ps es nm).c==2)=!(standR ks ps es nm).isSome:=by
 unfold pathR;rw [h]
 simp only [cond_true]
 cases standR ks ps es nm with
 | none=>rfl
 | some e =>
  dsimp only;unfold pathE;generalize cellsOkB ks ps (rtW e)=b;generalize decide (10000<byOf (lastV e.fs 2)+((cellsL ps (rtW e)).length:Int)*(kdOf ks (lastV e.fs 1)).y)=d
  cases b <;> cases d <;> rfl
end Go.Proofs.YtbjmgglpiakgdaaGreatDoor.Fa
namespace Go.Proofs.YtbjmgglpiakgdaaGreatDoor.Sd
open Go.RowKit
attribute [local go_sem] Later.cell Later.frozen
theorem wFlight_same (q : ByteArray) (t : Tri) (x y z : Int) (rt rt' : Value) (l : List ByteArray) (w : World) (h : StrsAt w rt l) (h' : StrsAt w rt' l) (hL : l.length ≤ 1048576) :
    Calls Tryz.prog 17 #[.agg (flC q t x y z rt),.agg (flC q t x y z rt')] w fun e w'=>e=.returned (.bool true)∧Below w.heap.size w w':=by
  obtain ⟨g,off,c,rfl,-,m1,h1⟩:=h;obtain ⟨g',off',c',rfl,-,m2,h2⟩:=h';unfold maxLen at m1 m2;have H1:Hid (∀ i x,l[i]?=some x→w.cell? ⟨g,off+i,none⟩=some (.string x)):=h1;have H2:Hid (∀ i x,l[i]?=some x→w.cell? ⟨g',off'+i,none⟩=some (.string x)):=h2;clear h1 h2;unfold flC
  have HX0:Hid (OwnAt w ((w.alloc (.cells #[.string q,.string t.s,.int .i64 t.x,.int .i64 t.y,.int .i64 x,.int .i64 y,.int .i64 z,.slice (some ⟨g,off,none⟩) l.length c] 47)).alloc (.cells #[.string q,.string t.s,.int .i64 t.x,.int .i64 t.y,.int .i64 x,.int .i64 y,.int .i64 z,.slice (some ⟨g',off',none⟩) l.length c'] 47)) [[.string q,.string t.s,.int .i64 t.x,.int .i64 t.y,.int .i64 x,.int .i64 y,.int .i64 z,.slice (some ⟨g,off,none⟩) l.length c],[.string q,.string t.s,.int .i64 t.x,.int .i64 t.y,.int .i64 x,.int .i64 y,.int .i64 z,.slice (some ⟨g',off',none⟩) l.length c']]):=((OwnAt.start w).push rfl _ _).push (by simp) _ _
  have HZ:Hid (∀ wr:World,OwnAt w wr [[.string q,.string t.s,.int .i64 t.x,.int .i64 t.y,.int .i64 x,.int .i64 y,.int .i64 z,.slice (some ⟨g,off,none⟩) l.length c],[.string q,.string t.s,.int .i64 t.x,.int .i64 t.y,.int .i64 x,.int .i64 y,.int .i64 z,.slice (some ⟨g',off',none⟩) l.length c']]→(wr.cell? ⟨w.heap.size,0,none⟩=some (.string q)∧wr.cell? ⟨w.heap.size,1,none⟩=some (.string t.s)∧wr.cell? ⟨w.heap.size,2,none⟩=some (.int .i64 t.x)∧wr.cell? ⟨w.heap.size,3,none⟩=some (.int .i64 t.y)∧wr.cell? ⟨w.heap.size,4,none⟩=some (.int .i64 x)∧wr.cell? ⟨w.heap.size,5,none⟩=some (.int .i64 y)∧wr.cell? ⟨w.heap.size,6,none⟩=some (.int .i64 z)∧wr.cell? ⟨w.heap.size,7,none⟩=some (.slice (some ⟨g,off,none⟩) l.length c))∧wr.cell? ⟨w.heap.size+1,0,none⟩=some (.string q)∧wr.cell? ⟨w.heap.size+1,1,none⟩=some (.string t.s)∧wr.cell? ⟨w.heap.size+1,2,none⟩=some (.int .i64 t.x)∧wr.cell? ⟨w.heap.size+1,3,none⟩=some (.int .i64 t.y)∧wr.cell? ⟨w.heap.size+1,4,none⟩=some (.int .i64 x)∧wr.cell? ⟨w.heap.size+1,5,none⟩=some (.int .i64 y)∧wr.cell? ⟨w.heap.size+1,6,none⟩=some (.int .i64 z)∧wr.cell? ⟨w.heap.size+1,7,none⟩=some (.slice (some ⟨g',off',none⟩) l.length c')):=fun wr h=>⟨⟨(h.has 0 _ rfl 0 _ rfl).1,(h.has 0 _ rfl 1 _ rfl).1,(h.has 0 _ rfl 2 _ rfl).1,(h.has 0 _ rfl 3 _ rfl).1,(h.has 0 _ rfl 4 _ rfl).1,(h.has 0 _ rfl 5 _ rfl).1,(h.has 0 _ rfl 6 _ rfl).1,(h.has 0 _ rfl 7 _ rfl).1⟩,(h.has 1 _ rfl 0 _ rfl).1,(h.has 1 _ rfl 1 _ rfl).1,(h.has 1 _ rfl 2 _ rfl).1,(h.has 1 _ rfl 3 _ rfl).1,(h.has 1 _ rfl 4 _ rfl).1,(h.has 1 _ rfl 5 _ rfl).1,(h.has 1 _ rfl 6 _ rfl).1,(h.has 1 _ rfl 7 _ rfl).1⟩;obtain ⟨⟨x0,x1,x2,x3,x4,x5,x6,x7⟩,y0,y1,y2,y3,y4,y5,y6,y7⟩:=HZ.out _ HX0.out
  have hq:(q.toList != q.toList)=false:=by simp
  have hx:(x != x)=false:=by simp
  have hy:(y != y)=false:=by simp
  have hz:(z != z)=false:=by simp
  go_enter Tryz.func17,Tryz.ntmps17
  go_wp2_with fail;clear x0 x1 x2 x3 x4 x5 x6 x7 y0 y1 y2 y3 y4 y5 y6 y7 hq hx hy hz;generalize ((w.alloc (.cells #[.string q,.string t.s,.int .i64 t.x,.int .i64 t.y,.int .i64 x,.int .i64 y,.int .i64 z,.slice (some ⟨g,off,none⟩) l.length c] 47)).alloc (.cells #[.string q,.string t.s,.int .i64 t.x,.int .i64 t.y,.int .i64 x,.int .i64 y,.int .i64 z,.slice (some ⟨g',off',none⟩) l.length c'] 47))=w0 at *
  go_loopw [5] (fun i wr=>∃ k:Nat,k≤l.length∧i=.int .i64 k∧Hid (OwnAt w wr [[.string q,.string t.s,.int .i64 t.x,.int .i64 t.y,.int .i64 x,.int .i64 y,.int .i64 z,.slice (some ⟨g,off,none⟩) l.length c],[.string q,.string t.s,.int .i64 t.x,.int .i64 t.y,.int .i64 x,.int .i64 y,.int .i64 z,.slice (some ⟨g',off',none⟩) l.length c']])) (fun i _=>l.length-(intOf i).toNat)
  case atStart=>exact ⟨0,Nat.zero_le _,rfl,HX0.out⟩
  case round =>
    clear HX0;obtain ⟨k,hk,rfl,HX⟩:=hrel;obtain ⟨⟨-,-,-,-,-,-,-,x7⟩,-,-,-,-,-,-,-,y7⟩:=HZ.out _ HX.out;have hxz:w.heap.size<wr.heap.size:=lt_of_cell x7;have hyz:w.heap.size+1<wr.heap.size:=lt_of_cell y7
    by_cases hlt:k<l.length
    · have s0:=cell_keep HX.out.below nlr (H1.out k _ (wat_get hlt))
      have r0:=cell_keep HX.out.below nlr (H2.out k _ (wat_get hlt));generalize wat l k=st at *;have z3:=lt_of_cell s0;have z4:=lt_of_cell r0
      have hk0:(0:Int)≤(k:Int):=by omega
      have hk1:(k:Int)<(l.length:Int):=by omega
      have hne:=Later.some wr;go_wp2_with fail
      first
        | (refine wp_region_later (by kernel_rfl) (by kernel_rfl) ?_
           repeat (go_big_quiet_step (fail))
           refine wpQuiet_nil ?_;rintro _ ⟨x,rfl⟩;have HB2:Hid (OwnAt w x.val _):=HX.out.call x.below;go_wp2
           exact ⟨⟨k+1,by omega,by go_num,HB2⟩,by simp [intOf];omega⟩)
        | exact ⟨⟨k+1,by omega,by go_num,HX⟩,by simp [intOf];omega⟩
    · have hke:k=l.length:=by omega
      subst hke;have HB:Hid (Below w.heap.size w wr):=HX.out.below;go_wp2;go_ret;exact ⟨rfl,HB.out⟩
end Go.Proofs.YtbjmgglpiakgdaaGreatDoor.Sd
