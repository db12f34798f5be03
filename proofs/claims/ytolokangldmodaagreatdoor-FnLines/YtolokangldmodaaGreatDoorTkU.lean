import Derived.Deep.RegionHeld3
import Derived.Test.YtolokangldmodaaGreatDoorTkH

open Option renaming some->I,any_some->J
open Array renaming setIfInBounds_comm->AL,any_eq_true->AN,getElem_mem->AO,replicate->R
open Nat renaming lt_or_ge->AM
namespace Go.Proofs.YtolokangldmodaaGreatDoor
open Go.RowKit
section
variable {P:Program} {md:Region.Mode} {ops:Array Oper} {Q:Exit->Act->World->Prop} {S:World->Prop} {z:Nat}
def jX(P:Program)(md:Region.Mode)(ops:Array Oper)(Q:Exit->Act->World->Prop)(S:World->Prop)(z:Nat):Nat->Array Bool->Act->World->Prop
 |0,listed,a,w=>Region.ready md ops listed=[]/\Q .normal a w
 |fuel+1,listed,a,w =>
  (Region.ready md ops listed=[]->Q .normal a w) /\
  ∀i∈Region.ready md ops listed,wpOp P ops Q i (λa' w'=>(i=z\/S w')/\jX P md ops Q S z fuel (listed.setIfInBounds i true) a' w') a w
theorem uB:∀(fuel:Nat) (listed:Array Bool) (a:Act) (w:World),jX P md ops Q S z fuel listed a w->wpAny P md ops Q fuel listed a w
 |0,_,_,_,h=>h
 |fuel+1,_,_,_,h=>⟨h.1,λi hi=>wpOp_mono (λa' w' h'=>uB fuel _ a' w' h'.2) (h.2 i hi)⟩
def waits(md:Region.Mode)(ops:Array Oper)(z i:Nat):Bool:=(ops[z]?).any λo=>o.after.any λe=>Region.binds md e&&e.on==i
theorem Gm{i:Nat}{oi:Oper}{v:Value}(hi:ops[i]?=I oi)(hsel:∀(j:Nat) (o:Oper) cs b,ops[j]?=I o->o.op≠.select cs b)(hQ:∀c a w,Q (.panic c) (a.put oi.dst v) w->Q (.panic c) a w)(hzi:waits md ops z i=true) :
  ∀(fuel:Nat) (listed:Array Bool) (a:Act) (w:World),
   (∀j oj,ops[j]?=I oj->j≠i->listed.getD j true=false->(∀e∈oj.after,Region.binds md e=true->e.on≠i)->oi.apart ops oj=true) ->
   i∈Region.ready md ops listed->YieldsIf P ops S oi v a->S w ->
   jX P md ops Q S z fuel (listed.setIfInBounds i true) (a.put oi.dst v) w->jX P md ops Q S z (fuel+1) listed a w:=by
 intro fuel
 induction fuel with
 |zero =>
  intro listed a w _ hr hy hS H
  refine⟨λh=>(by rw[h] at hr;cases hr),λj hj=>?_⟩
  by_cases ab:j=i
  .subst ab;exact hy.wpOp hi hS ⟨.inr hS,H⟩
  .have:=ready_mono hj ab
   rw[H.1] at this
   cases this
 |succ fuel ih =>
  intro listed a w ad hr hy hS H
  refine⟨λh=>(by rw[h] at hr;cases hr),λj hj=>?_⟩
  by_cases ab:j=i
  .subst ab;exact hy.wpOp hi hS ⟨.inr hS,H⟩
  .have h1:=H.2 j (ready_mono hj ab)
   obtain⟨af,oj,ak,an⟩:=mem_ready.1 hj
   have ai:∀e∈oj.after,Region.binds md e=true->e.on≠i:=λe he hb heq=>by
    have h1:=an e he hb;have h0:=(mem_ready.1 hr).1;rw[heq] at h1
    rcases AM i listed.size with h'|h'
    .simp [h'] at h0 h1;rw[h0] at h1;cases h1
    .simp [Array.getElem?_eq_none h'] at h1
   have av:j≠z:=λe=>by
    subst e;unfold waits at hzi;rw[ak] at hzi
    simp only[J,AN,Bool.and_eq_true,beq_iff_eq] at hzi
    obtain⟨k,hk,h2,h3⟩:=hzi;exact ai _ (AO hk) h2 h3
   have h2:=wpOp_putIf ak (ad j oj ak ab af ai) (λcs b=>hsel i oi cs b hi) (λcs b=>hsel j oj cs b ak) hQ hy h1
   have ae:∀k ok,ops[k]?=I ok->k≠i->(listed.setIfInBounds j true).getD k true=false ->
     (∀e∈ok.after,Region.binds md e=true->e.on≠i)->oi.apart ops ok=true:=λk ok hk ba au aT=>by
    refine ad k ok hk ba ?_ aT
    by_cases ax:j=k
    .subst ax;exact af
    .rw [getD_set_ne true ax] at au;exact au
   refine wpOp_mono (λa' w' h3=>?_) h2;have ay:S w':=h3.2.1.resolve_left av;refine⟨.inr ay,ih (listed.setIfInBounds j true) a' w' ae (ready_mono hr (Ne.symm ab)) h3.1 ay ?_⟩;rw[AL _ _ ab];exact h3.2.2
theorem zi{i:Nat}{oi:Oper}{v:Value}{fuel:Nat}{listed:Array Bool}{a:Act}{w:World}(hi:ops[i]?=I oi)(hs:Region.noSelect ops=true)(hf:Region.free md ops listed i=true)(hr:(Region.ready md ops listed).contains i=true)(hzi:waits md ops z i=true)(hQ:∀c a w,Q (.panic c) (a.put oi.dst v) w->Q (.panic c) a w)(hy:YieldsIf P ops S oi v a)(hS:S w)(h:jX P md ops Q S z fuel (listed.setIfInBounds i true) (a.put oi.dst v) w):jX P md ops Q S z (fuel+1) listed a w :=
 Gm hi (Region.noSelect_spec hs) hQ hzi fuel listed a w (Region.free_spec hi hf) (by simpa using hr) hy hS h
def eB(P:Program)(md:Region.Mode)(ops:Array Oper)(Q:Exit->Act->World->Prop)(S:World->Prop)(z:Nat)(fuel:Nat)(listed:Array Bool)(a:Act)(w:World)(rs:List Nat):Prop :=
 ∀i∈rs,wpOp P ops Q i (λa' w'=>(i=z\/S w')/\jX P md ops Q S z fuel (listed.setIfInBounds i true) a' w') a w
theorem eB.nil{fuel:Nat}{listed:Array Bool}{a:Act}{w:World}:eB P md ops Q S z fuel listed a w []:=λ_ h=>by cases h
theorem eB.cons{fuel:Nat}{listed:Array Bool}{a:Act}{w:World}{i:Nat}{o:Oper}{rs:List Nat}(ho:ops[i]?=I o)(h:∀K':Act->World->Prop,Shut (∀a w,(i=z\/S w)->jX P md ops Q S z fuel (listed.setIfInBounds i true) a w->K' a w)->if Region.wanted o (yielded ops a.tmps)=true then Oper.wp P o a w K' Q else K' (a.put o.dst undef) w)(hs:eB P md ops Q S z fuel listed a w rs):eB P md ops Q S z fuel listed a w (i::rs):=λj hj=>by
 rcases List.mem_cons.1 hj with rfl|hj
 .exact wpOp_step ho (λK' hK=>h K' (λa w hS hW=>hK a w ⟨hS,hW⟩))
 .exact hs j hj
theorem bX{rs:List Nat}{fuel:Nat}{listed:Array Bool}{a:Act}{w:World}(hr:Region.ready md ops listed=rs)(hne:rs≠[])(h:eB P md ops Q S z fuel listed a w rs):jX P md ops Q S z (fuel+1) listed a w:=⟨λh0=>absurd (hr▸h0) hne,hr▸h⟩
theorem cm{listed:Array Bool}{a:Act}{w:World}(hr:Region.ready md ops listed=[])(h:Q .normal a w) :
  ∀fuel,jX P md ops Q S z fuel listed a w
 |0=>⟨hr,h⟩
 |_+1=>⟨λ_=>h,by rw[hr];simp⟩
theorem bH{id:Nat}{a:Act}{w:World}(z:Nat)(hm:P.follows .mixedOrders=true)(hS:S w.drew)(h:S w.drew->jX P .any ops Q S z ops.size (R ops.size false) a w.drew):(Code.region id ops true).wp P Q a w :=
 wp_region_any hm (uB _ _ _ _ (h hS))
end
end Go.Proofs.YtolokangldmodaaGreatDoor
namespace Go.Proofs.YtolokangldmodaaGreatDoor
open Go.RowKit
section
variable {P:Program} {md:Region.Mode} {ops:Array Oper} {Q:Exit->Act->World->Prop} {S:World->Prop} {z:Nat}
theorem lq(i : Nat)(v : Value){oi : Oper}{fuel : Nat}{listed : Array Bool}{a : Act}{w : World}(hi : ops[i]? = I oi)(hy:∀w,S w->(execOp a.eval oi).run P w=.ok (.value v) w)(h:jX P md ops Q S z fuel (listed.setIfInBounds i true) (a.put oi.dst v) w)(hs:Region.noSelect ops=true:=by kernel_rfl)(hf:Region.free md ops listed i=true:=by kernel_rfl)(hr:(Region.ready md ops listed).contains i=true:=by kernel_rfl)(hzi:waits md ops z i=true:=by kernel_rfl)(hQ:∀c a w,Q (.panic c) (a.put oi.dst v) w->Q (.panic c) a w:=by exact λ_ _ _ h=>h)(hw:Region.wanted oi (yielded ops a.tmps)=true:=by rfl)(hS:S w:=by assumption):jX P md ops Q S z (fuel+1) listed a w :=
  zi hi hs hf hr hzi hQ (.inl ⟨hw,hy⟩) hS h
theorem lV(i : Nat){o : Oper}{fuel : Nat}{listed : Array Bool}{a : Act}{w : World}(h:∀K':Act->World->Prop,Shut (∀a w,(i=z\/S w)->jX P md ops Q S z fuel (listed.setIfInBounds i true) a w->K' a w)->if Region.wanted o (yielded ops a.tmps)=true then Oper.wp P o a w K' Q else K' (a.put o.dst undef) w)(ho:ops[i]?=I o:=by rfl)(hr:Region.ready md ops listed=[i]:=by kernel_rfl):jX P md ops Q S z (fuel+1) listed a w :=
  bX hr (by simp) (eB.cons ho h eB.nil)
theorem oM(i : Nat){v : Value}{oi : Oper}{fuel : Nat}{listed : Array Bool}{a : Act}{w : World}(h:jX P md ops Q S z fuel (listed.setIfInBounds i true) (a.put oi.dst v) w)(hi:ops[i]?=I oi:=by rfl)(hy:∀w,S w->(execOp a.eval oi).run P w=.ok (.value v) w:=by intro w bP;(try dsimp only at bP);(try simp only[Act.put,aK]);go_simp;try with_reducible rfl)(hs:Region.noSelect ops=true:=by kernel_rfl)(hf:Region.free md ops listed i=true:=by kernel_rfl)(hr:(Region.ready md ops listed).contains i=true:=by kernel_rfl)(hzi:waits md ops z i=true:=by kernel_rfl)(hQ:∀c a w,Q (.panic c) (a.put oi.dst v) w->Q (.panic c) a w:=by exact λ_ _ _ h=>h)(hw:Region.wanted oi (yielded ops a.tmps)=true:=by rfl)(hS:S w:=by assumption):jX P md ops Q S z (fuel+1) listed a w :=
  zi hi hs hf hr hzi hQ (.inl ⟨hw,hy⟩) hS h
end
end Go.Proofs.YtolokangldmodaaGreatDoor
namespace Go.Proofs.YtolokangldmodaaGreatDoor
open Go.RowKit
section
variable {P:Program} {md:Region.Mode} {ops:Array Oper} {Q:Exit->Act->World->Prop} {S:World->Prop} {z:Nat}
def jN(P:Program)(md:Region.Mode)(ops:Array Oper)(Q:Exit->Act->World->Prop)(S:World->Prop)(z:Nat):Nat->Array Bool->Act->World->Prop
 |0,listed,a,w=>Region.ready md ops listed=[]/\Q .normal a w
 |fuel+1,listed,a,w =>
  (Region.ready md ops listed=[]->Q .normal a w) /\
  ∀i∈Region.ready md ops listed,wpOp P ops Q i (λa' w'=>(i=z\/listed.getD z true=true\/S w')/\jN P md ops Q S z fuel (listed.setIfInBounds i true) a' w') a w
theorem vL:∀(fuel:Nat) (listed:Array Bool) (a:Act) (w:World),jN P md ops Q S z fuel listed a w->wpAny P md ops Q fuel listed a w
 |0,_,_,_,h=>h
 |fuel+1,_,_,_,h=>⟨h.1,λi hi=>wpOp_mono (λa' w' h'=>vL fuel _ a' w' h'.2) (h.2 i hi)⟩
theorem Jc{i:Nat}{oi:Oper}{v:Value}(hi:ops[i]?=I oi)(hsel:∀(j:Nat) (o:Oper) cs b,ops[j]?=I o->o.op≠.select cs b)(hQ:∀c a w,Q (.panic c) (a.put oi.dst v) w->Q (.panic c) a w)(hzi:waits md ops z i=true) :
  ∀(fuel:Nat) (listed:Array Bool) (a:Act) (w:World),
   (∀j oj,ops[j]?=I oj->j≠i->listed.getD j true=false->(∀e∈oj.after,Region.binds md e=true->e.on≠i)->oi.apart ops oj=true) ->
   i∈Region.ready md ops listed->listed.getD z true=false->YieldsIf P ops S oi v a->S w ->
   jN P md ops Q S z fuel (listed.setIfInBounds i true) (a.put oi.dst v) w->jN P md ops Q S z (fuel+1) listed a w:=by
 intro fuel
 induction fuel with
 |zero =>
  intro listed a w _ hr hz hy hS H
  refine⟨λh=>(by rw[h] at hr;cases hr),λj hj=>?_⟩
  by_cases ab:j=i
  .subst ab;exact hy.wpOp hi hS ⟨.inr (.inr hS),H⟩
  .have:=ready_mono hj ab
   rw[H.1] at this
   cases this
 |succ fuel ih =>
  intro listed a w ad hr hz hy hS H
  refine⟨λh=>(by rw[h] at hr;cases hr),λj hj=>?_⟩
  by_cases ab:j=i
  .subst ab;exact hy.wpOp hi hS ⟨.inr (.inr hS),H⟩
  .have h1:=H.2 j (ready_mono hj ab)
   obtain⟨af,oj,ak,an⟩:=mem_ready.1 hj
   have ai:∀e∈oj.after,Region.binds md e=true->e.on≠i:=λe he hb heq=>by
    have h1:=an e he hb;have h0:=(mem_ready.1 hr).1;rw[heq] at h1
    rcases AM i listed.size with h'|h'
    .simp [h'] at h0 h1;rw[h0] at h1;cases h1
    .simp [Array.getElem?_eq_none h'] at h1
   have av:j≠z:=λe=>by
    subst e;unfold waits at hzi;rw[ak] at hzi
    simp only[J,AN,Bool.and_eq_true,beq_iff_eq] at hzi
    obtain⟨k,hk,h2,h3⟩:=hzi;exact ai _ (AO hk) h2 h3
   have ao:i≠z:=λe=>by
    subst e;unfold waits at hzi;rw[hi] at hzi
    simp only[J,AN,Bool.and_eq_true,beq_iff_eq] at hzi
    obtain⟨k,hk,h2,h3⟩:=hzi;obtain⟨bb,oi',aL,bn⟩:=mem_ready.1 hr;rw[hi] at aL
    cases aL
    have h4:=bn _ (AO hk) h2;rw[h3] at h4
    rcases AM i listed.size with h'|h'
    .simp [h'] at bb h4;rw[bb] at h4;cases h4
    .simp [Array.getElem?_eq_none h'] at h4
   have h2:=wpOp_putIf ak (ad j oj ak ab af ai) (λcs b=>hsel i oi cs b hi) (λcs b=>hsel j oj cs b ak) hQ hy h1
   have ae:∀k ok,ops[k]?=I ok->k≠i->(listed.setIfInBounds j true).getD k true=false ->
     (∀e∈ok.after,Region.binds md e=true->e.on≠i)->oi.apart ops ok=true:=λk ok hk ba au aT=>by
    refine ad k ok hk ba ?_ aT
    by_cases ax:j=k
    .subst ax;exact af
    .rw [getD_set_ne true ax] at au;exact au
   have bV:(listed.setIfInBounds j true).getD z true=false:=by rw[getD_set_ne true av];exact hz
   refine wpOp_mono (λa' w' h3=>?_) h2
   have ay:S w':=by
    rcases h3.2.1 with h4|h4|h4
    .exact absurd h4 av
    .rw [getD_set_ne true ao,hz] at h4;cases h4
    .exact h4
   refine⟨.inr (.inr ay),ih (listed.setIfInBounds j true) a' w' ae (ready_mono hr (Ne.symm ab)) bV h3.1 ay ?_⟩;rw[AL _ _ ab];exact h3.2.2
theorem MC{i:Nat}{oi:Oper}{v:Value}(hi:ops[i]?=I oi)(hsel:∀(j:Nat) (o:Oper) cs b,ops[j]?=I o->o.op≠.select cs b)(hQ:∀c a w,Q (.panic c) (a.put oi.dst v) w->Q (.panic c) a w)(ao:i≠z) :
  ∀(fuel:Nat) (listed:Array Bool) (a:Act) (w:World),
   (∀j oj,ops[j]?=I oj->j≠i->listed.getD j true=false->(∀e∈oj.after,Region.binds md e=true->e.on≠i)->oi.apart ops oj=true) ->
   i∈Region.ready md ops listed->YieldsIf P ops (λ_=>True) oi v a->(listed.getD z true=true\/S w) ->
   jN P md ops Q S z fuel (listed.setIfInBounds i true) (a.put oi.dst v) w->jN P md ops Q S z (fuel+1) listed a w:=by
 intro fuel
 induction fuel with
 |zero =>
  intro listed a w _ hr hy hS H
  refine⟨λh=>(by rw[h] at hr;cases hr),λj hj=>?_⟩
  by_cases ab:j=i
  .subst ab;exact hy.wpOp hi trivial ⟨.inr hS,H⟩
  .have:=ready_mono hj ab
   rw[H.1] at this
   cases this
 |succ fuel ih =>
  intro listed a w ad hr hy hS H
  refine⟨λh=>(by rw[h] at hr;cases hr),λj hj=>?_⟩
  by_cases ab:j=i
  .subst ab;exact hy.wpOp hi trivial ⟨.inr hS,H⟩
  .have h1:=H.2 j (ready_mono hj ab)
   obtain⟨af,oj,ak,an⟩:=mem_ready.1 hj
   have ai:∀e∈oj.after,Region.binds md e=true->e.on≠i:=λe he hb heq=>by
    have h1:=an e he hb;have h0:=(mem_ready.1 hr).1;rw[heq] at h1
    rcases AM i listed.size with h'|h'
    .simp [h'] at h0 h1;rw[h0] at h1;cases h1
    .simp [Array.getElem?_eq_none h'] at h1
   have h2:=wpOp_putIf ak (ad j oj ak ab af ai) (λcs b=>hsel i oi cs b hi) (λcs b=>hsel j oj cs b ak) hQ hy h1
   have ae:∀k ok,ops[k]?=I ok->k≠i->(listed.setIfInBounds j true).getD k true=false ->
     (∀e∈ok.after,Region.binds md e=true->e.on≠i)->oi.apart ops ok=true:=λk ok hk ba au aT=>by
    refine ad k ok hk ba ?_ aT
    by_cases ax:j=k
    .subst ax;exact af
    .rw [getD_set_ne true ax] at au;exact au
   refine wpOp_mono (λa' w' h3=>?_) h2
   have hC:j=z\/listed.getD z true=true\/S w':=by
    rcases h3.2.1 with h4|h4|h4
    .exact .inl h4
    .rw [getD_set_ne true ao] at h4;exact .inr (.inl h4)
    .exact .inr (.inr h4)
   have ay:(listed.setIfInBounds j true).getD z true=true\/S w':=by
    by_cases av:j=z
    .subst av
     refine .inl ?_
     rcases AM j listed.size with h'|h'
     .simp [h']
     .simp [h']
    .rw [getD_set_ne true av]
     rcases hC with h4|h4
     .exact absurd h4 av
     .exact h4
   refine⟨hC,ih (listed.setIfInBounds j true) a' w' ae (ready_mono hr (Ne.symm ab)) h3.1 ay ?_⟩;rw[AL _ _ ab];exact h3.2.2
theorem AQ{i:Nat}{oi:Oper}{v:Value}{fuel:Nat}{listed:Array Bool}{a:Act}{w:World}(hi:ops[i]?=I oi)(hs:Region.noSelect ops=true)(hf:Region.free md ops listed i=true)(hr:(Region.ready md ops listed).contains i=true)(hzi:waits md ops z i=true)(hz:listed.getD z true=false)(hQ:∀c a w,Q (.panic c) (a.put oi.dst v) w->Q (.panic c) a w)(hy:YieldsIf P ops S oi v a)(hS:S w)(h:jN P md ops Q S z fuel (listed.setIfInBounds i true) (a.put oi.dst v) w):jN P md ops Q S z (fuel+1) listed a w :=
 Jc hi (Region.noSelect_spec hs) hQ hzi fuel listed a w (Region.free_spec hi hf) (by simpa using hr) hz hy hS h
theorem AR{i:Nat}{oi:Oper}{v:Value}{fuel:Nat}{listed:Array Bool}{a:Act}{w:World}(hi:ops[i]?=I oi)(hs:Region.noSelect ops=true)(hf:Region.free md ops listed i=true)(hr:(Region.ready md ops listed).contains i=true)(ao:(i != z)=true)(hQ:∀c a w,Q (.panic c) (a.put oi.dst v) w->Q (.panic c) a w)(hy:YieldsIf P ops (λ_=>True) oi v a)(hS:S w)(h:jN P md ops Q S z fuel (listed.setIfInBounds i true) (a.put oi.dst v) w):jN P md ops Q S z (fuel+1) listed a w :=
 MC hi (Region.noSelect_spec hs) hQ (by simpa using ao) fuel listed a w (Region.free_spec hi hf) (by simpa using hr) hy (.inr hS) h
def kU(P:Program)(md:Region.Mode)(ops:Array Oper)(Q:Exit->Act->World->Prop)(S:World->Prop)(z:Nat)(fuel:Nat)(listed:Array Bool)(a:Act)(w:World)(rs:List Nat):Prop :=
 ∀i∈rs,wpOp P ops Q i (λa' w'=>(i=z\/listed.getD z true=true\/S w')/\jN P md ops Q S z fuel (listed.setIfInBounds i true) a' w') a w
theorem kU.nil{fuel:Nat}{listed:Array Bool}{a:Act}{w:World}:kU P md ops Q S z fuel listed a w []:=λ_ h=>by cases h
theorem kU.cons{fuel:Nat}{listed:Array Bool}{a:Act}{w:World}{i:Nat}{o:Oper}{rs:List Nat}(ho:ops[i]?=I o)(h:∀K':Act->World->Prop,Shut (∀a w,(i=z\/listed.getD z true=true\/S w)->jN P md ops Q S z fuel (listed.setIfInBounds i true) a w->K' a w)->if Region.wanted o (yielded ops a.tmps)=true then Oper.wp P o a w K' Q else K' (a.put o.dst undef) w)(hs:kU P md ops Q S z fuel listed a w rs):kU P md ops Q S z fuel listed a w (i::rs):=λj hj=>by
 rcases List.mem_cons.1 hj with rfl|hj
 .exact wpOp_step ho (λK' hK=>h K' (λa w hS hW=>hK a w ⟨hS,hW⟩))
 .exact hs j hj
theorem Jb{rs:List Nat}{fuel:Nat}{listed:Array Bool}{a:Act}{w:World}(hr:Region.ready md ops listed=rs)(hne:rs≠[])(h:kU P md ops Q S z fuel listed a w rs):jN P md ops Q S z (fuel+1) listed a w:=⟨λh0=>absurd (hr▸h0) hne,hr▸h⟩
theorem uM{listed:Array Bool}{a:Act}{w:World}(hr:Region.ready md ops listed=[])(h:Q .normal a w) :
  ∀fuel,jN P md ops Q S z fuel listed a w
 |0=>⟨hr,h⟩
 |_+1=>⟨λ_=>h,by rw[hr];simp⟩
theorem oz{id:Nat}{a:Act}{w:World}(z:Nat)(hm:P.follows .mixedOrders=true)(hS:S w.drew)(h:S w.drew->jN P .any ops Q S z ops.size (R ops.size false) a w.drew):(Code.region id ops true).wp P Q a w :=
 wp_region_any hm (vL _ _ _ _ (h hS))
end
end Go.Proofs.YtolokangldmodaaGreatDoor
namespace Go.Proofs.YtolokangldmodaaGreatDoor
open Go.RowKit
section
variable {P:Program} {md:Region.Mode} {ops:Array Oper} {Q:Exit->Act->World->Prop} {S:World->Prop} {z:Nat}
theorem Gq(i : Nat)(v : Value){oi : Oper}{fuel : Nat}{listed : Array Bool}{a : Act}{w : World}(hi : ops[i]? = I oi)(hy:∀w,S w->(execOp a.eval oi).run P w=.ok (.value v) w)(h:jN P md ops Q S z fuel (listed.setIfInBounds i true) (a.put oi.dst v) w)(hs:Region.noSelect ops=true:=by kernel_rfl)(hf:Region.free md ops listed i=true:=by kernel_rfl)(hr:(Region.ready md ops listed).contains i=true:=by kernel_rfl)(hzi:waits md ops z i=true:=by kernel_rfl)(hz:listed.getD z true=false:=by kernel_rfl)(hQ:∀c a w,Q (.panic c) (a.put oi.dst v) w->Q (.panic c) a w:=by exact λ_ _ _ h=>h)(hw:Region.wanted oi (yielded ops a.tmps)=true:=by rfl)(hS:S w:=by assumption):jN P md ops Q S z (fuel+1) listed a w :=
  AQ hi hs hf hr hzi hz hQ (.inl ⟨hw,hy⟩) hS h
theorem tkP(i : Nat)(v : Value){oi : Oper}{fuel : Nat}{listed : Array Bool}{a : Act}{w : World}(hi : ops[i]? = I oi)(hy:∀w,(λ_=>True) w->(execOp a.eval oi).run P w=.ok (.value v) w)(h:jN P md ops Q S z fuel (listed.setIfInBounds i true) (a.put oi.dst v) w)(hs:Region.noSelect ops=true:=by kernel_rfl)(hf:Region.free md ops listed i=true:=by kernel_rfl)(hr:(Region.ready md ops listed).contains i=true:=by kernel_rfl)(ao:(i != z)=true:=by kernel_rfl)(hQ:∀c a w,Q (.panic c) (a.put oi.dst v) w->Q (.panic c) a w:=by exact λ_ _ _ h=>h)(hw:Region.wanted oi (yielded ops a.tmps)=true:=by rfl)(hS:S w:=by assumption):jN P md ops Q S z (fuel+1) listed a w :=
  AR hi hs hf hr ao hQ (.inl ⟨hw,hy⟩) hS h
theorem rdU(i : Nat){o : Oper}{fuel : Nat}{listed : Array Bool}{a : Act}{w : World}(h:∀K':Act->World->Prop,Shut (∀a w,(i=z\/listed.getD z true=true\/S w)->jN P md ops Q S z fuel (listed.setIfInBounds i true) a w->K' a w)->if Region.wanted o (yielded ops a.tmps)=true then Oper.wp P o a w K' Q else K' (a.put o.dst undef) w)(ho:ops[i]?=I o:=by rfl)(hr:Region.ready md ops listed=[i]:=by kernel_rfl):jN P md ops Q S z (fuel+1) listed a w :=
  Jb hr (by simp) (kU.cons ho h kU.nil)
theorem tqU(i : Nat){v : Value}{oi : Oper}{fuel : Nat}{listed : Array Bool}{a : Act}{w : World}(h:jN P md ops Q S z fuel (listed.setIfInBounds i true) (a.put oi.dst v) w)(hi:ops[i]?=I oi:=by rfl)(hy:∀w,S w->(execOp a.eval oi).run P w=.ok (.value v) w:=by intro w bP;(try dsimp only at bP);(try simp only[Act.put,aK]);go_simp;try with_reducible rfl)(hs:Region.noSelect ops=true:=by kernel_rfl)(hf:Region.free md ops listed i=true:=by kernel_rfl)(hr:(Region.ready md ops listed).contains i=true:=by kernel_rfl)(hzi:waits md ops z i=true:=by kernel_rfl)(hz:listed.getD z true=false:=by kernel_rfl)(hQ:∀c a w,Q (.panic c) (a.put oi.dst v) w->Q (.panic c) a w:=by exact λ_ _ _ h=>h)(hw:Region.wanted oi (yielded ops a.tmps)=true:=by rfl)(hS:S w:=by assumption):jN P md ops Q S z (fuel+1) listed a w :=
  AQ hi hs hf hr hzi hz hQ (.inl ⟨hw,hy⟩) hS h
theorem tqP(i : Nat){v : Value}{oi : Oper}{fuel : Nat}{listed : Array Bool}{a : Act}{w : World}(h:jN P md ops Q S z fuel (listed.setIfInBounds i true) (a.put oi.dst v) w)(hi:ops[i]?=I oi:=by rfl)(hy:∀w,(λ_=>True) w->(execOp a.eval oi).run P w=.ok (.value v) w:=by intro w bP;(try dsimp only at bP);(try simp only[Act.put,aK]);go_simp;try with_reducible rfl)(hs:Region.noSelect ops=true:=by kernel_rfl)(hf:Region.free md ops listed i=true:=by kernel_rfl)(hr:(Region.ready md ops listed).contains i=true:=by kernel_rfl)(ao:(i != z)=true:=by kernel_rfl)(hQ:∀c a w,Q (.panic c) (a.put oi.dst v) w->Q (.panic c) a w:=by exact λ_ _ _ h=>h)(hw:Region.wanted oi (yielded ops a.tmps)=true:=by rfl)(hS:S w:=by assumption):jN P md ops Q S z (fuel+1) listed a w :=
  AR hi hs hf hr ao hQ (.inl ⟨hw,hy⟩) hS h
end
end Go.Proofs.YtolokangldmodaaGreatDoor
