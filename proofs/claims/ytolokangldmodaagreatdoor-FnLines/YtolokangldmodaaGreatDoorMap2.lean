import Derived.Test.YtolokangldmodaaGreatDoorMap1
import Derived.Sort.KeysCollected
namespace Go.Proofs.YtolokangldmodaaGreatDoor
open Go.RowKit
theorem TA{P:Program}{d:Nat}{t:TypeId}{x:Value}{ls:List Lit}(u:P.underlying t=some .string)(h:P.keyLits (d+1) t [x]=some ls):∃f:ByteArray,x=.string f/\f.size<=maxLen/\ls=[.string f.data.toList]:=by
 unfold Program.keyLits at h;rw[u] at h
 cases x<;>simp at h
 rename_i s
 exact⟨s,rfl,h.1,h.2.symm⟩
theorem TC{P:Program}{d:Nat}{t:TypeId}{x:Value}{ls:List Lit}(u:P.underlying t=some (.int .i64))(h:P.keyLits (d+1) t [x]=some ls):∃n:Int,x=.int .i64 n/\(Lit.int .i64 n).wf=true/\ls=[.int .i64 n]:=by
 unfold Program.keyLits at h;rw[u] at h
 cases x<;>simp at h
 rename_i q n
 obtain⟨⟨rfl,hw⟩,rfl⟩:=h;exact⟨n,rfl,hw,rfl⟩
theorem NA{P:Program}{k:TypeId}{f0 f1:Field}(hu:P.underlying k=some (.struct #[f0,f1]))(hc:P.cellsOf k=2)(o0:f0.offset=0)(o1:f1.offset=1)(c0:P.cellsOf f0.type=1)(c1:P.cellsOf f1.type=1)(u0:P.underlying f0.type=some .string)(u1:P.underlying f1.type=some (.int .i64))(hsz:0<P.types.size){v:Value}{l:Lit}(h:keyOf P k v=some l):∃(f:ByteArray) (n:Int),v=.agg #[.string f,.int .i64 n]/\f.size<=maxLen/\(Lit.int .i64 n).wf=true/\l=Ac f n:=by
 obtain⟨m,hm⟩:∃m,P.types.size=m+1:=⟨P.types.size-1,by omega⟩
 unfold keyOf at h;rw[hu] at h
 simp only[] at h
 split at h
 .rename_i hf
  rw[Bool.and_eq_true] at hf;have ab:=hf.2
  cases v<;>simp[Value.formed,hu,hc] at ab
  rename_i cs
  obtain⟨x,y,ad⟩:∃x y,cs=#[x,y]:=by
   match cs,ab with
   |⟨[x,y]⟩,_=>exact⟨x,y,rfl⟩
  subst ad;rw[Option.map_eq_some_iff] at h;obtain⟨ls,h1,rfl⟩:=h;rw[hm] at h1;unfold Program.keyLits at h1;rw[hu] at h1
  simp[Value.cells,hc,o0,o1,c0,c1,List.mapM_cons] at h1
  obtain⟨_,h2⟩:=h1
  cases hx:P.keyLits (m+1) f0.type [x] with
  |none=>rw[hx] at h2;cases h2
  |some l0 =>
   rw[hx] at h2
   cases hy:P.keyLits (m+1) f1.type [y] with
   |none=>rw[hy] at h2;cases h2
   |some l1 =>
    rw[hy] at h2;obtain⟨f,rfl,af,rfl⟩:=TA u0 hx;obtain⟨n,rfl,ae,rfl⟩:=TC u1 hy
    simp at h2
    subst h2;exact⟨f,n,rfl,af,ae,rfl⟩
 .cases h
theorem FQ{v:Value}{l:Lit}(h:keyOf Tryz.prog 299 v=some l):∃(f:ByteArray) (n:Int),v=.agg #[.string f,.int .i64 n]/\f.size<=maxLen/\(Lit.int .i64 n).wf=true/\l=Ac f n :=
 NA Tryz.underlying299 Oc rfl rfl cellsS UN Tryz.underlying9 Tryz.underlying3 sizeP h
theorem kS.has{D:DataW Unit}{S:List eH}(h:∀k:eH,ku k->∀z,D.atKey (Ac k.f k.what) z=match S.find? λa=>fH a k with|some a=>Af (fD a)|none=>z)(k:eH)(hk:ku k):Maps.has D (Ac k.f k.what)=S.any λa=>fH a k:=by
 cases hf:S.find? λa=>fH a k with
 |none =>
  rw[Maps.has_false_of_atKey (λz=>by rw[h k hk z,hf])]
  rw[List.find?_eq_none] at hf
  exact(List.any_eq_false.2 (λa ha=>by simpa using hf a ha)).symm
 |some a =>
  rw[Maps.has_true_of_atKey (y:=Af (fD a)) (λz=>by rw[h k hk z,hf])]
  exact(List.any_eq_true.2 ⟨a,List.mem_of_find?_eq_some hf,List.find?_some (p:=λa=>fH a k) hf⟩).symm
end Go.Proofs.YtolokangldmodaaGreatDoor
