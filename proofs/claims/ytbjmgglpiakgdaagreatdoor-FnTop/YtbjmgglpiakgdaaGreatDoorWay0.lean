import Derived.WalkKit
namespace Go.Proofs.YtbjmgglpiakgdaaGreatDoor
open Go.RowKit
set_option linter.unusedVariables false
structure Cel where
 x:Int
 y:Int
deriving DecidableEq
def partW (f t k n:Int):Int:=(2*(f*n+(t-f)*k)+n) / (2*n)
theorem partW_pos (f t k n:Int) (hf:0≤f) (ht:0≤t) (hk:0≤k) (hkn:k≤n):0≤2*(f*n+(t-f)*k)+n:=by
 have h1:0≤f*(n-k):=Int.mul_nonneg hf (by omega)
 have h2:0≤t*k:=Int.mul_nonneg ht hk
 have e:f*n+(t-f)*k=f*(n-k)+t*k:=by
  rw [Int.mul_sub,Int.sub_mul];omega
 omega
theorem partW_tdiv (f t k n:Int) (hf:0≤f) (ht:0≤t) (hk:0≤k) (hkn:k≤n):(2*(f*n+(t-f)*k)+n).tdiv (2*n)=partW f t k n :=
 Int.tdiv_eq_ediv_of_nonneg (partW_pos f t k n hf ht hk hkn)
def absI (n:Int):Int:=if n<0 then -n else n
def maxI (a b:Int):Int:=if a > b then a else b
def minI (a b:Int):Int:=if a<b then a else b
def legN (a b:Cel):Int:=maxI (absI (a.x-b.x)) (absI (a.y-b.y))
theorem legN_nonneg (a b:Cel):0≤legN a b:=by unfold legN maxI absI;split <;> split <;> split <;> omega
theorem legN_comm (a b:Cel):legN a b=legN b a:=by
 unfold legN maxI absI
 split <;> split <;> split <;> split <;> split <;> split <;> omega
def lesser (a b:Cel):Bool:=if a.x=b.x then decide (a.y<b.y) else decide (a.x<b.x)
def celW (a b:Cel) (k:Int):Cel:=⟨partW a.x b.x k (legN a b),partW a.y b.y k (legN a b)⟩
def celI (a b:Cel) (g:Nat):Cel:=bif lesser a b then celW a b ((g:Int)+1) else celW b a (legN a b-((g:Int)+1))
def legI (a b:Cel):List Cel:=(List.range (legN a b).toNat).map (celI a b)
theorem legI_len (a b:Cel):(legI a b).length=(legN a b).toNat:=by simp [legI]
def along:List Cel→List Cel
 | []=>[]
 | [a]=>[a]
 | a::b::r=>a::(legI a b++(along (b::r)).drop 1)
def alongTo (t:Nat→Cel):Nat→List Cel
 | 0=>[]
 | 1=>[t 0]
 | i+2=>alongTo t (i+1)++legI (t i) (t (i+1))
def levelsL (n l:Int):List Int:=bif decide (1≤n∧n≤40∧1≤l∧l≤6) then (List.range n.toNat).map fun (k:Nat)=>minI l (minI (k:Int) (n-1-(k:Int))) else []
end Go.Proofs.YtbjmgglpiakgdaaGreatDoor
