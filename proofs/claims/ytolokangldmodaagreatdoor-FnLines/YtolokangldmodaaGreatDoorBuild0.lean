import Derived.Test.YtolokangldmodaaGreatDoorDec2
import Derived.Test.YtolokangldmodaaGreatDoorShelf2
set_option maxRecDepth 100000
set_option maxHeartbeats 2000000
open Go.Value renaming pointer->R
open Option renaming none->I,some->J
open Go.Proofs.Tryz
namespace Go.Proofs.YtolokangldmodaaGreatDoor
open Go.RowKit
set_option linter.unusedSimpArgs false
set_option linter.unusedVariables false
theorem OG:(prog.info? 62).map (·.size)=J 2:=by kernel_rfl
theorem liesBld:liesAt prog prog.depth 62 (2 / prog.cellsOf 62) 0 62 1=true:=by kernel_rfl
theorem infoU8:(prog.info? 5).map (λi=>(i.zero,i.size,i.bytes))=J (J (.int .u8 0),1,1):=by kernel_rfl
theorem Dh(b:Nat)(w:World)(h0:w.cell? ⟨b,0,I⟩=J (R (J ⟨b,0,I⟩))) :
  Rs 47 #[R (J ⟨b,0,I⟩)] w (.tuple #[]):=by
 obtain⟨j,hj,_⟩:=Option.map_eq_some_iff.1 OG
 go_enter func47,ntmps47
 go_wp2;rw[Lib.run_neq_ptr_same w _ underlying60 hj];go_wp2
 go_end0
 exact⟨rfl,rfl⟩
theorem Ah(b:Nat)(w:World)(h0:w.cell? ⟨b,0,I⟩=J (R I))(hsh:w.shape? b=J (62,2))(hfz:w.frozen? ⟨b,0,I⟩=false) :
  Calls prog 47 #[R (J ⟨b,0,I⟩)] w λe w'=>e=.returned (.tuple #[])/\w'=w.setCell ⟨b,0,I⟩ (R (J ⟨b,0,I⟩)):=by
 obtain⟨j,hj,bn⟩:=Option.map_eq_some_iff.1 OG
 go_enter func47,ntmps47
 go_wp2
 rw[Lib.run_to_unsafe w ⟨b,0,I⟩ underlying60 underlying147 hj (by rw[bn];decide) hsh (Nat.zero_lt_succ 1)]
 simp only[Result.andThen]
 rw[Oper.upon_value];go_wp2
 rw[run_callFunc_extern func77 (by kernel_rfl) (by kernel_rfl) (by kernel_rfl) (e:=Extern.AbiNoEscape.same) (by kernel_rfl)]
 rw[Lib.run_noEscape]
 simp only[Result.andThen]
 rw[Oper.upon_value];go_wp2;rw[Lib.run_from_unsafe w ⟨b,0,I⟩ underlying147 underlying60 hj hsh liesBld]
 simp only[Result.andThen]
 rw[Oper.upon_value];go_wp2
 go_end0
 exact⟨rfl,rfl⟩
theorem EA(B b:Nat)(bs:List Value)(w:World)(h:Lib.IsBuilder 62 5 B b bs w) :
  Calls prog 47 #[R (J ⟨b,0,I⟩)] w λe w'=>e=.returned (.tuple #[])/\(Lib.BuilderAt 62 5 B b (R (J ⟨b,0,I⟩)) bs w'/\Below B w w'):=by
 rcases h with h|h
 .refine (Ah b w h.cell0 h.shape h.frozen0).mono ?_
  rintro e w'⟨rfl,rfl⟩;exact⟨rfl,h.used _,(Below.refl B w).setCell (p:=⟨b,0,I⟩) h.1 _⟩
 .refine (Dh b w h.cell0).mono ?_
  rintro e w'⟨rfl,rfl⟩;exact⟨rfl,h,Below.refl B _⟩
theorem qO(B b:Nat)(bs:List Value)(s:ByteArray)(w:World)(h:Lib.IsBuilder 62 5 B b bs w)(hlen:bs.length+s.size<=140737488355328)(hBw:B<=w.heap.size) :
  Calls prog 27 #[R (J ⟨b,0,I⟩),.string s] w λe w'=>e=.returned (.tuple #[.int .i64 s.size,.nilIface])/\(Lib.BuilderAt 62 5 B b (R (J ⟨b,0,I⟩)) (bs++Lib.strCells s) w'/\Below B w w'):=by
 obtain⟨i0,hi,ay,ax,au⟩:=info_parts infoU8
 go_enter func27,ntmps27
 go_wp2_with fail;refine(EA B b bs _ h).mono ?_;rintro e w1⟨rfl,h1,an⟩;obtain⟨hB,v,ae,ai,ba⟩:=h1
 have c0:w1.cell? ⟨b,0,I⟩=J (R (J ⟨b,0,I⟩)):=by rw[Lib.cell_of_heap ae];rfl
 have c1:w1.cell? ⟨b,1,I⟩=J v:=by rw[Lib.cell_of_heap ae];rfl
 have av:=an.size;have bb:b<w1.heap.size:=(Array.getElem?_eq_some_iff.1 ae).1;have bP:Hid (Below B w w1):=an;have ak:Hid (w1.ownsRow B 5 1 v bs.length bs/\v.ownBlock≠J b):=⟨ai,ba⟩
 go_upto_region 3 with(at_builtin;go_loud (refine Lib.wpList_append_own_string _ rfl _ _ 22 9 rfl B 5 i0 underlying22 underlying9 hi ay ax au v bs.length bs rfl ak.out.1 s rfl (by unfold maxLen;omega) hlen (by omega) ?_);intro v' w2 ab ad aT;have af:w2.heap[b]?=J (.cells #[R (J ⟨b,0,I⟩),v] 62 (0,0)):=((ad.block b bb (λe=>ak.out.2 e.symm)).trans ae);have d0:w2.cell? ⟨b,0,I⟩=J (R (J ⟨b,0,I⟩)):=(by rw[Lib.cell_of_heap af];rfl);have d1:w2.cell? ⟨b,1,I⟩=J v:=(by rw[Lib.cell_of_heap af];rfl);have f1:w2.frozen? ⟨b,1,I⟩=false:=Lib.frozen_of_heap af 1;obtain⟨ao,n',cap,aL⟩:∃ao n' cap,v'=.slice ao n' cap:=(by rcases ab.2 with⟨hv,_⟩|⟨g,cap,cur,hv,_⟩<;>exact⟨_,_,_,hv⟩);subst aL)
 go_wp2
 go_ret2
 refine⟨rfl,Lib.BuilderAt.put (T:=62) (e:=5) hB af (bs':=bs++Lib.strCells s) (by rw[List.length_append,Lib.strCells_length];exact ab) (by decide),?_⟩
 exact(bP.out.grown ad (by omega) (λk hk=>(ak.out.1.lt k hk).1)).setCell (p:=⟨b,1,I⟩) hB _
end Go.Proofs.YtolokangldmodaaGreatDoor
