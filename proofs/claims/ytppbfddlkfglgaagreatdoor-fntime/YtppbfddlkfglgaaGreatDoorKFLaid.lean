import Derived.Test.YtppbfddlkfglgaaGreatDoorRows
import Derived.Test.YtppbfddlkfglgaaGreatDoorKFFmt
import Derived.ProofKit
import Derived.LaidMore
import Derived.OpenShut
import Derived.Stop.Joined
set_option maxRecDepth 100000
set_option maxHeartbeats 25600000
namespace Go.Proofs.YtppbfddlkfglgaaGreatDoor
open Go.ChangeShapes Go.WideShapes Go.ChangeAt Go.RowKit Go.Proofs.Tryz
def laid3 {H : Type} : List (String × DataW H) := [("math/bits.deBruijn32tab", Rows.laid_math_bits_deBruijn32tab), ("math/bits.deBruijn64tab", Rows.laid_math_bits_deBruijn64tab), ("internal/strconv.uint64pow10", Rows.laid_internal_strconv_uint64pow10)]
theorem Tryz.gTab : Tryz.prog.globalNamed "math/bits.deBruijn64tab" = some 3 := by kernel_rfl
theorem Tryz.tTab :(prog.globals[3]?).map (·.type)=some 293:=C9
theorem Ma(os:Os)(args:Array QY):laidMetH prog laid3 ((World.doorLaid prog 400 os).forCall (λ_ _=>0) ⟨#[],args,[]⟩).memory:=
 laidMetH_of_parts3 (fuel:=8) (laidMet_of_run' 8 C9 C9) C9 C9
theorem DK{W:QX}(h:laidMetH prog laid3 W):o_ W:=by
 rw[MakeChecks.laidMetH_plain _ _ _ C9] at h;obtain⟨y,⟨z,A,B,C,D,E,F,G,H,I,⟨J,K,j,L,M,N,c,k,m,n,_,_⟩,_⟩,_,_⟩:=h;obtain rfl:=Qv (Tryz.gTab.symm.trans c);obtain rfl:=Qv (Tryz.tTab.symm.trans k);obtain⟨p,O,rfl,d,P,q,r⟩:=DataW.trod_array underlying293 n;have s:prog.cellsOf 5=1:=C9;have e:=r 15 A8;simp only[Prod.mk.injEq,Rows.laid_math_bits_deBruijn64tab,DataW.agg.injEq] at d;have f:15<p.length:=by rw[q];decide
 have a:=congrArg (λl=>l[15]?) d.1;simp only[List.getElem?_map,PE f,Option.map_some] at a;rw[PE f] at e;obtain⟨t,i,v,_⟩:=DataW.trod_int underlying5 e;have w:t=4:=by
  rw[v] at a;simpa using a.symm
 subst w;have b:=World.var?_cell c m 15;rw[s] at i;have x:j.toList[15]? =some (.int .u8 4):=by
  have:=congrArg (λl=>l[0]?) i;simpa[List.getElem?_take,List.getElem?_drop] using this
 rw[<-Array.getElem?_toList,x] at b;exact⟨World.block_lt_of_cell? _ _ b,b⟩
