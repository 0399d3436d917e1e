import Derived.Test.YtbmhchdegdjfkaaGreatDoorRows
import Derived.Test.YtbmhchdegdjfkaaGreatDoorKFFmt
import Derived.ProofKit
import Derived.LaidMore
import Derived.OpenShut
import Derived.Stop.Joined
set_option maxRecDepth 100000
set_option maxHeartbeats 25600000
namespace Go.Proofs.YtbmhchdegdjfkaaGreatDoor
open Go.ChangeShapes Go.WideShapes Go.ChangeAt Go.RowKit Go.Proofs.Tryz
def laid3 {H : Type} : List (String × DataW H) := [("math/bits.deBruijn32tab", Rows.laid_math_bits_deBruijn32tab), ("math/bits.deBruijn64tab", Rows.laid_math_bits_deBruijn64tab), ("internal/strconv.uint64pow10", Rows.laid_internal_strconv_uint64pow10)]
theorem Tryz.gTab : Tryz.prog.globalNamed "math/bits.deBruijn64tab" = some 3 := by kernel_rfl
theorem Tryz.tTab :(prog.globals[3]?).map (·.type)=some 268:=by kernel_rfl
theorem EO(os:Os)(args:Array KI):laidMetH prog laid3 ((World.doorLaid prog 400 os).forCall (fun _ _=>0) ⟨#[],args,[]⟩).memory:=
 laidMetH_of_parts3 (fuel:=8) (laidMet_of_run' 8 (by kernel_rfl) (by kernel_rfl)) (by kernel_rfl) (by kernel_rfl)
theorem Ay{W:KH}(h:laidMetH prog laid3 W):mO W:=by
 rw[MakeChecks.laidMetH_plain _ _ _ (by kernel_rfl)] at h;obtain⟨y,⟨A,B,C,D,E,F,G,H,I,J,⟨K,L,j,M,N,O,c,k,m,n,_,_⟩,_⟩,_,_⟩:=h;obtain rfl:=JR (Tryz.gTab.symm.trans c);obtain rfl:=JR (Tryz.tTab.symm.trans k);obtain⟨p,P,rfl,d,Q,q,r⟩:=DataW.trod_array underlying268 n;have s:prog.cellsOf 5=1:=by kernel_rfl
 have e:=r 15 (by decide);simp only[Prod.mk.injEq,Rows.laid_math_bits_deBruijn64tab,DataW.agg.injEq] at d;have f:15<p.length:=by rw[q];decide
 have a:=congrArg (fun l=>l[15]?) d.1;simp only[List.getElem?_map,Jd f,Option.map_some] at a;rw[Jd f] at e;obtain⟨t,i,v,_⟩:=DataW.trod_int underlying5 e;have w:t=4:=by
  rw[v] at a;simpa using a.symm
 subst w;have b:=World.var?_cell c m 15;rw[s] at i;have x:j.toList[15]? =some (.int .u8 4):=by
  have:=congrArg (fun l=>l[0]?) i;simpa[List.getElem?_take,List.getElem?_drop] using this
 rw[<-Array.getElem?_toList,x] at b;exact⟨World.block_lt_of_cell? _ _ b,b⟩
