import Derived.Test.YtgnkgfjmbmcfcaaGreatDoorRows
import Derived.Test.YtgnkgfjmbmcfcaaGreatDoorKFFmt
import Derived.ProofKit
import Derived.LaidMore
import Derived.OpenShut
import Derived.Stop.Joined
set_option maxRecDepth 100000
set_option maxHeartbeats 25600000
namespace Go.Proofs.YtgnkgfjmbmcfcaaGreatDoor
open Go.ChangeShapes Go.WideShapes Go.ChangeAt Go.RowKit Go.Proofs.Tryz
def laid3 {H : Type} : List (String × DataW H) := [("math/bits.deBruijn32tab", Rows.laid_math_bits_deBruijn32tab), ("math/bits.deBruijn64tab", Rows.laid_math_bits_deBruijn64tab), ("internal/strconv.uint64pow10", Rows.laid_internal_strconv_uint64pow10)]
theorem Tryz.gTab : Tryz.prog.globalNamed "math/bits.deBruijn64tab" = some 3 := by kernel_rfl
theorem Tryz.tTab :(prog.globals[3]?).map (·.type)=some 339:=by kernel_rfl
theorem KU(os:Os)(args:Array QA):laidMetH prog laid3 ((World.doorLaid prog 400 os).forCall (fun _ _=>0) ⟨#[],args,[]⟩).memory:=
 laidMetH_of_parts3 (fuel:=8) (laidMet_of_run' 8 (by kernel_rfl) (by kernel_rfl)) (by kernel_rfl) (by kernel_rfl)
theorem DI{W:Qy}(h:laidMetH prog laid3 W):oD W:=by
 rw[MakeChecks.laidMetH_plain _ _ _ (by kernel_rfl)] at h;obtain⟨x,⟨y,z,A,B,C,D,E,F,G,H,⟨I,J,i,K,L,M,c,j,k,m,_,_⟩,_⟩,_,_⟩:=h;obtain rfl:=PW (Tryz.gTab.symm.trans c);obtain rfl:=PW (Tryz.tTab.symm.trans j);obtain⟨n,N,rfl,d,O,p,q⟩:=DataW.trod_array underlying339 m;have r:prog.cellsOf 5=1:=by kernel_rfl
 have e:=q 15 (by decide);simp only[Prod.mk.injEq,Rows.laid_math_bits_deBruijn64tab,DataW.agg.injEq] at d;have f:15<n.length:=by rw[p];decide
 have a:=congrArg (fun l=>l[15]?) d.1;simp only[List.getElem?_map,OZ f,Option.map_some] at a;rw[OZ f] at e;obtain⟨s,g,t,_⟩:=DataW.trod_int underlying5 e;have v:s=4:=by
  rw[t] at a;simpa using a.symm
 subst v;have b:=World.var?_cell c k 15;rw[r] at g;have w:i.toList[15]? =some (.int .u8 4):=by
  have:=congrArg (fun l=>l[0]?) g;simpa[List.getElem?_take,List.getElem?_drop] using this
 rw[<-Array.getElem?_toList,w] at b;exact⟨World.block_lt_of_cell? _ _ b,b⟩
