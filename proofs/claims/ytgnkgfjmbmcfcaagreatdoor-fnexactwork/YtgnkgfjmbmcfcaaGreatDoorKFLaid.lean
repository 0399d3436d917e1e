import Derived.Test.YtgnkgfjmbmcfcaaGreatDoorRows
import Derived.Test.YtgnkgfjmbmcfcaaGreatDoorKFFmt2
import Derived.ProofKit
import Derived.LaidMore
import Derived.OpenShut
import Derived.Stop.Joined
set_option maxRecDepth 100000
set_option maxHeartbeats 25600000
namespace Go.Proofs.YtgnkgfjmbmcfcaaGreatDoor
open Go.ChangeShapes Go.WideShapes Go.ChangeAt Go.RowKit
def laid3 {H : Type} : List (String × DataW H) := [("math/bits.deBruijn32tab", Rows.laid_math_bits_deBruijn32tab), ("math/bits.deBruijn64tab", Rows.laid_math_bits_deBruijn64tab), ("internal/strconv.uint64pow10", Rows.laid_internal_strconv_uint64pow10)]
theorem Tryz.gTab : Tryz.prog.globalNamed "math/bits.deBruijn64tab" = some 3 := by kernel_rfl
theorem Tryz.tTab : (Tryz.prog.globals[3]?).map (·.type)=some 339:=by kernel_rfl
theorem door_met (os:Os) (args:Array Value):laidMetH Tryz.prog laid3 ((World.doorLaid Tryz.prog 400 os).forCall (fun _ _=> 0) ⟨#[],args,[]⟩).memory:=
 laidMetH_of_parts3 (fuel:=8) (laidMet_of_run' 8 (by kernel_rfl) (by kernel_rfl)) (by kernel_rfl) (by kernel_rfl)
theorem tab_of_laid {W:World} (h:laidMetH Tryz.prog laid3 W):TabOk W:=by
 rw [MakeChecks.laidMetH_plain _ _ _ (by kernel_rfl)] at h
 obtain ⟨ps,⟨g0,t0,cs0,f0,p0,q0,hg0,ht0,hv0,hd0,⟨g1,t1,cs1,f1,p1,q1,hg1,ht1,hv1,hd1,_,_⟩,_⟩,_,_⟩:=h
 obtain rfl:=Option.some.inj (Tryz.gTab.symm.trans hg1)
 obtain rfl:=Option.some.inj (Tryz.tTab.symm.trans ht1)
 obtain ⟨xs,m1,rfl,hx1,hlen,hn3,hel⟩:=DataW.trod_array Tryz.underlying339 hd1
 have c5:Tryz.prog.cellsOf 5=1:=by kernel_rfl
 have h15:=hel 15 (by decide)
 simp only [Prod.mk.injEq,Rows.laid_math_bits_deBruijn64tab,DataW.agg.injEq] at hx1
 have hxl:15 < xs.length:=by rw [hn3];decide
 have e15:=congrArg (fun l=> l[15]?) hx1.1
 simp only [List.getElem?_map,List.getElem?_eq_getElem hxl,Option.map_some] at e15
 rw [List.getElem?_eq_getElem hxl] at h15
 obtain ⟨k,e1,e2,_⟩:=DataW.trod_int Tryz.underlying5 h15
 have hk:k=4:=by
  rw [e2] at e15
  simpa using e15.symm
 subst hk
 have hcell:=World.var?_cell hg1 hv1 15
 rw [c5] at e1
 have e3:cs1.toList[15]? =some (.int .u8 4):=by
  have:=congrArg (fun l=> l[0]?) e1
  simpa [List.getElem?_take,List.getElem?_drop] using this
 rw [<-Array.getElem?_toList,e3] at hcell
 exact ⟨World.block_lt_of_cell? _ _ hcell,hcell⟩
