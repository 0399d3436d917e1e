import Derived.Test.YtgnkgfjmbmcfcaaGreatDoorRows
import Derived.Test.YtgnkgfjmbmcfcaaGreatDoorCards
import Derived.Test.YtgnkgfjmbmcfcaaGreatDoorTie
import Derived.Test.YtgnkgfjmbmcfcaaGreatDoorKLWork
import Derived.Test.YtgnkgfjmbmcfcaaGreatDoorKFLaid
import Derived.Test.YtgnkgfjmbmcfcaaGreatDoorKReadN
import Derived.ProofKit
import Derived.OpenShut
import Derived.ChangeMaps5
import Derived.ChangeOld
import Derived.Below
import Derived.Lib.SmallJoins
import Derived.LaidMore
import Derived.Stop.Joined
import Derived.SevenTiedAt
set_option maxRecDepth 100000
set_option maxHeartbeats 25600000
namespace Go.Proofs.YtgnkgfjmbmcfcaaGreatDoor
open Go.ChangeShapes Go.WideShapes Go.ChangeAt Go.RowKit Go.Joins Go.ChangeMaps
theorem Tryz.ownV :ownKnob Tryz.prog.godebug=none:=by kernel_rfl
theorem Tryz.laidOutV :laidOutB Tryz.prog=true:=by kernel_rfl
theorem Tryz.cellsVWeb :Tryz.prog.cellsOf 24=1:=by kernel_rfl
theorem Tryz.cellsVNodes :Tryz.prog.cellsOf 22=1:=by kernel_rfl
theorem arrayOne {cs:Array Value} (h:cs.size=1): ∃v,cs= #[v]:=by
 obtain ⟨l⟩:=cs
 match l,h with
 | [v],_=> exact ⟨v,rfl⟩
theorem finishOk_tab {w:World} (h:TabOk w):FinishOk w:=fun W give a cap l k h1 h2 h3 h4=> finish_any W give a cap l h1 h2 h3 h4 (h.kept k)
theorem workLifted (os:Os) (started:os.Started) (H:Type) (enc:TypeId×Value->H):
  ReturnsInHanded {} Tryz.checked os 3 .any (fun w args=> (Rows.fnExactWorkSpec.pre enc Tryz.prog Tryz.f3 [] false w args∧laidMetH Tryz.prog laid3 w)∧sizedMet enc Tryz.prog Tryz.f3 (OpenSpec.ofChange Rows.fnExactWorkSpec) false w args)
   (Rows.fnExactWorkSpec.post enc Tryz.prog Tryz.f3 false true false false):=by
 refine returnsInHanded_of_change_and (C:=Tryz.checked) (X:=fun w _=> laidMetH Tryz.prog laid3 w) (fun _ _ _ hh h=> h.of_heap hh) Tryz.ownV started (by kernel_rfl) Tryz.func3
  (ChangeSpec.witness_shaped (enc:=enc) (C:=Tryz.checked) (os:=os) (X:=fun w _=> laidMetH Tryz.prog laid3 w) false (World.doorLaid Tryz.prog 400 os) #[.agg #[.slice none 0 0],.slice none 0 0,.int .i64 0] 8 rfl (World.shaped_of_RefB (by kernel_rfl) (by kernel_rfl)) (by kernel_rfl) (by kernel_rfl) (by kernel_rfl) (door_met os _)) ?_
 intro W base args ds gs before hval0 hW _ _ hL _
 have hval: ∀(j:Nat) t v,Tryz.f3.params[j]? =some t->args[j]? =some v->Value.okWide Tryz.prog W .any base t v:=hval0
 have hW':=hW
 obtain ⟨p,q,hA0,hV,rfl,hfz,hnd⟩:=hW
 have hA:DataW.TrodAll enc Tryz.prog W 0 (fun _=> true) true Tryz.f3.params.toList args.toList ds p:=hA0
 rw [Tryz.params3] at hA hval
 obtain ⟨v0,vs0,d0,ds0,p0,q0,hargs,rfl,rfl,h0,r0⟩:=trodAll_cons hA
 obtain ⟨v1,vs1,d1,ds1,p1,q1,rfl,rfl,rfl,h1,r1⟩:=trodAll_cons r0
 obtain ⟨v2,vs2,d2,ds2,p2,q2,rfl,rfl,rfl,h2,r2⟩:=trodAll_cons r1
 obtain ⟨rfl,rfl,rfl⟩:=trodAll_nil r2
 obtain rfl:args= #[v0,v1,v2]:=by cases args;simp_all
 obtain ⟨rfl,rfl⟩:=trodVars_none hV
 have k0:=h0
 have k1:=h1
 have lt0: ∀x∈p0,x.block < W.heap.size:=by obtain ⟨m,hm⟩:=k0;exact DataW.trod_lt m _ _ _ hm
 have lt1: ∀x∈p1,x.block < W.heap.size:=by obtain ⟨m,hm⟩:=k1;exact DataW.trod_lt m _ _ _ hm
 obtain ⟨kn,rfl,rfl,rfl,w2⟩:=open_int Tryz.underlying3 (hval 2 3 v2 rfl rfl) h2
 obtain ⟨cs,rfl,hsz⟩:=okWide_struct Tryz.underlying24 (hval 0 24 v0 rfl rfl)
 obtain ⟨fuel,hf0⟩:=h0
 obtain ⟨xs,n,_,_,hlen,hxl,hf⟩:=DataW.trod_struct Tryz.underlying24 hf0
 obtain ⟨v,rfl⟩:=arrayOne (hsz.trans Tryz.cellsVWeb)
 have f0:DataW.trod enc Tryz.prog W 0 (fun _=> true) true n 22 (([v].drop 0).take (Tryz.prog.cellsOf 22))=xs[0]? :=hf 0 _ rfl
 rw [Tryz.cellsVNodes,List.getElem?_eq_getElem (by rw [hxl];decide)] at f0
 obtain ⟨a,l,cap,e1,hS,hl,hs⟩:=readNodes f0
 simp only [List.drop_zero,List.take_succ_cons,List.take_zero,List.cons.injEq,and_true] at e1
 subst e1
 obtain ⟨da,dlen,dcap,rfl⟩:=okWide_slice Tryz.underlying25 (hval 1 25 v1 rfl rfl)
 obtain ⟨fuel1,hf1⟩:=h1
 obtain ⟨rd,Kk,rc,e2,hR,hrl,_,hrs⟩:=readStrs hf1
 have e4:Value.slice da dlen dcap= .slice rd Kk.length rc:=by simpa [Value.cells] using e2
 rw [e4] at k1 hW'⊢
 clear hA0 hval0
 refine (lawWork W a cap l rd rc Kk kn hl hs hrl hrs hS hR (finishOk_tab (tab_of_laid hL))).mono fun e W' ⟨he,bel⟩=> ?_
 subst he
 exact ⟨_,rfl,_,_,_,[],_,[],hW',trodAll_mk1 (shut_bool Tryz.underlying4 _),(trodAll_cons_mk (Below.trod Tryz.laidOutV (by kernel_rfl) (of_decide_eq_true (by kernel_rfl)) k0 bel lt0) (trodAll_cons_mk (Below.trod Tryz.laidOutV (by kernel_rfl) (of_decide_eq_true (by kernel_rfl)) k1 bel lt1) (trodAll_cons_mk (shut_int Tryz.underlying3 w2) trodAll_mk0))),rfl,Below.frame bel _,fun h=> by cases h⟩
theorem workHolds :Rows.FnExactWorkSaid:=
 OpenClaim.holds_of_wide 3 Tryz.f3 rfl rfl rfl rfl rfl rfl rfl ⟨rfl,rfl,rfl,rfl,rfl⟩ rfl rfl rfl rfl rfl (by kernel_rfl) Tryz.func3 (by kernel_rfl)
  (of_decide_eq_true (by kernel_rfl)) (by unfold Func.isWrapper;first | (rw [if_pos (by decide+kernel)];kernel_rfl) | (rw [if_neg (by decide+kernel)];exact ⟨rfl,rfl⟩))
  (fun os started H enc _=> workLifted os started H enc)
theorem workCardHolds :Rows.FnExactWorkCardSaid:=
 Claim7.holds_tied_plain_at .later [] [.data,.data,.data] true Rows.fnExactWorkCard.stood.harness Rows.fnExactWorkCard.stood.looks
  workHolds (fun _ h=> by cases h) (by kernel_rfl) (fun _ h=> by cases h) fnExactWork_row_tie rfl ⟨rfl,rfl⟩ (by kernel_rfl) rfl
  (fun f fn hf hfn=> by
   obtain rfl:f=3:=Option.some.inj ((show Tryz.prog.funcNamed Rows.fnExactWorkRow.func=some 3 by kernel_rfl).symm.trans hf) |>.symm
   obtain rfl:fn=Tryz.f3:= (Option.some.inj (Tryz.func3.symm.trans hfn)).symm
   exact ⟨by kernel_rfl,fun j t ht=> by
    rw [Tryz.params3] at ht
    have hm:t∈[24,25]:=by simpa using Array.mem_of_getElem? ht
    have hall: ([24,25].all fun u=> !Tryz.prog.wantsStandIn u)=true:=by kernel_rfl
    exact (show Tryz.prog.wantsStandIn t=false by simpa using List.all_eq_true.1 hall t hm)⟩)
  (by kernel_rfl)
