import Derived.Test.YteknkpfbjapoiaaGreatDoorKBSeq
import Derived.Test.YteknkpfbjapoiaaGreatDoorKBRound
import Derived.Test.YteknkpfbjapoiaaGreatDoorKFImpl2
import Derived.Test.YteknkpfbjapoiaaGreatDoorKVUses
import Derived.Test.YteknkpfbjapoiaaGreatDoorKRTo
import Derived.Test.YteknkpfbjapoiaaGreatDoorKVCirc
import Derived.Test.YteknkpfbjapoiaaGreatDoorKOMark4
namespace Go.Proofs.YteknkpfbjapoiaaGreatDoor
open Go.RowKit Go.Shelf
attribute [local go_sem] Oper.semAt_some
open Go.RowKit
theorem le_sumR {α:Type} (f g:α→Nat) (c:Nat) (h: ∀x,f x≤c * g x): ∀l:List α,(l.map f).sum≤c * (l.map g).sum
 | []=> by simp
 | x :: r=> by
  have h1:=h x
  have h2:=le_sumR f g c h r
  simp only [List.map_cons,List.sum_cons,Nat.mul_add]
  omega
theorem sum_oneR {α:Type} (f:α→Nat): ∀l:List α,(l.map (fun x=> f x+1)).sum= (l.map f).sum+l.length
 | []=> rfl
 | x :: r=> by simp only [List.map_cons,List.sum_cons,List.length_cons,sum_oneR f r];omega
theorem cntStepsR_le (l:List StepD): (l.map cntStep).sum≤8 * szSteps l:=by
 have h:=le_sumR cntStep (fun s=> szStepD s+1) 8 (fun s=> by
  have h2:szStepD s= (s.asks.length+ (s.asks.map (·.size)).sum)+ (s.cases.length+ (s.cases.map (·.text.size)).sum)+s.give.size:=rfl
  unfold cntStep
  omega) l
 rw [sum_oneR] at h
 unfold szSteps
 omega
theorem cntNodesR_le (l:List NodeD): (l.map cntNode).sum≤8 * szNodesD l:=by
 have h:=le_sumR cntNode (fun s=> szNodeD s+1) 8 (fun d=> by
  have h:=cntStepsR_le d.steps
  have h2:szNodeD d=d.name.size+szSteps d.steps:=rfl
  unfold cntNode
  omega) l
 rw [sum_oneR] at h
 unfold szNodesD
 omega
theorem cntRuns_le (l:List RunX): (l.map cntRun).sum≤8 * szRunsD l:=by
 have h:=le_sumR cntRun (fun s=> szRunD s+1) 8 (fun r=> by
  have h2:szRunD r=r.name.size+r.text.size+ (r.texts.length+ (r.texts.map (·.size)).sum):=rfl
  unfold cntRun
  omega) l
 rw [sum_oneR] at h
 unfold szRunsD
 omega
end Go.Proofs.YteknkpfbjapoiaaGreatDoor
