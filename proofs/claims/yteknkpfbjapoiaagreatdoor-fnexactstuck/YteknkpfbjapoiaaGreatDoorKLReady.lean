import Derived.Test.YteknkpfbjapoiaaGreatDoorKBSeq
import Derived.Test.YteknkpfbjapoiaaGreatDoorKBRound
import Derived.Test.YteknkpfbjapoiaaGreatDoorKFImpl2
import Derived.Test.YteknkpfbjapoiaaGreatDoorKCRing
import Derived.Test.YteknkpfbjapoiaaGreatDoorKVCirc
import Derived.Test.YteknkpfbjapoiaaGreatDoorKOMark4
namespace Go.Proofs.YteknkpfbjapoiaaGreatDoor
open Go.RowKit Go.Shelf
attribute [local go_sem] Oper.semAt_some
def RdI (w1:World) (c:Nat) (webl:List NodeD) (σ:Env) (rs:List RunX) (i:Nat) (W:World):Prop:=
 Kept w1 W∧c < W.heap.size∧∃(ns:List ByteArray) (v:Value),W.cell? ⟨c,0,none⟩=some v∧W.frozen? ⟨c,0,none⟩=false∧W.ownsRow (c+1) 9 1 v ns.length (ns.map Value.string)∧ReadyL (actsOf webl) σ (rs.take i) ns
theorem RdI.calm {w1:World} {c:Nat} {webl:List NodeD} {σ:Env} {rs:List RunX} {i B:Nat} (hw:w1.heap.size≤c) (hc:c < B):Calm B (RdI w1 c webl σ rs i):=by
 constructor
 ·rintro W o hB ⟨k,hz,ns,v,h1,h2,h3,h4⟩
  have ka:= (Kept.refl W).alloc o
  exact ⟨k.trans ka,by rw [World.size_alloc];omega,ns,v,(ka.cell hz).trans h1,(ka.rules.2 c 0 hz).trans h2,(But.of_kept (S:=fun _=> False) ka).owns h3 (fun _ _=> id),h4⟩
 ·rintro W l o o' hl ho hn ⟨k,hz,ns,v,h1,h2,h3,h4⟩
  have kb:But (fun b=> b=l) W (W.putObj l o'):= ⟨rfl,rfl,rfl,by rw [World.putObj_size];exact Nat.le_refl _,fun b _ e=> World.putObj_heap_other e⟩
  refine ⟨kb.kept k (fun b e=> by rw [e];omega),by rw [World.putObj_size];exact hz,ns,v,(put_cell o' (by omega)).trans h1,(put_frozen o' (by omega)).trans h2,kb.owns h3 (fun b hb e=> ?_),h4⟩
  have:=type_cells (owns_type h3 hb) (by rw [e];exact ho)
  rw [hn] at this
  cases this
end Go.Proofs.YteknkpfbjapoiaaGreatDoor
namespace Go.Proofs.YteknkpfbjapoiaaGreatDoor
open Go.RowKit
theorem le_sumR {α:Type} (f g:α→Nat) (c:Nat) (h: ∀x,f x≤c * g x): ∀l:List α,(l.map f).sum≤c * (l.map g).sum
 | []=> by simp
 | x :: r=> by
  have h1:=h x
  have h2:=le_sumR f g c h r
  simp only [List.map_cons,List.sum_cons,Nat.mul_add]
  omega
theorem sum_oneR {α:Type} (f:α→Nat): ∀l:List α,(l.map (fun x=> f x+1)).sum= (l.map f).sum+l.length
 | []=> rfl
 | x :: r=> by simp only [List.map_cons,List.sum_cons,List.length_cons,sum_oneR f r];omega
theorem cntStepsR_le (l:List StepD): (l.map cntStep).sum≤8 * szSteps l:=by
 have h:=le_sumR cntStep (fun s=> szStepD s+1) 8 (fun s=> by
  have h2:szStepD s= (s.asks.length+ (s.asks.map (·.size)).sum)+ (s.cases.length+ (s.cases.map (·.text.size)).sum)+s.give.size:=rfl
  unfold cntStep
  omega) l
 rw [sum_oneR] at h
 unfold szSteps
 omega
theorem cntNodesR_le (l:List NodeD): (l.map cntNode).sum≤8 * szNodesD l:=by
 have h:=le_sumR cntNode (fun s=> szNodeD s+1) 8 (fun d=> by
  have h:=cntStepsR_le d.steps
  have h2:szNodeD d=d.name.size+szSteps d.steps:=rfl
  unfold cntNode
  omega) l
 rw [sum_oneR] at h
 unfold szNodesD
 omega
theorem cntRuns_le (l:List RunX): (l.map cntRun).sum≤8 * szRunsD l:=by
 have h:=le_sumR cntRun (fun s=> szRunD s+1) 8 (fun r=> by
  have h2:szRunD r=r.name.size+r.text.size+ (r.texts.length+ (r.texts.map (·.size)).sum):=rfl
  unfold cntRun
  omega) l
 rw [sum_oneR] at h
 unfold szRunsD
 omega
theorem ReadyL.one {webl:List NodeD} {roots:List ByteArray} {sl:List RunX} {ns ms:List ByteArray} (h: (ValidX webl roots sl∧ReadyL (actsOf webl) (envOf sl) sl ns)∨(¬ValidX webl roots sl∧ns=[])) (k: (ValidX webl roots sl∧ReadyL (actsOf webl) (envOf sl) sl ms)∨(¬ValidX webl roots sl∧ms=[])):ms=ns:=by
 rcases h with ⟨h1,h2⟩ | ⟨h1,h2⟩
 ·rcases k with ⟨k1,k2⟩ | ⟨k1,k2⟩
  ·exact k2.unique h2
  ·exact absurd h1 k1
 ·rcases k with ⟨k1,k2⟩ | ⟨k1,k2⟩
  ·exact absurd k1 h1
  ·rw [h2,k2]
end Go.Proofs.YteknkpfbjapoiaaGreatDoor
