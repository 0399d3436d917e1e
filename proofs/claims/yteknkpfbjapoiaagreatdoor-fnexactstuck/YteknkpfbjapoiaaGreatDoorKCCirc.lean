import Derived.Test.YteknkpfbjapoiaaGreatDoorKCDist
import Derived.Deep.WholeRow
namespace Go.Proofs.YteknkpfbjapoiaaGreatDoor
open Go.RowKit
theorem wpList_store_new {P:Program} {ops:Array Oper} {rest:List Oper} {op:Oper} {a:Act} {w0:World} {Q:Exit→Act→World→Prop} (hgd:op.guard=none) (ty:TypeId) (x y:Operand) (ho:op.op= .store ty x y) (c c':Array Value) (hx:a.eval x= .pointer (some ⟨w0.heap.size,0,none⟩)) (hy:a.eval y= .agg c') (hi: (P.info? ty).map (·.size)=some c'.size) (hs:c.size=c'.size) (h1:c'.all (·.oneCell')=true)
  (h:wpList P ops Q rest (a.put op.dst undef) (w0.alloc (.cells c' ty))):wpList P ops Q (op :: rest) a (w0.alloc (.cells c ty)):=
 wpList_plain hgd fun _ hK=> by
  unfold Oper.wp execOp
  simp only [ho,hx,hy,Instr.storeAt,Instr.sureAddr,Sem.run_bind,Sem.run_pure,Result.andThen_ok,run_storeVar_new w0 ty c c' hi hs h1]
  exact hK _ _ h
theorem AwayM.new (w:World) (A:Nat→Nat):AwayM (w.alloc (.cells (awayV A) 155)) w.heap.size A:=by
 have h:=World.rowIs_alloc w (awayV A) 155 (fun i=> natV (A i)) (fun i hi=> by
  rw [awayV_size] at hi
  simp [awayV,hi])
 rw [awayV_size] at h
 exact h
end Go.Proofs.YteknkpfbjapoiaaGreatDoor
