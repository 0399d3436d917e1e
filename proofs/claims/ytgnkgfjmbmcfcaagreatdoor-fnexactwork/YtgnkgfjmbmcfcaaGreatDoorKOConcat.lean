import Derived.Test.YtgnkgfjmbmcfcaaGreatDoorKOMark4
import Derived.Lib.AppendZeros
set_option maxRecDepth 100000
set_option maxHeartbeats 25600000
namespace Go.Proofs.YtgnkgfjmbmcfcaaGreatDoor
open Go.RowKit
theorem Tryz.undInt :Tryz.prog.underlying 3=some (.int .i64):=by kernel_rfl
def Rows2 (w w0:World) (b:Nat) (LL:List (List Qq)) (P:Nat->Nat×Nat) (C:Nat->Nat):Prop:=
 b < w.heap.size∧∀i,i < LL.length->w.cell? ⟨b,i,none⟩=some (.slice (some ⟨(P i).1,(P i).2,none⟩) (LL.getD i []).length (C i))∧∃news,Packed w0 news (LL.getD i [])∧∀j u,news[j]? =some u->w.cell? ⟨(P i).1,(P i).2+j,none⟩=some u
theorem Rows2.kept {w w' w0:World} {b:Nat} {LL:List (List Qq)} {P:Nat->Nat×Nat} {C:Nat->Nat} (h:Rows2 w w0 b LL P C) (k:K_ w w'):Rows2 w' w0 b LL P C:=
 ⟨Nat.lt_of_lt_of_le h.1 k.size,fun i hi=> ⟨by rw [k.cell h.1];exact (h.2 i hi).1,let ⟨news,h1,h2⟩:= (h.2 i hi).2;⟨news,h1,fun j u hu=> by rw [k.cell (World.block_lt_of_cell? _ _ (h2 j u hu))];exact h2 j u hu⟩⟩⟩
