import Derived.Test.YticdoifcfokckaaGreatDoorKOPack
import Derived.Test.YticdoifcfokckaaGreatDoorKWGo6
import Derived.Lib.AppendZeros

/-
  WALKS: slices.Grow, slices.Concat over nodes.
-/
namespace Go.Proofs.YticdoifcfokckaaGreatDoor
open Go.RowKit

theorem Tryz.undInt : Tryz.prog.underlying 3 = some (.int .i64) := by kernel_rfl

/-- Slices of nodes, one behind the other in a row; what they hold is a list of nodes in w0. -/
def Rows2 (w w0 : World) (b : Nat) (LL : List (List NodeD)) (P : Nat → Nat × Nat) (C : Nat → Nat) : Prop :=
  b < w.heap.size ∧ ∀ i, i < LL.length → w.cell? ⟨b, i, none⟩ = some (.slice (some ⟨(P i).1, (P i).2, none⟩) (LL.getD i []).length (C i)) ∧ ∃ news, Packed w0 news (LL.getD i []) ∧ ∀ j u, news[j]? = some u → w.cell? ⟨(P i).1, (P i).2 + j, none⟩ = some u
theorem Rows2.kept {w w' w0 : World} {b : Nat} {LL : List (List NodeD)} {P : Nat → Nat × Nat} {C : Nat → Nat} (h : Rows2 w w0 b LL P C) (k : Kept w w') : Rows2 w' w0 b LL P C :=
  ⟨Nat.lt_of_lt_of_le h.1 k.size, fun i hi => ⟨by rw [k.cell h.1]; exact (h.2 i hi).1, let ⟨news, h1, h2⟩ := (h.2 i hi).2; ⟨news, h1, fun j u hu => by rw [k.cell (World.block_lt_of_cell? _ _ (h2 j u hu))]; exact h2 j u hu⟩⟩⟩

theorem flat_take_succ (LL : List (List NodeD)) (k : Nat) (h : k < LL.length) : (LL.take (k + 1)).flatten = (LL.take k).flatten ++ LL.getD k [] := by
  rw [List.take_succ_eq_append_getElem h, List.flatten_append]
  simp [List.getD, h]
theorem flat_len (LL : List (List NodeD)) (k : Nat) : (LL.take k).flatten.length = sumTo List.length LL k := by
  unfold sumTo
  rw [List.length_flatten]

end Go.Proofs.YticdoifcfokckaaGreatDoor
