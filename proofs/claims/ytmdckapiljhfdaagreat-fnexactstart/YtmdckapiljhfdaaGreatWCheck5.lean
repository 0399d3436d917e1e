import Derived.Test.YtmdckapiljhfdaaGreatWCheck2
import Derived.Test.YtmdckapiljhfdaaGreatWLaw

/-
  THE WALK over laws.FnExactCheckWeb.
-/
namespace Go.Proofs.YtmdckapiljhfdaaGreat
open Go.RowKit

/-- What the purse pays for is small. -/
theorem small_of_szN {l : List NodeD} {n : Nat} (h : szNodesD l ≤ n) : l.length ≤ n ∧ ∀ s ∈ l, s.steps.length ≤ n ∧ ∀ x ∈ s.steps, x.asks.length ≤ n ∧ x.cases.length ≤ n := by
  unfold szNodesD at h
  refine ⟨by omega, fun s hs => ?_⟩
  have h1 := le_sum szNodeD hs
  have h2 : szNodeD s = s.name.size + szSteps s.steps := rfl
  have h3 := small_of_sz (l := s.steps) (n := n) (by omega)
  exact h3

theorem boxCell {w wi : World} {x : Value} {t : TypeId} (K : Kept (w.alloc (.cells #[x] t)) wi) : wi.cell? ⟨w.heap.size, 0, none⟩ = some x := by
  rw [K.cell (by simp)]; simp

end Go.Proofs.YtmdckapiljhfdaaGreat
