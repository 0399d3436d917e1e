import Derived.Test.YtmdckapiljhfdaaGreatWAction
import Derived.Test.YtmdckapiljhfdaaGreatWSpec5
import Derived.Test.YtmdckapiljhfdaaGreatWImpl5

/-
  THE WALK over laws.FnExactValidAction.
-/
namespace Go.Proofs.YtmdckapiljhfdaaGreat
open Go.RowKit

theorem le_sum {α : Type} (f : α → Nat) {l : List α} {x : α} (h : x ∈ l) : f x ≤ (l.map f).sum := by
  induction l with
  | nil => cases h
  | cons y r ih =>
    rcases List.mem_cons.1 h with rfl | h
    · simp
    · have := ih h
      simp; omega

/-- What the purse pays for is small. -/
theorem small_of_sz {l : List StepD} {n : Nat} (h : szSteps l ≤ n) : l.length ≤ n ∧ ∀ s ∈ l, s.asks.length ≤ n ∧ s.cases.length ≤ n := by
  unfold szSteps at h
  refine ⟨by omega, fun s hs => ?_⟩
  have h1 := le_sum szStepD hs
  have h2 : szStepD s = (s.asks.length + (s.asks.map (·.size)).sum) + (s.cases.length + (s.cases.map (·.text.size)).sum) + s.give.size := rfl
  omega

theorem boxCells {w wi : World} {x y : Value} {t : TypeId} (K : Kept (w.alloc (.cells #[x, y] t)) wi) : wi.cell? ⟨w.heap.size, 0, none⟩ = some x ∧ wi.cell? ⟨w.heap.size, 1, none⟩ = some y := by
  constructor
  · rw [K.cell (by simp)]; simp
  · rw [K.cell (by simp)]; simp

end Go.Proofs.YtmdckapiljhfdaaGreat
