import Derived.Test.YtmdckapiljhfdaaGreatOCopy2

/-
  WALKS over the program's copies: copyEach of steps, copyNode.
-/
namespace Go.Proofs.YtmdckapiljhfdaaGreat
open Go.RowKit

/-- That all in a step is small. -/
structure StepD.Small (s : StepD) : Prop where
  asks : s.asks.length ≤ 1048576
  askEach : ∀ x ∈ s.asks, x.size ≤ 1048576
  cases : s.cases.length ≤ 1048576
  caseEach : ∀ c ∈ s.cases, c.text.size ≤ 1048576
  give : s.give.size ≤ 1048576

end Go.Proofs.YtmdckapiljhfdaaGreat
