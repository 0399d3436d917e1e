import Derived.Test.YtfjbdapblmlneaaWGo6
import Derived.Test.YtfjbdapblmlneaaWGo7

/-
  spec.GoOn, both ways together.
-/
namespace Go.Proofs.Ytfjbdapblmlneaa
open Go.RowKit

theorem specGoOn_any (w : World) (cost at' : Int) (a d : Option Addr) (cap dcap : Nat) (l : List StepD) (ans : List AnswerD) (hl : l.length ≤ maxLen) (hs : ∀ s ∈ l, s.Fits) (hS : Steps w a l)
    (hal : ans.length ≤ maxLen) (has : ∀ c ∈ ans, c.text.size ≤ maxLen) (hD : Answers w d ans) :
    Calls Try.prog 14 #[.agg #[.int .i64 cost, .slice a l.length cap], .int .i64 at', .slice d ans.length dcap] w fun e w' => (∃ g, e = .returned (.agg g.cells.toArray) ∧ WentOn cost l at' ans g) ∧ Kept w w' := by
  by_cases h : FrontGo cost l at' ∧ ans.length = (stepAt l at').asks.length
  · exact specGoOn_yes w cost at' a d cap dcap l ans hl hs hS hal has hD h.1 h.2
  · exact specGoOn_no w cost at' a d cap dcap l ans hl hs hS hal has hD h

end Go.Proofs.Ytfjbdapblmlneaa
