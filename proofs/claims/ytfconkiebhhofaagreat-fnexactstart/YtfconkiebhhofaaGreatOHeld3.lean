import Derived.Test.YtfconkiebhhofaaGreatOMark3

/-
  THE WALK over heldStepS.
-/
namespace Go.Proofs.YtfconkiebhhofaaGreat
open Go.RowKit

end Go.Proofs.YtfconkiebhhofaaGreat
