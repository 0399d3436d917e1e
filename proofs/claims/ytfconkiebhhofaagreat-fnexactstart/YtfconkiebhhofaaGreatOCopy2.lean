import Derived.Test.YtfconkiebhhofaaGreatOCopy1

/-
  WALKS over the program's copies: copyEach of cases, copyStep.
-/
namespace Go.Proofs.YtfconkiebhhofaaGreat
open Go.RowKit

end Go.Proofs.YtfconkiebhhofaaGreat
