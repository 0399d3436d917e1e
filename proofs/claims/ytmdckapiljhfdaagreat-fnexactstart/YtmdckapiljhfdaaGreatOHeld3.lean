import Derived.Test.YtmdckapiljhfdaaGreatOMark3

/-
  THE WALK over heldStepS.
-/
namespace Go.Proofs.YtmdckapiljhfdaaGreat
open Go.RowKit

end Go.Proofs.YtmdckapiljhfdaaGreat
