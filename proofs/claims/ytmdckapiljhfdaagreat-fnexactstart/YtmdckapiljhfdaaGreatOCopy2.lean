import Derived.Test.YtmdckapiljhfdaaGreatOCopy1

/-
  WALKS over the program's copies: copyEach of cases, copyStep.
-/
namespace Go.Proofs.YtmdckapiljhfdaaGreat
open Go.RowKit

end Go.Proofs.YtmdckapiljhfdaaGreat
