import Derived.Test.YteknkpfbjapoiaaGreatDoorKOPack
import Derived.Test.YteknkpfbjapoiaaGreatDoorKWGo6
import Derived.Lib.AppendZeros
namespace Go.Proofs.YteknkpfbjapoiaaGreatDoor
open Go.RowKit
theorem Tryz.undInt :Tryz.prog.underlying 3=some (.int .i64):=by kernel_rfl
end Go.Proofs.YteknkpfbjapoiaaGreatDoor
