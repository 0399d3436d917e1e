import Derived.Test.YtieeffpandfpbaaGreatDoorKOMark4
import Derived.Lib.AppendZeros
set_option maxRecDepth 100000
set_option maxHeartbeats 25600000
namespace Go.Proofs.YtieeffpandfpbaaGreatDoor
open Go.RowKit
theorem Tryz.undInt :Tryz.prog.underlying 3=some (.int .i64):=by kernel_rfl
