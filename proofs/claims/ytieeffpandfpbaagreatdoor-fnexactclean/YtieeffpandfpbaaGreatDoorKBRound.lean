import Derived.Test.YtieeffpandfpbaaGreatDoorKBRangeC
import Derived.Test.YtieeffpandfpbaaGreatDoorKOOrder
import Derived.OrdersIn
set_option maxRecDepth 100000
set_option maxHeartbeats 25600000
namespace Go.Proofs.YtieeffpandfpbaaGreatDoor
section
variable {P : Program} {ops : Array Oper} {Q : Exit -> Act -> World -> Prop} {md : Region.Mode} {l m : Nat}
end
