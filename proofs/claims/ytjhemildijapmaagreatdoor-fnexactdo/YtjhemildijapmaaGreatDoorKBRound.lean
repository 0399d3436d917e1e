import Derived.Test.YtjhemildijapmaaGreatDoorKBRange
import Derived.Test.YtjhemildijapmaaGreatDoorKOOrder
import Derived.OrdersIn
namespace Go.Proofs.YtjhemildijapmaaGreatDoor
section
variable {P : Program} {ops : Array Oper} {Q : Exit → Act → World → Prop} {md : Region.Mode} {l m : Nat}
end
end Go.Proofs.YtjhemildijapmaaGreatDoor
