import Derived.Test.YticdoifcfokckaaGreatDoorKBRange
import Derived.Test.YticdoifcfokckaaGreatDoorKOOrder
import Derived.OrdersIn
namespace Go.Proofs.YticdoifcfokckaaGreatDoor
section
variable {P : Program} {ops : Array Oper} {Q : Exit → Act → World → Prop} {md : Region.Mode} {l m : Nat}
end
end Go.Proofs.YticdoifcfokckaaGreatDoor
