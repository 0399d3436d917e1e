import Derived.Test.YteknkpfbjapoiaaGreatDoorKBRangeC
import Derived.Test.YteknkpfbjapoiaaGreatDoorKOOrder
import Derived.OrdersIn
namespace Go.Proofs.YteknkpfbjapoiaaGreatDoor
section
variable {P : Program} {ops : Array Oper} {Q : Exit → Act → World → Prop} {md : Region.Mode} {l m : Nat}
end
end Go.Proofs.YteknkpfbjapoiaaGreatDoor
