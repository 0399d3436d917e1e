import Derived.Test.YtghipdfemoofhaaGreatDoorKBRange
import Derived.Test.YtghipdfemoofhaaGreatDoorKOOrder
import Derived.OrdersIn
namespace Go.Proofs.YtghipdfemoofhaaGreatDoor
section
variable {P : Program} {ops : Array Oper} {Q : Exit → Act → World → Prop} {md : Region.Mode} {l m : Nat}
end
end Go.Proofs.YtghipdfemoofhaaGreatDoor
