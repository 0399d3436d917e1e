import Derived.Test.YtghipdfemoofhaaGreatDoorKXValid0
import Derived.Deep.QuietTactic
import Derived.BigQuiet
namespace Go.Proofs.YtghipdfemoofhaaGreatDoor
open Go.RowKit
end Go.Proofs.YtghipdfemoofhaaGreatDoor
