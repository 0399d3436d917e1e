import Derived.Test.YtppbfddlkfglgaaGreatDoorKVTraj
import Derived.Deep.RegionLaw
namespace Go.Proofs.YtppbfddlkfglgaaGreatDoor
open Go.RowKit
def Cf(v:QV):List QY:=[.string v,.bool false,.bool false,.string ⟨#[]⟩,.b 0,.b 0,J6]
theorem Gv(v:QV):∀u∈Cf v,u.oneCell'=true:=Q_.one (Q_.fresh v) none 0
