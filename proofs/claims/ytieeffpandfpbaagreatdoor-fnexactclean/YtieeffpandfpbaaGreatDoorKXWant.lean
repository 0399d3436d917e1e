import Derived.Test.YtieeffpandfpbaaGreatDoorKXWant0
import Derived.Deep.RegionLaw
set_option maxRecDepth 100000
set_option maxHeartbeats 25600000
namespace Go.Proofs.YtieeffpandfpbaaGreatDoor
open Go.RowKit
def freshX (v:ByteArray):List Value:=[.string v,.bool false,.bool false,.string ⟨#[]⟩,.int .i64 0,.int .i64 0,.slice none 0 0]
theorem freshX_one (v:ByteArray): ∀u∈freshX v,u.oneCell'=true:=Qz.one (Qz.fresh v) none 0
