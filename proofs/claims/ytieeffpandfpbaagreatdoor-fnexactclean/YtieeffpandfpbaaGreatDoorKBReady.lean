import Derived.Test.YtieeffpandfpbaaGreatDoorKBRangeC
import Derived.Shelf.Abstract
import Derived.Shelf.RegionOpen
import Derived.WalkKit
import Derived.OwnWalkIn
import Derived.TacticsInMore
import Derived.LoopNIn
import Derived.LoopIn
import Derived.Test.YtieeffpandfpbaaGreatDoorKCDist
set_option maxRecDepth 100000
set_option maxHeartbeats 25600000
namespace Go.Proofs.YtieeffpandfpbaaGreatDoor
open Go.RowKit Go.Shelf
attribute [local go_sem] Oper.semAt_some
def SeesV (d:Option Addr) (tb:Nat->Nat) (i:Nat) (W:World):Prop:= ∃g,d=some ⟨g,0,none⟩∧W.cell? ⟨g,i,none⟩=some (.pointer (some ⟨tb i,0,none⟩))∧W.cell? ⟨tb i,1,none⟩=some (.bool false)∧W.cell? ⟨tb i,9,none⟩=some (.int .i64 0)
def SeesN (d:Option Addr) (tb:Nat->Nat) (i:Nat) (W:World):Prop:= ∃g,d=some ⟨g,0,none⟩∧W.cell? ⟨g,i,none⟩=some (.pointer (some ⟨tb i,0,none⟩))∧(W.cell? ⟨tb i,1,none⟩=some (.bool true)∨(W.cell? ⟨tb i,1,none⟩=some (.bool false)∧∃op:Nat,op≠0∧W.cell? ⟨tb i,9,none⟩=some (.int .i64 (op:Int))))
