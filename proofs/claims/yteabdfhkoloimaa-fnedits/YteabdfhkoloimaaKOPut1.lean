import Derived.Test.YteabdfhkoloimaaKOWith
import Derived.Deep.CutRange
set_option maxRecDepth 100000
set_option maxHeartbeats 25600000
namespace Go.Proofs.Yteabdfhkoloimaa
open Go.RowKit
def PutList (l:List Q_) (d:Q_) (w3:World) (s6:Value) (wx:World):Prop:=
 ∃sb a5 c5,s6= .pointer (some ⟨sb,0,none⟩)∧w3.heap.size<=sb∧sb < wx.heap.size∧wx.cell? ⟨sb,0,none⟩=some (.slice a5 (putIn l d).length c5)∧wx.cell? ⟨sb,1,none⟩=some (.func (.func 39) #[] #[])∧Nodes wx a5 (putIn l d)∧K_ w3 wx
