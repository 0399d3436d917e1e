import Derived.Test.YtjbipapbckajnaaGreatDoorKWGo7
import Derived.Test.YtjbipapbckajnaaGreatDoorKVAppr
import Derived.Laws.AppendOwnNone
namespace Go.Proofs.YtjbipapbckajnaaGreatDoor
open Go.RowKit Go.Proofs.Tryz
theorem BA(w:Pv)(cost b:Int)(a d:Pt)(f h:Nat)(l:List Xj)(ans:List Xq)(j:l.length<=maxLen)(k:∀s∈l,s.Fits)(m:Steps w a l)
  (n:ans.length<=maxLen) (p:∀c∈ans,c.text.size<=maxLen) (q:eU w d ans):
  Calls prog 123 #[.agg #[.a cost,.slice a l.length f],.a b,.slice d ans.length h] w λe w'=>(∃g,e= .returned (.agg g.cells.toArray)/\mK cost l b ans g)/\K_ w w':=by
 by_cases i:om cost l b/\ans.length= (kX l b).asks.length
 .exact BZ w cost b a d f h l ans j k m n p q i.1 i.2
 .exact DX w cost b a d f h l ans j k m n p q i
