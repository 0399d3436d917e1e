import Derived.Test.YteknkpfbjapoiaaGreatDoorKXWaits
import Derived.Test.YteknkpfbjapoiaaGreatDoorKVCircA
import Derived.Deep.OwnRows
namespace Go.Proofs.YteknkpfbjapoiaaGreatDoor
open Go.RowKit
def runN (sl:List RunX) (p:Nat):ByteArray:= (sl.getD p RunX.zero).name
def NumRow (w:World) (fb n:Nat) (V:Nat→Nat):Prop:=w.rowIs fb 3 n (fun i=> .int .i64 (V i:Int))
theorem NumRow.kept {w w':World} {fb n:Nat} {V:Nat→Nat} (h:NumRow w fb n V) (k:Kept w w'):NumRow w' fb n V:=by
 obtain ⟨c,h1,h2⟩:=h
 exact ⟨c,(k.block fb (heap_lt h1)).trans h1,h2⟩
theorem NumRow.lt {w:World} {fb n:Nat} {V:Nat→Nat} (h:NumRow w fb n V):fb < w.heap.size:=by obtain ⟨c,h1,_⟩:=h;exact heap_lt h1
theorem NumRow.put {w:World} {fb n:Nat} {V:Nat→Nat} (h:NumRow w fb n V) (i v:Nat):NumRow (w.setCell ⟨fb,i,none⟩ (.int .i64 (v:Int))) fb n (fun p=> if p=i then v else V p):=by
 obtain ⟨c,h1,h2,h3⟩:=World.rowIs.set h i (.int .i64 (v:Int))
 refine ⟨c,h1,h2,fun p hp=> ?_⟩
 rw [h3 p hp]
 by_cases e:p=i
 ·simp [e]
 ·simp [e]
theorem NumRow.ne {w:World} {fb n:Nat} {V:Nat→Nat} (h:NumRow w fb n V) {b o:Nat} {s:ByteArray} (hc:w.cell? ⟨b,o,none⟩=some (.string s)):b≠fb:=by
 rintro rfl
 by_cases ho:o < n
 ·rw [World.rowIs.cell h ho] at hc
  cases hc
 ·obtain ⟨c,h1,h2,_⟩:=h
  simp [World.cell?,h1] at hc
  have:= (Array.getElem?_eq_some_iff.1 hc).1
  omega
theorem NumRow.strs {w:World} {fb n:Nat} {V:Nat→Nat} (h:NumRow w fb n V) {b o:Nat} {l:List ByteArray} (hl:Strs w (some ⟨b,o,none⟩) l) (i:Nat) (v:Value):Strs (w.setCell ⟨fb,i,none⟩ v) (some ⟨b,o,none⟩) l:=fun q hq=> by
 obtain ⟨b',o',e,hb,hc⟩:=hl q hq
 cases e
 exact ⟨b,o,rfl,by rw [size_setCell];exact hb,by rw [cell_set_ne (h.ne hc)];exact hc⟩
end Go.Proofs.YteknkpfbjapoiaaGreatDoor
