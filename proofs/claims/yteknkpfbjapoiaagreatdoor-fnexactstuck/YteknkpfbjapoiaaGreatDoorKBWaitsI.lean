import Derived.Test.YteknkpfbjapoiaaGreatDoorKBWaits
import Derived.Test.YteknkpfbjapoiaaGreatDoorKBSort
import Derived.Test.YteknkpfbjapoiaaGreatDoorKBSeq
import Derived.Test.YteknkpfbjapoiaaGreatDoorKCRing
import Derived.Test.YteknkpfbjapoiaaGreatDoorKFImpl2
namespace Go.Proofs.YteknkpfbjapoiaaGreatDoor
open Go.RowKit
theorem waitsOn_iff {webl:List NodeD} {ts:List TaskM} {ws:ByteArray→List Nat} (hS:BS webl ts ws) (ha:AskedOk (actsOf webl) (envOf (runsOf ts))) (n s:ByteArray):WaitsOn ts ws n s↔WaitsX (actsOf webl) (envOf (runsOf ts)) n s:=by
 constructor
 ·rintro ⟨t,ht,rfl,hw⟩
  have he:=asc_env hS.good.asc (List.mem_map_of_mem (f:=fun t:TaskM=> t.r) ht)
  exact (pend_iff hS.good.env ha he s).1 ((hS.wt s t ht).1 hw)
 ·intro h
  obtain ⟨r,hr⟩: ∃r,envOf (runsOf ts) n=some r:=by obtain ⟨r,_,hr,_⟩:=h;exact ⟨r,hr⟩
  obtain ⟨h1,h2⟩:=env_mem hr
  obtain ⟨t,ht,rfl⟩:=List.mem_map.1 h1
  exact ⟨t,ht,h2,(hS.wt s t ht).2 ((pend_iff hS.good.env ha hr s).2 h)⟩
end Go.Proofs.YteknkpfbjapoiaaGreatDoor
