import Derived.Test.YtgnkgfjmbmcfcaaGreatDoorKBWaits
import Derived.Test.YtgnkgfjmbmcfcaaGreatDoorKBSort
import Derived.Test.YtgnkgfjmbmcfcaaGreatDoorKFImpl2
set_option maxRecDepth 100000
set_option maxHeartbeats 25600000
namespace Go.Proofs.YtgnkgfjmbmcfcaaGreatDoor
open Go.RowKit
theorem waitsOn_iff {Kj:List Qq} {ts:List Zx} {ws:ByteArray->List Nat} (hS:BS Kj ts ws) (ha:AskedOk (Q_ Kj) (Qj (Qk ts))) (n s:ByteArray):WaitsOn ts ws n s↔WaitsX (Q_ Kj) (Qj (Qk ts)) n s:=by
 constructor
 ·rintro ⟨t,ht,rfl,hw⟩
  have he:=asc_env hS.good.asc (List.mem_map_of_mem (f:=fun t:Zx=> t.r) ht)
  exact (pend_iff hS.good.env ha he s).1 ((hS.wt s t ht).1 hw)
 ·intro h
  obtain ⟨r,hr⟩: ∃r,Qj (Qk ts) n=some r:=by obtain ⟨r,_,hr,_⟩:=h;exact ⟨r,hr⟩
  obtain ⟨h1,h2⟩:=env_mem hr
  obtain ⟨t,ht,rfl⟩:=List.mem_map.1 h1
  exact ⟨t,ht,h2,(hS.wt s t ht).2 ((pend_iff hS.good.env ha hr s).2 h)⟩
