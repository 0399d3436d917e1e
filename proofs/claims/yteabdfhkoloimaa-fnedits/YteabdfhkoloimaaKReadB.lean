import Derived.Test.YteabdfhkoloimaaKDOpen
import Derived.ChangeSlices
import Derived.ProofKit
import Derived.KernelRfl
set_option maxRecDepth 100000
set_option maxHeartbeats 25600000
namespace Go.Proofs.Yteabdfhkoloimaa
open Go.RowKit Go.Deep Go.ChangeShapes
section
variable {H : Type} {enc : TypeId × Value -> H} {w : World} {base : Nat} {spare : Nat -> Bool} {held : Bool}
theorem Try.cellsByte :Try.prog.cellsOf 5=1:=by kernel_rfl
theorem readBytes {fuel:Nat} {cs:List Value} {x:DataW H×List MemPlace} (h:DataW.trod enc Try.prog w base spare held fuel 22 cs=some x):
  ∃a bs cap,cs=[.slice a (bs:List UInt8).length cap]∧BytesAt w a bs∧bs.length<=maxLen∧bs.length<=cap:=by
 rcases open_ints Try.underlying22 Try.underlying5 Try.cellsByte h with ⟨rfl,_⟩ | ⟨a,len,cap,zs,rfl,_,hl,hm,hz,_,hcell,hwz⟩
 ·exact ⟨none,[],0,rfl,fun i hi=> absurd hi (Nat.not_lt_zero _),Nat.zero_le _,Nat.zero_le _⟩
 ·have hlz:len<=zs.length:=by rw [hz];split <;> omega
  have hlen: ((zs.take len).map fun n=> UInt8.ofNat n.toNat).length=len:=by simp;omega
  refine ⟨some a,(zs.take len).map fun n=> UInt8.ofNat n.toNat,cap,by rw [hlen],fun i hi=> ?_,by rw [hlen];omega,by rw [hlen];exact hl⟩
  rw [hlen] at hi
  obtain ⟨ab,ao,spot⟩:=a
  have hspot:spot=none:=by simpa [Addr.add] using World.cell?_spot (hcell 0 (by omega))
  subst hspot
  have hc:=hcell i (by omega)
  rw [Addr.add_mid] at hc
  refine ⟨ab,ao,rfl,World.block_lt_of_cell? _ _ hc, ?_⟩
  rw [hc]
  have hw:=hwz (zs.getD i 0) (by simp [List.getD,(by omega:i < zs.length)])
  simp [Lit.wf,IntKind.min,IntKind.max,IntKind.signed,IntKind.bits] at hw
  have e: (((zs.take len).map fun n=> UInt8.ofNat n.toNat).getD i 0)=UInt8.ofNat (zs.getD i 0).toNat:=by simp [List.getD,hi,(by omega:i < zs.length)]
  rw [e]
  simp
  omega
end
