import Derived.Test.YtieeffpandfpbaaGreatDoorKCResC
import Derived.Test.YtieeffpandfpbaaGreatDoorKCDist
set_option maxRecDepth 100000
set_option maxHeartbeats 25600000
namespace Go.Proofs.YtieeffpandfpbaaGreatDoor
open Go.RowKit
theorem res_said {W:Acts} {σ:Env} (ho:OpenT σ) {n:ByteArray} {f:Bool} {t:ByteArray} {ok:Bool} (h:ansOf W σ n=if ok=true then some ⟨f,t⟩ else none) (hr:ok=false->∃r,σ n=some r∧f=r.fail∧t=r.text):resX W σ n= ⟨n,ok,f,t⟩:=by
 unfold resX
 cases ok
 ·rw [h]
  obtain ⟨r,h1,h2,h3⟩:=hr rfl
  have hov:r.over=false:=by
   unfold ansOf at h
   cases hW:W n with
   | none=> rw [hW] at h;cases h
   | some A=>
    rw [hW,h1] at h
    simp only at h
    cases hv:r.over
    ·rfl
    ·rw [hv] at h;cases h
  obtain ⟨h4,h5⟩:=ho n r h1 hov
  rw [h2,h3,h4,h5]
  rfl
 ·rw [h]
  rfl
section
variable {G : Ghost} {Kj : List Qq} {wz w w' : World} {bb : Nat} {a : Option Addr} {cap : Nat} {rd : Option Addr} {rn rc : Nat} {mb mx : Nat} {ts : List Zx} {d : Option Addr} {dc : Nat} {f : ByteArray -> Value} {ws : ByteArray -> List Nat}
end
