import Derived.Test.YteabdfhkoloimaaKDPick
set_option maxRecDepth 100000
set_option maxHeartbeats 25600000
namespace Go.Proofs.Yteabdfhkoloimaa
open Go.RowKit
def BytesAt (w:World) (a:Option Addr) (bs:List UInt8):Prop:=
 ∀i,i < bs.length->∃b o,a=some ⟨b,o,none⟩∧b < w.heap.size∧w.cell? ⟨b,o+i,none⟩=some (.int .u8 ((bs.getD i 0).toNat:Int))
theorem BytesAt.take {w:World} {a:Option Addr} {bs:List UInt8} (h:BytesAt w a bs) (n:Nat):BytesAt w a (bs.take n):=by
 intro i hi
 obtain ⟨b,o,e,hb,hc⟩:=h i (by simp at hi;omega)
 refine ⟨b,o,e,hb, ?_⟩
 rw [hc]
 have hi':i < n:=by simp at hi;omega
 simp [List.getD_eq_getElem?_getD,hi']
theorem Rd.made {w:World} {a:Option Addr} {bs:List UInt8} (cap:Nat) (h:BytesAt w a bs):
  Rd (w.alloc (.cells #[.slice a bs.length cap,.int .i64 0] 65)) w.heap.size a cap bs 0:=by
 refine ⟨RowT.made w _ _, ?_, ?_,fun i hi=> ?_⟩
 ·rw [World.cell?_alloc_mark];rfl
 ·rw [World.cell?_alloc_mark];rfl
 ·obtain ⟨b,o,e,hb,hc⟩:=h i hi
  exact ⟨b,o,e,by omega,Nat.lt_of_lt_of_le hb ((K_.refl w).alloc _).size,by rw [((K_.refl w).alloc _).cell hb];exact hc⟩
def Opened (w w':World) (a:Option Addr) (cap:Nat) (bs:List UInt8) (e:Ending):Prop:=
 ∃rb,e= .returned (.pointer (some ⟨rb,0,none⟩))∧w.heap.size<=rb∧Rd w' rb a cap (bs.take 2000) 0∧K_ w w'
theorem open_any (w:World) (a:Option Addr) (cap:Nat) (bs:List UInt8) (hB:BytesAt w a bs) (hcap:bs.length<=cap) (hlen:bs.length<=100000000):
  Calls Try.prog 10 #[.slice a bs.length cap] w fun e w'=> Opened w w' a cap bs e:=by
 by_cases h2: (2000:Int) < bs.length
 ·go_enter Try.func10,Try.ntmps10
  go_wp2
  go_ret
  have hl: (bs.take 2000).length=2000:=by simp;omega
  have hr:=Rd.made cap (hB.take 2000)
  rw [hl] at hr
  exact ⟨w.heap.size,rfl,Nat.le_refl _,hr,(K_.refl w).alloc _⟩
 ·go_enter Try.func10,Try.ntmps10
  go_wp2
  go_ret
  have hl:bs.take 2000=bs:=List.take_of_length_le (by omega)
  have hr:=Rd.made cap hB
  exact ⟨w.heap.size,rfl,Nat.le_refl _,by rw [hl];exact hr,(K_.refl w).alloc _⟩
