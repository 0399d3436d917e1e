import Derived.Test.YtgnkgfjmbmcfcaaGreatDoorKOMark4
import Derived.Laws.EntriesVeiled
set_option maxRecDepth 100000
set_option maxHeartbeats 25600000
namespace Go.Proofs.YtgnkgfjmbmcfcaaGreatDoor
open Go.RowKit
def AscSaid :Prop:= ∀(w:World) (a:Option Addr) (cap:Nat) (l:List Qq),l.length<=maxLen->Nodes w a l->
 Calls Tryz.prog 107 #[.agg #[.slice a l.length cap,.func (.func 111) #[] #[]]] w fun e w'=> Says e (¬SomeFalls l)∧K_ w w'
theorem Tryz.sizeSorted : (Tryz.prog.info? 120).map (·.size)=some 2:=by kernel_rfl
theorem range_made (w:World) (c:Array Value) (t:TypeId): (w.alloc (.cells c t)).rangeAt w.heap.size 0 c.toList:=fun j v hv=> by
 rw [Nat.zero_add,World.cell?_alloc_mark]
 simpa using hv
theorem listOf_any (w:World) (a:Option Addr) (n cap:Nat):
  Calls Tryz.prog 62 #[.agg #[.slice a n cap]] w fun e w'=> e= .returned (.agg #[.slice a n cap,.func (.func 111) #[] #[]])∧K_ w w':=by
 go_enter Tryz.func62,Tryz.ntmps62
 go_wp2
 have hR:=range_made (w.alloc (.cells #[.slice a n cap] 37)) #[.slice a n cap,.func (.func 111) #[] #[]] 120
 rw [World.size_alloc] at hR
 exact X_ [.slice a n cap,.func (.func 111) #[] #[]] _ Tryz.results62 rfl hR Tryz.underlying120 rfl Tryz.sizeSorted rfl ⟨rfl,((K_.refl _).alloc _).alloc _⟩
theorem implCheckWeb_any (hAsc:Hid AscSaid) (w:World) (a:Option Addr) (cap:Nat) (l:List Qq) (hl:l.length<=maxLen) (hs: ∀s∈l,s.Fits) (hS:Nodes w a l):
  Calls Tryz.prog 60 #[.agg #[.slice a l.length cap]] w fun e w'=> (∃c,e= .returned (.int .i64 c)∧WebCode l c)∧K_ w w':=by
 have hl':=hl
 unfold maxLen at hl'
 have k0:K_ w (w.alloc (.cells #[.slice a l.length cap] 37)):= (K_.refl _).alloc _
 by_cases a1: (60:Int) < l.length
 ·go_enter Tryz.func60,Tryz.ntmps60
  go_wp2
  go_ret
  exact ⟨⟨1,rfl,Or.inl ⟨by omega,rfl⟩⟩,k0⟩
 ·go_enter Tryz.func60,Tryz.ntmps60
  go_wp2_with fail
  refine (containsNamed _ a cap l hl hs (hS.kept k0)).mono ?_
  rintro e w1 ⟨hsay,k1⟩
  have K1:=k0.trans k1
  rcases hsay.cases with ⟨rfl,hyes⟩ | ⟨rfl,hno⟩
  ·have HY:=Kz hyes
   clear hyes hsay
   go_wp2
   go_ret
   exact ⟨⟨2,rfl,Or.inr (Or.inl ⟨by omega,HY.out,rfl⟩)⟩,K1⟩
  ·have HB:=Kz hno
   clear hno hsay
   have hc1:w1.cell? ⟨w.heap.size,0,none⟩=some (.slice a l.length cap):=by rw [k1.cell (by simp)];simp
   go_wp2_with fail
   refine (listOf_any _ a l.length cap).mono ?_
   rintro e w2 ⟨rfl,k2⟩
   have K2:=K1.trans k2
   go_wp2_with fail
   refine (unhide hAsc _ a cap l hl (hS.kept K2)).mono ?_
   rintro e w3 ⟨hsay,k3⟩
   have K3:=K2.trans k3
   rcases hsay.cases with ⟨rfl,hyes⟩ | ⟨rfl,hno⟩
   ·have HC:=Kz hyes
    clear hyes hsay
    have hc3:w3.cell? ⟨w.heap.size,0,none⟩=some (.slice a l.length cap):=by rw [((k1.trans k2).trans k3).cell (by simp)];simp
    clear hc1 k1 k2 k3 K1 K2
    go_wp2_with fail
    refine (containsMade _ a cap l hl hs (hS.kept K3)).mono ?_
    rintro e w4 ⟨hsay,k4⟩
    have K4:=K3.trans k4
    rcases hsay.cases with ⟨rfl,hyes⟩ | ⟨rfl,hno⟩
    ·have HD:=Kz hyes
     clear hyes hsay
     go_wp2
     go_ret
     exact ⟨⟨4,rfl,Or.inr (Or.inr (Or.inr (Or.inl ⟨by omega,HB.out,HC.out,HD.out,rfl⟩)))⟩,K4⟩
    ·have HD:=Kz hno
     clear hno hsay
     go_wp2
     go_ret
     exact ⟨⟨0,rfl,Or.inr (Or.inr (Or.inr (Or.inr ⟨by omega,HB.out,HC.out,HD.out,rfl⟩)))⟩,K4⟩
   ·have HC:=Kz hno
    clear hno hsay k1 k2 k3 K1 K2 hc1
    go_wp2
    go_ret
    exact ⟨⟨3,rfl,Or.inr (Or.inr (Or.inl ⟨by omega,HB.out,Classical.not_not.1 HC.out,rfl⟩))⟩,K3⟩
