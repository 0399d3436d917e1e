import Derived.Test.YteabdfhkoloimaaKWImpl3
import Derived.Test.YteabdfhkoloimaaKWStrs
set_option maxRecDepth 100000
set_option maxHeartbeats 25600000
namespace Go.Proofs.Yteabdfhkoloimaa
open Go.RowKit
theorem questionSound_any (w:World) (s:Xz) (aa ac:Option Addr) (ca cc:Nat) (n:Int) (hs:s.Fits) (hn:1<=n∧n<=20) (hA:Strs w aa s.asks) (hC:Cases w ac s.cases) (hca:s.asks.length<=ca):
  Calls Try.prog 80 #[.agg #[.slice aa s.asks.length ca,.int .i64 s.on,.slice ac s.cases.length cc,.int .i64 s.els,.int .i64 s.fall,.bool s.fin,.bool s.bad,.string s.give],.int .i64 n] w fun e w'=> Says e (AskOk s n)∧K_ w w':=by
 have k0:K_ w (w.alloc (.cells #[.slice aa s.asks.length ca,.int .i64 s.on,.slice ac s.cases.length cc,.int .i64 s.els,.int .i64 s.fall,.bool s.fin,.bool s.bad,.string s.give] 100)):= (K_.refl _).alloc _
 have hgive:=empty_iff s.give
 have HGV:=Kz hgive
 clear hgive
 cases hbad:s.bad
 ·rw [hbad] at k0
  cases hg:s.give.toList.isEmpty
  ·go_enter Try.func80,Try.ntmps80
   go_wp2
   go_ret
   exact ⟨Says.no fun h=> by have:=HGV.out.2 h.1.2.1;simp [this] at hg,k0⟩
  ·have HE:Hid (s.give.size=0):=HGV.out.1 (List.isEmpty_iff.1 hg)
   go_enter Try.func80,Try.ntmps80
   go_wp2_with fail
   have hask:=soundAsks_any (w.alloc (.cells #[.slice aa s.asks.length ca,.int .i64 s.on,.slice ac s.cases.length cc,.int .i64 s.els,.int .i64 s.fall,.bool s.fin,.bool s.bad,.string s.give] 100)) s aa ac ca cc hs (hA.kept ((K_.refl _).alloc _)) hca
   rw [hbad] at hask
   refine hask.mono ?_
   clear hask
   rintro e w1 ⟨hsay,k1⟩
   have k2:=k0.trans k1
   rcases hsay.cases with ⟨rfl,hyes⟩ | ⟨rfl,hno⟩
   ·have HY:=Kz hyes
    clear hyes hsay
    obtain ⟨hc1,hf1⟩:=k1.rules
    have hz1:=k1.size
    simp only [World.size_alloc] at hz1
    clear k0 k1
    have hz:w.heap.size < w1.heap.size:=by omega
    go_wp2_with fail
    have hways:=soundWays_any w1 s aa ac ca cc n hs hn (hC.kept k2)
    rw [hbad] at hways
    refine hways.mono ?_
    clear hways
    rintro e w2 ⟨hsay,k3⟩
    have k4:=k2.trans k3
    rcases hsay.cases with ⟨rfl,hyes⟩ | ⟨rfl,hno⟩
    ·have HW:=Kz hyes
     clear hyes hsay hc1 hf1
     go_wp2
     go_ret
     exact ⟨Says.yes ⟨⟨hbad,HE.out,HY.out.1,HY.out.2.1,HW.out.1,HW.out.2.2.1,HW.out.2.2.2,HY.out.2.2⟩,HW.out.2.1⟩,k4⟩
    ·have HW:=Kz hno
     clear hno hsay hc1 hf1
     go_wp2
     go_ret
     exact ⟨Says.no fun h=> HW.out ⟨h.1.2.2.2.2.1,h.2,h.1.2.2.2.2.2.1,h.1.2.2.2.2.2.2.1⟩,k4⟩
   ·have HW:=Kz hno
    clear hno hsay k0 k1
    go_wp2
    go_ret
    exact ⟨Says.no fun h=> HW.out ⟨h.1.2.2.1,h.1.2.2.2.1,h.1.2.2.2.2.2.2.2⟩,k2⟩
 ·go_enter Try.func80,Try.ntmps80
  go_wp2
  go_ret
  exact ⟨Says.no fun h=> by have:=h.1.1;simp [hbad] at this,(K_.refl _).alloc _⟩
theorem goodSound_any (w:World) (s:Xz) (aa ac:Option Addr) (ca cc:Nat) (n:Int) (hs:s.Fits):
  Calls Try.prog 89 #[.agg #[.slice aa s.asks.length ca,.int .i64 s.on,.slice ac s.cases.length cc,.int .i64 s.els,.int .i64 s.fall,.bool s.fin,.bool s.bad,.string s.give],.int .i64 n] w fun e w'=> Says e (EndOk s)∧K_ w w':=by
 have k0:K_ w (w.alloc (.cells #[.slice aa s.asks.length ca,.int .i64 s.on,.slice ac s.cases.length cc,.int .i64 s.els,.int .i64 s.fall,.bool s.fin,.bool s.bad,.string s.give] 102)):= (K_.refl _).alloc _
 go_enter Try.func89,Try.ntmps89
 go_wp2_with fail
 refine (soundEnd_any _ s.asks.length s.on s.cases.length s.els s.fall s.fin s.bad s.give aa ac ca cc hs.asks hs.cases hs.give).mono ?_
 rintro e w1 ⟨⟨r,rfl,hr⟩,k1⟩
 have HR:=Kz hr
 have k2:=k0.trans k1
 clear hr k0 k1
 go_wp2
 go_ret
 exact ⟨⟨r,rfl,HR.out⟩,k2⟩
theorem badSound_any (w:World) (s:Xz) (aa ac:Option Addr) (ca cc:Nat) (n:Int) (hs:s.Fits):
  Calls Try.prog 87 #[.agg #[.slice aa s.asks.length ca,.int .i64 s.on,.slice ac s.cases.length cc,.int .i64 s.els,.int .i64 s.fall,.bool s.fin,.bool s.bad,.string s.give],.int .i64 n] w fun e w'=> Says e (EndOk s)∧K_ w w':=by
 have k0:K_ w (w.alloc (.cells #[.slice aa s.asks.length ca,.int .i64 s.on,.slice ac s.cases.length cc,.int .i64 s.els,.int .i64 s.fall,.bool s.fin,.bool s.bad,.string s.give] 101)):= (K_.refl _).alloc _
 go_enter Try.func87,Try.ntmps87
 go_wp2_with fail
 refine (soundEnd_any _ s.asks.length s.on s.cases.length s.els s.fall s.fin s.bad s.give aa ac ca cc hs.asks hs.cases hs.give).mono ?_
 rintro e w1 ⟨⟨r,rfl,hr⟩,k1⟩
 have HR:=Kz hr
 have k2:=k0.trans k1
 clear hr k0 k1
 go_wp2
 go_ret
 exact ⟨⟨r,rfl,HR.out⟩,k2⟩
theorem kindOf_ask (w:World) (s:Xz) (aa ac:Option Addr) (ca cc:Nat):
  Calls Try.prog 50 #[.agg #[.slice aa s.asks.length ca,.int .i64 s.on,.slice ac s.cases.length cc,.int .i64 s.els,.int .i64 s.fall,.bool false,.bool s.bad,.string s.give]] w fun e w'=> e= .returned (.iface 100 (.agg #[.slice aa s.asks.length ca,.int .i64 s.on,.slice ac s.cases.length cc,.int .i64 s.els,.int .i64 s.fall,.bool false,.bool s.bad,.string s.give]))∧K_ w w':=by
 go_enter Try.func50,Try.ntmps50
 go_wp2
 go_ret
 exact ⟨rfl,(K_.refl _).alloc _⟩
theorem kindOf_bad (w:World) (s:Xz) (aa ac:Option Addr) (ca cc:Nat):
  Calls Try.prog 50 #[.agg #[.slice aa s.asks.length ca,.int .i64 s.on,.slice ac s.cases.length cc,.int .i64 s.els,.int .i64 s.fall,.bool true,.bool true,.string s.give]] w fun e w'=> e= .returned (.iface 101 (.agg #[.slice aa s.asks.length ca,.int .i64 s.on,.slice ac s.cases.length cc,.int .i64 s.els,.int .i64 s.fall,.bool true,.bool true,.string s.give]))∧K_ w w':=by
 go_enter Try.func50,Try.ntmps50
 go_wp2
 go_ret
 exact ⟨rfl,(K_.refl _).alloc _⟩
theorem kindOf_good (w:World) (s:Xz) (aa ac:Option Addr) (ca cc:Nat):
  Calls Try.prog 50 #[.agg #[.slice aa s.asks.length ca,.int .i64 s.on,.slice ac s.cases.length cc,.int .i64 s.els,.int .i64 s.fall,.bool true,.bool false,.string s.give]] w fun e w'=> e= .returned (.iface 102 (.agg #[.slice aa s.asks.length ca,.int .i64 s.on,.slice ac s.cases.length cc,.int .i64 s.els,.int .i64 s.fall,.bool true,.bool false,.string s.give]))∧K_ w w':=by
 go_enter Try.func50,Try.ntmps50
 go_wp2
 go_ret
 exact ⟨rfl,(K_.refl _).alloc _⟩
theorem l1StepOk_end (w:World) (asks:Nat) (on:Int) (cases:Nat) (els fall:Int) (bad:Bool) (give:ByteArray) (aa ac:Option Addr) (ca cc:Nat) (n:Int) (h1:asks<=maxLen) (h2:cases<=maxLen) (h3:give.size<=maxLen):
  Calls Try.prog 45 #[.agg #[.slice aa asks ca,.int .i64 on,.slice ac cases cc,.int .i64 els,.int .i64 fall,.bool true,.bool bad,.string give],.int .i64 n] w
   fun e w'=> Says e (asks=0∧on=0∧cases=0∧els=0∧fall=0∧give.size<=30)∧K_ w w':=by
 unfold maxLen at h1 h2 h3
 have k0:K_ w (w.alloc (.cells #[.slice aa asks ca,.int .i64 on,.slice ac cases cc,.int .i64 els,.int .i64 fall,.bool true,.bool bad,.string give] 68)):= (K_.refl _).alloc _
 cases a1: ((asks:Int) == 0)
 ·go_enter Try.func45,Try.ntmps45
  go_wp2
  go_ret
  exact ⟨Says.no fun h=> by simp at a1;omega,k0⟩
 ·obtain rfl:asks=0:=by simp at a1;omega
  clear a1
  cases a2: (on == 0)
  ·go_enter Try.func45,Try.ntmps45
   go_wp2
   go_ret
   exact ⟨Says.no fun h=> by simp at a2;omega,k0⟩
  ·obtain rfl:on=0:=by simpa using a2
   clear a2
   cases a3: ((cases:Int) == 0)
   ·go_enter Try.func45,Try.ntmps45
    go_wp2
    go_ret
    exact ⟨Says.no fun h=> by simp at a3;omega,k0⟩
   ·obtain rfl:cases=0:=by simp at a3;omega
    clear a3
    cases a4: (els == 0)
    ·go_enter Try.func45,Try.ntmps45
     go_wp2
     go_ret
     exact ⟨Says.no fun h=> by simp at a4;omega,k0⟩
    ·obtain rfl:els=0:=by simpa using a4
     clear a4
     cases a5: (fall == 0)
     ·go_enter Try.func45,Try.ntmps45
      go_wp2
      go_ret
      exact ⟨Says.no fun h=> by simp at a5;omega,k0⟩
     ·obtain rfl:fall=0:=by simpa using a5
      clear a5
      by_cases a6: (give.size:Int)<=30
      ·go_enter Try.func45,Try.ntmps45
       go_wp2
       go_ret
       exact ⟨Says.yes (by simp;omega),k0⟩
      ·go_enter Try.func45,Try.ntmps45
       go_wp2
       go_ret
       exact ⟨Says.no fun h=> by omega,k0⟩
