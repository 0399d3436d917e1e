import Derived.Test.YtmdckapiljhfdaaGreatWImpl2
import Derived.Test.YtmdckapiljhfdaaGreatWImpl3

/-
  WALKS over the program's three kinds of step: sound; kindOf.
-/
namespace Go.Proofs.YtmdckapiljhfdaaGreat
open Go.RowKit

set_option maxRecDepth 100000 in
set_option maxHeartbeats 800000 in
theorem questionSound_any (w : World) (s : StepD) (aa ac : Option Addr) (ca cc : Nat) (n : Int) (hs : s.Fits) (hn : 1 ≤ n ∧ n ≤ 20) (hA : Strs w aa s.asks) (hC : Cases w ac s.cases) (hca : s.asks.length ≤ ca) :
    Calls Tryz.prog 113 #[.agg #[.slice aa s.asks.length ca, .int .i64 s.on, .slice ac s.cases.length cc, .int .i64 s.els, .int .i64 s.fall, .bool s.fin, .bool s.bad, .string s.give], .int .i64 n] w fun e w' => Says e (AskOk s n) ∧ Kept w w' := by
  have k0 : Kept w (w.alloc (.cells #[.slice aa s.asks.length ca, .int .i64 s.on, .slice ac s.cases.length cc, .int .i64 s.els, .int .i64 s.fall, .bool s.fin, .bool s.bad, .string s.give] 150)) := (Kept.refl _).alloc _
  have hgive := empty_iff s.give
  have HGV := hide hgive
  clear hgive
  cases hbad : s.bad
  · rw [hbad] at k0
    cases hg : s.give.toList.isEmpty
    · go_enter Tryz.func113, Tryz.ntmps113
      go_wp2
      go_ret
      exact ⟨Says.no fun h => by have := HGV.out.2 h.1.2.1; simp [this] at hg, k0⟩
    · have HE : Hid (s.give.size = 0) := HGV.out.1 (List.isEmpty_iff.1 hg)
      go_enter Tryz.func113, Tryz.ntmps113
      go_wp2_with fail
      have hask := soundAsks_any (w.alloc (.cells #[.slice aa s.asks.length ca, .int .i64 s.on, .slice ac s.cases.length cc, .int .i64 s.els, .int .i64 s.fall, .bool s.fin, .bool s.bad, .string s.give] 150)) s aa ac ca cc hs (hA.kept ((Kept.refl _).alloc _)) hca
      rw [hbad] at hask
      refine hask.mono ?_
      clear hask
      rintro e w1 ⟨hsay, k1⟩
      have k2 := k0.trans k1
      rcases hsay.cases with ⟨rfl, hyes⟩ | ⟨rfl, hno⟩
      · have HY := hide hyes
        clear hyes hsay
        obtain ⟨hc1, hf1⟩ := k1.rules
        have hz1 := k1.size
        simp only [World.size_alloc] at hz1
        clear k0 k1
        have hz : w.heap.size < w1.heap.size := by omega
        go_wp2_with fail
        have hways := soundWays_any w1 s aa ac ca cc n hs hn (hC.kept k2)
        rw [hbad] at hways
        refine hways.mono ?_
        clear hways
        rintro e w2 ⟨hsay, k3⟩
        have k4 := k2.trans k3
        rcases hsay.cases with ⟨rfl, hyes⟩ | ⟨rfl, hno⟩
        · have HW := hide hyes
          clear hyes hsay hc1 hf1
          go_wp2
          go_ret
          exact ⟨Says.yes ⟨⟨hbad, HE.out, HY.out.1, HY.out.2.1, HW.out.1, HW.out.2.2.1, HW.out.2.2.2, HY.out.2.2⟩, HW.out.2.1⟩, k4⟩
        · have HW := hide hno
          clear hno hsay hc1 hf1
          go_wp2
          go_ret
          exact ⟨Says.no fun h => HW.out ⟨h.1.2.2.2.2.1, h.2, h.1.2.2.2.2.2.1, h.1.2.2.2.2.2.2.1⟩, k4⟩
      · have HW := hide hno
        clear hno hsay k0 k1
        go_wp2
        go_ret
        exact ⟨Says.no fun h => HW.out ⟨h.1.2.2.1, h.1.2.2.2.1, h.1.2.2.2.2.2.2.2⟩, k2⟩
  · go_enter Tryz.func113, Tryz.ntmps113
    go_wp2
    go_ret
    exact ⟨Says.no fun h => by have := h.1.1; simp [hbad] at this, (Kept.refl _).alloc _⟩

theorem goodSound_any (w : World) (s : StepD) (aa ac : Option Addr) (ca cc : Nat) (n : Int) (hs : s.Fits) :
    Calls Tryz.prog 120 #[.agg #[.slice aa s.asks.length ca, .int .i64 s.on, .slice ac s.cases.length cc, .int .i64 s.els, .int .i64 s.fall, .bool s.fin, .bool s.bad, .string s.give], .int .i64 n] w fun e w' => Says e (EndOk s) ∧ Kept w w' := by
  have k0 : Kept w (w.alloc (.cells #[.slice aa s.asks.length ca, .int .i64 s.on, .slice ac s.cases.length cc, .int .i64 s.els, .int .i64 s.fall, .bool s.fin, .bool s.bad, .string s.give] 152)) := (Kept.refl _).alloc _
  go_enter Tryz.func120, Tryz.ntmps120
  go_wp2_with fail
  refine (soundEnd_any _ s.asks.length s.on s.cases.length s.els s.fall s.fin s.bad s.give aa ac ca cc hs.asks hs.cases hs.give).mono ?_
  rintro e w1 ⟨⟨r, rfl, hr⟩, k1⟩
  have HR := hide hr
  have k2 := k0.trans k1
  clear hr k0 k1
  go_wp2
  go_ret
  exact ⟨⟨r, rfl, HR.out⟩, k2⟩

theorem badSound_any (w : World) (s : StepD) (aa ac : Option Addr) (ca cc : Nat) (n : Int) (hs : s.Fits) :
    Calls Tryz.prog 118 #[.agg #[.slice aa s.asks.length ca, .int .i64 s.on, .slice ac s.cases.length cc, .int .i64 s.els, .int .i64 s.fall, .bool s.fin, .bool s.bad, .string s.give], .int .i64 n] w fun e w' => Says e (EndOk s) ∧ Kept w w' := by
  have k0 : Kept w (w.alloc (.cells #[.slice aa s.asks.length ca, .int .i64 s.on, .slice ac s.cases.length cc, .int .i64 s.els, .int .i64 s.fall, .bool s.fin, .bool s.bad, .string s.give] 151)) := (Kept.refl _).alloc _
  go_enter Tryz.func118, Tryz.ntmps118
  go_wp2_with fail
  refine (soundEnd_any _ s.asks.length s.on s.cases.length s.els s.fall s.fin s.bad s.give aa ac ca cc hs.asks hs.cases hs.give).mono ?_
  rintro e w1 ⟨⟨r, rfl, hr⟩, k1⟩
  have HR := hide hr
  have k2 := k0.trans k1
  clear hr k0 k1
  go_wp2
  go_ret
  exact ⟨⟨r, rfl, HR.out⟩, k2⟩

set_option maxHeartbeats 800000 in
theorem kindOf_ask (w : World) (s : StepD) (aa ac : Option Addr) (ca cc : Nat) :
    Calls Tryz.prog 82 #[.agg #[.slice aa s.asks.length ca, .int .i64 s.on, .slice ac s.cases.length cc, .int .i64 s.els, .int .i64 s.fall, .bool false, .bool s.bad, .string s.give]] w fun e w' => e = .returned (.iface 150 (.agg #[.slice aa s.asks.length ca, .int .i64 s.on, .slice ac s.cases.length cc, .int .i64 s.els, .int .i64 s.fall, .bool false, .bool s.bad, .string s.give])) ∧ Kept w w' := by
  go_enter Tryz.func82, Tryz.ntmps82
  go_wp2
  go_ret
  exact ⟨rfl, (Kept.refl _).alloc _⟩

set_option maxHeartbeats 800000 in
theorem kindOf_bad (w : World) (s : StepD) (aa ac : Option Addr) (ca cc : Nat) :
    Calls Tryz.prog 82 #[.agg #[.slice aa s.asks.length ca, .int .i64 s.on, .slice ac s.cases.length cc, .int .i64 s.els, .int .i64 s.fall, .bool true, .bool true, .string s.give]] w fun e w' => e = .returned (.iface 151 (.agg #[.slice aa s.asks.length ca, .int .i64 s.on, .slice ac s.cases.length cc, .int .i64 s.els, .int .i64 s.fall, .bool true, .bool true, .string s.give])) ∧ Kept w w' := by
  go_enter Tryz.func82, Tryz.ntmps82
  go_wp2
  go_ret
  exact ⟨rfl, (Kept.refl _).alloc _⟩

set_option maxHeartbeats 800000 in
theorem kindOf_good (w : World) (s : StepD) (aa ac : Option Addr) (ca cc : Nat) :
    Calls Tryz.prog 82 #[.agg #[.slice aa s.asks.length ca, .int .i64 s.on, .slice ac s.cases.length cc, .int .i64 s.els, .int .i64 s.fall, .bool true, .bool false, .string s.give]] w fun e w' => e = .returned (.iface 152 (.agg #[.slice aa s.asks.length ca, .int .i64 s.on, .slice ac s.cases.length cc, .int .i64 s.els, .int .i64 s.fall, .bool true, .bool false, .string s.give])) ∧ Kept w w' := by
  go_enter Tryz.func82, Tryz.ntmps82
  go_wp2
  go_ret
  exact ⟨rfl, (Kept.refl _).alloc _⟩

end Go.Proofs.YtmdckapiljhfdaaGreat
