import Derived.Test.YtinkfgkjdaaeaaaGreatDoorProg
import Derived.Test.YtinkfgkjdaaeaaaGreatDoorKOMarkD
import Derived.WalkKit
import Derived.WalkSpells
import Derived.WalkLawsBesides
import Derived.Deep.OwnRows
import Derived.Deep.RegionWith
import Derived.Test.YtinkfgkjdaaeaaaGreatDoorKWImpl2

namespace Go.Proofs.YtinkfgkjdaaeaaaGreatDoor
open Go.RowKit

set_option maxHeartbeats 400000 in
theorem eqCase_yes (w : World) (c : CaseD) :
    Calls Tryz.prog 136 #[.agg #[.string c.text, .int .i64 c.goto], .agg #[.string c.text, .int .i64 c.goto]] w fun e w' => e = .returned (.bool true) ∧ Kept w w' := by
  go_enter Tryz.func136, Tryz.ntmps136
  go_wp2
  go_ret
  exact ⟨rfl, by repeat (first | apply Kept.alloc | apply Kept.drew | exact Kept.refl _)⟩

set_option maxHeartbeats 400000 in
theorem eqCaseS_yes (w : World) (a a' : Option Addr) (cap cap' : Nat) (l : List CaseD) (hl : l.length ≤ maxLen)
    (hS : Cases w a l) (hS' : Cases w a' l) :
    Calls Tryz.prog 120 #[.slice a l.length cap, .slice a' l.length cap'] w fun e w' => e = .returned (.bool true) ∧ Kept w w' := by
  unfold maxLen at hl
  go_enter Tryz.func120, Tryz.ntmps120
  go_wp2
  go_loopw [5] (fun i wr => ∃ k : Nat, k ≤ l.length ∧ i = .int .i64 k ∧ Kept w wr) (fun i _ => l.length - (intOf i).toNat)
  case atStart => exact ⟨0, Nat.zero_le _, rfl, Kept.refl _⟩
  case round =>
    obtain ⟨k, hk, rfl, hw⟩ := hrel
    by_cases hlt : k < l.length
    · obtain ⟨b, o, rfl, hb, hc⟩ := hS.kept hw k hlt
      obtain ⟨b', o', rfl, hb', hc'⟩ := hS'.kept hw k hlt
      generalize l.getD k CaseD.zero = c at *
      have c0 := hc 0 _ rfl
      have c1 := hc 1 _ rfl
      have d0 := hc' 0 _ rfl
      have d1 := hc' 1 _ rfl
      simp only [Nat.add_zero] at c0 d0
      clear hc hc'
      go_wp2
      go_region_with (go_at_call 136; refine (eqCase_yes _ c).mono ?_; rintro e w1 ⟨rfl, hw1⟩)
      all_goals
        go_wp2
        go_roundw
        case rel => exact ⟨k + 1, by omega, by go_num, by repeat (first | assumption | apply Kept.drew | refine Kept.trans ?_ (by assumption))⟩
        case measure => simp [intOf]; omega
    · go_wp2
      go_ret
      exact ⟨rfl, hw⟩

theorem Tryz.sizeCase : (Tryz.prog.info? 61).map (·.size) = some 2 := by kernel_rfl
theorem Tryz.infoCase : (Tryz.prog.info? 61).map (fun i => (i.zero, i.size, i.bytes)) = some (some (.agg #[.string ByteArray.empty, .int .i64 0]), 2, 24) := by kernel_rfl

end Go.Proofs.YtinkfgkjdaaeaaaGreatDoor

namespace Go.Proofs.YtinkfgkjdaaeaaaGreatDoor
open Go.RowKit

end Go.Proofs.YtinkfgkjdaaeaaaGreatDoor

namespace Go.Proofs.YtinkfgkjdaaeaaaGreatDoor
open Go.RowKit

end Go.Proofs.YtinkfgkjdaaeaaaGreatDoor

namespace Go.Proofs.YtinkfgkjdaaeaaaGreatDoor
open Go.RowKit

theorem Tryz.sizeStep : (Tryz.prog.info? 59).map (·.size) = some 8 := by kernel_rfl

set_option maxHeartbeats 800000 in
theorem eqStep_yes (w : World) (s : StepD) (aa ac ba bc : Option Addr) (ca cc da dc : Nat) (h1 : s.asks.length ≤ maxLen) (h2 : s.cases.length ≤ maxLen) (hA : Strs w aa s.asks) (hC : Cases w ac s.cases) (hA' : Strs w ba s.asks) (hC' : Cases w bc s.cases) :
    Calls Tryz.prog 102 #[.agg #[.slice aa s.asks.length ca, .int .i64 s.on, .slice ac s.cases.length cc, .int .i64 s.els, .int .i64 s.fall, .bool s.fin, .bool s.bad, .string s.give], .agg #[.slice ba s.asks.length da, .int .i64 s.on, .slice bc s.cases.length dc, .int .i64 s.els, .int .i64 s.fall, .bool s.fin, .bool s.bad, .string s.give]] w fun e w' => e = .returned (.bool true) ∧ Kept w w' := by
  go_enter Tryz.func102, Tryz.ntmps102
  go_wp2_with fail
  have k0 : Kept w ((w.alloc (.cells #[.slice aa s.asks.length ca, .int .i64 s.on, .slice ac s.cases.length cc, .int .i64 s.els, .int .i64 s.fall, .bool s.fin, .bool s.bad, .string s.give] 59)).alloc (.cells #[.slice ba s.asks.length da, .int .i64 s.on, .slice bc s.cases.length dc, .int .i64 s.els, .int .i64 s.fall, .bool s.fin, .bool s.bad, .string s.give] 59)) := by repeat (first | apply Kept.alloc | exact Kept.refl _)
  refine (eqStringS_yes _ _ _ _ _ _ h1 (hA.kept k0) (hA'.kept k0)).mono ?_
  rintro e w1 ⟨rfl, k1⟩
  obtain ⟨hc1, hf1⟩ := k1.rules
  have K1 := k0.trans k1
  have hz1 := k1.size
  simp only [World.size_alloc] at hz1
  clear k0 k1
  have z0 : w.heap.size < w1.heap.size := by omega
  have z1 : w.heap.size + 1 < w1.heap.size := by omega
  go_wp2_with fail
  refine (eqCaseS_yes _ _ _ _ _ _ h2 (hC.kept (by repeat (first | apply Kept.drew | exact K1))) (hC'.kept (by repeat (first | apply Kept.drew | exact K1)))).mono ?_
  rintro e w2 ⟨rfl, k2⟩
  obtain ⟨hc2, hf2⟩ := k2.rules
  have K2 : Kept w w2 := Kept.trans (by repeat (first | apply Kept.drew | exact K1)) k2
  have hz2 := k2.size
  clear k2 K1
  have y0 : w.heap.size < w2.heap.size := by omega
  have y1 : w.heap.size + 1 < w2.heap.size := by omega
  go_wp2
  go_ret
  exact ⟨rfl, by repeat (first | apply Kept.drew | exact K2)⟩

end Go.Proofs.YtinkfgkjdaaeaaaGreatDoor

namespace Go.Proofs.YtinkfgkjdaaeaaaGreatDoor
open Go.RowKit

end Go.Proofs.YtinkfgkjdaaeaaaGreatDoor

namespace Go.Proofs.YtinkfgkjdaaeaaaGreatDoor
open Go.RowKit

theorem Tryz.infoStep : (Tryz.prog.info? 59).map (fun i => (i.zero, i.size, i.bytes)) = some (some (.agg #[.slice none 0 0, .int .i64 0, .slice none 0 0, .int .i64 0, .int .i64 0, .bool false, .bool false, .string ⟨#[]⟩]), 8, 96) := by kernel_rfl

end Go.Proofs.YtinkfgkjdaaeaaaGreatDoor
