import Derived.Test.YtinkfgkjdaaeaaaGreatDoorKWSteps2

namespace Go.Proofs.YtinkfgkjdaaeaaaGreatDoor
open Go.RowKit

set_option maxHeartbeats 1600000 in
theorem eqStepS_yes (w : World) (a a' : Option Addr) (cap cap' : Nat) (l : List StepD) (hl : l.length ≤ maxLen) (hs : ∀ s ∈ l, s.asks.length ≤ maxLen ∧ s.cases.length ≤ maxLen)
    (hS : Steps w a l) (hS' : Steps w a' l) :
    Calls Tryz.prog 82 #[.slice a l.length cap, .slice a' l.length cap'] w fun e w' => e = .returned (.bool true) ∧ Kept w w' := by
  unfold maxLen at hl
  go_enter Tryz.func82, Tryz.ntmps82
  go_wp2
  go_loopw [5] (fun i wr => ∃ k : Nat, k ≤ l.length ∧ i = .int .i64 k ∧ Kept w wr) (fun i _ => l.length - (intOf i).toNat)
  case atStart => exact ⟨0, Nat.zero_le _, rfl, Kept.refl _⟩
  case round =>
    obtain ⟨k, hk, rfl, hw⟩ := hrel
    by_cases hlt : k < l.length
    · obtain ⟨b, o, cs, rfl, hb, hc, aa, ca, ac, cc, rfl, hA, hC, hca⟩ := hS.kept hw k hlt
      obtain ⟨b', o', cs', rfl, hb', hc', ba, da, bc, dc, rfl, hA', hC', hca'⟩ := hS'.kept hw k hlt
      have hsz := hs (l.getD k StepD.zero) (by simp [List.getD, hlt])
      clear hs
      generalize l.getD k StepD.zero = s at *
      have c0 := hc 0 _ rfl
      have c1 := hc 1 _ rfl
      have c2 := hc 2 _ rfl
      have c3 := hc 3 _ rfl
      have c4 := hc 4 _ rfl
      have c5 := hc 5 _ rfl
      have c6 := hc 6 _ rfl
      have c7 := hc 7 _ rfl
      have d0 := hc' 0 _ rfl
      have d1 := hc' 1 _ rfl
      have d2 := hc' 2 _ rfl
      have d3 := hc' 3 _ rfl
      have d4 := hc' 4 _ rfl
      have d5 := hc' 5 _ rfl
      have d6 := hc' 6 _ rfl
      have d7 := hc' 7 _ rfl
      simp only [Nat.add_zero] at c0 d0
      clear hc hc'
      go_wp2
      go_region_with (go_at_call 102; refine (eqStep_yes _ s aa ac ba bc ca cc da dc hsz.1 hsz.2 (hA.kept (by repeat (first | apply Kept.drew | exact Kept.refl _))) (hC.kept (by repeat (first | apply Kept.drew | exact Kept.refl _))) (hA'.kept (by repeat (first | apply Kept.drew | exact Kept.refl _))) (hC'.kept (by repeat (first | apply Kept.drew | exact Kept.refl _)))).mono ?_; rintro e w1 ⟨rfl, hw1⟩)
      all_goals
        go_wp2
        go_roundw
        case rel => exact ⟨k + 1, by omega, by go_num, by repeat (first | assumption | apply Kept.drew | refine Kept.trans ?_ (by assumption))⟩
        case measure => simp [intOf]; omega
    · go_wp2
      go_ret
      exact ⟨rfl, hw⟩

end Go.Proofs.YtinkfgkjdaaeaaaGreatDoor

namespace Go.Proofs.YtinkfgkjdaaeaaaGreatDoor
open Go.RowKit

set_option maxHeartbeats 400000 in
theorem eqAction_yes (w : World) (cost : Int) (a a' : Option Addr) (cap cap' : Nat) (l : List StepD) (hl : l.length ≤ maxLen) (hs : ∀ s ∈ l, s.asks.length ≤ maxLen ∧ s.cases.length ≤ maxLen)
    (hS : Steps w a l) (hS' : Steps w a' l) :
    Calls Tryz.prog 60 #[.agg #[.int .i64 cost, .slice a l.length cap], .agg #[.int .i64 cost, .slice a' l.length cap']] w fun e w' => e = .returned (.bool true) ∧ Kept w w' := by
  have k0 : Kept w ((w.alloc (.cells #[.int .i64 cost, .slice a l.length cap] 52)).alloc (.cells #[.int .i64 cost, .slice a' l.length cap'] 52)) := ((Kept.refl _).alloc _).alloc _
  go_enter Tryz.func60, Tryz.ntmps60
  go_wp2_with fail
  refine (eqStepS_yes _ a a' cap cap' l hl hs (hS.kept (by repeat (first | apply Kept.drew | exact k0))) (hS'.kept (by repeat (first | apply Kept.drew | exact k0)))).mono ?_
  rintro e w1 ⟨rfl, k1⟩
  have k2 : Kept w w1 := Kept.trans (by repeat (first | apply Kept.drew | exact k0)) k1
  clear k0 k1
  go_wp2
  go_ret
  exact ⟨rfl, k2⟩

end Go.Proofs.YtinkfgkjdaaeaaaGreatDoor

namespace Go.Proofs.YtinkfgkjdaaeaaaGreatDoor
open Go.RowKit

structure NodeD where
  name : ByteArray
  cost : Int
  steps : List StepD

def NodeD.zero : NodeD := ⟨ByteArray.empty, 0, []⟩
def NodeD.cells (d : NodeD) (a : Option Addr) (cap : Nat) : List Value := [.string d.name, .int .i64 d.cost, .slice a d.steps.length cap]

theorem NodeD.one (d : NodeD) (a : Option Addr) (cap : Nat) : (d.cells a cap).toArray.all (·.oneCell') = true :=
  all_oneCell_toArray (by simp [NodeD.cells, Value.oneCell'])

def NodeIs (w : World) (cs : List Value) (d : NodeD) : Prop := ∃ a cap, cs = d.cells a cap ∧ Steps w a d.steps

theorem NodeIs.kept {w w' : World} {cs : List Value} {d : NodeD} (h : NodeIs w cs d) (k : Kept w w') : NodeIs w' cs d := by
  obtain ⟨a, cap, e, h1⟩ := h
  exact ⟨a, cap, e, h1.kept k⟩

def Nodes (w : World) (a : Option Addr) (l : List NodeD) : Prop :=
  ∀ i, i < l.length → ∃ b o cs, a = some ⟨b, o, none⟩ ∧ b < w.heap.size ∧ w.rangeAt b (o + i * 3) cs ∧ NodeIs w cs (l.getD i NodeD.zero)

theorem Nodes.kept {w w' : World} {a : Option Addr} {l : List NodeD} (h : Nodes w a l) (k : Kept w w') : Nodes w' a l := by
  intro i hi
  obtain ⟨b, o, cs, ha, hb, hc, hs⟩ := h i hi
  exact ⟨b, o, cs, ha, Nat.lt_of_lt_of_le hb k.size, k.range hb hc, hs.kept k⟩

structure NodeD.Fits (d : NodeD) : Prop where
  name : d.name.size ≤ maxLen
  cost : In64 d.cost
  steps : d.steps.length ≤ maxLen
  each : ∀ s ∈ d.steps, s.Fits

theorem size_setCells (g : Nat) : ∀ (vs : List Value) (o : Nat) (w : World), (w.setCells g o vs).heap.size = w.heap.size
  | [], _, _ => rfl
  | v :: r, o, w => by rw [World.setCells, size_setCells g r (o + 1), size_setCell]

end Go.Proofs.YtinkfgkjdaaeaaaGreatDoor

namespace Go.Proofs.YtinkfgkjdaaeaaaGreatDoor
open Go.RowKit

set_option maxHeartbeats 800000 in
theorem eqNode_yes (w : World) (d : NodeD) (a a' : Option Addr) (cap cap' : Nat) (hd : d.Fits) (hS : Steps w a d.steps) (hS' : Steps w a' d.steps) :
    Calls Tryz.prog 38 #[.agg #[.string d.name, .int .i64 d.cost, .slice a d.steps.length cap], .agg #[.string d.name, .int .i64 d.cost, .slice a' d.steps.length cap']] w fun e w' => e = .returned (.bool true) ∧ Kept w w' := by
  have k0 : Kept w ((w.alloc (.cells #[.string d.name, .int .i64 d.cost, .slice a d.steps.length cap] 54)).alloc (.cells #[.string d.name, .int .i64 d.cost, .slice a' d.steps.length cap'] 54)) := ((Kept.refl _).alloc _).alloc _
  go_enter Tryz.func38, Tryz.ntmps38
  go_wp2_with fail
  refine (eqAction_yes _ d.cost a a' cap cap' d.steps hd.steps (fun s hs => ⟨(hd.each s hs).asks, (hd.each s hs).cases⟩) (hS.kept (by repeat (first | apply Kept.drew | exact k0))) (hS'.kept (by repeat (first | apply Kept.drew | exact k0)))).mono ?_
  rintro e w1 ⟨rfl, k1⟩
  have k2 : Kept w w1 := Kept.trans (by repeat (first | apply Kept.drew | exact k0)) k1
  clear k0 k1
  go_wp2
  go_ret
  exact ⟨rfl, k2⟩

theorem Tryz.sizeNode : (Tryz.prog.info? 54).map (·.size) = some 3 := by kernel_rfl

end Go.Proofs.YtinkfgkjdaaeaaaGreatDoor

namespace Go.Proofs.YtinkfgkjdaaeaaaGreatDoor
open Go.RowKit

end Go.Proofs.YtinkfgkjdaaeaaaGreatDoor

namespace Go.Proofs.YtinkfgkjdaaeaaaGreatDoor
open Go.RowKit

theorem Tryz.infoNode : (Tryz.prog.info? 54).map (fun i => (i.zero, i.size, i.bytes)) = some (some (.agg #[.string ⟨#[]⟩, .int .i64 0, .slice none 0 0]), 3, 48) := by kernel_rfl

end Go.Proofs.YtinkfgkjdaaeaaaGreatDoor

namespace Go.Proofs.YtinkfgkjdaaeaaaGreatDoor
open Go.RowKit

set_option maxHeartbeats 1600000 in
theorem eqNodeS_yes (w : World) (a a' : Option Addr) (cap cap' : Nat) (l : List NodeD) (hl : l.length ≤ maxLen) (hs : ∀ s ∈ l, s.Fits)
    (hS : Nodes w a l) (hS' : Nodes w a' l) :
    Calls Tryz.prog 17 #[.slice a l.length cap, .slice a' l.length cap'] w fun e w' => e = .returned (.bool true) ∧ Kept w w' := by
  unfold maxLen at hl
  go_enter Tryz.func17, Tryz.ntmps17
  go_wp2
  go_loopw [5] (fun i wr => ∃ k : Nat, k ≤ l.length ∧ i = .int .i64 k ∧ Kept w wr) (fun i _ => l.length - (intOf i).toNat)
  case atStart => exact ⟨0, Nat.zero_le _, rfl, Kept.refl _⟩
  case round =>
    obtain ⟨k, hk, rfl, hw⟩ := hrel
    by_cases hlt : k < l.length
    · obtain ⟨b, o, cs, rfl, hb, hc, aa, ca, rfl, hA⟩ := hS.kept hw k hlt
      obtain ⟨b', o', cs', rfl, hb', hc', ba, da, rfl, hA'⟩ := hS'.kept hw k hlt
      have hsz := hs (l.getD k NodeD.zero) (by simp [List.getD, hlt])
      clear hs
      generalize l.getD k NodeD.zero = s at *
      have c0 := hc 0 _ rfl
      have c1 := hc 1 _ rfl
      have c2 := hc 2 _ rfl
      have d0 := hc' 0 _ rfl
      have d1 := hc' 1 _ rfl
      have d2 := hc' 2 _ rfl
      simp only [Nat.add_zero] at c0 d0
      clear hc hc'
      go_wp2
      go_region_with (go_at_call 38; refine (eqNode_yes _ s aa ba ca da hsz (hA.kept (by repeat (first | apply Kept.drew | exact Kept.refl _))) (hA'.kept (by repeat (first | apply Kept.drew | exact Kept.refl _)))).mono ?_; rintro e w1 ⟨rfl, hw1⟩)
      all_goals
        go_wp2
        go_roundw
        case rel => exact ⟨k + 1, by omega, by go_num, by repeat (first | assumption | apply Kept.drew | refine Kept.trans ?_ (by assumption))⟩
        case measure => simp [intOf]; omega
    · go_wp2
      go_ret
      exact ⟨rfl, hw⟩

end Go.Proofs.YtinkfgkjdaaeaaaGreatDoor

namespace Go.Proofs.YtinkfgkjdaaeaaaGreatDoor
open Go.RowKit

theorem Tryz.sizeWeb : (Tryz.prog.info? 24).map (·.size) = some 1 := by kernel_rfl

set_option maxHeartbeats 400000 in
theorem eqWeb_yes (w : World) (a a' : Option Addr) (cap cap' : Nat) (l : List NodeD) (hl : l.length ≤ maxLen) (hs : ∀ s ∈ l, s.Fits) (hS : Nodes w a l) (hS' : Nodes w a' l) :
    Calls Tryz.prog 6 #[.agg #[.slice a l.length cap], .agg #[.slice a' l.length cap']] w fun e w' => e = .returned (.bool true) ∧ Kept w w' := by
  have k0 : Kept w ((w.alloc (.cells #[.slice a l.length cap] 24)).alloc (.cells #[.slice a' l.length cap'] 24)) := ((Kept.refl _).alloc _).alloc _
  go_enter Tryz.func6, Tryz.ntmps6
  go_wp2_with fail
  refine (eqNodeS_yes _ a a' cap cap' l hl hs (hS.kept (by repeat (first | apply Kept.drew | exact k0))) (hS'.kept (by repeat (first | apply Kept.drew | exact k0)))).mono ?_
  rintro e w1 ⟨rfl, k1⟩
  have k2 : Kept w w1 := Kept.trans (by repeat (first | apply Kept.drew | exact k0)) k1
  clear k0 k1
  go_wp2
  go_ret
  exact ⟨rfl, k2⟩

end Go.Proofs.YtinkfgkjdaaeaaaGreatDoor
