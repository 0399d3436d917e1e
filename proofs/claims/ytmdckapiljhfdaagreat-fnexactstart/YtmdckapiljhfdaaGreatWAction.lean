import Derived.Test.YtmdckapiljhfdaaGreatWSteps
import Derived.Test.YtmdckapiljhfdaaGreatWSteps2
import Derived.Test.YtmdckapiljhfdaaGreatWSteps3

/-
  WALKS over an action: szAction, toAction, eqAction.
-/
namespace Go.Proofs.YtmdckapiljhfdaaGreat
open Go.RowKit

set_option maxHeartbeats 400000 in
theorem szAction_any (w : World) (cost : Int) (a : Option Addr) (cap : Nat) (l : List StepD) (left : Int) (hl : l.length ≤ maxLen) (hs : ∀ s ∈ l, s.Fits)
    (hS : Steps w a l) (h0 : 0 ≤ left) (h1 : left ≤ 1048576) :
    Calls Tryz.prog 53 #[.agg #[.int .i64 cost, .slice a l.length cap], .int .i64 left] w fun e w' => e = .returned (.int .i64 (szL (szSteps l) left)) ∧ Kept w w' := by
  have k0 : Kept w (w.alloc (.cells #[.int .i64 cost, .slice a l.length cap] 64)) := (Kept.refl _).alloc _
  go_enter Tryz.func53, Tryz.ntmps53
  go_wp2_with fail
  refine (szStepS_any _ a cap l left hl hs (hS.kept k0) h0 h1).mono ?_
  rintro e w1 ⟨rfl, k1⟩
  have k2 := k0.trans k1
  clear k0 k1
  by_cases hle : (szSteps l : Int) ≤ left
  · rw [szL_pos hle]
    go_wp2
    go_ret
    exact ⟨ret_int (szL_pos hle).symm, k2⟩
  · rw [szL_neg (by omega)]
    go_wp2
    go_ret
    exact ⟨ret_int (szL_neg (by omega)).symm, k2⟩

theorem Tryz.sizeAction : (Tryz.prog.info? 70).map (·.size) = some 2 := by kernel_rfl

set_option maxHeartbeats 400000 in
theorem toAction_any (w : World) (cost : Int) (a : Option Addr) (cap : Nat) (l : List StepD) (hl : l.length ≤ 1048576) (hs : ∀ s ∈ l, s.asks.length ≤ 1048576 ∧ s.cases.length ≤ 1048576)
    (hS : Steps w a l) :
    Calls Tryz.prog 55 #[.agg #[.int .i64 cost, .slice a l.length cap]] w fun e w' => ∃ b, e = .returned (.agg #[.int .i64 cost, .slice (some ⟨b, 0, none⟩) l.length l.length]) ∧ StepsNew w' b l ∧ Kept w w' ∧ w.heap.size ≤ b := by
  go_enter Tryz.func55, Tryz.ntmps55
  go_wp2_with fail
  refine (toStepS_any _ a cap l hl hs (hS.kept (by repeat (first | apply Kept.alloc | exact Kept.refl _)))).mono ?_
  rintro e w1 ⟨b, rfl, hN, k1, hb⟩
  obtain ⟨hc1, hf1⟩ := k1.rules
  have hz1 := k1.size
  simp only [World.size_alloc] at hb hz1
  have K1 : Kept w w1 := Kept.trans (by repeat (first | apply Kept.alloc | exact Kept.refl _)) k1
  have hrow1 : Row w1 (w.heap.size + 1) 2 := Row.kept (Row.alloc (by have := Row.made (w.alloc (.cells #[.int .i64 cost, .slice a l.length cap] 64)) #[.int .i64 0, .slice none 0 0] 70; simpa using this) _) k1
  have HRow := hide hrow1
  clear k1 hrow1
  go_wp2
  have hX : Row (w1.setCell ⟨w.heap.size + 1 + 1, 1, none⟩ (.slice (some ⟨b, 0, none⟩) l.length l.length)) (w.heap.size + 1) 2 := Row.set HRow.out _ rfl _
  have hR := World.rangeAt_setCells_same _ (w.heap.size + 1) 0 [.int .i64 cost, .slice (some ⟨b, 0, none⟩) l.length l.length] (hX.there (o := 0) (m := 2) (Nat.le_refl _))
  refine bodyPost_ret_cell [.int .i64 cost, .slice (some ⟨b, 0, none⟩) l.length l.length] _ Tryz.results55 rfl hR Tryz.underlying70 rfl Tryz.sizeAction rfl ⟨b, rfl, ?_, ?_, by omega⟩
  · repeat (first | (refine StepsNew.setCell ?_ (by simp <;> omega) _) | exact hN)
  · repeat (first | (refine Kept.setCell ?_ (by simp <;> omega) _) | exact K1)

set_option maxHeartbeats 400000 in
theorem eqAction_yes (w : World) (cost : Int) (a a' : Option Addr) (cap cap' : Nat) (l : List StepD) (hl : l.length ≤ maxLen) (hs : ∀ s ∈ l, s.asks.length ≤ maxLen ∧ s.cases.length ≤ maxLen)
    (hS : Steps w a l) (hS' : Steps w a' l) :
    Calls Tryz.prog 67 #[.agg #[.int .i64 cost, .slice a l.length cap], .agg #[.int .i64 cost, .slice a' l.length cap']] w fun e w' => e = .returned (.bool true) ∧ Kept w w' := by
  have k0 : Kept w ((w.alloc (.cells #[.int .i64 cost, .slice a l.length cap] 70)).alloc (.cells #[.int .i64 cost, .slice a' l.length cap'] 70)) := ((Kept.refl _).alloc _).alloc _
  go_enter Tryz.func67, Tryz.ntmps67
  go_wp2_with fail
  refine (eqStepS_yes _ a a' cap cap' l hl hs (hS.kept (by repeat (first | apply Kept.drew | exact k0))) (hS'.kept (by repeat (first | apply Kept.drew | exact k0)))).mono ?_
  rintro e w1 ⟨rfl, k1⟩
  have k2 : Kept w w1 := Kept.trans (by repeat (first | apply Kept.drew | exact k0)) k1
  clear k0 k1
  go_wp2
  go_ret
  exact ⟨rfl, k2⟩

end Go.Proofs.YtmdckapiljhfdaaGreat
