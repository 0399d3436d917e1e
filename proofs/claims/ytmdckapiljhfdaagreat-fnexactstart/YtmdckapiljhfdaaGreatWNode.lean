import Derived.Test.YtmdckapiljhfdaaGreatDataN

/-
  WALKS over a node: szNode, eqNode, toNode.
-/
namespace Go.Proofs.YtmdckapiljhfdaaGreat
open Go.RowKit

/-- How much a node weighs. -/
def szNodeD (d : NodeD) : Nat := d.name.size + szSteps d.steps

set_option maxHeartbeats 800000 in
theorem szNode_any (w : World) (d : NodeD) (a : Option Addr) (cap : Nat) (left : Int) (hd : d.Fits) (hS : Steps w a d.steps) (h0 : 0 ≤ left) (h1 : left ≤ 1048576) :
    Calls Tryz.prog 32 #[.agg #[.string d.name, .int .i64 d.cost, .slice a d.steps.length cap], .int .i64 left] w fun e w' => e = .returned (.int .i64 (szL (szNodeD d) left)) ∧ Kept w w' := by
  have hn := hd.name
  unfold maxLen at hn
  have k0 : Kept w (w.alloc (.cells #[.string d.name, .int .i64 d.cost, .slice a d.steps.length cap] 66)) := (Kept.refl _).alloc _
  by_cases hle : (d.name.size : Int) ≤ left
  · go_enter Tryz.func32, Tryz.ntmps32
    go_wp2_with fail
    refine (szAction_any _ d.cost a cap d.steps _ hd.steps hd.each (hS.kept k0) (by omega) (by omega)).mono ?_
    rintro e w1 ⟨rfl, k1⟩
    have k2 := k0.trans k1
    clear k0 k1
    by_cases hle2 : (szSteps d.steps : Int) ≤ left - d.name.size
    · rw [szL_pos hle2]
      go_wp2
      go_ret
      exact ⟨ret_int (by rw [szL_pos (by unfold szNodeD; omega)]; unfold szNodeD; omega), k2⟩
    · rw [szL_neg (by omega)]
      go_wp2
      go_ret
      exact ⟨ret_int (szL_neg (by unfold szNodeD; omega)).symm, k2⟩
  · go_enter Tryz.func32, Tryz.ntmps32
    go_wp2
    go_ret
    exact ⟨ret_int (szL_neg (by unfold szNodeD; omega)).symm, k0⟩

set_option maxHeartbeats 800000 in
theorem eqNode_yes (w : World) (d : NodeD) (a a' : Option Addr) (cap cap' : Nat) (hd : d.Fits) (hS : Steps w a d.steps) (hS' : Steps w a' d.steps) :
    Calls Tryz.prog 51 #[.agg #[.string d.name, .int .i64 d.cost, .slice a d.steps.length cap], .agg #[.string d.name, .int .i64 d.cost, .slice a' d.steps.length cap']] w fun e w' => e = .returned (.bool true) ∧ Kept w w' := by
  have k0 : Kept w ((w.alloc (.cells #[.string d.name, .int .i64 d.cost, .slice a d.steps.length cap] 72)).alloc (.cells #[.string d.name, .int .i64 d.cost, .slice a' d.steps.length cap'] 72)) := ((Kept.refl _).alloc _).alloc _
  go_enter Tryz.func51, Tryz.ntmps51
  go_wp2_with fail
  refine (eqAction_yes _ d.cost a a' cap cap' d.steps hd.steps (fun s hs => ⟨(hd.each s hs).asks, (hd.each s hs).cases⟩) (hS.kept (by repeat (first | apply Kept.drew | exact k0))) (hS'.kept (by repeat (first | apply Kept.drew | exact k0)))).mono ?_
  rintro e w1 ⟨rfl, k1⟩
  have k2 : Kept w w1 := Kept.trans (by repeat (first | apply Kept.drew | exact k0)) k1
  clear k0 k1
  go_wp2
  go_ret
  exact ⟨rfl, k2⟩

theorem Tryz.sizeNode : (Tryz.prog.info? 72).map (·.size) = some 3 := by kernel_rfl

set_option maxHeartbeats 800000 in
theorem toNode_any (w : World) (d : NodeD) (a : Option Addr) (cap : Nat) (hl : d.steps.length ≤ 1048576) (hs : ∀ s ∈ d.steps, s.asks.length ≤ 1048576 ∧ s.cases.length ≤ 1048576) (hS : Steps w a d.steps) :
    Calls Tryz.prog 40 #[.agg #[.string d.name, .int .i64 d.cost, .slice a d.steps.length cap]] w fun e w' => ∃ b, e = .returned (.agg (d.cells (some ⟨b, 0, none⟩) d.steps.length).toArray) ∧ StepsNew w' b d.steps ∧ Kept w w' ∧ w.heap.size ≤ b := by
  go_enter Tryz.func40, Tryz.ntmps40
  go_wp2_with fail
  refine (toAction_any _ d.cost a cap d.steps hl hs (hS.kept (by repeat (first | apply Kept.alloc | exact Kept.refl _)))).mono ?_
  rintro e w1 ⟨b, rfl, hN, k1, hb⟩
  obtain ⟨hc1, hf1⟩ := k1.rules
  have hz1 := k1.size
  simp only [World.size_alloc] at hb hz1
  have K1 : Kept w w1 := Kept.trans (by repeat (first | apply Kept.alloc | exact Kept.refl _)) k1
  have hrow1 : Row w1 (w.heap.size + 1) 3 := Row.kept (Row.alloc (by have := Row.made (w.alloc (.cells #[.string d.name, .int .i64 d.cost, .slice a d.steps.length cap] 66)) #[.string ⟨#[]⟩, .int .i64 0, .slice none 0 0] 72; simpa using this) _) k1
  have HRow := hide hrow1
  clear k1 hrow1
  go_wp2
  have hX : Row ((w1.setCell ⟨w.heap.size + 1 + 1, 1, none⟩ (.int .i64 d.cost)).setCell ⟨w.heap.size + 1 + 1, 2, none⟩ (.slice (some ⟨b, 0, none⟩) d.steps.length d.steps.length)) (w.heap.size + 1) 3 := Row.set (Row.set HRow.out _ rfl _) _ rfl _
  have hR := World.rangeAt_setCells_same _ (w.heap.size + 1) 0 (d.cells (some ⟨b, 0, none⟩) d.steps.length) (hX.there (o := 0) (m := 3) (Nat.le_refl _))
  refine bodyPost_ret_cell (d.cells (some ⟨b, 0, none⟩) d.steps.length) _ Tryz.results40 rfl hR Tryz.underlying72 rfl Tryz.sizeNode rfl ⟨b, rfl, ?_, ?_, by omega⟩
  · repeat (first | (refine StepsNew.setCell ?_ (by simp <;> omega) _) | exact hN)
  · repeat (first | (refine Kept.setCell ?_ (by simp <;> omega) _) | exact K1)

end Go.Proofs.YtmdckapiljhfdaaGreat
