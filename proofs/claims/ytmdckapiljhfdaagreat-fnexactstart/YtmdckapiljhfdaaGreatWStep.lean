import Derived.Test.YtmdckapiljhfdaaGreatWStrs
import Derived.Test.YtmdckapiljhfdaaGreatWCases2

/-
  WALKS over a step: szStep, eqStep, toStep.
-/
namespace Go.Proofs.YtmdckapiljhfdaaGreat
open Go.RowKit

/-- How much a step weighs. -/
def szStepD (s : StepD) : Nat := szStrs s.asks + szCases s.cases + s.give.size

set_option maxHeartbeats 800000 in
theorem szStep_any (w : World) (s : StepD) (aa ac : Option Addr) (ca cc : Nat) (left : Int) (hs : s.Fits) (hA : Strs w aa s.asks) (hC : Cases w ac s.cases) (h0 : 0 ≤ left) (h1 : left ≤ 1048576) :
    Calls Tryz.prog 80 #[.agg #[.slice aa s.asks.length ca, .int .i64 s.on, .slice ac s.cases.length cc, .int .i64 s.els, .int .i64 s.fall, .bool s.fin, .bool s.bad, .string s.give], .int .i64 left] w fun e w' => e = .returned (.int .i64 (szL (szStepD s) left)) ∧ Kept w w' := by
  have hg := hs.give
  unfold maxLen at hg
  have k0 : Kept w (w.alloc (.cells #[.slice aa s.asks.length ca, .int .i64 s.on, .slice ac s.cases.length cc, .int .i64 s.els, .int .i64 s.fall, .bool s.fin, .bool s.bad, .string s.give] 135)) := (Kept.refl _).alloc _
  go_enter Tryz.func80, Tryz.ntmps80
  go_wp2_with fail
  refine (szStringS_any _ _ _ _ _ hs.asks hs.askEach (hA.kept k0) h0 h1).mono ?_
  rintro e w1 ⟨rfl, rfl⟩
  by_cases hle : (szStrs s.asks : Int) ≤ left
  · rw [szL_pos hle]
    go_wp2_with fail
    refine (szCaseS_any _ _ _ _ _ hs.cases (fun c hc => (hs.caseEach c hc).1) (hC.kept k0) (by omega) (by omega)).mono ?_
    rintro e w1 ⟨rfl, k1⟩
    have k2 := k0.trans k1
    by_cases hle2 : (szCases s.cases : Int) ≤ left - szStrs s.asks
    · rw [szL_pos hle2]
      have hc : ∀ o, w1.cell? ⟨w.heap.size, o, none⟩ = (w.alloc (.cells #[.slice aa s.asks.length ca, .int .i64 s.on, .slice ac s.cases.length cc, .int .i64 s.els, .int .i64 s.fall, .bool s.fin, .bool s.bad, .string s.give] 135)).cell? ⟨w.heap.size, o, none⟩ := fun o => k1.cell (by simp)
      go_wp2
      · go_ret
        exact ⟨ret_int (szL_neg (by unfold szStepD; omega)).symm, k2⟩
      · go_ret
        exact ⟨ret_int (by rw [szL_pos (by unfold szStepD; omega)]; unfold szStepD; omega), k2⟩
    · rw [szL_neg (by omega)]
      go_wp2
      go_ret
      exact ⟨ret_int (szL_neg (by unfold szStepD; omega)).symm, k2⟩
  · rw [szL_neg (by omega)]
    go_wp2
    go_ret
    exact ⟨ret_int (szL_neg (by unfold szStepD; omega)).symm, k0⟩

end Go.Proofs.YtmdckapiljhfdaaGreat
