import Derived.Test.YtmdckapiljhfdaaGreatWStep

/-
  WALKS over a step: toStep, eqStep.
-/
namespace Go.Proofs.YtmdckapiljhfdaaGreat
open Go.RowKit

theorem Tryz.sizeStep : (Tryz.prog.info? 108).map (·.size) = some 8 := by kernel_rfl

set_option maxHeartbeats 800000 in
theorem toStep_any (w : World) (s : StepD) (aa ac : Option Addr) (ca cc : Nat) (h1 : s.asks.length ≤ 1048576) (h2 : s.cases.length ≤ 1048576) (hA : Strs w aa s.asks) (hC : Cases w ac s.cases) :
    Calls Tryz.prog 81 #[.agg #[.slice aa s.asks.length ca, .int .i64 s.on, .slice ac s.cases.length cc, .int .i64 s.els, .int .i64 s.fall, .bool s.fin, .bool s.bad, .string s.give]] w fun e w' => ∃ b1 b2, e = .returned (.agg (s.cells (some ⟨b1, 0, none⟩) s.asks.length (some ⟨b2, 0, none⟩) s.cases.length).toArray) ∧ (Strs w' (some ⟨b1, 0, none⟩) s.asks ∧ Cases w' (some ⟨b2, 0, none⟩) s.cases ∧ w.heap.size ≤ b1 ∧ w.heap.size ≤ b2) ∧ Kept w w' := by
  go_enter Tryz.func81, Tryz.ntmps81
  go_wp2_with fail
  refine (toStringS_any _ _ _ _ h1 (hA.kept (by repeat (first | apply Kept.alloc | exact Kept.refl _)))).mono ?_
  rintro e w1 ⟨b1, rfl, hS1, k1, hb1⟩
  obtain ⟨hc1, hf1⟩ := k1.rules
  have hz1 := k1.size
  simp only [World.size_alloc] at hb1 hz1
  have hrow1 : Row w1 (w.heap.size + 1) 8 := Row.kept (Row.alloc (by have := Row.made (w.alloc (.cells #[.slice aa s.asks.length ca, .int .i64 s.on, .slice ac s.cases.length cc, .int .i64 s.els, .int .i64 s.fall, .bool s.fin, .bool s.bad, .string s.give] 135)) #[.slice none 0 0, .int .i64 0, .slice none 0 0, .int .i64 0, .int .i64 0, .bool false, .bool false, .string ⟨#[]⟩] 108; simpa using this) _) k1
  have K1 : Kept w w1 := Kept.trans (by repeat (first | apply Kept.alloc | exact Kept.refl _)) k1
  clear k1
  go_wp2_with fail
  refine (toCaseS_any _ _ _ _ h2 (hC.kept (by repeat (first | (refine Kept.setCell ?_ (by simp <;> omega) _) | exact K1)))).mono ?_
  rintro e w2 ⟨b2, rfl, hS2, k2, hb2⟩
  obtain ⟨hc2, hf2⟩ := k2.rules
  have hz2 := k2.size
  simp only [size_setCell] at hb2 hz2 hc2 hf2
  have K2 : Kept w w2 := Kept.trans (by repeat (first | (refine Kept.setCell ?_ (by simp <;> omega) _) | exact K1)) k2
  have hS1' := Strs.kept (Strs.setCell (Strs.setCell hS1 (p := ⟨w.heap.size + 1 + 1, 0, none⟩) (by simp <;> omega) (.slice (some ⟨b1, 0, none⟩) s.asks.length s.asks.length)) (p := ⟨w.heap.size + 1 + 1, 1, none⟩) (by simp <;> omega) (.int .i64 s.on)) k2
  have HRow : Hid (Row w2 (w.heap.size + 1) 8) := Row.kept (by repeat (first | refine Row.set ?_ _ rfl _ | exact hrow1)) k2
  clear k2 K1 hS1 hrow1
  have z0 : w.heap.size < w1.heap.size := by omega
  have z1 : w.heap.size + 1 < w1.heap.size := by omega
  have z2 : w.heap.size + 1 + 1 < w1.heap.size := by omega
  go_wp2
  have hX : Row ((((((w2.setCell ⟨w.heap.size + 1 + 1, 2, none⟩ (.slice (some ⟨b2, 0, none⟩) s.cases.length s.cases.length)).setCell ⟨w.heap.size + 1 + 1, 3, none⟩ (.int .i64 s.els)).setCell ⟨w.heap.size + 1 + 1, 4, none⟩ (.int .i64 s.fall)).setCell ⟨w.heap.size + 1 + 1, 5, none⟩ (.bool s.fin)).setCell ⟨w.heap.size + 1 + 1, 6, none⟩ (.bool s.bad)).setCell ⟨w.heap.size + 1 + 1, 7, none⟩ (.string s.give)) (w.heap.size + 1) 8 := by
    repeat (first | refine Row.set ?_ _ rfl _ | exact HRow.out)
  have hR := World.rangeAt_setCells_same _ (w.heap.size + 1) 0 (s.cells (some ⟨b1, 0, none⟩) s.asks.length (some ⟨b2, 0, none⟩) s.cases.length) (hX.there (o := 0) (m := 8) (Nat.le_refl _))
  refine bodyPost_ret_cell (s.cells (some ⟨b1, 0, none⟩) s.asks.length (some ⟨b2, 0, none⟩) s.cases.length) _ Tryz.results81 rfl hR Tryz.underlying108 rfl Tryz.sizeStep rfl ⟨b1, b2, rfl, ⟨?_, ?_, by omega, by omega⟩, ?_⟩
  · repeat (first | (refine Strs.setCell ?_ (by simp <;> omega) _) | exact hS1')
  · repeat (first | (refine Cases.setCell ?_ (by simp <;> omega) _) | exact hS2)
  · repeat (first | (refine Kept.setCell ?_ (by simp <;> omega) _) | exact K2)

set_option maxHeartbeats 800000 in
theorem eqStep_yes (w : World) (s : StepD) (aa ac ba bc : Option Addr) (ca cc da dc : Nat) (h1 : s.asks.length ≤ maxLen) (h2 : s.cases.length ≤ maxLen) (hA : Strs w aa s.asks) (hC : Cases w ac s.cases) (hA' : Strs w ba s.asks) (hC' : Cases w bc s.cases) :
    Calls Tryz.prog 87 #[.agg #[.slice aa s.asks.length ca, .int .i64 s.on, .slice ac s.cases.length cc, .int .i64 s.els, .int .i64 s.fall, .bool s.fin, .bool s.bad, .string s.give], .agg #[.slice ba s.asks.length da, .int .i64 s.on, .slice bc s.cases.length dc, .int .i64 s.els, .int .i64 s.fall, .bool s.fin, .bool s.bad, .string s.give]] w fun e w' => e = .returned (.bool true) ∧ Kept w w' := by
  go_enter Tryz.func87, Tryz.ntmps87
  go_wp2_with fail
  have k0 : Kept w ((w.alloc (.cells #[.slice aa s.asks.length ca, .int .i64 s.on, .slice ac s.cases.length cc, .int .i64 s.els, .int .i64 s.fall, .bool s.fin, .bool s.bad, .string s.give] 108)).alloc (.cells #[.slice ba s.asks.length da, .int .i64 s.on, .slice bc s.cases.length dc, .int .i64 s.els, .int .i64 s.fall, .bool s.fin, .bool s.bad, .string s.give] 108)) := by repeat (first | apply Kept.alloc | exact Kept.refl _)
  refine (eqStringS_yes _ _ _ _ _ _ h1 (hA.kept k0) (hA'.kept k0)).mono ?_
  rintro e w1 ⟨rfl, k1⟩
  obtain ⟨hc1, hf1⟩ := k1.rules
  have K1 := k0.trans k1
  have hz1 := k1.size
  simp only [World.size_alloc] at hz1
  clear k0 k1
  have z0 : w.heap.size < w1.heap.size := by omega
  have z1 : w.heap.size + 1 < w1.heap.size := by omega
  go_wp2_with fail
  refine (eqCaseS_yes _ _ _ _ _ _ h2 (hC.kept (by repeat (first | apply Kept.drew | exact K1))) (hC'.kept (by repeat (first | apply Kept.drew | exact K1)))).mono ?_
  rintro e w2 ⟨rfl, k2⟩
  obtain ⟨hc2, hf2⟩ := k2.rules
  have K2 : Kept w w2 := Kept.trans (by repeat (first | apply Kept.drew | exact K1)) k2
  have hz2 := k2.size
  clear k2 K1
  have y0 : w.heap.size < w2.heap.size := by omega
  have y1 : w.heap.size + 1 < w2.heap.size := by omega
  go_wp2
  go_ret
  exact ⟨rfl, by repeat (first | apply Kept.drew | exact K2)⟩

end Go.Proofs.YtmdckapiljhfdaaGreat
