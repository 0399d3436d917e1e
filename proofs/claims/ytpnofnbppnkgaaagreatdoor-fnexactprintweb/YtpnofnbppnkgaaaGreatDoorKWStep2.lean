import Derived.Test.YtpnofnbppnkgaaaGreatDoorKWCases
import Derived.Test.YtpnofnbppnkgaaaGreatDoorKWName

namespace Go.Proofs.YtpnofnbppnkgaaaGreatDoor
open Go.RowKit

set_option maxHeartbeats 400000 in
theorem toCaseS_any (w : World) (a : Option Addr) (cap : Nat) (l : List CaseD) (hl : l.length ≤ 1048576)
    (hS : Cases w a l) :
    Calls Tryz.prog 73 #[.slice a l.length cap] w fun e w' => ∃ b, e = .returned (.slice (some ⟨b, 0, none⟩) l.length l.length) ∧ Cases w' (some ⟨b, 0, none⟩) l ∧ Kept w w' ∧ w.heap.size ≤ b := by
  have hmk := run_make_many (P := Tryz.prog) 44 68 _ _ _ Tryz.underlying44 Tryz.infoCase .i64 .i64 l.length (by omega) (by omega)
  go_enter Tryz.func73, Tryz.ntmps73
  go_wp2
  clear hmk
  have hrow := Row.made w (madeCells #[.string ByteArray.empty, .int .i64 0] (l.length * 2)) 68
  rw [size_madeCells] at hrow
  have hkept : Kept w (w.alloc (.cells (madeCells #[.string ByteArray.empty, .int .i64 0] (l.length * 2)) 68)) := (Kept.refl _).alloc _
  go_loopw [4] (fun i wr => ∃ k : Nat, k ≤ l.length ∧ i = .int .i64 k ∧ Kept w wr ∧ Row wr w.heap.size (l.length * 2) ∧ ∀ j, j < k → wr.rangeAt w.heap.size (j * 2) (l.getD j CaseD.zero).cells) (fun i _ => l.length - (intOf i).toNat)
  case atStart => exact ⟨0, Nat.zero_le _, rfl, hkept, hrow, fun j hj => absurd hj (Nat.not_lt_zero _)⟩
  case round =>
    obtain ⟨k, hk, rfl, hw, hr, hf⟩ := hrel
    clear hrow hkept
    by_cases hlt : k < l.length
    · obtain ⟨b, o, rfl, hb, hc⟩ := hS.kept hw k hlt
      have HF := hide hf
      clear hf
      generalize hs : l.getD k CaseD.zero = c at *
      have HSs := hide hs
      clear hs
      have c0 := hc 0 _ rfl
      have c1 := hc 1 _ rfl
      simp only [Nat.add_zero] at c0
      clear hc
      go_wp2_with fail
      refine (toCase_any _ c).mono ?_
      rintro e w1 ⟨rfl, hw1⟩
      have hw2 := hw.trans hw1
      have hr1 := hr.kept hw1
      have hth := hr1.there (o := k * 2) (m := 2) (by omega)
      have HR : Hid (Row w1 w.heap.size (l.length * 2)) := hr1
      have HF1 : Hid (∀ j, j < k → w1.rangeAt w.heap.size (j * 2) (l.getD j CaseD.zero).cells) := fun j hj => hw1.range hr.lt (HF.out j hj)
      clear HF c0 c1 hw hw1 hr hr1
      go_wp2_with (refine wpList_store_mid rfl 68 _ _ rfl w.heap.size (k * 2) #[.string c.text, .int .i64 c.goto] rfl rfl hth Tryz.sizeCase (CaseD.one c) ?_)
      go_roundw
      case rel =>
        refine ⟨k + 1, by omega, by go_num, Kept.setCells (Nat.le_refl _) _ _ hw2, Row.setCells _ _ HR.out, fun j hj => ?_⟩
        by_cases e : j = k
        · subst e
          rw [unhide HSs]
          exact World.rangeAt_setCells_same _ _ _ _ hth
        · exact World.rangeAt_setCells_apart (HF1.out j (by omega)) _ _ _ (by simp [CaseD.cells]; omega)
      case measure => simp [intOf]; omega
    · go_wp2
      go_ret
      have : k = l.length := by omega
      subst this
      exact ⟨w.heap.size, rfl, fun j hj => ⟨w.heap.size, 0, rfl, hr.lt, by rw [Nat.zero_add]; exact hf j hj⟩, hw, Nat.le_refl _⟩

end Go.Proofs.YtpnofnbppnkgaaaGreatDoor

namespace Go.Proofs.YtpnofnbppnkgaaaGreatDoor
open Go.RowKit

def szStepD (s : StepD) : Nat := szStrs s.asks + szCases s.cases + s.give.size

set_option maxHeartbeats 800000 in
theorem szStep_any (w : World) (s : StepD) (aa ac : Option Addr) (ca cc : Nat) (left : Int) (hs : s.Fits) (hA : Strs w aa s.asks) (hC : Cases w ac s.cases) (h0 : 0 ≤ left) (h1 : left ≤ 1048576) :
    Calls Tryz.prog 59 #[.agg #[.slice aa s.asks.length ca, .int .i64 s.on, .slice ac s.cases.length cc, .int .i64 s.els, .int .i64 s.fall, .bool s.fin, .bool s.bad, .string s.give], .int .i64 left] w fun e w' => e = .returned (.int .i64 (szL (szStepD s) left)) ∧ Kept w w' := by
  have hg := hs.give
  unfold maxLen at hg
  have k0 : Kept w (w.alloc (.cells #[.slice aa s.asks.length ca, .int .i64 s.on, .slice ac s.cases.length cc, .int .i64 s.els, .int .i64 s.fall, .bool s.fin, .bool s.bad, .string s.give] 115)) := (Kept.refl _).alloc _
  go_enter Tryz.func59, Tryz.ntmps59
  go_wp2_with fail
  refine (szStringS_any _ _ _ _ _ hs.asks hs.askEach (hA.kept k0) h0 h1).mono ?_
  rintro e w1 ⟨rfl, rfl⟩
  by_cases hle : (szStrs s.asks : Int) ≤ left
  · rw [szL_pos hle]
    go_wp2_with fail
    refine (szCaseS_any _ _ _ _ _ hs.cases (fun c hc => (hs.caseEach c hc).1) (hC.kept k0) (by omega) (by omega)).mono ?_
    rintro e w1 ⟨rfl, k1⟩
    have k2 := k0.trans k1
    by_cases hle2 : (szCases s.cases : Int) ≤ left - szStrs s.asks
    · rw [szL_pos hle2]
      have hc : ∀ o, w1.cell? ⟨w.heap.size, o, none⟩ = (w.alloc (.cells #[.slice aa s.asks.length ca, .int .i64 s.on, .slice ac s.cases.length cc, .int .i64 s.els, .int .i64 s.fall, .bool s.fin, .bool s.bad, .string s.give] 115)).cell? ⟨w.heap.size, o, none⟩ := fun o => k1.cell (by simp)
      go_wp2
      · go_ret
        exact ⟨ret_int (szL_neg (by unfold szStepD; omega)).symm, k2⟩
      · go_ret
        exact ⟨ret_int (by rw [szL_pos (by unfold szStepD; omega)]; unfold szStepD; omega), k2⟩
    · rw [szL_neg (by omega)]
      go_wp2
      go_ret
      exact ⟨ret_int (szL_neg (by unfold szStepD; omega)).symm, k2⟩
  · rw [szL_neg (by omega)]
    go_wp2
    go_ret
    exact ⟨ret_int (szL_neg (by unfold szStepD; omega)).symm, k0⟩

end Go.Proofs.YtpnofnbppnkgaaaGreatDoor

namespace Go.Proofs.YtpnofnbppnkgaaaGreatDoor
open Go.RowKit

theorem Tryz.sizeStep : (Tryz.prog.info? 46).map (·.size) = some 8 := by kernel_rfl

set_option maxHeartbeats 800000 in
theorem toStep_any (w : World) (s : StepD) (aa ac : Option Addr) (ca cc : Nat) (h1 : s.asks.length ≤ 1048576) (h2 : s.cases.length ≤ 1048576) (hA : Strs w aa s.asks) (hC : Cases w ac s.cases) :
    Calls Tryz.prog 60 #[.agg #[.slice aa s.asks.length ca, .int .i64 s.on, .slice ac s.cases.length cc, .int .i64 s.els, .int .i64 s.fall, .bool s.fin, .bool s.bad, .string s.give]] w fun e w' => ∃ b1 b2, e = .returned (.agg (s.cells (some ⟨b1, 0, none⟩) s.asks.length (some ⟨b2, 0, none⟩) s.cases.length).toArray) ∧ (Strs w' (some ⟨b1, 0, none⟩) s.asks ∧ Cases w' (some ⟨b2, 0, none⟩) s.cases ∧ w.heap.size ≤ b1 ∧ w.heap.size ≤ b2) ∧ Kept w w' := by
  go_enter Tryz.func60, Tryz.ntmps60
  go_wp2_with fail
  refine (toStringS_any _ _ _ _ h1 (hA.kept (by repeat (first | apply Kept.alloc | exact Kept.refl _)))).mono ?_
  rintro e w1 ⟨b1, rfl, hS1, k1, hb1⟩
  obtain ⟨hc1, hf1⟩ := k1.rules
  have hz1 := k1.size
  simp only [World.size_alloc] at hb1 hz1
  have hrow1 : Row w1 (w.heap.size + 1) 8 := Row.kept (Row.alloc (by have := Row.made (w.alloc (.cells #[.slice aa s.asks.length ca, .int .i64 s.on, .slice ac s.cases.length cc, .int .i64 s.els, .int .i64 s.fall, .bool s.fin, .bool s.bad, .string s.give] 115)) #[.slice none 0 0, .int .i64 0, .slice none 0 0, .int .i64 0, .int .i64 0, .bool false, .bool false, .string ⟨#[]⟩] 46; simpa using this) _) k1
  have K1 : Kept w w1 := Kept.trans (by repeat (first | apply Kept.alloc | exact Kept.refl _)) k1
  clear k1
  go_wp2_with fail
  refine (toCaseS_any _ _ _ _ h2 (hC.kept (by repeat (first | (refine Kept.setCell ?_ (by simp <;> omega) _) | exact K1)))).mono ?_
  rintro e w2 ⟨b2, rfl, hS2, k2, hb2⟩
  obtain ⟨hc2, hf2⟩ := k2.rules
  have hz2 := k2.size
  simp only [size_setCell] at hb2 hz2 hc2 hf2
  have K2 : Kept w w2 := Kept.trans (by repeat (first | (refine Kept.setCell ?_ (by simp <;> omega) _) | exact K1)) k2
  have hS1' := Strs.kept (Strs.setCell (Strs.setCell hS1 (p := ⟨w.heap.size + 1 + 1, 0, none⟩) (by simp <;> omega) (.slice (some ⟨b1, 0, none⟩) s.asks.length s.asks.length)) (p := ⟨w.heap.size + 1 + 1, 1, none⟩) (by simp <;> omega) (.int .i64 s.on)) k2
  have HRow : Hid (Row w2 (w.heap.size + 1) 8) := Row.kept (by repeat (first | refine Row.set ?_ _ rfl _ | exact hrow1)) k2
  clear k2 K1 hS1 hrow1
  have z0 : w.heap.size < w1.heap.size := by omega
  have z1 : w.heap.size + 1 < w1.heap.size := by omega
  have z2 : w.heap.size + 1 + 1 < w1.heap.size := by omega
  go_wp2
  have hX : Row ((((((w2.setCell ⟨w.heap.size + 1 + 1, 2, none⟩ (.slice (some ⟨b2, 0, none⟩) s.cases.length s.cases.length)).setCell ⟨w.heap.size + 1 + 1, 3, none⟩ (.int .i64 s.els)).setCell ⟨w.heap.size + 1 + 1, 4, none⟩ (.int .i64 s.fall)).setCell ⟨w.heap.size + 1 + 1, 5, none⟩ (.bool s.fin)).setCell ⟨w.heap.size + 1 + 1, 6, none⟩ (.bool s.bad)).setCell ⟨w.heap.size + 1 + 1, 7, none⟩ (.string s.give)) (w.heap.size + 1) 8 := by
    repeat (first | refine Row.set ?_ _ rfl _ | exact HRow.out)
  have hR := World.rangeAt_setCells_same _ (w.heap.size + 1) 0 (s.cells (some ⟨b1, 0, none⟩) s.asks.length (some ⟨b2, 0, none⟩) s.cases.length) (hX.there (o := 0) (m := 8) (Nat.le_refl _))
  refine bodyPost_ret_cell (s.cells (some ⟨b1, 0, none⟩) s.asks.length (some ⟨b2, 0, none⟩) s.cases.length) _ Tryz.results60 rfl hR Tryz.underlying46 rfl Tryz.sizeStep rfl ⟨b1, b2, rfl, ⟨?_, ?_, by omega, by omega⟩, ?_⟩
  · repeat (first | (refine Strs.setCell ?_ (by simp <;> omega) _) | exact hS1')
  · repeat (first | (refine Cases.setCell ?_ (by simp <;> omega) _) | exact hS2)
  · repeat (first | (refine Kept.setCell ?_ (by simp <;> omega) _) | exact K2)

set_option maxHeartbeats 800000 in
theorem eqStep_yes (w : World) (s : StepD) (aa ac ba bc : Option Addr) (ca cc da dc : Nat) (h1 : s.asks.length ≤ maxLen) (h2 : s.cases.length ≤ maxLen) (hA : Strs w aa s.asks) (hC : Cases w ac s.cases) (hA' : Strs w ba s.asks) (hC' : Cases w bc s.cases) :
    Calls Tryz.prog 69 #[.agg #[.slice aa s.asks.length ca, .int .i64 s.on, .slice ac s.cases.length cc, .int .i64 s.els, .int .i64 s.fall, .bool s.fin, .bool s.bad, .string s.give], .agg #[.slice ba s.asks.length da, .int .i64 s.on, .slice bc s.cases.length dc, .int .i64 s.els, .int .i64 s.fall, .bool s.fin, .bool s.bad, .string s.give]] w fun e w' => e = .returned (.bool true) ∧ Kept w w' := by
  go_enter Tryz.func69, Tryz.ntmps69
  go_wp2_with fail
  have k0 : Kept w ((w.alloc (.cells #[.slice aa s.asks.length ca, .int .i64 s.on, .slice ac s.cases.length cc, .int .i64 s.els, .int .i64 s.fall, .bool s.fin, .bool s.bad, .string s.give] 46)).alloc (.cells #[.slice ba s.asks.length da, .int .i64 s.on, .slice bc s.cases.length dc, .int .i64 s.els, .int .i64 s.fall, .bool s.fin, .bool s.bad, .string s.give] 46)) := by repeat (first | apply Kept.alloc | exact Kept.refl _)
  refine (eqStringS_yes _ _ _ _ _ _ h1 (hA.kept k0) (hA'.kept k0)).mono ?_
  rintro e w1 ⟨rfl, k1⟩
  obtain ⟨hc1, hf1⟩ := k1.rules
  have K1 := k0.trans k1
  have hz1 := k1.size
  simp only [World.size_alloc] at hz1
  clear k0 k1
  have z0 : w.heap.size < w1.heap.size := by omega
  have z1 : w.heap.size + 1 < w1.heap.size := by omega
  go_wp2_with fail
  refine (eqCaseS_yes _ _ _ _ _ _ h2 (hC.kept (by repeat (first | apply Kept.drew | exact K1))) (hC'.kept (by repeat (first | apply Kept.drew | exact K1)))).mono ?_
  rintro e w2 ⟨rfl, k2⟩
  obtain ⟨hc2, hf2⟩ := k2.rules
  have K2 : Kept w w2 := Kept.trans (by repeat (first | apply Kept.drew | exact K1)) k2
  have hz2 := k2.size
  clear k2 K1
  have y0 : w.heap.size < w2.heap.size := by omega
  have y1 : w.heap.size + 1 < w2.heap.size := by omega
  go_wp2
  go_ret
  exact ⟨rfl, by repeat (first | apply Kept.drew | exact K2)⟩

end Go.Proofs.YtpnofnbppnkgaaaGreatDoor
