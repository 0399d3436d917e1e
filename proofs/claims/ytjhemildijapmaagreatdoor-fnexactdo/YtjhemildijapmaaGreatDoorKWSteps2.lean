import Derived.Test.YtjhemildijapmaaGreatDoorProg
import Derived.Test.YtjhemildijapmaaGreatDoorKDBase
import Derived.WalkKit
import Derived.WalkSpells
import Derived.WalkLawsBesides
import Derived.Deep.OwnRows
import Derived.Deep.RegionWith
import Derived.Test.YtjhemildijapmaaGreatDoorKWName
namespace Go.Proofs.YtjhemildijapmaaGreatDoor
open Go.RowKit
set_option maxHeartbeats 400000 in
theorem szCase_any (w : World) (c : CaseD) (left : Int) (hs : c.text.size ≤ maxLen) (h0 : 0 ≤ left) (h1 : left ≤ 1048576) :
    Calls Tryz.prog 168 #[.agg #[.string c.text, .int .i64 c.goto], .int .i64 left] w fun e w' => e = .returned (.int .i64 (szL c.text.size left)) ∧ Kept w w' := by
  unfold maxLen at hs
  go_enter Tryz.func168, Tryz.ntmps168
  go_wp2
  · go_ret
    exact ⟨ret_int (szL_neg (by omega)).symm, (Kept.refl _).alloc _⟩
  · go_ret
    exact ⟨ret_int (szL_pos (by omega)).symm, (Kept.refl _).alloc _⟩
set_option maxHeartbeats 400000 in
theorem toCase_any (w : World) (c : CaseD) :
    Calls Tryz.prog 169 #[.agg #[.string c.text, .int .i64 c.goto]] w fun e w' => e = .returned (.agg #[.string c.text, .int .i64 c.goto]) ∧ Kept w w' := by
  go_enter Tryz.func169, Tryz.ntmps169
  go_wp2
  exact bodyPost_ret (v := .agg #[.string c.text, .int .i64 c.goto]) (by simp [results, Tryz.results169, go_sem]) rfl ⟨rfl, by
    repeat (first | apply Kept.alloc | (refine Kept.setCell ?_ (by simp) _) | exact Kept.refl _)⟩
set_option maxHeartbeats 400000 in
theorem eqCase_yes (w : World) (c : CaseD) :
    Calls Tryz.prog 175 #[.agg #[.string c.text, .int .i64 c.goto], .agg #[.string c.text, .int .i64 c.goto]] w fun e w' => e = .returned (.bool true) ∧ Kept w w' := by
  go_enter Tryz.func175, Tryz.ntmps175
  go_wp2
  go_ret
  exact ⟨rfl, by repeat (first | apply Kept.alloc | apply Kept.drew | exact Kept.refl _)⟩
def szCases (l : List CaseD) : Nat := l.length + (l.map (·.text.size)).sum
set_option maxHeartbeats 400000 in
theorem szCaseS_any (w : World) (a : Option Addr) (cap : Nat) (l : List CaseD) (left : Int) (hl : l.length ≤ maxLen) (hs : ∀ c ∈ l, c.text.size ≤ maxLen)
    (hS : Cases w a l) (h0 : 0 ≤ left) (h1 : left ≤ 1048576) :
    Calls Tryz.prog 153 #[.slice a l.length cap, .int .i64 left] w fun e w' => e = .returned (.int .i64 (szL (szCases l) left)) ∧ Kept w w' := by
  unfold maxLen at hl
  go_enter Tryz.func153, Tryz.ntmps153
  go_wp2
  · go_ret
    exact ⟨ret_int (szL_neg (by unfold szCases; omega)).symm, Kept.refl _⟩
  · go_loopw [1, 5] (fun x i wr => ∃ k : Nat, k ≤ l.length ∧ i = .int .i64 k ∧ x = .int .i64 (left - l.length - sumTo (·.text.size) l k) ∧ 0 ≤ left - l.length - sumTo (·.text.size) l k ∧ Kept w wr) (fun _ i _ => l.length - (intOf i).toNat)
    case atStart => exact ⟨0, Nat.zero_le _, rfl, by simp [sumTo_zero], by simp [sumTo_zero]; omega, Kept.refl _⟩
    case round =>
      obtain ⟨k, hk, rfl, rfl, hge, hw⟩ := hrel
      by_cases hlt : k < l.length
      · obtain ⟨b, o, rfl, hb, hc⟩ := hS.kept hw k hlt
        have hsz : (l.getD k CaseD.zero).text.size ≤ maxLen := hs _ (by simp [List.getD, hlt])
        have HS : Hid (sumTo (·.text.size) l (k + 1) = sumTo (·.text.size) l k + (l.getD k CaseD.zero).text.size) := sumTo_succ _ l _ k hlt
        have HT := sumTo_le (·.text.size) l (k + 1)
        generalize l.getD k CaseD.zero = c at *
        have c0 := hc 0 _ rfl
        have c1 := hc 1 _ rfl
        simp only [Nat.add_zero] at c0
        go_wp2_with fail
        refine (szCase_any _ c _ hsz (by omega) (by omega)).mono ?_
        rintro e w1 ⟨rfl, hw1⟩
        have hw2 := hw.trans hw1
        by_cases hle : (c.text.size : Int) ≤ left - l.length - sumTo (·.text.size) l k
        · rw [szL_pos hle]
          clear c0 c1 hc hw hw1
          go_wp2
          go_roundw
          case rel => exact ⟨k + 1, by omega, by go_num, by rw [HS.out]; go_num, by rw [HS.out]; omega, hw2⟩
          case measure => simp [intOf]; omega
        · rw [szL_neg (by omega)]
          clear c0 c1 hc hw hw1
          go_wp2
          go_ret
          exact ⟨ret_int (szL_neg (by unfold szCases; have := HS.out; omega)).symm, hw2⟩
      · go_wp2
        go_ret
        have : k = l.length := by omega
        subst this
        rw [sumTo_all] at hge ⊢
        exact ⟨ret_int (by rw [szL_pos (by unfold szCases; omega)]; unfold szCases; omega), hw⟩
set_option maxHeartbeats 400000 in
theorem eqCaseS_yes (w : World) (a a' : Option Addr) (cap cap' : Nat) (l : List CaseD) (hl : l.length ≤ maxLen)
    (hS : Cases w a l) (hS' : Cases w a' l) :
    Calls Tryz.prog 167 #[.slice a l.length cap, .slice a' l.length cap'] w fun e w' => e = .returned (.bool true) ∧ Kept w w' := by
  unfold maxLen at hl
  go_enter Tryz.func167, Tryz.ntmps167
  go_wp2
  go_loopw [5] (fun i wr => ∃ k : Nat, k ≤ l.length ∧ i = .int .i64 k ∧ Kept w wr) (fun i _ => l.length - (intOf i).toNat)
  case atStart => exact ⟨0, Nat.zero_le _, rfl, Kept.refl _⟩
  case round =>
    obtain ⟨k, hk, rfl, hw⟩ := hrel
    by_cases hlt : k < l.length
    · obtain ⟨b, o, rfl, hb, hc⟩ := hS.kept hw k hlt
      obtain ⟨b', o', rfl, hb', hc'⟩ := hS'.kept hw k hlt
      generalize l.getD k CaseD.zero = c at *
      have c0 := hc 0 _ rfl
      have c1 := hc 1 _ rfl
      have d0 := hc' 0 _ rfl
      have d1 := hc' 1 _ rfl
      simp only [Nat.add_zero] at c0 d0
      clear hc hc'
      go_wp2
      go_region_with (go_at_call 175; refine (eqCase_yes _ c).mono ?_; rintro e w1 ⟨rfl, hw1⟩)
      all_goals
        go_wp2
        go_roundw
        case rel => exact ⟨k + 1, by omega, by go_num, by repeat (first | assumption | apply Kept.drew | refine Kept.trans ?_ (by assumption))⟩
        case measure => simp [intOf]; omega
    · go_wp2
      go_ret
      exact ⟨rfl, hw⟩
theorem Tryz.sizeCase : (Tryz.prog.info? 171).map (·.size) = some 2 := by kernel_rfl
theorem Tryz.infoCase : (Tryz.prog.info? 171).map (fun i => (i.zero, i.size, i.bytes)) = some (some (.agg #[.string ByteArray.empty, .int .i64 0]), 2, 24) := by kernel_rfl
set_option maxHeartbeats 400000 in
theorem toCaseS_any (w : World) (a : Option Addr) (cap : Nat) (l : List CaseD) (hl : l.length ≤ 1048576)
    (hS : Cases w a l) :
    Calls Tryz.prog 154 #[.slice a l.length cap] w fun e w' => ∃ b, e = .returned (.slice (some ⟨b, 0, none⟩) l.length l.length) ∧ Cases w' (some ⟨b, 0, none⟩) l ∧ Kept w w' ∧ w.heap.size ≤ b := by
  have hmk := run_make_many (P := Tryz.prog) 118 171 _ _ _ Tryz.underlying118 Tryz.infoCase .i64 .i64 l.length (by omega) (by omega)
  go_enter Tryz.func154, Tryz.ntmps154
  go_wp2
  clear hmk
  have hrow := Row.made w (madeCells #[.string ByteArray.empty, .int .i64 0] (l.length * 2)) 171
  rw [size_madeCells] at hrow
  have hkept : Kept w (w.alloc (.cells (madeCells #[.string ByteArray.empty, .int .i64 0] (l.length * 2)) 171)) := (Kept.refl _).alloc _
  go_loopw [4] (fun i wr => ∃ k : Nat, k ≤ l.length ∧ i = .int .i64 k ∧ Kept w wr ∧ Row wr w.heap.size (l.length * 2) ∧ ∀ j, j < k → wr.rangeAt w.heap.size (j * 2) (l.getD j CaseD.zero).cells) (fun i _ => l.length - (intOf i).toNat)
  case atStart => exact ⟨0, Nat.zero_le _, rfl, hkept, hrow, fun j hj => absurd hj (Nat.not_lt_zero _)⟩
  case round =>
    obtain ⟨k, hk, rfl, hw, hr, hf⟩ := hrel
    clear hrow hkept
    by_cases hlt : k < l.length
    · obtain ⟨b, o, rfl, hb, hc⟩ := hS.kept hw k hlt
      have HF := hide hf
      clear hf
      generalize hs : l.getD k CaseD.zero = c at *
      have HSs := hide hs
      clear hs
      have c0 := hc 0 _ rfl
      have c1 := hc 1 _ rfl
      simp only [Nat.add_zero] at c0
      clear hc
      go_wp2_with fail
      refine (toCase_any _ c).mono ?_
      rintro e w1 ⟨rfl, hw1⟩
      have hw2 := hw.trans hw1
      have hr1 := hr.kept hw1
      have hth := hr1.there (o := k * 2) (m := 2) (by omega)
      have HR : Hid (Row w1 w.heap.size (l.length * 2)) := hr1
      have HF1 : Hid (∀ j, j < k → w1.rangeAt w.heap.size (j * 2) (l.getD j CaseD.zero).cells) := fun j hj => hw1.range hr.lt (HF.out j hj)
      clear HF c0 c1 hw hw1 hr hr1
      go_wp2_with (refine wpList_store_mid rfl 171 _ _ rfl w.heap.size (k * 2) #[.string c.text, .int .i64 c.goto] rfl rfl hth Tryz.sizeCase (CaseD.one c) ?_)
      go_roundw
      case rel =>
        refine ⟨k + 1, by omega, by go_num, Kept.setCells (Nat.le_refl _) _ _ hw2, Row.setCells _ _ HR.out, fun j hj => ?_⟩
        by_cases e : j = k
        · subst e
          rw [unhide HSs]
          exact World.rangeAt_setCells_same _ _ _ _ hth
        · exact World.rangeAt_setCells_apart (HF1.out j (by omega)) _ _ _ (by simp [CaseD.cells]; omega)
      case measure => simp [intOf]; omega
    · go_wp2
      go_ret
      have : k = l.length := by omega
      subst this
      exact ⟨w.heap.size, rfl, fun j hj => ⟨w.heap.size, 0, rfl, hr.lt, by rw [Nat.zero_add]; exact hf j hj⟩, hw, Nat.le_refl _⟩
def szStepD (s : StepD) : Nat := szStrs s.asks + szCases s.cases + s.give.size
set_option maxHeartbeats 800000 in
theorem szStep_any (w : World) (s : StepD) (aa ac : Option Addr) (ca cc : Nat) (left : Int) (hs : s.Fits) (hA : Strs w aa s.asks) (hC : Cases w ac s.cases) (h0 : 0 ≤ left) (h1 : left ≤ 1048576) :
    Calls Tryz.prog 133 #[.agg #[.slice aa s.asks.length ca, .int .i64 s.on, .slice ac s.cases.length cc, .int .i64 s.els, .int .i64 s.fall, .bool s.fin, .bool s.bad, .string s.give], .int .i64 left] w fun e w' => e = .returned (.int .i64 (szL (szStepD s) left)) ∧ Kept w w' := by
  have hg := hs.give
  unfold maxLen at hg
  have k0 : Kept w (w.alloc (.cells #[.slice aa s.asks.length ca, .int .i64 s.on, .slice ac s.cases.length cc, .int .i64 s.els, .int .i64 s.fall, .bool s.fin, .bool s.bad, .string s.give] 203)) := (Kept.refl _).alloc _
  go_enter Tryz.func133, Tryz.ntmps133
  go_wp2_with fail
  refine (szStringS_any _ _ _ _ _ hs.asks hs.askEach (hA.kept k0) h0 h1).mono ?_
  rintro e w1 ⟨rfl, rfl⟩
  by_cases hle : (szStrs s.asks : Int) ≤ left
  · rw [szL_pos hle]
    go_wp2_with fail
    refine (szCaseS_any _ _ _ _ _ hs.cases (fun c hc => (hs.caseEach c hc).1) (hC.kept k0) (by omega) (by omega)).mono ?_
    rintro e w1 ⟨rfl, k1⟩
    have k2 := k0.trans k1
    by_cases hle2 : (szCases s.cases : Int) ≤ left - szStrs s.asks
    · rw [szL_pos hle2]
      have hc : ∀ o, w1.cell? ⟨w.heap.size, o, none⟩ = (w.alloc (.cells #[.slice aa s.asks.length ca, .int .i64 s.on, .slice ac s.cases.length cc, .int .i64 s.els, .int .i64 s.fall, .bool s.fin, .bool s.bad, .string s.give] 203)).cell? ⟨w.heap.size, o, none⟩ := fun o => k1.cell (by simp)
      go_wp2
      · go_ret
        exact ⟨ret_int (szL_neg (by unfold szStepD; omega)).symm, k2⟩
      · go_ret
        exact ⟨ret_int (by rw [szL_pos (by unfold szStepD; omega)]; unfold szStepD; omega), k2⟩
    · rw [szL_neg (by omega)]
      go_wp2
      go_ret
      exact ⟨ret_int (szL_neg (by unfold szStepD; omega)).symm, k2⟩
  · rw [szL_neg (by omega)]
    go_wp2
    go_ret
    exact ⟨ret_int (szL_neg (by unfold szStepD; omega)).symm, k0⟩
theorem Tryz.sizeStep : (Tryz.prog.info? 120).map (·.size) = some 8 := by kernel_rfl
set_option maxHeartbeats 800000 in
theorem toStep_any (w : World) (s : StepD) (aa ac : Option Addr) (ca cc : Nat) (h1 : s.asks.length ≤ 1048576) (h2 : s.cases.length ≤ 1048576) (hA : Strs w aa s.asks) (hC : Cases w ac s.cases) :
    Calls Tryz.prog 134 #[.agg #[.slice aa s.asks.length ca, .int .i64 s.on, .slice ac s.cases.length cc, .int .i64 s.els, .int .i64 s.fall, .bool s.fin, .bool s.bad, .string s.give]] w fun e w' => ∃ b1 b2, e = .returned (.agg (s.cells (some ⟨b1, 0, none⟩) s.asks.length (some ⟨b2, 0, none⟩) s.cases.length).toArray) ∧ (Strs w' (some ⟨b1, 0, none⟩) s.asks ∧ Cases w' (some ⟨b2, 0, none⟩) s.cases ∧ w.heap.size ≤ b1 ∧ w.heap.size ≤ b2) ∧ Kept w w' := by
  go_enter Tryz.func134, Tryz.ntmps134
  go_wp2_with fail
  refine (toStringS_any _ _ _ _ h1 (hA.kept (by repeat (first | apply Kept.alloc | exact Kept.refl _)))).mono ?_
  rintro e w1 ⟨b1, rfl, hS1, k1, hb1⟩
  obtain ⟨hc1, hf1⟩ := k1.rules
  have hz1 := k1.size
  simp only [World.size_alloc] at hb1 hz1
  have hrow1 : Row w1 (w.heap.size + 1) 8 := Row.kept (Row.alloc (by have := Row.made (w.alloc (.cells #[.slice aa s.asks.length ca, .int .i64 s.on, .slice ac s.cases.length cc, .int .i64 s.els, .int .i64 s.fall, .bool s.fin, .bool s.bad, .string s.give] 203)) #[.slice none 0 0, .int .i64 0, .slice none 0 0, .int .i64 0, .int .i64 0, .bool false, .bool false, .string ⟨#[]⟩] 120; simpa using this) _) k1
  have K1 : Kept w w1 := Kept.trans (by repeat (first | apply Kept.alloc | exact Kept.refl _)) k1
  clear k1
  go_wp2_with fail
  refine (toCaseS_any _ _ _ _ h2 (hC.kept (by repeat (first | (refine Kept.setCell ?_ (by simp <;> omega) _) | exact K1)))).mono ?_
  rintro e w2 ⟨b2, rfl, hS2, k2, hb2⟩
  obtain ⟨hc2, hf2⟩ := k2.rules
  have hz2 := k2.size
  simp only [size_setCell] at hb2 hz2 hc2 hf2
  have K2 : Kept w w2 := Kept.trans (by repeat (first | (refine Kept.setCell ?_ (by simp <;> omega) _) | exact K1)) k2
  have hS1' := Strs.kept (Strs.setCell (Strs.setCell hS1 (p := ⟨w.heap.size + 1 + 1, 0, none⟩) (by simp <;> omega) (.slice (some ⟨b1, 0, none⟩) s.asks.length s.asks.length)) (p := ⟨w.heap.size + 1 + 1, 1, none⟩) (by simp <;> omega) (.int .i64 s.on)) k2
  have HRow : Hid (Row w2 (w.heap.size + 1) 8) := Row.kept (by repeat (first | refine Row.set ?_ _ rfl _ | exact hrow1)) k2
  clear k2 K1 hS1 hrow1
  have z0 : w.heap.size < w1.heap.size := by omega
  have z1 : w.heap.size + 1 < w1.heap.size := by omega
  have z2 : w.heap.size + 1 + 1 < w1.heap.size := by omega
  go_wp2
  have hX : Row ((((((w2.setCell ⟨w.heap.size + 1 + 1, 2, none⟩ (.slice (some ⟨b2, 0, none⟩) s.cases.length s.cases.length)).setCell ⟨w.heap.size + 1 + 1, 3, none⟩ (.int .i64 s.els)).setCell ⟨w.heap.size + 1 + 1, 4, none⟩ (.int .i64 s.fall)).setCell ⟨w.heap.size + 1 + 1, 5, none⟩ (.bool s.fin)).setCell ⟨w.heap.size + 1 + 1, 6, none⟩ (.bool s.bad)).setCell ⟨w.heap.size + 1 + 1, 7, none⟩ (.string s.give)) (w.heap.size + 1) 8 := by
    repeat (first | refine Row.set ?_ _ rfl _ | exact HRow.out)
  have hR := World.rangeAt_setCells_same _ (w.heap.size + 1) 0 (s.cells (some ⟨b1, 0, none⟩) s.asks.length (some ⟨b2, 0, none⟩) s.cases.length) (hX.there (o := 0) (m := 8) (Nat.le_refl _))
  refine bodyPost_ret_cell (s.cells (some ⟨b1, 0, none⟩) s.asks.length (some ⟨b2, 0, none⟩) s.cases.length) _ Tryz.results134 rfl hR Tryz.underlying120 rfl Tryz.sizeStep rfl ⟨b1, b2, rfl, ⟨?_, ?_, by omega, by omega⟩, ?_⟩
  · repeat (first | (refine Strs.setCell ?_ (by simp <;> omega) _) | exact hS1')
  · repeat (first | (refine Cases.setCell ?_ (by simp <;> omega) _) | exact hS2)
  · repeat (first | (refine Kept.setCell ?_ (by simp <;> omega) _) | exact K2)
set_option maxHeartbeats 800000 in
theorem eqStep_yes (w : World) (s : StepD) (aa ac ba bc : Option Addr) (ca cc da dc : Nat) (h1 : s.asks.length ≤ maxLen) (h2 : s.cases.length ≤ maxLen) (hA : Strs w aa s.asks) (hC : Cases w ac s.cases) (hA' : Strs w ba s.asks) (hC' : Cases w bc s.cases) :
    Calls Tryz.prog 152 #[.agg #[.slice aa s.asks.length ca, .int .i64 s.on, .slice ac s.cases.length cc, .int .i64 s.els, .int .i64 s.fall, .bool s.fin, .bool s.bad, .string s.give], .agg #[.slice ba s.asks.length da, .int .i64 s.on, .slice bc s.cases.length dc, .int .i64 s.els, .int .i64 s.fall, .bool s.fin, .bool s.bad, .string s.give]] w fun e w' => e = .returned (.bool true) ∧ Kept w w' := by
  go_enter Tryz.func152, Tryz.ntmps152
  go_wp2_with fail
  have k0 : Kept w ((w.alloc (.cells #[.slice aa s.asks.length ca, .int .i64 s.on, .slice ac s.cases.length cc, .int .i64 s.els, .int .i64 s.fall, .bool s.fin, .bool s.bad, .string s.give] 120)).alloc (.cells #[.slice ba s.asks.length da, .int .i64 s.on, .slice bc s.cases.length dc, .int .i64 s.els, .int .i64 s.fall, .bool s.fin, .bool s.bad, .string s.give] 120)) := by repeat (first | apply Kept.alloc | exact Kept.refl _)
  refine (eqStringS_yes _ _ _ _ _ _ h1 (hA.kept k0) (hA'.kept k0)).mono ?_
  rintro e w1 ⟨rfl, k1⟩
  obtain ⟨hc1, hf1⟩ := k1.rules
  have K1 := k0.trans k1
  have hz1 := k1.size
  simp only [World.size_alloc] at hz1
  clear k0 k1
  have z0 : w.heap.size < w1.heap.size := by omega
  have z1 : w.heap.size + 1 < w1.heap.size := by omega
  go_wp2_with fail
  refine (eqCaseS_yes _ _ _ _ _ _ h2 (hC.kept (by repeat (first | apply Kept.drew | exact K1))) (hC'.kept (by repeat (first | apply Kept.drew | exact K1)))).mono ?_
  rintro e w2 ⟨rfl, k2⟩
  obtain ⟨hc2, hf2⟩ := k2.rules
  have K2 : Kept w w2 := Kept.trans (by repeat (first | apply Kept.drew | exact K1)) k2
  have hz2 := k2.size
  clear k2 K1
  have y0 : w.heap.size < w2.heap.size := by omega
  have y1 : w.heap.size + 1 < w2.heap.size := by omega
  go_wp2
  go_ret
  exact ⟨rfl, by repeat (first | apply Kept.drew | exact K2)⟩
def szSteps (l : List StepD) : Nat := l.length + (l.map szStepD).sum
set_option maxHeartbeats 800000 in
theorem szStepS_any (w : World) (a : Option Addr) (cap : Nat) (l : List StepD) (left : Int) (hl : l.length ≤ maxLen) (hs : ∀ s ∈ l, s.Fits)
    (hS : Steps w a l) (h0 : 0 ≤ left) (h1 : left ≤ 1048576) :
    Calls Tryz.prog 107 #[.slice a l.length cap, .int .i64 left] w fun e w' => e = .returned (.int .i64 (szL (szSteps l) left)) ∧ Kept w w' := by
  unfold maxLen at hl
  go_enter Tryz.func107, Tryz.ntmps107
  go_wp2
  · go_ret
    exact ⟨ret_int (szL_neg (by unfold szSteps; omega)).symm, Kept.refl _⟩
  · go_loopw [1, 5] (fun x i wr => ∃ k : Nat, k ≤ l.length ∧ i = .int .i64 k ∧ x = .int .i64 (left - l.length - sumTo szStepD l k) ∧ 0 ≤ left - l.length - sumTo szStepD l k ∧ Kept w wr) (fun _ i _ => l.length - (intOf i).toNat)
    case atStart => exact ⟨0, Nat.zero_le _, rfl, by simp [sumTo_zero], by simp [sumTo_zero]; omega, Kept.refl _⟩
    case round =>
      obtain ⟨k, hk, rfl, rfl, hge, hw⟩ := hrel
      by_cases hlt : k < l.length
      · obtain ⟨b, o, cs, rfl, hb, hc, aa, ca, ac, cc, rfl, hA, hC, hca⟩ := hS.kept hw k hlt
        have hsz : (l.getD k StepD.zero).Fits := hs _ (by simp [List.getD, hlt])
        have HS : Hid (sumTo szStepD l (k + 1) = sumTo szStepD l k + szStepD (l.getD k StepD.zero)) := sumTo_succ _ l _ k hlt
        have HT := sumTo_le szStepD l (k + 1)
        generalize l.getD k StepD.zero = s at *
        have c0 := hc 0 _ rfl
        have c1 := hc 1 _ rfl
        have c2 := hc 2 _ rfl
        have c3 := hc 3 _ rfl
        have c4 := hc 4 _ rfl
        have c5 := hc 5 _ rfl
        have c6 := hc 6 _ rfl
        have c7 := hc 7 _ rfl
        simp only [Nat.add_zero] at c0
        clear hc
        go_wp2_with fail
        refine (szStep_any _ s aa ac ca cc _ hsz hA hC (by omega) (by omega)).mono ?_
        rintro e w1 ⟨rfl, hw1⟩
        have hw2 := hw.trans hw1
        by_cases hle : (szStepD s : Int) ≤ left - l.length - sumTo szStepD l k
        · rw [szL_pos hle]
          clear c0 c1 c2 c3 c4 c5 c6 c7 hA hC hw hw1
          go_wp2
          go_roundw
          case rel => exact ⟨k + 1, by omega, by go_num, by rw [HS.out]; go_num, by rw [HS.out]; omega, hw2⟩
          case measure => simp [intOf]; omega
        · rw [szL_neg (by omega)]
          clear c0 c1 c2 c3 c4 c5 c6 c7 hA hC hw hw1
          go_wp2
          go_ret
          exact ⟨ret_int (szL_neg (by unfold szSteps; have := HS.out; omega)).symm, hw2⟩
      · go_wp2
        go_ret
        have : k = l.length := by omega
        subst this
        rw [sumTo_all] at hge ⊢
        exact ⟨ret_int (by rw [szL_pos (by unfold szSteps; omega)]; unfold szSteps; omega), hw⟩
theorem Tryz.infoStep : (Tryz.prog.info? 120).map (fun i => (i.zero, i.size, i.bytes)) = some (some (.agg #[.slice none 0 0, .int .i64 0, .slice none 0 0, .int .i64 0, .int .i64 0, .bool false, .bool false, .string ⟨#[]⟩]), 8, 96) := by kernel_rfl
def StepNew (w : World) (B j : Nat) (s : StepD) : Prop :=
  ∃ b1 b2, B < b1 ∧ B < b2 ∧ w.rangeAt B (j * 8) (s.cells (some ⟨b1, 0, none⟩) s.asks.length (some ⟨b2, 0, none⟩) s.cases.length) ∧ Strs w (some ⟨b1, 0, none⟩) s.asks ∧ Cases w (some ⟨b2, 0, none⟩) s.cases
theorem StepNew.kept {w w' : World} {B j : Nat} {s : StepD} (h : StepNew w B j s) (k : Kept w w') (hB : B < w.heap.size) : StepNew w' B j s := by
  obtain ⟨b1, b2, h1, h2, h3, h4, h5⟩ := h
  exact ⟨b1, b2, h1, h2, k.range hB h3, h4.kept k, h5.kept k⟩
theorem StepNew.setCells {w : World} {B j o : Nat} {s : StepD} {vs : List Value} (h : StepNew w B j s) (ho : j * 8 + 8 ≤ o ∨ o + vs.length ≤ j * 8) : StepNew (w.setCells B o vs) B j s := by
  obtain ⟨b1, b2, h1, h2, h3, h4, h5⟩ := h
  exact ⟨b1, b2, h1, h2, World.rangeAt_setCells_apart h3 _ _ _ (by right; simpa [StepD.cells] using ho), Strs.setCells (by omega) _ _ h4, Cases.setCells (by omega) _ _ h5⟩
theorem StepNew.setCell {w : World} {B j : Nat} {s : StepD} (h : StepNew w B j s) {p : Addr} (hp : p.block < B) (v : Value) : StepNew (w.setCell p v) B j s := by
  obtain ⟨b1, b2, h1, h2, h3, h4, h5⟩ := h
  exact ⟨b1, b2, h1, h2, fun i u hu => by rw [World.cell?_setCell_other _ _ _ _ (fun e => by rw [e] at hp; simp at hp)]; exact h3 i u hu, Strs.setCell h4 (by omega) v, Cases.setCell h5 (by omega) v⟩
def StepsNew (w : World) (B : Nat) (l : List StepD) : Prop := B < w.heap.size ∧ ∀ j, j < l.length → StepNew w B j (l.getD j StepD.zero)
theorem StepsNew.setCell {w : World} {B : Nat} {l : List StepD} (h : StepsNew w B l) {p : Addr} (hp : p.block < B) (v : Value) : StepsNew (w.setCell p v) B l :=
  ⟨by rw [size_setCell]; exact h.1, fun j hj => (h.2 j hj).setCell hp v⟩
theorem StepsNew.kept {w w' : World} {B : Nat} {l : List StepD} (h : StepsNew w B l) (k : Kept w w') : StepsNew w' B l :=
  ⟨Nat.lt_of_lt_of_le h.1 k.size, fun j hj => (h.2 j hj).kept k h.1⟩
theorem StepsNew.steps {w : World} {B : Nat} {l : List StepD} (h : StepsNew w B l) : Steps w (some ⟨B, 0, none⟩) l := by
  intro j hj
  obtain ⟨b1, b2, _, _, g1, g2, g3⟩ := h.2 j hj
  exact ⟨B, 0, _, rfl, h.1, by rw [Nat.zero_add]; exact g1, _, _, _, _, rfl, g2, g3, Nat.le_refl _⟩
set_option maxHeartbeats 800000 in
theorem toStepS_any (w : World) (a : Option Addr) (cap : Nat) (l : List StepD) (hl : l.length ≤ 1048576) (hs : ∀ s ∈ l, s.asks.length ≤ 1048576 ∧ s.cases.length ≤ 1048576)
    (hS : Steps w a l) :
    Calls Tryz.prog 110 #[.slice a l.length cap] w fun e w' => ∃ b, e = .returned (.slice (some ⟨b, 0, none⟩) l.length l.length) ∧ StepsNew w' b l ∧ Kept w w' ∧ w.heap.size ≤ b := by
  have hmk := run_make_many (P := Tryz.prog) 60 120 _ _ _ Tryz.underlying60 Tryz.infoStep .i64 .i64 l.length (by omega) (by omega)
  go_enter Tryz.func110, Tryz.ntmps110
  go_wp2
  clear hmk
  have hrow := Row.made w (madeCells #[.slice none 0 0, .int .i64 0, .slice none 0 0, .int .i64 0, .int .i64 0, .bool false, .bool false, .string ⟨#[]⟩] (l.length * 8)) 120
  rw [size_madeCells] at hrow
  have hkept : Kept w (w.alloc (.cells (madeCells #[.slice none 0 0, .int .i64 0, .slice none 0 0, .int .i64 0, .int .i64 0, .bool false, .bool false, .string ⟨#[]⟩] (l.length * 8)) 120)) := (Kept.refl _).alloc _
  go_loopw [4] (fun i wr => ∃ k : Nat, k ≤ l.length ∧ i = .int .i64 k ∧ Kept w wr ∧ Row wr w.heap.size (l.length * 8) ∧ ∀ j, j < k → StepNew wr w.heap.size j (l.getD j StepD.zero)) (fun i _ => l.length - (intOf i).toNat)
  case atStart => exact ⟨0, Nat.zero_le _, rfl, hkept, hrow, fun j hj => absurd hj (Nat.not_lt_zero _)⟩
  case round =>
    obtain ⟨k, hk, rfl, hw, hr, hf⟩ := hrel
    clear hrow hkept
    by_cases hlt : k < l.length
    · obtain ⟨b, o, cs, rfl, hb, hc, aa, ca, ac, cc, rfl, hA, hC, hca⟩ := hS.kept hw k hlt
      have hsz := hs (l.getD k StepD.zero) (by simp [List.getD, hlt])
      have HF := hide hf
      clear hf
      generalize hs : l.getD k StepD.zero = s at *
      have HSs := hide hs
      clear hs
      have c0 := hc 0 _ rfl
      have c1 := hc 1 _ rfl
      have c2 := hc 2 _ rfl
      have c3 := hc 3 _ rfl
      have c4 := hc 4 _ rfl
      have c5 := hc 5 _ rfl
      have c6 := hc 6 _ rfl
      have c7 := hc 7 _ rfl
      simp only [Nat.add_zero] at c0
      clear hc
      go_wp2_with fail
      refine (toStep_any _ s aa ac ca cc hsz.1 hsz.2 hA hC).mono ?_
      rintro e w1 ⟨b1, b2, rfl, ⟨g1, g2, g3, g4⟩, hw1⟩
      have hrl := hr.lt
      have hw2 := hw.trans hw1
      have hr1 := hr.kept hw1
      generalize hcs : s.cells (some ⟨b1, 0, none⟩) s.asks.length (some ⟨b2, 0, none⟩) s.cases.length = cs
      have hlen : cs.length = 8 := by rw [← hcs]; rfl
      have hone : cs.toArray.all (·.oneCell') = true := by rw [← hcs]; exact StepD.one s _ _ _ _
      have hth : w1.there w.heap.size (k * 8) cs.toArray.size := by simpa [hlen] using hr1.there (o := k * 8) (m := 8) (by omega)
      have hsize : (Tryz.prog.info? 120).map (·.size) = some cs.toArray.size := by rw [Tryz.sizeStep]; simp [hlen]
      have HCS := hide hcs
      have HLEN := hide hlen
      have HSZ := hide hsize
      clear hcs hlen hsize
      have HR : Hid (Row w1 w.heap.size (l.length * 8)) := hr1
      have HF1 : Hid (∀ j, j < k → StepNew w1 w.heap.size j (l.getD j StepD.zero)) := fun j hj => (HF.out j hj).kept hw1 hr.lt
      clear HF c0 c1 c2 c3 c4 c5 c6 c7 hw hw1 hr hr1 hA hC
      go_wp2_with (refine wpList_store_mid rfl 120 _ _ rfl w.heap.size (k * 8) cs.toArray rfl rfl hth (unhide HSZ) hone ?_)
      go_roundw
      case rel =>
        refine ⟨k + 1, by omega, by go_num, Kept.setCells (Nat.le_refl _) _ _ hw2, Row.setCells _ _ HR.out, fun j hj => ?_⟩
        by_cases e : j = k
        · subst e
          rw [unhide HSs]
          exact ⟨b1, b2, by omega, by omega, by rw [HCS.out]; exact World.rangeAt_setCells_same _ _ _ _ (by simpa using hth), Strs.setCells (by omega) _ _ g1, Cases.setCells (by omega) _ _ g2⟩
        · exact (HF1.out j (by omega)).setCells (by rw [HLEN.out]; omega)
      case measure => simp [intOf]; omega
    · go_wp2
      go_ret
      have : k = l.length := by omega
      subst this
      exact ⟨w.heap.size, rfl, ⟨hr.lt, hf⟩, hw, Nat.le_refl _⟩
end Go.Proofs.YtjhemildijapmaaGreatDoor
