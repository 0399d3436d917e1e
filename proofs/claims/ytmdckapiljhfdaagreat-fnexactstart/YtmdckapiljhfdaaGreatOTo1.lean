import Derived.Test.YtmdckapiljhfdaaGreatODataN
import Derived.Test.YtmdckapiljhfdaaGreatWCases2
import Derived.Test.YtmdckapiljhfdaaGreatWStep2

/-
  COPIES THAT OWN THEIR MEMORY: toStringS, toCaseS, toStep.
-/
namespace Go.Proofs.YtmdckapiljhfdaaGreat
open Go.RowKit

theorem StrsIn.setCell {w : World} {lo hi : Nat} {a : Option Addr} {l : List ByteArray} (h : StrsIn w lo hi a l) {p : Addr} (hp : p.block < lo) (v : Value) : StrsIn (w.setCell p v) lo hi a l := h.same (Same.setCell _ (.inl hp) _)
theorem CasesIn.setCell {w : World} {lo hi : Nat} {a : Option Addr} {l : List CaseD} (h : CasesIn w lo hi a l) {p : Addr} (hp : p.block < lo) (v : Value) : CasesIn (w.setCell p v) lo hi a l := h.same (Same.setCell _ (.inl hp) _)
theorem StepsIn.setCell {w : World} {lo hi : Nat} {a : Option Addr} {l : List StepD} (h : StepsIn w lo hi a l) {p : Addr} (hp : p.block < lo) (v : Value) : StepsIn (w.setCell p v) lo hi a l := h.same (Same.setCell _ (.inl hp) _)
theorem NodesIn.setCell {w : World} {lo hi : Nat} {a : Option Addr} {l : List NodeD} (h : NodesIn w lo hi a l) {p : Addr} (hp : p.block < lo) (v : Value) : NodesIn (w.setCell p v) lo hi a l := h.same (Same.setCell _ (.inl hp) _)
theorem Same.setCells {lo hi g : Nat} (hg : g < lo ∨ hi ≤ g) : ∀ (vs : List Value) (o : Nat) (w : World), Same lo hi w (w.setCells g o vs)
  | [], _, _ => fun _ _ _ _ => rfl
  | v :: r, o, w => by
    rw [World.setCells]
    intro b h1 h2 h3
    have e := Same.setCells hg r (o + 1) (w.setCell ⟨g, o, none⟩ v) b h1 h2 (by rw [size_setCell]; exact h3)
    exact e.trans (Same.setCell w (p := ⟨g, o, none⟩) hg v b h1 h2 h3)

theorem toStringS_in (w : World) (a : Option Addr) (cap : Nat) (l : List ByteArray) (hl : l.length ≤ 1048576)
    (hS : Strs w a l) :
    Calls Tryz.prog 8 #[.slice a l.length cap] w fun e w' => ∃ b, e = .returned (.slice (some ⟨b, 0, none⟩) l.length l.length) ∧ StrsIn w' w.heap.size w'.heap.size (some ⟨b, 0, none⟩) l ∧ Kept w w' := by
  have hmk := run_make_row' (P := Tryz.prog) 25 9 _ _ Tryz.underlying25 Tryz.infoStr rfl .i64 .i64 l.length (by omega) (by omega)
  go_enter Tryz.func8, Tryz.ntmps8
  go_wp2
  clear hmk
  have hrow := World.rowIs_made w (.string ByteArray.empty) l.length 9
  have hkept : Kept w (w.alloc (.cells (madeCells #[.string ByteArray.empty] l.length) 9)) := Below.alloc (Below.refl _ _) (Nat.le_refl _) _
  go_loopw [4] (fun i wr => ∃ k : Nat, k ≤ l.length ∧ i = .int .i64 k ∧ Kept w wr ∧ (∃ f, wr.rowIs w.heap.size 9 l.length f) ∧ ∀ j, j < k → wr.cell? ⟨w.heap.size, j, none⟩ = some (.string (l.getD j ByteArray.empty))) (fun i _ => l.length - (intOf i).toNat)
  case atStart => exact ⟨0, Nat.zero_le _, rfl, hkept, ⟨_, hrow⟩, fun j hj => absurd hj (Nat.not_lt_zero _)⟩
  case round =>
    obtain ⟨k, hk, rfl, hw, ⟨f, hr⟩, hf⟩ := hrel
    clear hrow hkept
    by_cases hlt : k < l.length
    · obtain ⟨b, o, rfl, hb, hc⟩ := hS.kept hw k hlt
      have hfr := hr.frozen k
      have hold := hr.cell hlt
      have HR := hide hr
      have HF := hide hf
      clear hr hf
      generalize hs : l.getD k ByteArray.empty = s at *
      have HSs := hide hs
      clear hs
      go_wp2
      go_roundw
      case rel =>
        refine ⟨k + 1, by omega, by go_num, Below.setCell hw (Nat.le_refl _) _, ⟨_, (unhide HR).set k (.string s)⟩, fun j hj => ?_⟩
        by_cases e : j = k
        · subst e
          rw [World.cell?_setCell_same _ _ _ hold, unhide HSs]
        · rw [World.cell?_setCell_other _ _ _ _ (by simp <;> omega)]
          exact unhide HF j (by omega)
      case measure => simp [intOf]; omega
    · go_wp2
      go_ret
      have : k = l.length := by omega
      subst this
      exact ⟨w.heap.size, rfl, .inr ⟨w.heap.size, rfl, Nat.le_refl _, hr.lt, ⟨_, f, hr⟩, hf⟩, hw⟩

set_option maxHeartbeats 400000 in
theorem toCaseS_in (w : World) (a : Option Addr) (cap : Nat) (l : List CaseD) (hl : l.length ≤ 1048576)
    (hS : Cases w a l) :
    Calls Tryz.prog 89 #[.slice a l.length cap] w fun e w' => ∃ b, e = .returned (.slice (some ⟨b, 0, none⟩) l.length l.length) ∧ CasesIn w' w.heap.size w'.heap.size (some ⟨b, 0, none⟩) l ∧ Kept w w' := by
  have hmk := run_make_many (P := Tryz.prog) 106 122 _ _ _ Tryz.underlying106 Tryz.infoCase .i64 .i64 l.length (by omega) (by omega)
  go_enter Tryz.func89, Tryz.ntmps89
  go_wp2
  clear hmk
  have hrow := Row.made w (madeCells #[.string ByteArray.empty, .int .i64 0] (l.length * 2)) 122
  rw [size_madeCells] at hrow
  have hkept : Kept w (w.alloc (.cells (madeCells #[.string ByteArray.empty, .int .i64 0] (l.length * 2)) 122)) := (Kept.refl _).alloc _
  go_loopw [4] (fun i wr => ∃ k : Nat, k ≤ l.length ∧ i = .int .i64 k ∧ Kept w wr ∧ Row wr w.heap.size (l.length * 2) ∧ ∀ j, j < k → wr.rangeAt w.heap.size (j * 2) (l.getD j CaseD.zero).cells) (fun i _ => l.length - (intOf i).toNat)
  case atStart => exact ⟨0, Nat.zero_le _, rfl, hkept, hrow, fun j hj => absurd hj (Nat.not_lt_zero _)⟩
  case round =>
    obtain ⟨k, hk, rfl, hw, hr, hf⟩ := hrel
    clear hrow hkept
    by_cases hlt : k < l.length
    · obtain ⟨b, o, rfl, hb, hc⟩ := hS.kept hw k hlt
      have HF := hide hf
      clear hf
      generalize hs : l.getD k CaseD.zero = c at *
      have HSs := hide hs
      clear hs
      have c0 := hc 0 _ rfl
      have c1 := hc 1 _ rfl
      simp only [Nat.add_zero] at c0
      clear hc
      go_wp2_with fail
      refine (toCase_any _ c).mono ?_
      rintro e w1 ⟨rfl, hw1⟩
      have hw2 := hw.trans hw1
      have hr1 := hr.kept hw1
      have hth := hr1.there (o := k * 2) (m := 2) (by omega)
      have HR : Hid (Row w1 w.heap.size (l.length * 2)) := hr1
      have HF1 : Hid (∀ j, j < k → w1.rangeAt w.heap.size (j * 2) (l.getD j CaseD.zero).cells) := fun j hj => hw1.range hr.lt (HF.out j hj)
      clear HF c0 c1 hw hw1 hr hr1
      go_wp2_with (refine wpList_store_mid rfl 122 _ _ rfl w.heap.size (k * 2) #[.string c.text, .int .i64 c.goto] rfl rfl hth Tryz.sizeCase (CaseD.one c) ?_)
      go_roundw
      case rel =>
        refine ⟨k + 1, by omega, by go_num, Kept.setCells (Nat.le_refl _) _ _ hw2, Row.setCells _ _ HR.out, fun j hj => ?_⟩
        by_cases e : j = k
        · subst e
          rw [unhide HSs]
          exact World.rangeAt_setCells_same _ _ _ _ hth
        · exact World.rangeAt_setCells_apart (HF1.out j (by omega)) _ _ _ (by simp [CaseD.cells]; omega)
      case measure => simp [intOf]; omega
    · go_wp2
      go_ret
      have : k = l.length := by omega
      subst this
      exact ⟨w.heap.size, rfl, .inr ⟨w.heap.size, rfl, Nat.le_refl _, hr.lt, hr, hf⟩, hw⟩

set_option maxHeartbeats 800000 in
theorem toStep_in (w : World) (s : StepD) (aa ac : Option Addr) (ca cc : Nat) (h1 : s.asks.length ≤ 1048576) (h2 : s.cases.length ≤ 1048576) (hA : Strs w aa s.asks) (hC : Cases w ac s.cases) :
    Calls Tryz.prog 81 #[.agg #[.slice aa s.asks.length ca, .int .i64 s.on, .slice ac s.cases.length cc, .int .i64 s.els, .int .i64 s.fall, .bool s.fin, .bool s.bad, .string s.give]] w fun e w' => ∃ b1 b2 mid hi, e = .returned (.agg (s.cells (some ⟨b1, 0, none⟩) s.asks.length (some ⟨b2, 0, none⟩) s.cases.length).toArray) ∧ (StrsIn w' w.heap.size mid (some ⟨b1, 0, none⟩) s.asks ∧ CasesIn w' mid hi (some ⟨b2, 0, none⟩) s.cases ∧ w.heap.size ≤ mid ∧ mid ≤ hi ∧ hi ≤ w'.heap.size) ∧ Kept w w' := by
  go_enter Tryz.func81, Tryz.ntmps81
  go_wp2_with fail
  refine (toStringS_in _ _ _ _ h1 (hA.kept (by repeat (first | apply Kept.alloc | exact Kept.refl _)))).mono ?_
  rintro e w1 ⟨b1, rfl, hS1, k1⟩
  obtain ⟨hc1, hf1⟩ := k1.rules
  have hz1 := k1.size
  simp only [World.size_alloc] at hS1 hz1
  have hrow1 : Row w1 (w.heap.size + 1) 8 := Row.kept (Row.alloc (by have := Row.made (w.alloc (.cells #[.slice aa s.asks.length ca, .int .i64 s.on, .slice ac s.cases.length cc, .int .i64 s.els, .int .i64 s.fall, .bool s.fin, .bool s.bad, .string s.give] 135)) #[.slice none 0 0, .int .i64 0, .slice none 0 0, .int .i64 0, .int .i64 0, .bool false, .bool false, .string ⟨#[]⟩] 108; simpa using this) _) k1
  have K1 : Kept w w1 := Kept.trans (by repeat (first | apply Kept.alloc | exact Kept.refl _)) k1
  clear k1
  go_wp2_with fail
  refine (toCaseS_in _ _ _ _ h2 (hC.kept (by repeat (first | (refine Kept.setCell ?_ (by simp <;> omega) _) | exact K1)))).mono ?_
  rintro e w2 ⟨b2, rfl, hS2, k2⟩
  obtain ⟨hc2, hf2⟩ := k2.rules
  have hz2 := k2.size
  simp only [size_setCell] at hS2 hz2 hc2 hf2
  have K2 : Kept w w2 := Kept.trans (by repeat (first | (refine Kept.setCell ?_ (by simp <;> omega) _) | exact K1)) k2
  have hS1' := ((hS1.setCell (p := ⟨w.heap.size + 1 + 1, 0, none⟩) (by simp <;> omega) (.slice (some ⟨b1, 0, none⟩) s.asks.length s.asks.length)).setCell (p := ⟨w.heap.size + 1 + 1, 1, none⟩) (by simp <;> omega) (.int .i64 s.on)).same (k2.same _ _)
  have HRow : Hid (Row w2 (w.heap.size + 1) 8) := Row.kept (by repeat (first | refine Row.set ?_ _ rfl _ | exact hrow1)) k2
  clear k2 K1 hS1 hrow1
  have z0 : w.heap.size < w1.heap.size := by omega
  have z1 : w.heap.size + 1 < w1.heap.size := by omega
  have z2 : w.heap.size + 1 + 1 < w1.heap.size := by omega
  go_wp2
  have hX : Row ((((((w2.setCell ⟨w.heap.size + 1 + 1, 2, none⟩ (.slice (some ⟨b2, 0, none⟩) s.cases.length s.cases.length)).setCell ⟨w.heap.size + 1 + 1, 3, none⟩ (.int .i64 s.els)).setCell ⟨w.heap.size + 1 + 1, 4, none⟩ (.int .i64 s.fall)).setCell ⟨w.heap.size + 1 + 1, 5, none⟩ (.bool s.fin)).setCell ⟨w.heap.size + 1 + 1, 6, none⟩ (.bool s.bad)).setCell ⟨w.heap.size + 1 + 1, 7, none⟩ (.string s.give)) (w.heap.size + 1) 8 := by
    repeat (first | refine Row.set ?_ _ rfl _ | exact HRow.out)
  have hR := World.rangeAt_setCells_same _ (w.heap.size + 1) 0 (s.cells (some ⟨b1, 0, none⟩) s.asks.length (some ⟨b2, 0, none⟩) s.cases.length) (hX.there (o := 0) (m := 8) (Nat.le_refl _))
  refine bodyPost_ret_cell (s.cells (some ⟨b1, 0, none⟩) s.asks.length (some ⟨b2, 0, none⟩) s.cases.length) _ Tryz.results81 rfl hR Tryz.underlying108 rfl Tryz.sizeStep rfl ⟨b1, b2, w1.heap.size, w2.heap.size, rfl, ⟨StrsIn.mono (lo := w.heap.size + 1 + 1 + 1) ?_ (by omega) (Nat.le_refl _), ?_, by omega, by omega, by simp⟩, ?_⟩
  · repeat (first | (refine StrsIn.setCell ?_ (by simp <;> omega) _) | exact hS1')
  · repeat (first | (refine CasesIn.setCell ?_ (by simp <;> omega) _) | exact hS2)
  · repeat (first | (refine Kept.setCell ?_ (by simp <;> omega) _) | exact K2)

end Go.Proofs.YtmdckapiljhfdaaGreat
