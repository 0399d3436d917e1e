import Derived.Test.YtinkfgkjdaaeaaaGreatDoorKOTo2
import Derived.Test.YtinkfgkjdaaeaaaGreatDoorKShelf

namespace Go.Proofs.YtinkfgkjdaaeaaaGreatDoor
open Go.RowKit

theorem clone_any (w : World) (s : ByteArray) (hs : s.size ≤ 1048576) : Calls Tryz.prog 57 #[.string s] w fun e w' => e = .returned (.string s) ∧ Kept w w' := by
  go_enter Tryz.func57, Tryz.ntmps57
  go_wp2_with fail
  refine (Tryz.stringslite_Clone s _ (by omega)).mono ?_
  rintro e w1 ⟨rfl, k1⟩
  go_wp2
  go_ret
  exact ⟨rfl, k1⟩

set_option maxHeartbeats 800000 in
theorem copyStrs_in (w : World) (a : Option Addr) (cap : Nat) (l : List ByteArray) (hl : l.length ≤ 1048576) (hs : ∀ s ∈ l, s.size ≤ 1048576) (hS : Strs w a l) :
    Calls Tryz.prog 79 #[.slice a l.length cap, .func (.func 57) #[] #[]] w fun e w' => ∃ a', e = .returned (.slice a' l.length l.length) ∧ StrsIn w' w.heap.size w'.heap.size a' l ∧ Kept w w' := by
  by_cases h0 : l.length = 0
  · have hnil : l = [] := List.eq_nil_of_length_eq_zero h0
    subst hnil
    go_enter Tryz.func79, Tryz.ntmps79
    go_wp2
    go_ret
    exact ⟨none, rfl, .inl rfl, Kept.refl _⟩
  · have hmk := run_make_row' (P := Tryz.prog) 47 9 _ _ Tryz.underlying47 Tryz.infoStr rfl .i64 .i64 l.length (by omega) (by omega)
    have h00 : ((l.length : Int) == 0) = false := by simpa using h0
    go_enter Tryz.func79, Tryz.ntmps79
    go_wp2
    clear hmk h00
    have hrow : Row (w.alloc (.cells (madeCells #[.string ByteArray.empty] l.length) 9)) w.heap.size l.length := ⟨_, _, World.rowIs_made w (.string ByteArray.empty) l.length 9⟩
    have hkept : Kept w (w.alloc (.cells (madeCells #[.string ByteArray.empty] l.length) 9)) := Below.alloc (Below.refl _ _) (Nat.le_refl _) _
    go_loopw [16] (fun i wr => ∃ k : Nat, k ≤ l.length ∧ i = .int .i64 k ∧ Kept w wr ∧ Row wr w.heap.size l.length ∧ ∀ j, j < k → wr.cell? ⟨w.heap.size, j, none⟩ = some (.string (l.getD j ByteArray.empty))) (fun i _ => l.length - (intOf i).toNat)
    case atStart => exact ⟨0, Nat.zero_le _, rfl, hkept, hrow, fun j hj => absurd hj (Nat.not_lt_zero _)⟩
    case round =>
      obtain ⟨k, hk, rfl, hw, hr, hf⟩ := hrel
      clear hrow hkept
      have HF := hide hf
      by_cases hlt : k < l.length
      · obtain ⟨b, o, rfl, hb, hc⟩ := hS.kept hw k hlt
        have hsz := hs (l.getD k ByteArray.empty) (by simp [List.getD, hlt])
        obtain ⟨s, hsd⟩ : ∃ s, s = l.getD k ByteArray.empty := ⟨_, rfl⟩
        rw [← hsd] at hc hsz
        have HSd := hide hsd
        clear hsd hf
        have hrl := hr.lt
        go_wp2_with fail
        refine (clone_any _ s hsz).mono ?_
        rintro e w1 ⟨rfl, k1⟩
        have hr1 := hr.kept k1
        have HR1 := hide hr1
        have HF1 : Hid (∀ j, j < k → w1.cell? ⟨w.heap.size, j, none⟩ = some (.string (l.getD j ByteArray.empty))) := fun j hj => by rw [k1.cell hrl]; exact HF.out j hj
        obtain ⟨⟨old, hcell⟩, hfroz⟩ := hr1.at hlt
        have hw1 := hw.trans k1
        clear HF hr hr1 hw k1 hc
        go_wp2
        go_roundw
        case rel =>
          refine ⟨k + 1, by omega, by go_num, hw1.setCell (Nat.le_refl _) _, HR1.out.set _ rfl _, fun j hj => ?_⟩
          by_cases e : j = k
          · subst e
            rw [World.cell?_setCell_same _ _ _ hcell, HSd.out]
          · rw [World.cell?_setCell_other _ _ _ _ (by simp <;> omega)]
            exact HF1.out j (by omega)
        case measure => simp [intOf]; omega
      · have : k = l.length := by omega
        subst this
        go_wp2
        go_ret
        exact ⟨_, rfl, .inr ⟨w.heap.size, rfl, Nat.le_refl _, hr.lt, hr, HF.out⟩, hw⟩

set_option maxHeartbeats 800000 in
theorem copyCase_any (w : World) (c : CaseD) (hs : c.text.size ≤ 1048576) :
    Calls Tryz.prog 81 #[.agg #[.string c.text, .int .i64 c.goto]] w fun e w' => e = .returned (.agg #[.string c.text, .int .i64 c.goto]) ∧ Kept w w' := by
  go_enter Tryz.func81, Tryz.ntmps81
  go_wp2_with fail
  refine (clone_any _ c.text hs).mono ?_
  rintro e w1 ⟨rfl, k1⟩
  have p0 : w1.cell? ⟨w.heap.size, 0, none⟩ = some (.string c.text) := by rw [k1.cell (by simp <;> omega)]; simp
  have p1 : w1.cell? ⟨w.heap.size, 1, none⟩ = some (.int .i64 c.goto) := by rw [k1.cell (by simp <;> omega)]; simp
  have hrow0 : Row w1 w.heap.size 2 := Row.kept (Row.alloc (by have := Row.made w #[.string c.text, .int .i64 c.goto] 61; simpa using this) _) k1
  have hz1 := k1.size
  simp only [World.size_alloc] at hz1
  have f0 := (hrow0.at (i := 0) (by omega)).2
  have K1 : Kept w w1 := Kept.trans (by repeat (first | apply Kept.alloc | exact Kept.refl _)) k1
  have hrow1 : Row w1 (w.heap.size + 1) 2 := Row.kept (by have := Row.made (w.alloc (.cells #[.string c.text, .int .i64 c.goto] 61)) #[.string ⟨#[]⟩, .int .i64 0] 61; simpa using this) k1
  obtain ⟨⟨v0, r0⟩, f2⟩ := hrow1.at (i := 0) (by omega)
  obtain ⟨⟨v1, r1⟩, f3⟩ := hrow1.at (i := 1) (by omega)
  have HRow := hide hrow1
  clear k1 hrow1 hrow0
  go_wp2
  have hX : Row (w1.setCell ⟨w.heap.size, 0, none⟩ (.string c.text)) (w.heap.size + 1) 2 := Row.set HRow.out _ rfl _
  have hR := World.rangeAt_setCells_same _ (w.heap.size + 1) 0 c.cells (hX.there (o := 0) (m := 2) (Nat.le_refl _))
  refine bodyPost_ret_cell c.cells _ Tryz.results81 rfl hR Tryz.underlying61 rfl Tryz.sizeCase rfl ⟨rfl, ?_⟩
  repeat (first | (refine Kept.setCell ?_ (by simp <;> omega) _) | exact K1)

end Go.Proofs.YtinkfgkjdaaeaaaGreatDoor

namespace Go.Proofs.YtinkfgkjdaaeaaaGreatDoor
open Go.RowKit

set_option maxHeartbeats 1600000 in
theorem copyCases_in (w : World) (a : Option Addr) (cap : Nat) (l : List CaseD) (hl : l.length ≤ 1048576) (hs : ∀ c ∈ l, c.text.size ≤ 1048576) (hS : Cases w a l) :
    Calls Tryz.prog 80 #[.slice a l.length cap, .func (.func 81) #[] #[]] w fun e w' => ∃ a', e = .returned (.slice a' l.length l.length) ∧ CasesIn w' w.heap.size w'.heap.size a' l ∧ Kept w w' := by
  by_cases h0 : l.length = 0
  · have hnil : l = [] := List.eq_nil_of_length_eq_zero h0
    subst hnil
    go_enter Tryz.func80, Tryz.ntmps80
    go_wp2
    go_ret
    exact ⟨none, rfl, .inl rfl, Kept.refl _⟩
  · have hmk := run_make_many (P := Tryz.prog) 57 61 _ _ _ Tryz.underlying57 Tryz.infoCase .i64 .i64 l.length (by omega) (by omega)
    have h00 : ((l.length : Int) == 0) = false := by simpa using h0
    go_enter Tryz.func80, Tryz.ntmps80
    go_wp2
    clear hmk h00
    have hrow := Row.made w (madeCells #[.string ByteArray.empty, .int .i64 0] (l.length * 2)) 61
    rw [size_madeCells] at hrow
    have hkept : Kept w (w.alloc (.cells (madeCells #[.string ByteArray.empty, .int .i64 0] (l.length * 2)) 61)) := (Kept.refl _).alloc _
    go_loopw [16] (fun i wr => ∃ k : Nat, k ≤ l.length ∧ i = .int .i64 k ∧ Kept w wr ∧ Row wr w.heap.size (l.length * 2) ∧ ∀ j, j < k → wr.rangeAt w.heap.size (j * 2) (l.getD j CaseD.zero).cells) (fun i _ => l.length - (intOf i).toNat)
    case atStart => exact ⟨0, Nat.zero_le _, rfl, hkept, hrow, fun j hj => absurd hj (Nat.not_lt_zero _)⟩
    case round =>
      obtain ⟨k, hk, rfl, hw, hr, hf⟩ := hrel
      clear hrow hkept
      by_cases hlt : k < l.length
      · obtain ⟨b, o, rfl, hb, hc⟩ := hS.kept hw k hlt
        have hsz := hs (l.getD k CaseD.zero) (by simp [List.getD, hlt])
        have HF := hide hf
        clear hf
        obtain ⟨c, hsd⟩ : ∃ c, c = l.getD k CaseD.zero := ⟨_, rfl⟩
        rw [← hsd] at hc hsz
        have HSd := hide hsd
        clear hsd
        have c0 := hc 0 _ rfl
        have c1 := hc 1 _ rfl
        simp only [Nat.add_zero] at c0
        clear hc
        have hrl := hr.lt
        go_wp2_with fail
        refine (copyCase_any _ c hsz).mono ?_
        rintro e w1 ⟨rfl, k1⟩
        have kk : Kept wr w1 := Kept.trans (by repeat (first | (refine Kept.setCell ?_ (by simp) _) | apply Kept.alloc | exact Kept.refl _)) k1
        have hw2 := hw.trans kk
        have hr1 := hr.kept kk
        have hth := hr1.there (o := k * 2) (m := 2) (by omega)
        have HR := hide hr1
        have HF1 : Hid (∀ j, j < k → w1.rangeAt w.heap.size (j * 2) (l.getD j CaseD.zero).cells) := fun j hj => kk.range hrl (HF.out j hj)
        clear HF c0 c1 hw k1 kk hr hr1
        go_wp2_with (refine wpList_store_mid rfl 61 _ _ rfl w.heap.size (k * 2) #[.string c.text, .int .i64 c.goto] rfl rfl hth Tryz.sizeCase (CaseD.one c) ?_)
        go_roundw
        case rel =>
          refine ⟨k + 1, by omega, by go_num, Kept.setCells (Nat.le_refl _) _ _ hw2, Row.setCells _ _ HR.out, fun j hj => ?_⟩
          by_cases e : j = k
          · subst e
            rw [← HSd.out]
            exact World.rangeAt_setCells_same _ _ _ _ hth
          · exact World.rangeAt_setCells_apart (HF1.out j (by omega)) _ _ _ (by simp [CaseD.cells]; omega)
        case measure => simp [intOf]; omega
      · go_wp2
        go_ret
        have : k = l.length := by omega
        subst this
        exact ⟨_, rfl, .inr ⟨w.heap.size, rfl, Nat.le_refl _, hr.lt, hr, hf⟩, hw⟩

set_option maxRecDepth 100000 in
set_option maxHeartbeats 1600000 in
theorem copyStep_in (w : World) (s : StepD) (aa ac : Option Addr) (ca cc : Nat) (h1 : s.asks.length ≤ 1048576) (h1s : ∀ x ∈ s.asks, x.size ≤ 1048576) (h2 : s.cases.length ≤ 1048576) (h2s : ∀ c ∈ s.cases, c.text.size ≤ 1048576) (h3 : s.give.size ≤ 1048576) (hA : Strs w aa s.asks) (hC : Cases w ac s.cases) :
    Calls Tryz.prog 59 #[.agg #[.slice aa s.asks.length ca, .int .i64 s.on, .slice ac s.cases.length cc, .int .i64 s.els, .int .i64 s.fall, .bool s.fin, .bool s.bad, .string s.give]] w fun e w' => ∃ a1 a2 mid hi, e = .returned (.agg (s.cells a1 s.asks.length a2 s.cases.length).toArray) ∧ (StrsIn w' w.heap.size mid a1 s.asks ∧ CasesIn w' mid hi a2 s.cases ∧ w.heap.size ≤ mid ∧ mid ≤ hi ∧ hi ≤ w'.heap.size) ∧ Kept w w' := by
  go_enter Tryz.func59, Tryz.ntmps59
  go_wp2_with fail
  refine (copyStrs_in _ aa ca s.asks h1 h1s (hA.kept (by repeat (first | apply Kept.alloc | exact Kept.refl _)))).mono ?_
  rintro e w1 ⟨a1, rfl, hS1, k1⟩
  obtain ⟨X, hX⟩ : ∃ X : Array Value, X = #[.slice aa s.asks.length ca, .int .i64 s.on, .slice ac s.cases.length cc, .int .i64 s.els, .int .i64 s.fall, .bool s.fin, .bool s.bad, .string s.give] := ⟨_, rfl⟩
  have hz1 := k1.size
  simp only [World.size_alloc] at hz1 hS1
  have K1 : Kept w w1 := Kept.trans (by repeat (first | apply Kept.alloc | exact Kept.refl _)) k1
  have z0 : w.heap.size < w1.heap.size := by omega
  have p1 : w1.cell? ⟨w.heap.size, 1, none⟩ = some (.int .i64 s.on) := by rw [k1.cell (by simp <;> omega)]; simp
  have p2 : w1.cell? ⟨w.heap.size, 2, none⟩ = some (.slice ac s.cases.length cc) := by rw [k1.cell (by simp <;> omega)]; simp
  have p3 : w1.cell? ⟨w.heap.size, 3, none⟩ = some (.int .i64 s.els) := by rw [k1.cell (by simp <;> omega)]; simp
  have p4 : w1.cell? ⟨w.heap.size, 4, none⟩ = some (.int .i64 s.fall) := by rw [k1.cell (by simp <;> omega)]; simp
  have p5 : w1.cell? ⟨w.heap.size, 5, none⟩ = some (.bool s.fin) := by rw [k1.cell (by simp <;> omega)]; simp
  have p6 : w1.cell? ⟨w.heap.size, 6, none⟩ = some (.bool s.bad) := by rw [k1.cell (by simp <;> omega)]; simp
  have p7 : w1.cell? ⟨w.heap.size, 7, none⟩ = some (.string s.give) := by rw [k1.cell (by simp <;> omega)]; simp
  have hrow0 : Row w1 w.heap.size 8 := Row.kept (Row.alloc (by have := Row.made w #[.slice aa s.asks.length ca, .int .i64 s.on, .slice ac s.cases.length cc, .int .i64 s.els, .int .i64 s.fall, .bool s.fin, .bool s.bad, .string s.give] 59; simpa using this) _) k1
  have hrow1 : Row w1 (w.heap.size + 1) 8 := Row.kept (by have := Row.made (w.alloc (.cells #[.slice aa s.asks.length ca, .int .i64 s.on, .slice ac s.cases.length cc, .int .i64 s.els, .int .i64 s.fall, .bool s.fin, .bool s.bad, .string s.give] 59)) #[.slice none 0 0, .int .i64 0, .slice none 0 0, .int .i64 0, .int .i64 0, .bool false, .bool false, .string ⟨#[]⟩] 59; simpa using this) k1
  obtain ⟨⟨o0, q0⟩, f0⟩ := hrow0.at (i := 0) (by omega)
  have HR0 := hide hrow0
  have HR1 := hide hrow1
  have HS1 := hide hS1
  have HP := hide (And.intro p1 (And.intro p2 (And.intro p3 (And.intro p4 (And.intro p5 (And.intro p6 p7))))))
  clear k1 hrow0 hrow1 hS1 hX X p1 p3 p4 p5 p6 p7
  go_wp2_with fail
  have KW1 : Kept w (w1.setCell ⟨w.heap.size, 0, none⟩ (.slice a1 s.asks.length s.asks.length)) := K1.setCell (Nat.le_refl _) _
  have hW1 : w.heap.size < (w1.setCell ⟨w.heap.size, 0, none⟩ (.slice a1 s.asks.length s.asks.length)).heap.size := by rw [size_setCell]; exact z0
  have hW1' : w.heap.size + 1 < (w1.setCell ⟨w.heap.size, 0, none⟩ (.slice a1 s.asks.length s.asks.length)).heap.size := by rw [size_setCell]; omega
  refine (copyCases_in _ ac cc s.cases h2 h2s (hC.kept KW1)).mono ?_
  rintro e w2 ⟨a2, rfl, hS2, k2⟩
  rw [size_setCell] at hS2
  have hz2 := k2.size
  rw [size_setCell] at hz2
  have K2 := KW1.trans k2
  obtain ⟨p1, p2', p3, p4, p5, p6, p7⟩ := HP.out
  have r0 : w2.cell? ⟨w.heap.size, 0, none⟩ = some (.slice a1 s.asks.length s.asks.length) := by rw [k2.cell hW1]; exact set_hit HR0.out (by omega) _
  have r1 : w2.cell? ⟨w.heap.size, 1, none⟩ = some (.int .i64 s.on) := by rw [k2.cell hW1, set_miss (by omega)]; exact p1
  have r2 : w2.cell? ⟨w.heap.size, 2, none⟩ = some (.slice ac s.cases.length cc) := by rw [k2.cell hW1, set_miss (by omega)]; exact p2'
  have r3 : w2.cell? ⟨w.heap.size, 3, none⟩ = some (.int .i64 s.els) := by rw [k2.cell hW1, set_miss (by omega)]; exact p3
  have r4 : w2.cell? ⟨w.heap.size, 4, none⟩ = some (.int .i64 s.fall) := by rw [k2.cell hW1, set_miss (by omega)]; exact p4
  have r5 : w2.cell? ⟨w.heap.size, 5, none⟩ = some (.bool s.fin) := by rw [k2.cell hW1, set_miss (by omega)]; exact p5
  have r6 : w2.cell? ⟨w.heap.size, 6, none⟩ = some (.bool s.bad) := by rw [k2.cell hW1, set_miss (by omega)]; exact p6
  have r7 : w2.cell? ⟨w.heap.size, 7, none⟩ = some (.string s.give) := by rw [k2.cell hW1, set_miss (by omega)]; exact p7
  have R0 : Row w2 w.heap.size 8 := (HR0.out.set _ rfl _).kept k2
  have R1 : Row w2 (w.heap.size + 1) 8 := (HR1.out.set _ rfl _).kept k2
  have HS1b := hide ((HS1.out.setCell (p := ⟨w.heap.size, 0, none⟩) (by simp <;> omega) (.slice a1 s.asks.length s.asks.length)).same (k2.same _ _))
  have HS2 := hide hS2
  have z2 : w.heap.size < w2.heap.size := by omega
  obtain ⟨⟨o2, q2⟩, f2⟩ := R0.at (i := 2) (by omega)
  have HR0b := hide R0
  have HR1b := hide R1
  have HP2 := hide (And.intro r0 (And.intro r1 (And.intro r3 (And.intro r4 (And.intro r5 (And.intro r6 r7))))))
  clear HP HR0 HR1 HS1 hS2 k2 KW1 hW1 hW1' p1 p2 p2' p3 p4 p5 p6 p7 r0 r1 r2 r3 r4 r5 r6 R0 R1 f0 q0 o0 K1 z0
  go_wp2_with fail
  have hW2 : w.heap.size < (w2.setCell ⟨w.heap.size, 2, none⟩ (.slice a2 s.cases.length s.cases.length)).heap.size := by rw [size_setCell]; exact z2
  have KW2 : Kept w (w2.setCell ⟨w.heap.size, 2, none⟩ (.slice a2 s.cases.length s.cases.length)) := K2.setCell (Nat.le_refl _) _
  refine (clone_any _ s.give h3).mono ?_
  rintro e w3 ⟨rfl, k3⟩
  have hz3 := k3.size
  rw [size_setCell] at hz3
  have K3 := KW2.trans k3
  obtain ⟨r0, r1, r3, r4, r5, r6, r7'⟩ := HP2.out
  have y2 : w3.cell? ⟨w.heap.size, 2, none⟩ = some (.slice a2 s.cases.length s.cases.length) := by rw [k3.cell hW2]; exact set_hit HR0b.out (by omega) _
  have y0 : w3.cell? ⟨w.heap.size, 0, none⟩ = some (.slice a1 s.asks.length s.asks.length) := by rw [k3.cell hW2, set_miss (by omega)]; exact r0
  have y1 : w3.cell? ⟨w.heap.size, 1, none⟩ = some (.int .i64 s.on) := by rw [k3.cell hW2, set_miss (by omega)]; exact r1
  have y3 : w3.cell? ⟨w.heap.size, 3, none⟩ = some (.int .i64 s.els) := by rw [k3.cell hW2, set_miss (by omega)]; exact r3
  have y4 : w3.cell? ⟨w.heap.size, 4, none⟩ = some (.int .i64 s.fall) := by rw [k3.cell hW2, set_miss (by omega)]; exact r4
  have y5 : w3.cell? ⟨w.heap.size, 5, none⟩ = some (.bool s.fin) := by rw [k3.cell hW2, set_miss (by omega)]; exact r5
  have y6 : w3.cell? ⟨w.heap.size, 6, none⟩ = some (.bool s.bad) := by rw [k3.cell hW2, set_miss (by omega)]; exact r6
  have y7 : w3.cell? ⟨w.heap.size, 7, none⟩ = some (.string s.give) := by rw [k3.cell hW2, set_miss (by omega)]; exact r7'
  have R0 : Row w3 w.heap.size 8 := (HR0b.out.set _ rfl _).kept k3
  have R1 : Row w3 (w.heap.size + 1) 8 := (HR1b.out.set _ rfl _).kept k3
  have HS1c := hide ((HS1b.out.setCell (p := ⟨w.heap.size, 2, none⟩) (by simp <;> omega) (.slice a2 s.cases.length s.cases.length)).same (k3.same _ _))
  have HS2c := hide ((HS2.out.setCell (p := ⟨w.heap.size, 2, none⟩) (by simp <;> omega) (.slice a2 s.cases.length s.cases.length)).same (k3.same _ _))
  have f7 := (R0.at (i := 7) (by omega)).2
  obtain ⟨⟨_, x0⟩, g0⟩ := R1.at (i := 0) (by omega)
  obtain ⟨⟨_, x1⟩, g1⟩ := R1.at (i := 1) (by omega)
  obtain ⟨⟨_, x2⟩, g2⟩ := R1.at (i := 2) (by omega)
  obtain ⟨⟨_, x3⟩, g3⟩ := R1.at (i := 3) (by omega)
  obtain ⟨⟨_, x4⟩, g4⟩ := R1.at (i := 4) (by omega)
  obtain ⟨⟨_, x5⟩, g5⟩ := R1.at (i := 5) (by omega)
  obtain ⟨⟨_, x6⟩, g6⟩ := R1.at (i := 6) (by omega)
  obtain ⟨⟨_, x7⟩, g7⟩ := R1.at (i := 7) (by omega)
  have HR1c := hide R1
  clear HP2 HR0b HR1b HS1b HS2 k3 KW2 hW2 r0 r1 r3 r4 r5 r6 r7' r7 R0 R1 f2 q2 o2 K2
  go_wp2
  have hX : Row (w3.setCell ⟨w.heap.size, 7, none⟩ (.string s.give)) (w.heap.size + 1) 8 := Row.set HR1c.out _ rfl _
  have hR := World.rangeAt_setCells_same _ (w.heap.size + 1) 0 (s.cells a1 s.asks.length a2 s.cases.length) (hX.there (o := 0) (m := 8) (Nat.le_refl _))
  refine bodyPost_ret_cell (s.cells a1 s.asks.length a2 s.cases.length) _ Tryz.results59 rfl hR Tryz.underlying59 rfl Tryz.sizeStep rfl ⟨a1, a2, w1.heap.size, w2.heap.size, rfl, ⟨StrsIn.mono (lo := w.heap.size + 1 + 1) ?_ (by omega) (Nat.le_refl _), ?_, by omega, by omega, by simp; omega⟩, ?_⟩
  · repeat (first | (refine StrsIn.setCell ?_ (by simp <;> omega) _) | exact HS1c.out)
  · repeat (first | (refine CasesIn.setCell ?_ (by simp <;> omega) _) | exact HS2c.out)
  · repeat (first | (refine Kept.setCell ?_ (by simp <;> omega) _) | exact K3)

end Go.Proofs.YtinkfgkjdaaeaaaGreatDoor

namespace Go.Proofs.YtinkfgkjdaaeaaaGreatDoor
open Go.RowKit

structure StepD.Small (s : StepD) : Prop where
  asks : s.asks.length ≤ 1048576
  askEach : ∀ x ∈ s.asks, x.size ≤ 1048576
  cases : s.cases.length ≤ 1048576
  caseEach : ∀ c ∈ s.cases, c.text.size ≤ 1048576
  give : s.give.size ≤ 1048576

set_option maxHeartbeats 1600000 in
theorem copySteps_in (w : World) (a : Option Addr) (cap : Nat) (l : List StepD) (hl : l.length ≤ 1048576) (hs : ∀ s ∈ l, s.Small) (hS : Steps w a l) :
    Calls Tryz.prog 58 #[.slice a l.length cap, .func (.func 59) #[] #[]] w fun e w' => ∃ a', e = .returned (.slice a' l.length l.length) ∧ StepsIn w' w.heap.size w'.heap.size a' l ∧ Kept w w' := by
  by_cases h0 : l.length = 0
  · have hnil : l = [] := List.eq_nil_of_length_eq_zero h0
    subst hnil
    go_enter Tryz.func58, Tryz.ntmps58
    go_wp2
    go_ret
    exact ⟨none, rfl, .inl rfl, Kept.refl _⟩
  · have hmk := run_make_many (P := Tryz.prog) 50 59 _ _ _ Tryz.underlying50 Tryz.infoStep .i64 .i64 l.length (by omega) (by omega)
    have h00 : ((l.length : Int) == 0) = false := by simpa using h0
    go_enter Tryz.func58, Tryz.ntmps58
    go_wp2
    clear hmk h00
    have hrow := Row.made w (madeCells #[.slice none 0 0, .int .i64 0, .slice none 0 0, .int .i64 0, .int .i64 0, .bool false, .bool false, .string ⟨#[]⟩] (l.length * 8)) 59
    rw [size_madeCells] at hrow
    have hkept : Kept w (w.alloc (.cells (madeCells #[.slice none 0 0, .int .i64 0, .slice none 0 0, .int .i64 0, .int .i64 0, .bool false, .bool false, .string ⟨#[]⟩] (l.length * 8)) 59)) := (Kept.refl _).alloc _
    go_loopw [16] (fun i wr => ∃ k : Nat, k ≤ l.length ∧ i = .int .i64 k ∧ Kept w wr ∧ Row wr w.heap.size (l.length * 8) ∧ ∃ c : Nat → Nat, w.heap.size < c 0 ∧ c k ≤ wr.heap.size ∧ (∀ i j, i ≤ j → c i ≤ c j) ∧ ∀ j, j < k → StepIn wr w.heap.size j (c j) (c (j + 1)) (l.getD j StepD.zero)) (fun i _ => l.length - (intOf i).toNat)
    case atStart => exact ⟨0, Nat.zero_le _, rfl, hkept, hrow, fun _ => w.heap.size + 1, Nat.lt_succ_self _, by simp, fun _ _ _ => Nat.le_refl _, fun j hj => absurd hj (Nat.not_lt_zero _)⟩
    case round =>
      obtain ⟨k, hk, rfl, hw, hr, c, hc0, hck, hmono, hf⟩ := hrel
      have HMono := hide hmono
      clear hmono
      clear hrow hkept
      by_cases hlt : k < l.length
      · obtain ⟨b, o, cs, rfl, hb, hc, aa, ca, ac, cc, rfl, hA, hC, hca⟩ := hS.kept hw k hlt
        have hsz := hs (l.getD k StepD.zero) (by simp [List.getD, hlt])
        have HF := hide hf
        clear hf hs
        generalize hs : l.getD k StepD.zero = s at *
        have HSs := hide hs
        clear hs
        have c0 := hc 0 _ rfl
        have c1 := hc 1 _ rfl
        have c2 := hc 2 _ rfl
        have c3 := hc 3 _ rfl
        have c4 := hc 4 _ rfl
        have c5 := hc 5 _ rfl
        have c6 := hc 6 _ rfl
        have c7 := hc 7 _ rfl
        simp only [Nat.add_zero] at c0
        clear hc
        go_wp2_with fail
        refine (copyStep_in _ s aa ac ca cc hsz.asks hsz.askEach hsz.cases hsz.caseEach hsz.give (hA.kept (by repeat (first | (refine Kept.setCell ?_ (by simp) _) | apply Kept.alloc | exact Kept.refl _))) (hC.kept (by repeat (first | (refine Kept.setCell ?_ (by simp) _) | apply Kept.alloc | exact Kept.refl _)))).mono ?_
        rintro e w1 ⟨b1, b2, mid, hi, rfl, ⟨g1, g2, g3, g4, g5⟩, k1⟩
        simp only [World.size_alloc] at g1 g3
        have hw1 : Kept wr w1 := Kept.trans (by repeat (first | (refine Kept.setCell ?_ (by simp) _) | apply Kept.alloc | exact Kept.refl _)) k1
        have hz1 := hw1.size
        have hrl := hr.lt
        have hw2 := hw.trans hw1
        have hr1 := hr.kept hw1
        generalize hcs : s.cells b1 s.asks.length b2 s.cases.length = cs
        have hlen : cs.length = 8 := by rw [← hcs]; rfl
        have hone : cs.toArray.all (·.oneCell') = true := by rw [← hcs]; exact StepD.one s _ _ _ _
        have hth : w1.there w.heap.size (k * 8) cs.toArray.size := by simpa [hlen] using hr1.there (o := k * 8) (m := 8) (by omega)
        have hsize : (Tryz.prog.info? 59).map (·.size) = some cs.toArray.size := by rw [Tryz.sizeStep]; simp [hlen]
        have HCS := hide hcs
        have HLEN := hide hlen
        have HSZ := hide hsize
        clear hcs hlen hsize
        have HR : Hid (Row w1 w.heap.size (l.length * 8)) := hr1
        have HF1 : Hid (∀ j, j < k → StepIn w1 w.heap.size j (c j) (c (j + 1)) (l.getD j StepD.zero)) := fun j hj => (HF.out j hj).kept hw1 hr.lt
        clear HF c0 c1 c2 c3 c4 c5 c6 c7 hw hw1 k1 hr hr1 hA hC
        go_wp2_with (refine wpList_store_mid rfl 59 _ _ rfl w.heap.size (k * 8) cs.toArray rfl rfl hth (unhide HSZ) hone ?_)
        go_roundw
        case rel =>
          have hmono := HMono.out
          refine ⟨k + 1, by omega, by go_num, Kept.setCells (Nat.le_refl _) _ _ hw2, Row.setCells _ _ HR.out, cutAt c k w1.heap.size, by rw [cutAt_le (Nat.zero_le _)]; exact hc0, by rw [cutAt_gt (by omega), size_setCells]; exact Nat.le_refl _, cutAt_mono hmono (by omega), fun j hj => ?_⟩
          by_cases e : j = k
          · subst e
            rw [unhide HSs, cutAt_le (Nat.le_refl _), cutAt_gt (by omega)]
            have hcj : w.heap.size < c j := Nat.lt_of_lt_of_le hc0 (hmono 0 j (Nat.zero_le _))
            exact ⟨_, _, _, _, mid, by omega, by omega, by rw [HCS.out]; exact World.rangeAt_setCells_same _ _ _ _ (by simpa using hth), (g1.mono (by omega) (Nat.le_refl _)).same (Same.setCells (.inl hcj) _ _ _), (g2.mono (Nat.le_refl _) g5).same (Same.setCells (.inl (by omega)) _ _ _), Nat.le_refl _⟩
          · rw [cutAt_le (by omega), cutAt_le (by omega)]
            exact (HF1.out j (by omega)).setCells (Nat.lt_of_lt_of_le hc0 (hmono 0 j (Nat.zero_le _))) (by rw [HLEN.out]; omega)
        case measure => simp [intOf]; omega
      · go_wp2
        go_ret
        have : k = l.length := by omega
        subst this
        exact ⟨_, rfl, .inr ⟨w.heap.size, c, rfl, Nat.le_refl _, hc0, hck, hr, HMono.out, hf⟩, hw⟩

set_option maxRecDepth 100000 in
set_option maxHeartbeats 1600000 in
theorem copyNode_in (w : World) (d : NodeD) (a : Option Addr) (cap : Nat) (h1 : d.name.size ≤ 1048576) (h2 : d.steps.length ≤ 1048576) (h3 : ∀ s ∈ d.steps, s.Small) (hS : Steps w a d.steps) :
    Calls Tryz.prog 36 #[.agg #[.string d.name, .int .i64 d.cost, .slice a d.steps.length cap]] w fun e w' => ∃ a', e = .returned (.agg (d.cells a' d.steps.length).toArray) ∧ StepsIn w' w.heap.size w'.heap.size a' d.steps ∧ Kept w w' := by
  go_enter Tryz.func36, Tryz.ntmps36
  go_wp2_with fail
  refine (clone_any _ d.name h1).mono ?_
  rintro e w1 ⟨rfl, k1⟩
  have hz1 := k1.size
  simp only [World.size_alloc] at hz1
  have K1 : Kept w w1 := Kept.trans (by repeat (first | apply Kept.alloc | exact Kept.refl _)) k1
  have z0 : w.heap.size < w1.heap.size := by omega
  have p0 : w1.cell? ⟨w.heap.size, 0, none⟩ = some (.string d.name) := by rw [k1.cell (by simp <;> omega)]; simp
  have p1 : w1.cell? ⟨w.heap.size, 1, none⟩ = some (.int .i64 d.cost) := by rw [k1.cell (by simp <;> omega)]; simp
  have p2 : w1.cell? ⟨w.heap.size, 2, none⟩ = some (.slice a d.steps.length cap) := by rw [k1.cell (by simp <;> omega)]; simp
  have hrow0 : Row w1 w.heap.size 3 := Row.kept (Row.alloc (by have := Row.made w #[.string d.name, .int .i64 d.cost, .slice a d.steps.length cap] 54; simpa using this) _) k1
  have hrow1 : Row w1 (w.heap.size + 1) 3 := Row.kept (by have := Row.made (w.alloc (.cells #[.string d.name, .int .i64 d.cost, .slice a d.steps.length cap] 54)) #[.string ⟨#[]⟩, .int .i64 0, .slice none 0 0] 54; simpa using this) k1
  have f0 := (hrow0.at (i := 0) (by omega)).2
  have HR0 := hide hrow0
  have HR1 := hide hrow1
  clear k1 hrow0 hrow1
  go_wp2_with fail
  have KW1 : Kept w (w1.setCell ⟨w.heap.size, 0, none⟩ (.string d.name)) := K1.setCell (Nat.le_refl _) _
  have hW1 : w.heap.size < (w1.setCell ⟨w.heap.size, 0, none⟩ (.string d.name)).heap.size := by rw [size_setCell]; exact z0
  refine (copySteps_in _ a cap d.steps h2 h3 (hS.kept KW1)).mono ?_
  rintro e w2 ⟨a2, rfl, hS2, k2⟩
  rw [size_setCell] at hS2
  have hz2 := k2.size
  rw [size_setCell] at hz2
  have K2 := KW1.trans k2
  have r0 : w2.cell? ⟨w.heap.size, 0, none⟩ = some (.string d.name) := by rw [k2.cell hW1]; exact set_hit HR0.out (by omega) _
  have r1 : w2.cell? ⟨w.heap.size, 1, none⟩ = some (.int .i64 d.cost) := by rw [k2.cell hW1, set_miss (by omega)]; exact p1
  have r2 : w2.cell? ⟨w.heap.size, 2, none⟩ = some (.slice a d.steps.length cap) := by rw [k2.cell hW1, set_miss (by omega)]; exact p2
  have R0 : Row w2 w.heap.size 3 := (HR0.out.set _ rfl _).kept k2
  have R1 : Row w2 (w.heap.size + 1) 3 := (HR1.out.set _ rfl _).kept k2
  have f2 := (R0.at (i := 2) (by omega)).2
  obtain ⟨⟨_, x0⟩, g0⟩ := R1.at (i := 0) (by omega)
  obtain ⟨⟨_, x1⟩, g1⟩ := R1.at (i := 1) (by omega)
  obtain ⟨⟨_, x2⟩, g2⟩ := R1.at (i := 2) (by omega)
  have HR1c := hide R1
  have HS2 := hide hS2
  clear HR0 HR1 hS2 k2 KW1 hW1 p0 p1 p2 R0 R1 f0 K1 z0
  go_wp2
  have hX : Row (w2.setCell ⟨w.heap.size, 2, none⟩ (.slice a2 d.steps.length d.steps.length)) (w.heap.size + 1) 3 := Row.set HR1c.out _ rfl _
  have hR := World.rangeAt_setCells_same _ (w.heap.size + 1) 0 (d.cells a2 d.steps.length) (hX.there (o := 0) (m := 3) (Nat.le_refl _))
  refine bodyPost_ret_cell (d.cells a2 d.steps.length) _ Tryz.results36 rfl hR Tryz.underlying54 rfl Tryz.sizeNode rfl ⟨a2, rfl, StepsIn.mono (lo := w1.heap.size) (hi := w2.heap.size) ?_ (by omega) (by simp), ?_⟩
  · repeat (first | (refine StepsIn.setCell ?_ (by simp <;> omega) _) | exact HS2.out)
  · repeat (first | (refine Kept.setCell ?_ (by simp <;> omega) _) | exact K2)

end Go.Proofs.YtinkfgkjdaaeaaaGreatDoor
