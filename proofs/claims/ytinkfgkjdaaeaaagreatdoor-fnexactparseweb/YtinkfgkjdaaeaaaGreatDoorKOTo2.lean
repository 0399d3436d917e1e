import Derived.Test.YtinkfgkjdaaeaaaGreatDoorKOTurn
import Derived.Test.YtinkfgkjdaaeaaaGreatDoorKWWeb
import Derived.Test.YtinkfgkjdaaeaaaGreatDoorKWSteps2

namespace Go.Proofs.YtinkfgkjdaaeaaaGreatDoor
open Go.RowKit

set_option maxRecDepth 100000 in
set_option maxHeartbeats 3200000 in
theorem markStepS_any (w : World) (lo hi : Nat) (a : Option Addr) (cap : Nat) (l : List StepD) (k : Nat) (h0 : 0 < k) (h1 : k + (l.map cntStep).sum ≤ 4611686018427387904) (hS : StepsIn w lo hi a l) :
    Calls Tryz.prog 40 #[.slice a l.length cap, .int .i64 k] w fun e w' => e = .returned (.int .i64 ((k + (l.map cntStep).sum : Nat) : Int)) ∧ StepsIn w' lo hi a (markSteps l k) ∧ KeptBut lo hi w w' := by
  have hlen := len_le_cnt l
  rcases hS with rfl | ⟨B, c, rfl, hlo, hBc, hhi, hr, hmono, hf⟩
  · go_enter Tryz.func40, Tryz.ntmps40
    go_wp2
    go_loopw [1, 5] (fun x i wr => x = .int .i64 k ∧ i = .int .i64 0 ∧ wr = w) (fun _ _ _ => 0)
    case atStart => exact ⟨rfl, rfl, rfl⟩
    case round =>
      obtain ⟨rfl, rfl, rfl⟩ := hrel
      go_wp2
      go_ret
      exact ⟨by simp, .inl rfl, KeptBut.refl _ _ _⟩
  · have HMono := hide hmono
    clear hmono
    go_enter Tryz.func40, Tryz.ntmps40
    go_wp2
    go_loopw [1, 5] (fun x i wr => ∃ j m : Nat, j ≤ l.length ∧ i = .int .i64 j ∧ x = .int .i64 m ∧ m = k + sumTo cntStep l j ∧ KeptBut lo hi w wr ∧ Row wr B (l.length * 8) ∧ ∀ t, t < l.length → StepIn wr B t (c t) (c (t + 1)) (stepMix l k j t)) (fun _ i _ => l.length - (intOf i).toNat)
    case atStart => exact ⟨0, k, Nat.zero_le _, rfl, rfl, by rw [sumTo_zero]; omega, KeptBut.refl _ _ _, hr, fun t ht => by simpa [stepMix] using hf t ht⟩
    case round =>
      obtain ⟨j, m, hj, rfl, rfl, hm, hw, hr', hf'⟩ := hrel
      clear hr hf
      have HMn := hide hm
      have HF := hide hf'
      by_cases hlt : j < l.length
      · have hst := hf' j hlt
        have hmix : stepMix l k j j = l.getD j StepD.zero := by simp [stepMix]
        rw [hmix] at hst
        have hsum := sumTo_succ cntStep l StepD.zero j hlt
        have hsl := sumTo_le cntStep l (j + 1)
        obtain ⟨aa, ca, ac, cc, mid, g1, g2, g3, g4, g5, g6⟩ := hst
        obtain ⟨s, hsd⟩ : ∃ s, s = l.getD j StepD.zero := ⟨_, rfl⟩
        rw [← hsd] at g3 g4 g5 g6 hsum
        have hcnt : m + cntStep s ≤ 4611686018427387904 := by omega
        have hm0 : 0 < m := by omega
        have hcs : cntStep s = s.asks.length + s.cases.length * 2 + 6 := rfl
        have HSd := hide hsd
        have HSum := hide hsum
        clear hf' hmix hsd hm hsum hsl
        have hBj : B < c j := Nat.lt_of_lt_of_le hBc (HMono.out 0 j (Nat.zero_le _))
        have hBs := hr'.lt
        have c0 := g3 0 _ rfl
        have c2 := g3 2 _ rfl
        rw [Nat.add_zero] at c0
        have HG5 := hide g5
        go_wp2_with fail
        refine (markStringS_any _ (c j) mid aa ca s.asks m (by omega) (by omega) g4).mono ?_
        rintro e w1 ⟨rfl, hA1, kb1⟩
        obtain ⟨m1, hm1⟩ : ∃ m1, m1 = m + s.asks.length := ⟨_, rfl⟩
        rw [← hm1]
        have hb1 : m1 + s.cases.length * 2 + 6 ≤ 4611686018427387904 := by omega
        have HM1 := hide hm1
        clear hm1 hcnt hcs
        have t1 := (Turn.refl B (j * 8) (j * 8 + 8) (c j) (c (j + 1)) wr).but kb1 (Nat.le_refl _) g2 (.inl hBj) hBs
        have hr1 : Row w1 B (l.length * 8) := (kb1.same (l2 := B) (h2 := B + 1) (by omega)).row (Nat.le_refl _) (by omega) hr'
        have s1 := kb1.same (l2 := B) (h2 := B + 1) (by omega)
        have d0 := (s1.cell (o := j * 8) (Nat.le_refl _) (by omega) hBs).trans c0
        have d2 := (s1.cell (o := j * 8 + 2) (Nat.le_refl _) (by omega) hBs).trans c2
        obtain ⟨⟨_, f1c⟩, f1⟩ := hr1.at (i := j * 8 + 1) (by omega)
        have HA1 := hide hA1
        have HC1 := hide (HG5.out.same (kb1.same (l2 := mid) (h2 := c (j + 1)) (by omega)))
        have hmc : ∀ W, CasesIn W mid (c (j + 1)) ac s.cases → Calls Tryz.prog 62 #[.slice ac s.cases.length cc, .int .i64 ((m1 : Int) + 1)] W fun e w' => e = .returned (.int .i64 ((m1 + 1 + s.cases.length * 2 : Nat) : Int)) ∧ CasesIn w' mid (c (j + 1)) ac (markCases s.cases (m1 + 1)) ∧ KeptBut mid (c (j + 1)) W w' := by
          intro W hW
          have := markCaseS_any W mid (c (j + 1)) ac cc s.cases (m1 + 1) (by omega) (by omega) hW
          rw [show ((m1 + 1 : Nat) : Int) = (m1 : Int) + 1 by omega] at this
          exact this
        have HMC := hide hmc
        clear c0 c2 hr' g4 g5 hA1 hmc kb1 s1
        go_wp2_with fail
        refine (HMC.out _ (HC1.out.same (Same.setCell _ (.inl (by show B < mid; omega)) _))).mono ?_
        rintro e w2 ⟨rfl, hC2, kb2⟩
        obtain ⟨m2, hm2⟩ : ∃ m2, m2 = m1 + 1 + s.cases.length * 2 := ⟨_, rfl⟩
        rw [← hm2]
        have hb2 : m2 + 5 ≤ 4611686018427387904 := by omega
        have HM2 := hide hm2
        clear hm2 hb1
        have hBs1 : B < w1.heap.size := hr1.lt
        have t2 := (t1.setCell (o := j * 8 + 1) (by omega) (by omega) (.int .i64 (m1 : Int))).but kb2 g1 (Nat.le_refl _) (.inl (by omega)) (by rw [size_setCell]; exact hBs1)
        have hr1' : Row (w1.setCell ⟨B, j * 8 + 1, none⟩ (.int .i64 (m1 : Int))) B (l.length * 8) := hr1.set _ rfl _
        have s2 := kb2.same (l2 := B) (h2 := B + 1) (by omega)
        have hr2 : Row w2 B (l.length * 8) := s2.row (Nat.le_refl _) (by omega) hr1'
        have e0 : w2.cell? ⟨B, j * 8, none⟩ = some (.slice aa s.asks.length ca) := by rw [s2.cell (Nat.le_refl _) (by omega) hr1'.lt, set_miss (by omega)]; exact d0
        have e1 : w2.cell? ⟨B, j * 8 + 1, none⟩ = some (.int .i64 (m1 : Int)) := by rw [s2.cell (Nat.le_refl _) (by omega) hr1'.lt]; exact set_hit hr1 (by omega) _
        have e2 : w2.cell? ⟨B, j * 8 + 2, none⟩ = some (.slice ac s.cases.length cc) := by rw [s2.cell (Nat.le_refl _) (by omega) hr1'.lt, set_miss (by omega)]; exact d2
        have HA2 := hide ((HA1.out.same (Same.setCell _ (.inl (by show B < c j; omega)) _)).same (kb2.same (l2 := c j) (h2 := mid) (by omega)))
        have HC2 := hide hC2
        obtain ⟨⟨_, f3c⟩, f3⟩ := hr2.at (i := j * 8 + 3) (by omega)
        obtain ⟨⟨_, f4c⟩, f4⟩ := hr2.at (i := j * 8 + 4) (by omega)
        obtain ⟨⟨_, f5c⟩, f5⟩ := hr2.at (i := j * 8 + 5) (by omega)
        obtain ⟨⟨_, f6c⟩, f6⟩ := hr2.at (i := j * 8 + 6) (by omega)
        have HT2 := hide t2
        have HR2 := hide hr2
        obtain ⟨txt, htx, hmt⟩ : ∃ txt, txt = mtext (m2 + 4) ∧ ∀ z : Int, z = ((m2 + 4 : Nat) : Int) → ∀ W, Calls Tryz.prog 39 #[.int .i64 z] W fun e w' => e = .returned (.string txt) ∧ Kept W w' := ⟨_, rfl, fun z hz W => by rw [hz]; exact markText_any W _ (by omega) (by omega)⟩
        have HTX := hide htx
        have HMT := hide hmt
        clear htx
        have HE0 := hide e0
        have HE1 := hide e1
        have HE2 := hide e2
        clear HC1 HMC hC2 kb2 hr1 hr1' t1 t2 s2 d0 d2 f1 f1c hmt e0 e1 e2 hr2 HA1
        go_wp2_with fail
        obtain ⟨W3, hW3, hR3, q0, q1, q2, q3, q4, q5, q6⟩ := four_set (o := j * 8) HR2.out (by omega) (.int .i64 (m2 : Int)) (.int .i64 ((m2 : Int) + 1)) (.bool (((m2 : Int) + 1 + 1) % 3 == 0)) (.bool (((m2 : Int) + 1 + 1 + 1) % 3 == 0))
        have t3 : Turn B (j * 8) (j * 8 + 8) (c j) (c (j + 1)) wr W3 := by
          rw [hW3]
          exact (((HT2.out.setCell (by omega) (by omega) _).setCell (by omega) (by omega) _).setCell (by omega) (by omega) _).setCell (by omega) (by omega) _
        have HA3 : Hid (StrsIn W3 (c j) mid aa (markStrs s.asks m)) := by
          have hB' : B < c j := hBj
          rw [hW3]
          exact (((HA2.out.same (Same.setCell _ (.inl hB') _)).same (Same.setCell _ (.inl hB') _)).same (Same.setCell _ (.inl hB') _)).same (Same.setCell _ (.inl hB') _)
        have HC3 : Hid (CasesIn W3 mid (c (j + 1)) ac (markCases s.cases (m1 + 1))) := by
          have hB' : B < mid := by omega
          rw [hW3]
          exact (((HC2.out.same (Same.setCell _ (.inl hB') _)).same (Same.setCell _ (.inl hB') _)).same (Same.setCell _ (.inl hB') _)).same (Same.setCell _ (.inl hB') _)
        rw [← hW3]
        rw [HE0.out] at q0
        rw [HE1.out] at q1
        rw [HE2.out] at q2
        rw [mod3 m2 2 _ (by omega)] at q5
        rw [mod3 m2 3 _ (by omega)] at q6
        clear hW3 HE0 HE1 HE2 HT2 HR2 HA2 HC2 f3 f3c f4 f4c f5 f5c f6 f6c
        refine (HMT.out _ (by omega) _).mono ?_
        rintro e w3 ⟨rfl, k3⟩
        have hB3 := hR3.lt
        have hR4 := hR3.kept k3
        have y0 := (k3.cell hB3).trans q0
        have y1 := (k3.cell hB3).trans q1
        have y2 := (k3.cell hB3).trans q2
        have y3 := (k3.cell hB3).trans q3
        have y4 := (k3.cell hB3).trans q4
        have y5 := (k3.cell hB3).trans q5
        have y6 := (k3.cell hB3).trans q6
        have t4 := t3.kept k3 hB3
        have HA4 := hide (HA3.out.same (k3.same _ _))
        have HC4 := hide (HC3.out.same (k3.same _ _))
        obtain ⟨⟨_, f7c⟩, f7⟩ := hR4.at (i := j * 8 + 7) (by omega)
        have HR4 := hide hR4
        have HT4 := hide t4
        have HY := hide (And.intro y0 (And.intro y1 (And.intro y2 (And.intro y3 (And.intro y4 (And.intro y5 y6))))))
        clear q0 q1 q2 q3 q4 q5 q6 y0 y1 y2 y3 y4 y5 y6 hR3 hR4 t3 t4 HA3 HC3 k3 HMT
        go_wp2
        go_roundw
        case rel =>
          obtain ⟨y0, y1, y2, y3, y4, y5, y6⟩ := HY.out
          have tF := HT4.out.setCell (o := j * 8 + 7) (by omega) (by omega) (.string txt)
          refine ⟨j + 1, m2 + 5, by omega, by go_num, by go_num, by have e1 := HMn.out; have e2 := HSum.out; have e3 := HM1.out; have e4 := HM2.out; have e5 : cntStep s = s.asks.length + s.cases.length * 2 + 6 := rfl; omega, hw.trans (tF.keptBut (by omega) (by have := HMono.out (j + 1) l.length (by omega); omega) hlo (by have := HMono.out 0 l.length (by omega); omega)), HR4.out.set _ rfl _, fun t ht => ?_⟩
          by_cases e : t = j
          · subst e
            have em : stepMix l k (t + 1) t = markStep s m := by
              unfold stepMix
              rw [if_pos (by omega), ← HSd.out, ← HMn.out]
            rw [em]
            have hB' : B < c t := hBj
            have hB2 : B < mid := by omega
            refine ⟨aa, ca, ac, cc, mid, g1, g2, ?_, HA4.out.same (Same.setCell _ (.inl hB') _), ?_, by rw [show (markStep s m).asks = markStrs s.asks m from rfl, markStrs_length]; exact g6⟩
            · rw [markStep_cells, ← HM1.out, ← HM2.out, ← HTX.out]
              refine range8 ?_ ?_ ?_ ?_ ?_ ?_ ?_ (set_hit HR4.out (by omega) _)
              · rw [set_miss (by omega)]; exact y0
              · rw [set_miss (by omega)]; exact y1
              · rw [set_miss (by omega)]; exact y2
              · rw [set_miss (by omega)]; exact y3
              · rw [set_miss (by omega)]; exact y4
              · rw [set_miss (by omega)]; exact y5
              · rw [set_miss (by omega)]; exact y6
            · rw [show (markStep s m).cases = markCases s.cases (m + s.asks.length + 1) from rfl, ← HM1.out]
              exact HC4.out.same (Same.setCell _ (.inl hB2) _)
          · have em : stepMix l k (j + 1) t = stepMix l k j t := by
              unfold stepMix
              by_cases h : t < j
              · rw [if_pos h, if_pos (by omega)]
              · rw [if_neg h, if_neg (by omega)]
            rw [em]
            have hBt : B < c t := Nat.lt_of_lt_of_le hBc (HMono.out 0 t (Nat.zero_le _))
            obtain ⟨aa', ca', ac', cc', mid', z1, z2, z3, z4, z5, z6⟩ := HF.out t ht
            have hd : c (t + 1) ≤ c j ∨ c (j + 1) ≤ c t := by
              by_cases h : t < j
              · exact .inl (HMono.out _ _ (by omega))
              · exact .inr (HMono.out _ _ (by omega))
            exact ⟨aa', ca', ac', cc', mid', z1, z2, tF.range (by simp [StepD.cells]; omega) z3, z4.same (tF.same (by omega) (.inl hBt)), z5.same (tF.same (by omega) (.inl (by omega))), z6⟩
        case measure => simp [intOf]; omega
      · have : j = l.length := by omega
        subst this
        go_wp2
        go_ret
        refine ⟨ret_int (by have := HMn.out; rw [sumTo_all] at this; omega), .inr ⟨B, c, rfl, hlo, hBc, by rw [markSteps_length]; exact hhi, by rw [markSteps_length]; exact hr', HMono.out, fun i hi' => ?_⟩, hw⟩
        rw [markSteps_length] at hi'
        have := HF.out i hi'
        rw [markSteps_getD _ _ _ hi']
        unfold stepMix at this
        rw [if_pos hi'] at this
        exact this

end Go.Proofs.YtinkfgkjdaaeaaaGreatDoor

namespace Go.Proofs.YtinkfgkjdaaeaaaGreatDoor
open Go.RowKit

set_option maxRecDepth 100000 in
set_option maxHeartbeats 3200000 in
theorem heldStepS_yes (w : World) (a : Option Addr) (cap : Nat) (l : List StepD) (k : Nat) (h0 : 0 < k) (h1 : k + (l.map cntStep).sum ≤ 4611686018427387904) (hS : Steps w a (markSteps l k)) :
    Calls Tryz.prog 41 #[.slice a l.length cap, .int .i64 k] w fun e w' => e = .returned (.int .i64 ((k + (l.map cntStep).sum : Nat) : Int)) ∧ Kept w w' := by
  have hlen := len_le_cnt l
  go_enter Tryz.func41, Tryz.ntmps41
  go_wp2
  go_loopw [1, 5] (fun x i wr => ∃ j m : Nat, j ≤ l.length ∧ i = .int .i64 j ∧ x = .int .i64 m ∧ m = k + sumTo cntStep l j ∧ Kept w wr) (fun _ i _ => l.length - (intOf i).toNat)
  case atStart => exact ⟨0, k, Nat.zero_le _, rfl, rfl, by rw [sumTo_zero]; omega, Kept.refl _⟩
  case round =>
    obtain ⟨j, m, hj, rfl, rfl, hm, hw⟩ := hrel
    have HMn := hide hm
    by_cases hlt : j < l.length
    · obtain ⟨b, o, cs, rfl, hb, hc, aa, ca, ac, cc, rfl, hA, hC, hca⟩ := hS.kept hw j (by rw [markSteps_length]; exact hlt)
      rw [markSteps_getD _ _ _ hlt, ← hm] at hc hA hC hca
      have hsum := sumTo_succ cntStep l StepD.zero j hlt
      have hsl := sumTo_le cntStep l (j + 1)
      generalize l.getD j StepD.zero = s at *
      have hcnt : m + cntStep s ≤ 4611686018427387904 := by omega
      have hm0 : 0 < m := by omega
      have hcs : cntStep s = s.asks.length + s.cases.length * 2 + 6 := rfl
      rw [markStep_cells] at hc
      have hA' : Strs wr aa (markStrs s.asks m) := hA
      obtain ⟨m1, hm1⟩ : ∃ m1, m1 = m + s.asks.length := ⟨_, rfl⟩
      obtain ⟨m2, hm2⟩ : ∃ m2, m2 = m1 + 1 + s.cases.length * 2 := ⟨_, rfl⟩
      have hC' : Cases wr ac (markCases s.cases (m1 + 1)) := by rw [hm1]; exact hC
      rw [← hm1, ← hm2] at hc
      have hb1 : m1 + s.cases.length * 2 + 6 ≤ 4611686018427387904 := by omega
      have hb2 : m2 + 5 ≤ 4611686018427387904 := by omega
      have HTot : Hid (m2 + 5 = k + sumTo cntStep l (j + 1)) := by show _ = _; omega
      obtain ⟨txt, htx, hmt⟩ : ∃ txt, txt = mtext (m2 + 4) ∧ ∀ z : Int, z = ((m2 + 4 : Nat) : Int) → ∀ W, Calls Tryz.prog 39 #[.int .i64 z] W fun e w' => e = .returned (.string txt) ∧ Kept W w' := ⟨_, rfl, fun z hz W => by rw [hz]; exact markText_any W _ (by omega) (by omega)⟩
      rw [← htx, ← mod3 m2 2 ((m2 : Int) + 1 + 1) (by omega), ← mod3 m2 3 ((m2 : Int) + 1 + 1 + 1) (by omega)] at hc
      have c0 := hc 0 _ rfl
      have c1 := hc 1 _ rfl
      have c2 := hc 2 _ rfl
      have c3 := hc 3 _ rfl
      have c4 := hc 4 (.int .i64 ((m2 : Int) + 1)) (by simp)
      have c5 := hc 5 _ rfl
      have c6 := hc 6 _ rfl
      have c7 := hc 7 _ rfl
      rw [Nat.add_zero] at c0
      have hmc : ∀ W, Cases W ac (markCases s.cases (m1 + 1)) → Calls Tryz.prog 64 #[.slice ac s.cases.length cc, .int .i64 ((m1 : Int) + 1)] W fun e w' => e = .returned (.int .i64 ((m1 + 1 + s.cases.length * 2 : Nat) : Int)) ∧ Kept W w' := by
        intro W hW
        have := heldCaseS_yes W ac cc s.cases (m1 + 1) (by omega) (by omega) hW
        rw [show ((m1 + 1 : Nat) : Int) = (m1 : Int) + 1 by omega] at this
        exact this
      have hms : ∀ W, Strs W aa (markStrs s.asks m) → Calls Tryz.prog 63 #[.slice aa s.asks.length ca, .int .i64 m] W fun e w' => e = .returned (.int .i64 (m1 : Int)) ∧ Kept W w' := by
        intro W hW
        rw [hm1]
        exact heldStringS_yes W aa ca s.asks m (by omega) (by omega) hW
      rw [← hm2] at hmc
      have HMS := hide hms
      have HMC := hide hmc
      have HMT := hide hmt
      have HC' := hide hC'
      have hbr : b < wr.heap.size := Nat.lt_of_lt_of_le hb (Nat.le_refl _)
      clear hm1 hm2 hm hcs hcnt hmt htx hmc hms hsum hsl hA hC hca hC' hc
      go_wp2_with fail
      refine (HMS.out _ hA').mono ?_
      rintro e w1 ⟨rfl, k1⟩
      have d1 := (k1.cell hbr).trans c1
      have d2 := (k1.cell hbr).trans c2
      go_wp2_with fail
      refine (HMC.out _ (HC'.out.kept (by repeat (first | apply Kept.drew | exact k1)))).mono ?_
      rintro e w2 ⟨rfl, k2⟩
      have k12 : Kept wr w2 := Kept.trans (by repeat (first | apply Kept.drew | exact k1)) k2
      have e3 := (k12.cell hbr).trans c3
      have e4 := (k12.cell hbr).trans c4
      have e5 := (k12.cell hbr).trans c5
      have e6 := (k12.cell hbr).trans c6
      have e7 := (k12.cell hbr).trans c7
      have hbr2 : b < w2.heap.size := Nat.lt_of_lt_of_le hbr k12.size
      clear c0 c1 c2 c3 c4 c5 c6 c7 d1 d2 k1 k2 HMS HMC HC' hA'
      go_wp2
      go_region_with (go_at_call 39; refine (HMT.out _ (by omega) _).mono ?_; rintro e w3 ⟨rfl, k3⟩; have kk : Kept w2 w3 := Kept.trans (by repeat (first | apply Kept.drew | exact Kept.refl _)) k3; have hc3 := (kk.cell (o := o + j * 8 + 7) hbr2).trans e7)
      all_goals
        go_wp2
        go_roundw
        case rel => exact ⟨j + 1, m2 + 5, by omega, by go_num, by go_num, HTot.out, by repeat (first | exact (hw.trans k12).trans kk | apply Kept.drew)⟩
        case measure => simp [intOf]; omega
    · have : j = l.length := by omega
      subst this
      go_wp2
      go_ret
      exact ⟨ret_int (by have := HMn.out; rw [sumTo_all] at this; omega), hw⟩

end Go.Proofs.YtinkfgkjdaaeaaaGreatDoor

namespace Go.Proofs.YtinkfgkjdaaeaaaGreatDoor
open Go.RowKit

def NodeIn (w : World) (B j lo hi : Nat) (d : NodeD) : Prop := ∃ a cap, w.rangeAt B (j * 3) (d.cells a cap) ∧ StepsIn w lo hi a d.steps

def NodesIn (w : World) (lo hi : Nat) (a : Option Addr) (l : List NodeD) : Prop :=
  l = [] ∨ ∃ (b : Nat) (c : Nat → Nat), a = some ⟨b, 0, none⟩ ∧ lo ≤ b ∧ b < c 0 ∧ c l.length ≤ hi ∧ Row w b (l.length * 3) ∧ (∀ i j, i ≤ j → c i ≤ c j) ∧ ∀ i, i < l.length → NodeIn w b i (c i) (c (i + 1)) (l.getD i NodeD.zero)

theorem NodesIn.same {w w' : World} {lo hi : Nat} {a : Option Addr} {l : List NodeD} (h : NodesIn w lo hi a l) (k : Same lo hi w w') : NodesIn w' lo hi a l := by
  rcases h with h | ⟨b, c, ha, h1, h2, h3, hr, hm, hc⟩
  · exact .inl h
  · have hbh : b < hi := Nat.lt_of_lt_of_le h2 (Nat.le_trans (hm 0 _ (Nat.zero_le _)) h3)
    refine .inr ⟨b, c, ha, h1, h2, h3, k.row h1 hbh hr, hm, fun i hi' => ?_⟩
    obtain ⟨a', cap, g1, g2⟩ := hc i hi'
    refine ⟨a', cap, k.range h1 hbh hr.lt g1, g2.same (k.mono ?_ ?_)⟩
    · have := hm 0 i (Nat.zero_le _); omega
    · have := hm (i + 1) l.length (by omega); omega
theorem NodesIn.mono {w : World} {lo hi lo' hi' : Nat} {a : Option Addr} {l : List NodeD} (h : NodesIn w lo hi a l) (h1 : lo' ≤ lo) (h2 : hi ≤ hi') : NodesIn w lo' hi' a l := by
  rcases h with h | ⟨b, c, ha, g1, g2, g3, hr, hm, hc⟩
  · exact .inl h
  · exact .inr ⟨b, c, ha, by omega, g2, by omega, hr, hm, hc⟩
theorem NodesIn.nodes {w : World} {lo hi : Nat} {a : Option Addr} {l : List NodeD} (h : NodesIn w lo hi a l) : Nodes w a l := by
  rcases h with rfl | ⟨b, c, ha, h1, h2, h3, hr, hm, hc⟩
  · intro i hi
    simp at hi
  · intro i hi
    obtain ⟨a', cap, g1, g2⟩ := hc i hi
    exact ⟨b, 0, _, ha, hr.lt, by rw [Nat.zero_add]; exact g1, a', cap, rfl, g2.steps⟩

def cntNode (d : NodeD) : Nat := (d.steps.map cntStep).sum + 2
def markNode (d : NodeD) (k : Nat) : NodeD := { name := mtext k, cost := ((k + 1 : Nat) : Int), steps := markSteps d.steps (k + 2) }
def markNodes (l : List NodeD) (k : Nat) : List NodeD := l.mapIdx fun i d => markNode d (k + sumTo cntNode l i)
theorem markNodes_length (l : List NodeD) (k : Nat) : (markNodes l k).length = l.length := by simp [markNodes]
theorem markNodes_getD (l : List NodeD) (k i : Nat) (h : i < l.length) : (markNodes l k).getD i NodeD.zero = markNode (l.getD i NodeD.zero) (k + sumTo cntNode l i) := by simp [markNodes, List.getD, h]
theorem markNode_cells (d : NodeD) (k : Nat) (a : Option Addr) (cap : Nat) : (markNode d k).cells a cap = [.string (mtext k), .int .i64 ((k + 1 : Nat) : Int), .slice a d.steps.length cap] := by
  simp [markNode, NodeD.cells, markSteps_length]

def nodeMix (l : List NodeD) (k j t : Nat) : NodeD := if t < j then markNode (l.getD t NodeD.zero) (k + sumTo cntNode l t) else l.getD t NodeD.zero

theorem len_le_cntN (l : List NodeD) : l.length ≤ (l.map cntNode).sum := by
  induction l with
  | nil => simp
  | cons s r ih =>
    simp only [List.length_cons, List.map_cons, List.sum_cons]
    have : 2 ≤ cntNode s := by unfold cntNode; omega
    omega

end Go.Proofs.YtinkfgkjdaaeaaaGreatDoor

namespace Go.Proofs.YtinkfgkjdaaeaaaGreatDoor
open Go.RowKit

theorem StrsIn.setCell {w : World} {lo hi : Nat} {a : Option Addr} {l : List ByteArray} (h : StrsIn w lo hi a l) {p : Addr} (hp : p.block < lo) (v : Value) : StrsIn (w.setCell p v) lo hi a l := h.same (Same.setCell _ (.inl hp) _)
theorem CasesIn.setCell {w : World} {lo hi : Nat} {a : Option Addr} {l : List CaseD} (h : CasesIn w lo hi a l) {p : Addr} (hp : p.block < lo) (v : Value) : CasesIn (w.setCell p v) lo hi a l := h.same (Same.setCell _ (.inl hp) _)
theorem StepsIn.setCell {w : World} {lo hi : Nat} {a : Option Addr} {l : List StepD} (h : StepsIn w lo hi a l) {p : Addr} (hp : p.block < lo) (v : Value) : StepsIn (w.setCell p v) lo hi a l := h.same (Same.setCell _ (.inl hp) _)
theorem NodesIn.setCell {w : World} {lo hi : Nat} {a : Option Addr} {l : List NodeD} (h : NodesIn w lo hi a l) {p : Addr} (hp : p.block < lo) (v : Value) : NodesIn (w.setCell p v) lo hi a l := h.same (Same.setCell _ (.inl hp) _)
theorem Same.setCells {lo hi g : Nat} (hg : g < lo ∨ hi ≤ g) : ∀ (vs : List Value) (o : Nat) (w : World), Same lo hi w (w.setCells g o vs)
  | [], _, _ => fun _ _ _ _ => rfl
  | v :: r, o, w => by
    rw [World.setCells]
    intro b h1 h2 h3
    have e := Same.setCells hg r (o + 1) (w.setCell ⟨g, o, none⟩ v) b h1 h2 (by rw [size_setCell]; exact h3)
    exact e.trans (Same.setCell w (p := ⟨g, o, none⟩) hg v b h1 h2 h3)

end Go.Proofs.YtinkfgkjdaaeaaaGreatDoor

namespace Go.Proofs.YtinkfgkjdaaeaaaGreatDoor
open Go.RowKit

def cutAt (c : Nat → Nat) (k z t : Nat) : Nat := if t ≤ k then c t else z
theorem cutAt_le {c : Nat → Nat} {k z t : Nat} (h : t ≤ k) : cutAt c k z t = c t := by simp [cutAt, h]
theorem cutAt_gt {c : Nat → Nat} {k z t : Nat} (h : k < t) : cutAt c k z t = z := by simp [cutAt]; omega
theorem cutAt_mono {c : Nat → Nat} {k z : Nat} (h : ∀ i j, i ≤ j → c i ≤ c j) (hz : c k ≤ z) : ∀ i j, i ≤ j → cutAt c k z i ≤ cutAt c k z j := by
  intro i j hij
  by_cases h1 : i ≤ k
  · by_cases h2 : j ≤ k
    · rw [cutAt_le h1, cutAt_le h2]; exact h i j hij
    · rw [cutAt_le h1, cutAt_gt (by omega)]; exact Nat.le_trans (h i k h1) hz
  · rw [cutAt_gt (by omega), cutAt_gt (by omega)]; exact Nat.le_refl _

theorem StepIn.kept {w w' : World} {B j lo hi : Nat} {s : StepD} (h : StepIn w B j lo hi s) (k : Kept w w') (hB : B < w.heap.size) : StepIn w' B j lo hi s :=
  h.same (k.same _ _) (rangeAt_of_block (k.block B hB) _)
theorem StepIn.setCells {w : World} {B j lo hi o : Nat} {s : StepD} {vs : List Value} (h : StepIn w B j lo hi s) (hB : B < lo) (ho : j * 8 + 8 ≤ o ∨ o + vs.length ≤ j * 8) : StepIn (w.setCells B o vs) B j lo hi s := by
  obtain ⟨aa, ca, ac, cc, mid, h1, h2, h3, h4, h5, h6⟩ := h
  exact ⟨aa, ca, ac, cc, mid, h1, h2, World.rangeAt_setCells_apart h3 _ _ _ (by right; simpa [StepD.cells] using ho), h4.same (Same.setCells (.inl hB) _ _ _), h5.same (Same.setCells (.inl (by omega)) _ _ _), h6⟩
theorem NodeIn.kept {w w' : World} {B j lo hi : Nat} {d : NodeD} (h : NodeIn w B j lo hi d) (k : Kept w w') (hB : B < w.heap.size) : NodeIn w' B j lo hi d := by
  obtain ⟨a, cap, h1, h2⟩ := h
  exact ⟨a, cap, k.range hB h1, h2.same (k.same _ _)⟩
theorem NodeIn.setCells {w : World} {B j lo hi o : Nat} {d : NodeD} {vs : List Value} (h : NodeIn w B j lo hi d) (hB : B < lo) (ho : j * 3 + 3 ≤ o ∨ o + vs.length ≤ j * 3) : NodeIn (w.setCells B o vs) B j lo hi d := by
  obtain ⟨a, cap, h1, h2⟩ := h
  exact ⟨a, cap, World.rangeAt_setCells_apart h1 _ _ _ (by right; simpa [NodeD.cells] using ho), h2.same (Same.setCells (.inl hB) _ _ _)⟩

end Go.Proofs.YtinkfgkjdaaeaaaGreatDoor
