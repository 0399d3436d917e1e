import Derived.Test.YtinkfgkjdaaeaaaGreatDoorKOTo2
import Derived.Test.YtinkfgkjdaaeaaaGreatDoorKWWeb
import Derived.Test.YtinkfgkjdaaeaaaGreatDoorKWSpec5
import Derived.Test.YtinkfgkjdaaeaaaGreatDoorKWImpl5

namespace Go.Proofs.YtinkfgkjdaaeaaaGreatDoor
open Go.RowKit

set_option maxRecDepth 100000 in
set_option maxHeartbeats 3200000 in
theorem markNodeS_any (w : World) (lo hi : Nat) (a : Option Addr) (cap : Nat) (l : List NodeD) (k : Nat) (h0 : 0 < k) (h1 : k + (l.map cntNode).sum ≤ 4611686018427387904) (hS : NodesIn w lo hi a l) :
    Calls Tryz.prog 18 #[.slice a l.length cap, .int .i64 k] w fun e w' => e = .returned (.int .i64 ((k + (l.map cntNode).sum : Nat) : Int)) ∧ NodesIn w' lo hi a (markNodes l k) ∧ KeptBut lo hi w w' := by
  have hlen := len_le_cntN l
  rcases hS with rfl | ⟨B, c, rfl, hlo, hBc, hhi, hr, hmono, hf⟩
  · go_enter Tryz.func18, Tryz.ntmps18
    go_wp2
    go_loopw [1, 5] (fun x i wr => x = .int .i64 k ∧ i = .int .i64 0 ∧ wr = w) (fun _ _ _ => 0)
    case atStart => exact ⟨rfl, rfl, rfl⟩
    case round =>
      obtain ⟨rfl, rfl, rfl⟩ := hrel
      go_wp2
      go_ret
      exact ⟨by simp, .inl rfl, KeptBut.refl _ _ _⟩
  · have HMono := hide hmono
    clear hmono
    go_enter Tryz.func18, Tryz.ntmps18
    go_wp2
    go_loopw [1, 5] (fun x i wr => ∃ j m : Nat, j ≤ l.length ∧ i = .int .i64 j ∧ x = .int .i64 m ∧ m = k + sumTo cntNode l j ∧ KeptBut lo hi w wr ∧ Row wr B (l.length * 3) ∧ ∀ t, t < l.length → NodeIn wr B t (c t) (c (t + 1)) (nodeMix l k j t)) (fun _ i _ => l.length - (intOf i).toNat)
    case atStart => exact ⟨0, k, Nat.zero_le _, rfl, rfl, by rw [sumTo_zero]; omega, KeptBut.refl _ _ _, hr, fun t ht => by simpa [nodeMix] using hf t ht⟩
    case round =>
      obtain ⟨j, m, hj, rfl, rfl, hm, hw, hr', hf'⟩ := hrel
      clear hr hf
      have HMn := hide hm
      have HF := hide hf'
      by_cases hlt : j < l.length
      · have hst := hf' j hlt
        have hmix : nodeMix l k j j = l.getD j NodeD.zero := by simp [nodeMix]
        rw [hmix] at hst
        have hsum := sumTo_succ cntNode l NodeD.zero j hlt
        have hsl := sumTo_le cntNode l (j + 1)
        obtain ⟨aa, ca, g3, g4⟩ := hst
        obtain ⟨s, hsd⟩ : ∃ s, s = l.getD j NodeD.zero := ⟨_, rfl⟩
        rw [← hsd] at g3 g4 hsum
        have hcnt : m + cntNode s ≤ 4611686018427387904 := by omega
        have hm0 : 0 < m := by omega
        have hcs : cntNode s = (s.steps.map cntStep).sum + 2 := rfl
        have HSd := hide hsd
        have HSum := hide hsum
        clear hf' hmix hsd hm hsum hsl
        have hBj : B < c j := Nat.lt_of_lt_of_le hBc (HMono.out 0 j (Nat.zero_le _))
        have hBs := hr'.lt
        have c2 := g3 2 _ rfl
        have HG4 := hide g4
        obtain ⟨txt, htx, hmt⟩ := markM m hm0 (by omega)
        have HTX := hide htx
        have HMT := hide hmt
        clear htx hmt g4 g3
        go_wp2_with fail
        refine (HMT.out _).mono ?_
        rintro e w1 ⟨rfl, k1⟩
        have hr1 := hr'.kept k1
        have d2 := (k1.cell hBs).trans c2
        have hB1 := hr1.lt
        obtain ⟨⟨_, f0c⟩, f0⟩ := hr1.at (i := j * 3) (by omega)
        obtain ⟨⟨_, f1c⟩, f1⟩ := hr1.at (i := j * 3 + 1) (by omega)
        have HG5 := hide (HG4.out.same (k1.same _ _))
        have t1 := (Turn.refl B (j * 3) (j * 3 + 3) (c j) (c (j + 1)) wr).kept k1 hBs
        have hms : ∀ W, StepsIn W (c j) (c (j + 1)) aa s.steps → Calls Tryz.prog 40 #[.slice aa s.steps.length ca, .int .i64 ((m : Int) + 1 + 1)] W fun e w' => e = .returned (.int .i64 ((m + 2 + (s.steps.map cntStep).sum : Nat) : Int)) ∧ StepsIn w' (c j) (c (j + 1)) aa (markSteps s.steps (m + 2)) ∧ KeptBut (c j) (c (j + 1)) W w' := by
          intro W hW
          have := markStepS_any W (c j) (c (j + 1)) aa ca s.steps (m + 2) (by omega) (by omega) hW
          rw [show ((m + 2 : Nat) : Int) = (m : Int) + 1 + 1 by omega] at this
          exact this
        have HMS := hide hms
        have HR1 := hide hr1
        have HT1 := hide t1
        clear hms c2 hr' HG4 k1 HMT hr1 t1
        go_wp2_with fail
        have hB' : B < c j := hBj
        refine (HMS.out _ ((HG5.out.same (Same.setCell _ (.inl hB') _)).same (Same.setCell _ (.inl hB') _))).mono ?_
        rintro e w2 ⟨rfl, hC2, kb2⟩
        obtain ⟨m2, hm2⟩ : ∃ m2, m2 = m + 2 + (s.steps.map cntStep).sum := ⟨_, rfl⟩
        rw [← hm2]
        have hb2 : m2 ≤ 4611686018427387904 := by omega
        have HM2 := hide hm2
        clear hm2 hcnt hcs
        have hrA : Row (w1.setCell ⟨B, j * 3, none⟩ (.string txt)) B (l.length * 3) := HR1.out.set _ rfl _
        have hrB : Row ((w1.setCell ⟨B, j * 3, none⟩ (.string txt)).setCell ⟨B, j * 3 + 1, none⟩ (.int .i64 ((m : Int) + 1))) B (l.length * 3) := hrA.set _ rfl _
        have s2 := kb2.same (l2 := B) (h2 := B + 1) (by omega)
        have hr2 : Row w2 B (l.length * 3) := s2.row (Nat.le_refl _) (by omega) hrB
        have e0 : w2.cell? ⟨B, j * 3, none⟩ = some (.string txt) := by rw [s2.cell (Nat.le_refl _) (by omega) hrB.lt, set_miss (by omega)]; exact set_hit HR1.out (by omega) _
        have e1 : w2.cell? ⟨B, j * 3 + 1, none⟩ = some (.int .i64 ((m : Int) + 1)) := by rw [s2.cell (Nat.le_refl _) (by omega) hrB.lt]; exact set_hit hrA (by omega) _
        have e2 : w2.cell? ⟨B, j * 3 + 2, none⟩ = some (.slice aa s.steps.length ca) := by rw [s2.cell (Nat.le_refl _) (by omega) hrB.lt, set_miss (by omega), set_miss (by omega)]; exact d2
        have tF := ((HT1.out.setCell (o := j * 3) (by omega) (by omega) (.string txt)).setCell (o := j * 3 + 1) (by omega) (by omega) (.int .i64 ((m : Int) + 1))).but kb2 (Nat.le_refl _) (Nat.le_refl _) (.inl hBj) hrB.lt
        have HE := hide (And.intro e0 (And.intro e1 e2))
        have HTF := hide tF
        have HC2 := hide hC2
        have HR2 := hide hr2
        clear e0 e1 e2 tF hC2 hr2 kb2 s2 hrA hrB f0 f0c f1 f1c d2 HR1 HT1 HG5 HMS
        go_wp2
        go_roundw
        case rel =>
          obtain ⟨e0, e1, e2⟩ := HE.out
          have tF := HTF.out
          refine ⟨j + 1, m2, by omega, by go_num, by go_num, by have q1 := HMn.out; have q2 := HSum.out; have q4 := HM2.out; have q5 : cntNode s = (s.steps.map cntStep).sum + 2 := rfl; omega, hw.trans (tF.keptBut (by omega) (by have := HMono.out (j + 1) l.length (by omega); omega) hlo (by have := HMono.out 0 l.length (by omega); omega)), HR2.out, fun t ht => ?_⟩
          by_cases e : t = j
          · subst e
            have em : nodeMix l k (t + 1) t = markNode s m := by
              unfold nodeMix
              rw [if_pos (by omega), ← HSd.out, ← HMn.out]
            rw [em]
            refine ⟨aa, ca, ?_, HC2.out⟩
            rw [markNode_cells, ← HTX.out]
            exact range3 e0 (by rw [e1]; simp) e2
          · have em : nodeMix l k (j + 1) t = nodeMix l k j t := by
              unfold nodeMix
              by_cases h : t < j
              · rw [if_pos h, if_pos (by omega)]
              · rw [if_neg h, if_neg (by omega)]
            rw [em]
            have hBt : B < c t := Nat.lt_of_lt_of_le hBc (HMono.out 0 t (Nat.zero_le _))
            obtain ⟨aa', ca', z3, z4⟩ := HF.out t ht
            have hd : c (t + 1) ≤ c j ∨ c (j + 1) ≤ c t := by
              by_cases h : t < j
              · exact .inl (HMono.out _ _ (by omega))
              · exact .inr (HMono.out _ _ (by omega))
            exact ⟨aa', ca', tF.range (by simp [NodeD.cells]; omega) z3, z4.same (tF.same (by omega) (.inl hBt))⟩
        case measure => simp [intOf]; omega
      · have : j = l.length := by omega
        subst this
        go_wp2
        go_ret
        refine ⟨ret_int (by have := HMn.out; rw [sumTo_all] at this; omega), .inr ⟨B, c, rfl, hlo, hBc, by rw [markNodes_length]; exact hhi, by rw [markNodes_length]; exact hr', HMono.out, fun i hi' => ?_⟩, hw⟩
        rw [markNodes_length] at hi'
        have := HF.out i hi'
        rw [markNodes_getD _ _ _ hi']
        unfold nodeMix at this
        rw [if_pos hi'] at this
        exact this

set_option maxHeartbeats 800000 in
theorem markWeb_any (w : World) (lo hi : Nat) (a : Option Addr) (cap : Nat) (l : List NodeD) (k : Nat) (h0 : 0 < k) (h1 : k + (l.map cntNode).sum ≤ 4611686018427387904) (hS : NodesIn w lo hi a l) :
    Calls Tryz.prog 7 #[.agg #[.slice a l.length cap], .int .i64 k] w fun e w' => e = .returned (.int .i64 ((k + (l.map cntNode).sum : Nat) : Int)) ∧ NodesIn w' lo hi a (markNodes l k) ∧ KeptBut lo hi w w' := by
  have k0 : Kept w (w.alloc (.cells #[.slice a l.length cap] 24)) := (Kept.refl _).alloc _
  go_enter Tryz.func7, Tryz.ntmps7
  go_wp2_with fail
  refine (markNodeS_any _ lo hi a cap l k h0 h1 (hS.same (k0.same _ _))).mono ?_
  rintro e w1 ⟨rfl, hN, kb⟩
  obtain ⟨m2, hm2⟩ : ∃ m2, m2 = k + (l.map cntNode).sum := ⟨_, rfl⟩
  rw [← hm2]
  have HM2 := hide hm2
  clear hm2
  go_wp2
  go_ret
  exact ⟨ret_int (by rw [HM2.out]), hN, (KeptBut.of_kept k0).trans kb⟩

end Go.Proofs.YtinkfgkjdaaeaaaGreatDoor

namespace Go.Proofs.YtinkfgkjdaaeaaaGreatDoor
open Go.RowKit

set_option maxRecDepth 100000 in
set_option maxHeartbeats 3200000 in
theorem heldNodeS_yes (w : World) (a : Option Addr) (cap : Nat) (l : List NodeD) (k : Nat) (h0 : 0 < k) (h1 : k + (l.map cntNode).sum ≤ 4611686018427387904) (hS : Nodes w a (markNodes l k)) :
    Calls Tryz.prog 19 #[.slice a l.length cap, .int .i64 k] w fun e w' => e = .returned (.int .i64 ((k + (l.map cntNode).sum : Nat) : Int)) ∧ Kept w w' := by
  have hlen := len_le_cntN l
  go_enter Tryz.func19, Tryz.ntmps19
  go_wp2
  go_loopw [1, 5] (fun x i wr => ∃ j m : Nat, j ≤ l.length ∧ i = .int .i64 j ∧ x = .int .i64 m ∧ m = k + sumTo cntNode l j ∧ Kept w wr) (fun _ i _ => l.length - (intOf i).toNat)
  case atStart => exact ⟨0, k, Nat.zero_le _, rfl, rfl, by rw [sumTo_zero]; omega, Kept.refl _⟩
  case round =>
    obtain ⟨j, m, hj, rfl, rfl, hm, hw⟩ := hrel
    have HMn := hide hm
    by_cases hlt : j < l.length
    · obtain ⟨b, o, cs, rfl, hb, hc, aa, ca, rfl, hA⟩ := hS.kept hw j (by rw [markNodes_length]; exact hlt)
      rw [markNodes_getD _ _ _ hlt, ← hm] at hc hA
      have hsum := sumTo_succ cntNode l NodeD.zero j hlt
      have hsl := sumTo_le cntNode l (j + 1)
      generalize l.getD j NodeD.zero = s at *
      have hcnt : m + cntNode s ≤ 4611686018427387904 := by omega
      have hm0 : 0 < m := by omega
      have hcs : cntNode s = (s.steps.map cntStep).sum + 2 := rfl
      rw [markNode_cells] at hc
      have hA' : Steps wr aa (markSteps s.steps (m + 2)) := hA
      obtain ⟨m2, hm2⟩ : ∃ m2, m2 = m + 2 + (s.steps.map cntStep).sum := ⟨_, rfl⟩
      have hb2 : m2 ≤ 4611686018427387904 := by omega
      have hb1 : m + 2 ≤ 4611686018427387904 := by omega
      have HTot : Hid (m2 = k + sumTo cntNode l (j + 1)) := by show _ = _; omega
      obtain ⟨txt, htx, hmt⟩ := markM m hm0 (by omega)
      rw [← htx] at hc
      have c0 := hc 0 _ rfl
      have c1 := hc 1 (.int .i64 ((m : Int) + 1)) (by simp)
      have c2 := hc 2 _ rfl
      rw [Nat.add_zero] at c0
      have hms : ∀ W, Steps W aa (markSteps s.steps (m + 2)) → Calls Tryz.prog 41 #[.slice aa s.steps.length ca, .int .i64 ((m : Int) + 1 + 1)] W fun e w' => e = .returned (.int .i64 (m2 : Int)) ∧ Kept W w' := by
        intro W hW
        have := heldStepS_yes W aa ca s.steps (m + 2) (by omega) (by omega) hW
        rw [show ((m + 2 : Nat) : Int) = (m : Int) + 1 + 1 by omega, ← hm2] at this
        exact this
      have HMS := hide hms
      have HMT := hide hmt
      have HA' := hide hA'
      have hbr : b < wr.heap.size := hb
      clear hm2 hm hcs hcnt hmt htx hms hsum hsl hA hA' hc
      go_wp2
      go_region_with (go_at_call 39; refine (HMT.out _).mono ?_; rintro e w1 ⟨rfl, k1⟩; have kk : Kept wr w1 := Kept.trans (by repeat (first | apply Kept.drew | exact Kept.refl _)) k1; have d0 := (kk.cell (o := o + j * 3) hbr).trans c0; have d1 := (kk.cell (o := o + j * 3 + 1) hbr).trans c1; have d2 := (kk.cell (o := o + j * 3 + 2) hbr).trans c2)
      all_goals
        go_wp2_with fail
        refine (HMS.out _ (HA'.out.kept (by repeat (first | exact kk | apply Kept.drew)))).mono ?_
        rintro e w2 ⟨rfl, k2⟩
        have kf : Kept wr w2 := Kept.trans (by repeat (first | exact kk | apply Kept.drew)) k2
        clear c0 c1 c2 d0 d1 d2 HMS HMT HA'
        go_wp2
        go_roundw
        case rel => exact ⟨j + 1, m2, by omega, by go_num, by go_num, HTot.out, hw.trans kf⟩
        case measure => simp [intOf]; omega
    · have : j = l.length := by omega
      subst this
      go_wp2
      go_ret
      exact ⟨ret_int (by have := HMn.out; rw [sumTo_all] at this; omega), hw⟩

set_option maxHeartbeats 800000 in
theorem heldWeb_yes (w : World) (a : Option Addr) (cap : Nat) (l : List NodeD) (k : Nat) (h0 : 0 < k) (h1 : k + (l.map cntNode).sum ≤ 4611686018427387904) (hS : Nodes w a (markNodes l k)) :
    Calls Tryz.prog 8 #[.agg #[.slice a l.length cap], .int .i64 k] w fun e w' => e = .returned (.int .i64 ((k + (l.map cntNode).sum : Nat) : Int)) ∧ Kept w w' := by
  have k0 : Kept w (w.alloc (.cells #[.slice a l.length cap] 24)) := (Kept.refl _).alloc _
  go_enter Tryz.func8, Tryz.ntmps8
  go_wp2_with fail
  refine (heldNodeS_yes _ a cap l k h0 h1 (hS.kept k0)).mono ?_
  rintro e w1 ⟨rfl, k1⟩
  obtain ⟨m2, hm2⟩ : ∃ m2, m2 = k + (l.map cntNode).sum := ⟨_, rfl⟩
  rw [← hm2]
  have HM2 := hide hm2
  clear hm2
  go_wp2
  go_ret
  exact ⟨ret_int (by rw [HM2.out]), k0.trans k1⟩

end Go.Proofs.YtinkfgkjdaaeaaaGreatDoor

namespace Go.Proofs.YtinkfgkjdaaeaaaGreatDoor
open Go.RowKit

end Go.Proofs.YtinkfgkjdaaeaaaGreatDoor
