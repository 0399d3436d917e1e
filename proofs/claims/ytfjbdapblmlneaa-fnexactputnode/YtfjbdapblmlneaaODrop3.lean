import Derived.Test.YtfjbdapblmlneaaODataN
import Derived.Test.YtfjbdapblmlneaaOMark3
import Derived.Test.YtfjbdapblmlneaaDataN
import Derived.Test.YtfjbdapblmlneaaODrop2

/-
  WALKS over marks: markNodeS, markWeb.
-/
namespace Go.Proofs.Ytfjbdapblmlneaa
open Go.RowKit

set_option maxRecDepth 100000 in
set_option maxHeartbeats 3200000 in
theorem markNodeS_any (w : World) (lo hi : Nat) (a : Option Addr) (cap : Nat) (l : List NodeD) (k : Nat) (h0 : 0 < k) (h1 : k + (l.map cntNode).sum ≤ 4611686018427387904) (hS : NodesIn w lo hi a l) :
    Calls Try.prog 58 #[.slice a l.length cap, .int .i64 k] w fun e w' => e = .returned (.int .i64 ((k + (l.map cntNode).sum : Nat) : Int)) ∧ NodesIn w' lo hi a (markNodes l k) ∧ KeptBut lo hi w w' := by
  have hlen := len_le_cntN l
  rcases hS with rfl | ⟨B, c, rfl, hlo, hBc, hhi, hr, hmono, hf⟩
  · go_enter Try.func58, Try.ntmps58
    go_wp2
    go_loopw [1, 5] (fun x i wr => x = .int .i64 k ∧ i = .int .i64 0 ∧ wr = w) (fun _ _ _ => 0)
    case atStart => exact ⟨rfl, rfl, rfl⟩
    case round =>
      obtain ⟨rfl, rfl, rfl⟩ := hrel
      go_wp2
      go_ret
      exact ⟨by simp, .inl rfl, KeptBut.refl _ _ _⟩
  · have HMono := hide hmono
    clear hmono
    go_enter Try.func58, Try.ntmps58
    go_wp2
    go_loopw [1, 5] (fun x i wr => ∃ j m : Nat, j ≤ l.length ∧ i = .int .i64 j ∧ x = .int .i64 m ∧ m = k + sumTo cntNode l j ∧ KeptBut lo hi w wr ∧ Row wr B (l.length * 3) ∧ ∀ t, t < l.length → NodeIn wr B t (c t) (c (t + 1)) (nodeMix l k j t)) (fun _ i _ => l.length - (intOf i).toNat)
    case atStart => exact ⟨0, k, Nat.zero_le _, rfl, rfl, by rw [sumTo_zero]; omega, KeptBut.refl _ _ _, hr, fun t ht => by simpa [nodeMix] using hf t ht⟩
    case round =>
      obtain ⟨j, m, hj, rfl, rfl, hm, hw, hr', hf'⟩ := hrel
      clear hr hf
      have HMn := hide hm
      have HF := hide hf'
      by_cases hlt : j < l.length
      · have hst := hf' j hlt
        have hmix : nodeMix l k j j = l.getD j NodeD.zero := by simp [nodeMix]
        rw [hmix] at hst
        have hsum := sumTo_succ cntNode l NodeD.zero j hlt
        have hsl := sumTo_le cntNode l (j + 1)
        obtain ⟨aa, ca, g3, g4⟩ := hst
        obtain ⟨s, hsd⟩ : ∃ s, s = l.getD j NodeD.zero := ⟨_, rfl⟩
        rw [← hsd] at g3 g4 hsum
        have hcnt : m + cntNode s ≤ 4611686018427387904 := by omega
        have hm0 : 0 < m := by omega
        have hcs : cntNode s = (s.steps.map cntStep).sum + 2 := rfl
        have HSd := hide hsd
        have HSum := hide hsum
        clear hf' hmix hsd hm hsum hsl
        have hBj : B < c j := Nat.lt_of_lt_of_le hBc (HMono.out 0 j (Nat.zero_le _))
        have hBs := hr'.lt
        have c2 := g3 2 _ rfl
        have HG4 := hide g4
        obtain ⟨txt, htx, hmt⟩ := markM m hm0 (by omega)
        have HTX := hide htx
        have HMT := hide hmt
        clear htx hmt g4 g3
        go_wp2_with fail
        refine (HMT.out _).mono ?_
        rintro e w1 ⟨rfl, k1⟩
        have hr1 := hr'.kept k1
        have d2 := (k1.cell hBs).trans c2
        have hB1 := hr1.lt
        obtain ⟨⟨_, f0c⟩, f0⟩ := hr1.at (i := j * 3) (by omega)
        obtain ⟨⟨_, f1c⟩, f1⟩ := hr1.at (i := j * 3 + 1) (by omega)
        have HG5 := hide (HG4.out.same (k1.same _ _))
        have t1 := (Turn.refl B (j * 3) (j * 3 + 3) (c j) (c (j + 1)) wr).kept k1 hBs
        have hms : ∀ W, StepsIn W (c j) (c (j + 1)) aa s.steps → Calls Try.prog 76 #[.slice aa s.steps.length ca, .int .i64 ((m : Int) + 1 + 1)] W fun e w' => e = .returned (.int .i64 ((m + 2 + (s.steps.map cntStep).sum : Nat) : Int)) ∧ StepsIn w' (c j) (c (j + 1)) aa (markSteps s.steps (m + 2)) ∧ KeptBut (c j) (c (j + 1)) W w' := by
          intro W hW
          have := markStepS_any W (c j) (c (j + 1)) aa ca s.steps (m + 2) (by omega) (by omega) hW
          rw [show ((m + 2 : Nat) : Int) = (m : Int) + 1 + 1 by omega] at this
          exact this
        have HMS := hide hms
        have HR1 := hide hr1
        have HT1 := hide t1
        clear hms c2 hr' HG4 k1 HMT hr1 t1
        go_wp2_with fail
        have hB' : B < c j := hBj
        refine (HMS.out _ ((HG5.out.same (Same.setCell _ (.inl hB') _)).same (Same.setCell _ (.inl hB') _))).mono ?_
        rintro e w2 ⟨rfl, hC2, kb2⟩
        obtain ⟨m2, hm2⟩ : ∃ m2, m2 = m + 2 + (s.steps.map cntStep).sum := ⟨_, rfl⟩
        rw [← hm2]
        have hb2 : m2 ≤ 4611686018427387904 := by omega
        have HM2 := hide hm2
        clear hm2 hcnt hcs
        have hrA : Row (w1.setCell ⟨B, j * 3, none⟩ (.string txt)) B (l.length * 3) := HR1.out.set _ rfl _
        have hrB : Row ((w1.setCell ⟨B, j * 3, none⟩ (.string txt)).setCell ⟨B, j * 3 + 1, none⟩ (.int .i64 ((m : Int) + 1))) B (l.length * 3) := hrA.set _ rfl _
        have s2 := kb2.same (l2 := B) (h2 := B + 1) (by omega)
        have hr2 : Row w2 B (l.length * 3) := s2.row (Nat.le_refl _) (by omega) hrB
        have e0 : w2.cell? ⟨B, j * 3, none⟩ = some (.string txt) := by rw [s2.cell (Nat.le_refl _) (by omega) hrB.lt, set_miss (by omega)]; exact set_hit HR1.out (by omega) _
        have e1 : w2.cell? ⟨B, j * 3 + 1, none⟩ = some (.int .i64 ((m : Int) + 1)) := by rw [s2.cell (Nat.le_refl _) (by omega) hrB.lt]; exact set_hit hrA (by omega) _
        have e2 : w2.cell? ⟨B, j * 3 + 2, none⟩ = some (.slice aa s.steps.length ca) := by rw [s2.cell (Nat.le_refl _) (by omega) hrB.lt, set_miss (by omega), set_miss (by omega)]; exact d2
        have tF := ((HT1.out.setCell (o := j * 3) (by omega) (by omega) (.string txt)).setCell (o := j * 3 + 1) (by omega) (by omega) (.int .i64 ((m : Int) + 1))).but kb2 (Nat.le_refl _) (Nat.le_refl _) (.inl hBj) hrB.lt
        have HE := hide (And.intro e0 (And.intro e1 e2))
        have HTF := hide tF
        have HC2 := hide hC2
        have HR2 := hide hr2
        clear e0 e1 e2 tF hC2 hr2 kb2 s2 hrA hrB f0 f0c f1 f1c d2 HR1 HT1 HG5 HMS
        go_wp2
        go_roundw
        case rel =>
          obtain ⟨e0, e1, e2⟩ := HE.out
          have tF := HTF.out
          refine ⟨j + 1, m2, by omega, by go_num, by go_num, by have q1 := HMn.out; have q2 := HSum.out; have q4 := HM2.out; have q5 : cntNode s = (s.steps.map cntStep).sum + 2 := rfl; omega, hw.trans (tF.keptBut (by omega) (by have := HMono.out (j + 1) l.length (by omega); omega) hlo (by have := HMono.out 0 l.length (by omega); omega)), HR2.out, fun t ht => ?_⟩
          by_cases e : t = j
          · subst e
            have em : nodeMix l k (t + 1) t = markNode s m := by
              unfold nodeMix
              rw [if_pos (by omega), ← HSd.out, ← HMn.out]
            rw [em]
            refine ⟨aa, ca, ?_, HC2.out⟩
            rw [markNode_cells, ← HTX.out]
            exact range3 e0 (by rw [e1]; simp) e2
          · have em : nodeMix l k (j + 1) t = nodeMix l k j t := by
              unfold nodeMix
              by_cases h : t < j
              · rw [if_pos h, if_pos (by omega)]
              · rw [if_neg h, if_neg (by omega)]
            rw [em]
            have hBt : B < c t := Nat.lt_of_lt_of_le hBc (HMono.out 0 t (Nat.zero_le _))
            obtain ⟨aa', ca', z3, z4⟩ := HF.out t ht
            have hd : c (t + 1) ≤ c j ∨ c (j + 1) ≤ c t := by
              by_cases h : t < j
              · exact .inl (HMono.out _ _ (by omega))
              · exact .inr (HMono.out _ _ (by omega))
            exact ⟨aa', ca', tF.range (by simp [NodeD.cells]; omega) z3, z4.same (tF.same (by omega) (.inl hBt))⟩
        case measure => simp [intOf]; omega
      · have : j = l.length := by omega
        subst this
        go_wp2
        go_ret
        refine ⟨ret_int (by have := HMn.out; rw [sumTo_all] at this; omega), .inr ⟨B, c, rfl, hlo, hBc, by rw [markNodes_length]; exact hhi, by rw [markNodes_length]; exact hr', HMono.out, fun i hi' => ?_⟩, hw⟩
        rw [markNodes_length] at hi'
        have := HF.out i hi'
        rw [markNodes_getD _ _ _ hi']
        unfold nodeMix at this
        rw [if_pos hi'] at this
        exact this

set_option maxHeartbeats 800000 in
theorem markWeb_any (w : World) (lo hi : Nat) (a : Option Addr) (cap : Nat) (l : List NodeD) (k : Nat) (h0 : 0 < k) (h1 : k + (l.map cntNode).sum ≤ 4611686018427387904) (hS : NodesIn w lo hi a l) :
    Calls Try.prog 29 #[.agg #[.slice a l.length cap], .int .i64 k] w fun e w' => e = .returned (.int .i64 ((k + (l.map cntNode).sum : Nat) : Int)) ∧ NodesIn w' lo hi a (markNodes l k) ∧ KeptBut lo hi w w' := by
  have k0 : Kept w (w.alloc (.cells #[.slice a l.length cap] 50)) := (Kept.refl _).alloc _
  go_enter Try.func29, Try.ntmps29
  go_wp2_with fail
  refine (markNodeS_any _ lo hi a cap l k h0 h1 (hS.same (k0.same _ _))).mono ?_
  rintro e w1 ⟨rfl, hN, kb⟩
  obtain ⟨m2, hm2⟩ : ∃ m2, m2 = k + (l.map cntNode).sum := ⟨_, rfl⟩
  rw [← hm2]
  have HM2 := hide hm2
  clear hm2
  go_wp2
  go_ret
  exact ⟨ret_int (by rw [HM2.out]), hN, (KeptBut.of_kept k0).trans kb⟩

end Go.Proofs.Ytfjbdapblmlneaa

/-
  WALKS over marks: heldNodeS, heldWeb.
-/
namespace Go.Proofs.Ytfjbdapblmlneaa
open Go.RowKit

set_option maxRecDepth 100000 in
set_option maxHeartbeats 3200000 in
theorem heldNodeS_yes (w : World) (a : Option Addr) (cap : Nat) (l : List NodeD) (k : Nat) (h0 : 0 < k) (h1 : k + (l.map cntNode).sum ≤ 4611686018427387904) (hS : Nodes w a (markNodes l k)) :
    Calls Try.prog 60 #[.slice a l.length cap, .int .i64 k] w fun e w' => e = .returned (.int .i64 ((k + (l.map cntNode).sum : Nat) : Int)) ∧ Kept w w' := by
  have hlen := len_le_cntN l
  go_enter Try.func60, Try.ntmps60
  go_wp2
  go_loopw [1, 5] (fun x i wr => ∃ j m : Nat, j ≤ l.length ∧ i = .int .i64 j ∧ x = .int .i64 m ∧ m = k + sumTo cntNode l j ∧ Kept w wr) (fun _ i _ => l.length - (intOf i).toNat)
  case atStart => exact ⟨0, k, Nat.zero_le _, rfl, rfl, by rw [sumTo_zero]; omega, Kept.refl _⟩
  case round =>
    obtain ⟨j, m, hj, rfl, rfl, hm, hw⟩ := hrel
    have HMn := hide hm
    by_cases hlt : j < l.length
    · obtain ⟨b, o, cs, rfl, hb, hc, aa, ca, rfl, hA⟩ := hS.kept hw j (by rw [markNodes_length]; exact hlt)
      rw [markNodes_getD _ _ _ hlt, ← hm] at hc hA
      have hsum := sumTo_succ cntNode l NodeD.zero j hlt
      have hsl := sumTo_le cntNode l (j + 1)
      generalize l.getD j NodeD.zero = s at *
      have hcnt : m + cntNode s ≤ 4611686018427387904 := by omega
      have hm0 : 0 < m := by omega
      have hcs : cntNode s = (s.steps.map cntStep).sum + 2 := rfl
      rw [markNode_cells] at hc
      have hA' : Steps wr aa (markSteps s.steps (m + 2)) := hA
      obtain ⟨m2, hm2⟩ : ∃ m2, m2 = m + 2 + (s.steps.map cntStep).sum := ⟨_, rfl⟩
      have hb2 : m2 ≤ 4611686018427387904 := by omega
      have hb1 : m + 2 ≤ 4611686018427387904 := by omega
      have HTot : Hid (m2 = k + sumTo cntNode l (j + 1)) := by show _ = _; omega
      obtain ⟨txt, htx, hmt⟩ := markM m hm0 (by omega)
      rw [← htx] at hc
      have c0 := hc 0 _ rfl
      have c1 := hc 1 (.int .i64 ((m : Int) + 1)) (by simp)
      have c2 := hc 2 _ rfl
      rw [Nat.add_zero] at c0
      have hms : ∀ W, Steps W aa (markSteps s.steps (m + 2)) → Calls Try.prog 77 #[.slice aa s.steps.length ca, .int .i64 ((m : Int) + 1 + 1)] W fun e w' => e = .returned (.int .i64 (m2 : Int)) ∧ Kept W w' := by
        intro W hW
        have := heldStepS_yes W aa ca s.steps (m + 2) (by omega) (by omega) hW
        rw [show ((m + 2 : Nat) : Int) = (m : Int) + 1 + 1 by omega, ← hm2] at this
        exact this
      have HMS := hide hms
      have HMT := hide hmt
      have HA' := hide hA'
      have hbr : b < wr.heap.size := hb
      clear hm2 hm hcs hcnt hmt htx hms hsum hsl hA hA' hc
      go_wp2
      go_region_with (go_at_call 75; refine (HMT.out _).mono ?_; rintro e w1 ⟨rfl, k1⟩; have kk : Kept wr w1 := Kept.trans (by repeat (first | apply Kept.drew | exact Kept.refl _)) k1; have d0 := (kk.cell (o := o + j * 3) hbr).trans c0; have d1 := (kk.cell (o := o + j * 3 + 1) hbr).trans c1; have d2 := (kk.cell (o := o + j * 3 + 2) hbr).trans c2)
      all_goals
        go_wp2_with fail
        refine (HMS.out _ (HA'.out.kept (by repeat (first | exact kk | apply Kept.drew)))).mono ?_
        rintro e w2 ⟨rfl, k2⟩
        have kf : Kept wr w2 := Kept.trans (by repeat (first | exact kk | apply Kept.drew)) k2
        clear c0 c1 c2 d0 d1 d2 HMS HMT HA'
        go_wp2
        go_roundw
        case rel => exact ⟨j + 1, m2, by omega, by go_num, by go_num, HTot.out, hw.trans kf⟩
        case measure => simp [intOf]; omega
    · have : j = l.length := by omega
      subst this
      go_wp2
      go_ret
      exact ⟨ret_int (by have := HMn.out; rw [sumTo_all] at this; omega), hw⟩

set_option maxHeartbeats 800000 in
theorem heldWeb_yes (w : World) (a : Option Addr) (cap : Nat) (l : List NodeD) (k : Nat) (h0 : 0 < k) (h1 : k + (l.map cntNode).sum ≤ 4611686018427387904) (hS : Nodes w a (markNodes l k)) :
    Calls Try.prog 31 #[.agg #[.slice a l.length cap], .int .i64 k] w fun e w' => e = .returned (.int .i64 ((k + (l.map cntNode).sum : Nat) : Int)) ∧ Kept w w' := by
  have k0 : Kept w (w.alloc (.cells #[.slice a l.length cap] 50)) := (Kept.refl _).alloc _
  go_enter Try.func31, Try.ntmps31
  go_wp2_with fail
  refine (heldNodeS_yes _ a cap l k h0 h1 (hS.kept k0)).mono ?_
  rintro e w1 ⟨rfl, k1⟩
  obtain ⟨m2, hm2⟩ : ∃ m2, m2 = k + (l.map cntNode).sum := ⟨_, rfl⟩
  rw [← hm2]
  have HM2 := hide hm2
  clear hm2
  go_wp2
  go_ret
  exact ⟨ret_int (by rw [HM2.out]), k0.trans k1⟩

end Go.Proofs.Ytfjbdapblmlneaa

/-
  WALKS: laws.markAction, laws.markNode.
-/
namespace Go.Proofs.Ytfjbdapblmlneaa
open Go.RowKit

set_option maxHeartbeats 800000 in
theorem markAction_any (w : World) (lo hi : Nat) (cost : Int) (a : Option Addr) (cap : Nat) (l : List StepD) (k : Nat) (h0 : 0 < k) (h1 : k + (l.map cntStep).sum ≤ 4611686018427387904) (hS : StepsIn w lo hi a l) :
    Calls Try.prog 59 #[.agg #[.int .i64 cost, .slice a l.length cap], .int .i64 k] w fun e w' => e = .returned (.int .i64 ((k + (l.map cntStep).sum : Nat) : Int)) ∧ KeptBut lo hi w w' := by
  have k0 : Kept w (w.alloc (.cells #[.int .i64 cost, .slice a l.length cap] 29)) := (Kept.refl _).alloc _
  go_enter Try.func59, Try.ntmps59
  go_wp2_with fail
  refine (markStepS_any _ lo hi a cap l k h0 h1 (hS.same (k0.same _ _))).mono ?_
  rintro e w1 ⟨rfl, _, kb⟩
  obtain ⟨m2, hm2⟩ : ∃ m2, m2 = k + (l.map cntStep).sum := ⟨_, rfl⟩
  rw [← hm2]
  have HM2 := hide hm2
  clear hm2
  go_wp2
  go_ret
  exact ⟨ret_int (by rw [HM2.out]), (KeptBut.of_kept k0).trans kb⟩

set_option maxHeartbeats 800000 in
theorem markNode_any (w : World) (lo hi : Nat) (d : NodeD) (a : Option Addr) (cap : Nat) (k : Nat) (h0 : 0 < k) (h1 : k + (d.steps.map cntStep).sum ≤ 4611686018427387904) (hS : StepsIn w lo hi a d.steps) :
    Calls Try.prog 30 #[.agg #[.string d.name, .int .i64 d.cost, .slice a d.steps.length cap], .int .i64 k] w fun e w' => e = .returned (.int .i64 ((k + (d.steps.map cntStep).sum : Nat) : Int)) ∧ KeptBut lo hi w w' := by
  have k0 : Kept w (w.alloc (.cells #[.string d.name, .int .i64 d.cost, .slice a d.steps.length cap] 60)) := (Kept.refl _).alloc _
  go_enter Try.func30, Try.ntmps30
  go_wp2_with fail
  refine (markAction_any _ lo hi d.cost a cap d.steps k h0 h1 (hS.same (k0.same _ _))).mono ?_
  rintro e w1 ⟨rfl, kb⟩
  obtain ⟨m2, hm2⟩ : ∃ m2, m2 = k + (d.steps.map cntStep).sum := ⟨_, rfl⟩
  rw [← hm2]
  have HM2 := hide hm2
  clear hm2
  go_wp2
  go_ret
  exact ⟨ret_int (by rw [HM2.out]), (KeptBut.of_kept k0).trans kb⟩

end Go.Proofs.Ytfjbdapblmlneaa

/-
  THE WALK over laws.FnExactDropNode.
-/
namespace Go.Proofs.Ytfjbdapblmlneaa
open Go.RowKit

theorem le_sum' {α : Type} (f g : α → Nat) (c : Nat) (h : ∀ x, f x ≤ c * g x) : ∀ l : List α, (l.map f).sum ≤ c * (l.map g).sum
  | [] => by simp
  | x :: r => by
    have h1 := h x
    have h2 := le_sum' f g c h r
    simp only [List.map_cons, List.sum_cons, Nat.mul_add]
    omega

theorem cntStep_le (s : StepD) : cntStep s ≤ 8 * (szStepD s + 1) := by
  have h2 : szStepD s = (s.asks.length + (s.asks.map (·.size)).sum) + (s.cases.length + (s.cases.map (·.text.size)).sum) + s.give.size := rfl
  unfold cntStep
  omega
theorem sum_add_one {α : Type} (f : α → Nat) : ∀ l : List α, (l.map (fun x => f x + 1)).sum = (l.map f).sum + l.length
  | [] => rfl
  | x :: r => by simp only [List.map_cons, List.sum_cons, List.length_cons, sum_add_one f r]; omega
theorem cntSteps_le (l : List StepD) : (l.map cntStep).sum ≤ 8 * szSteps l := by
  have h := le_sum' cntStep (fun s => szStepD s + 1) 8 cntStep_le l
  rw [sum_add_one] at h
  unfold szSteps
  omega
theorem cntNode_le (d : NodeD) : cntNode d ≤ 8 * (szNodeD d + 1) := by
  have h := cntSteps_le d.steps
  have h2 : szNodeD d = d.name.size + szSteps d.steps := rfl
  unfold cntNode
  omega
theorem cntNodes_le (l : List NodeD) : (l.map cntNode).sum ≤ 8 * szNodesD l := by
  have h := le_sum' cntNode (fun s => szNodeD s + 1) 8 cntNode_le l
  rw [sum_add_one] at h
  unfold szNodesD
  omega

/-- What the purse pays for is small, its texts too. -/
theorem smallS_of {l : List StepD} {n : Nat} (h : szSteps l ≤ n) (hn : n ≤ 1048576) : ∀ s ∈ l, s.Small := by
  intro s hs
  unfold szSteps at h
  have h1 := le_sum szStepD hs
  have h2 : szStepD s = (s.asks.length + (s.asks.map (·.size)).sum) + (s.cases.length + (s.cases.map (·.text.size)).sum) + s.give.size := rfl
  exact ⟨by omega, fun x hx => by have := le_sum (fun b : ByteArray => b.size) hx; omega, by omega, fun c hc => by have := le_sum (fun c : CaseD => c.text.size) hc; omega, by omega⟩
theorem smallN_of {l : List NodeD} {n : Nat} (h : szNodesD l ≤ n) (hn : n ≤ 1048576) : ∀ d ∈ l, d.Small := by
  intro d hd
  unfold szNodesD at h
  have h1 := le_sum szNodeD hd
  have h2 : szNodeD d = d.name.size + szSteps d.steps := rfl
  refine ⟨by omega, ?_, smallS_of (l := d.steps) (n := n) (by omega) hn⟩
  have h3 : szSteps d.steps = d.steps.length + (d.steps.map szStepD).sum := rfl
  omega

theorem cut_mem {l : List NodeD} {p : Nat} {d : NodeD} (h : d ∈ cutOut l p) : d ∈ l := by
  rcases List.mem_append.1 h with h | h
  · exact List.mem_of_mem_take h
  · exact List.mem_of_mem_drop h
theorem DropR.mem {l r : List NodeD} {name : ByteArray} {c : Int} (h : DropR l name c r) {d : NodeD} (hd : d ∈ r) : d ∈ l := by
  rcases h with ⟨_, _, rfl⟩ | ⟨_, _, _, rfl⟩ | ⟨_, _, _, _, rfl⟩ | ⟨_, _, p, _, _, _, rfl⟩
  · cases hd
  · cases hd
  · cases hd
  · exact cut_mem hd
theorem sum_cut (f : NodeD → Nat) (l : List NodeD) (p : Nat) : ((cutOut l p).map f).sum ≤ (l.map f).sum := by
  unfold cutOut
  have e : (l.map f).sum = ((l.take p).map f).sum + ((l.drop p).map f).sum := by rw [← List.sum_append, ← List.map_append, List.take_append_drop]
  have e2 : ((l.drop (p + 1)).map f).sum ≤ ((l.drop p).map f).sum := by
    by_cases h : p < l.length
    · rw [List.drop_eq_getElem_cons h, List.map_cons, List.sum_cons]
      omega
    · rw [List.drop_eq_nil_of_le (by omega)]
      simp
  rw [List.map_append, List.sum_append]
  omega
theorem DropR.sum {l r : List NodeD} {name : ByteArray} {c : Int} (h : DropR l name c r) (f : NodeD → Nat) : (r.map f).sum ≤ (l.map f).sum := by
  rcases h with ⟨_, _, rfl⟩ | ⟨_, _, _, rfl⟩ | ⟨_, _, _, _, rfl⟩ | ⟨_, _, p, _, _, _, rfl⟩
  · simp
  · simp
  · simp
  · exact sum_cut f l p
theorem DropR.len {l r : List NodeD} {name : ByteArray} {c : Int} (h : DropR l name c r) : r.length ≤ l.length := by
  rcases h with ⟨_, _, rfl⟩ | ⟨_, _, _, rfl⟩ | ⟨_, _, _, _, rfl⟩ | ⟨_, _, p, _, _, _, rfl⟩
  · simp
  · simp
  · simp
  · unfold cutOut; rw [List.length_append, List.length_take, List.length_drop]; omega

set_option maxRecDepth 100000 in
set_option maxHeartbeats 6400000 in
theorem lawDrop (hW : Hid L2WSaid) (w : World) (a : Option Addr) (cap : Nat) (l : List NodeD) (name : ByteArray) (hn : name.size ≤ maxLen) (hl : l.length ≤ maxLen) (hs : ∀ s ∈ l, s.Fits) (hS : Nodes w a l) :
    Calls Try.prog 7 #[.agg #[.slice a l.length cap], .string name] w fun e w' => e = .returned (.bool true) ∧ Kept w w' := by
  have hn' := hn
  unfold maxLen at hn'
  have k0 : Kept w (w.alloc (.cells #[.slice a l.length cap] 45)) := (Kept.refl _).alloc _
  by_cases hlong : (1048576 : Int) < name.size
  · go_enter Try.func7, Try.ntmps7
    go_wp2
    go_ret
    exact ⟨rfl, k0⟩
  · go_enter Try.func7, Try.ntmps7
    go_wp2_with fail
    refine (szWeb_any _ a cap l 1048576 hl hs (hS.kept k0) (by omega) (by omega)).mono ?_
    rintro e w1 ⟨rfl, K1⟩
    by_cases hle : (szNodesD l : Int) ≤ 1048576
    · rw [szL_pos hle]
      have hle' : szNodesD l ≤ 1048576 := by omega
      obtain ⟨hl2, hs2⟩ := small_of_szN (l := l) (n := 1048576) hle'
      have hsm := smallN_of hle' (Nat.le_refl _)
      have hcnt := cntNodes_le l
      have hcn : 1 + (l.map cntNode).sum ≤ 4611686018427387904 := by omega
      have HSm := hide hsm
      clear hsm hcnt hle'
      have p1 := boxCell K1
      go_wp2_with fail
      refine (toWeb_any _ a cap l hl2 hs2 ((hS.kept k0).kept K1)).mono ?_
      rintro e w2 ⟨b1, rfl, hN1, k2, hb1⟩
      have K2 := K1.trans k2
      clear p1 K1 k2 hb1
      go_wp2_with fail
      refine (specDrop_any hW _ b1 l.length l name hn hl2 hs hs2 hN1).mono ?_
      rintro e w3 hEnd
      obtain ⟨a3, c3, cc, r, rfl, hDR, hNr, k3⟩ := hEnd
      have K3 := K2.trans k3
      have HDR := hide hDR
      have HNr := hide hNr
      clear K2 k3 hN1 hDR hNr
      have kA : Kept w3 (w3.alloc (.cells #[.slice a3 r.length c3] 50)) := (Kept.refl _).alloc _
      have p1 := boxCell (K3.trans kA)
      go_wp2_with fail
      refine (toWeb_in _ a cap l hl2 hs2 (((hS.kept k0).kept K3).kept kA)).mono ?_
      rintro e w4 ⟨b4, rfl, hI4, k4⟩
      have K4 := (K3.trans kA).trans k4
      have q1 := boxCell k4
      have HI4 := hide hI4
      clear p1 hI4
      have kB : Kept w4 (w4.alloc (.cells #[.slice (some ⟨b4, 0, none⟩) l.length l.length] 50)) := (Kept.refl _).alloc _
      go_wp2_with fail
      refine (implDrop_any _ b4 0 l.length l name hn hl2 (Nat.le_refl _) hs HSm.out (HI4.out.nodes.kept kB)).mono ?_
      rintro e w5 hEnd
      obtain ⟨a5, c5, cc', r', rfl, hDR', hI5, k5⟩ := hEnd
      obtain ⟨rfl, rfl⟩ := hDR'.unique HDR.out
      have hcr : 1 + (r'.map cntNode).sum ≤ 4611686018427387904 := by have := hDR'.sum cntNode; omega
      have hlr : r'.length ≤ maxLen := by have := hDR'.len; unfold maxLen; omega
      have hfr : ∀ s ∈ r', s.Fits := fun s h => hs s (hDR'.mem h)
      have HFr := hide hfr
      clear hDR' hfr
      have zK3 := K3.size
      simp only [World.size_alloc] at zK3
      have HI5 := hide hI5
      clear hI5
      have kC : Kept w5 (w5.alloc (.cells #[.slice a5 r'.length c5] 50)) := (Kept.refl _).alloc _
      have K5 := (K4.trans kB).trans k5
      have kq := (k4.trans kB).trans k5
      have z4 := k4.size
      have z5 := k5.size
      simp only [World.size_alloc] at z4 z5
      have q1b := boxCell (kq.trans kC)
      have hNr5 := HNr.out.kept (kA.trans (kq.trans kC))
      have hNg5 := HI5.out.nodes.kept kC
      have y3 : w3.heap.size < w5.heap.size := by omega
      clear q1
      go_wp2_with fail
      refine (eqWeb_yes _ a5 a3 c5 c3 r' hlr HFr.out hNg5 hNr5).mono ?_
      rintro e w6 ⟨rfl, k6⟩
      have kC6 := kC.trans k6
      have K6 := K5.trans kC6
      have z6 := k6.size
      simp only [World.size_alloc] at z6
      have pA := boxCell K6
      have pX := boxCell (k5.trans kC6)
      have pW := boxCell (kq.trans kC6)
      have pG := boxCell k6
      have zA := K6.size
      simp only [World.size_alloc] at zA
      have y0 : w.heap.size < w6.heap.size := by omega
      have y3' : w3.heap.size < w6.heap.size := by omega
      have y4 : w4.heap.size < w6.heap.size := by omega
      have y5 : w5.heap.size < w6.heap.size := by omega
      have hS6 := (hS.kept k0).kept K6
      have hX6 := (HI4.out.same (((kB.trans k5).trans kC6).same _ _)).nodes
      clear q1b hNr5 hNg5
      go_wp2
      go_region_with (first | (go_at_call 21; refine (toWeb_any _ a cap l hl2 hs2 (hS6.kept (by repeat (first | apply Kept.drew | exact Kept.refl _)))).mono ?_; rintro e w7 ⟨b7, rfl, hN7, k7, hb7⟩; have k67 : Kept w6 w7 := Kept.trans (by repeat (first | apply Kept.drew | exact Kept.refl _)) k7; have pX7 := (Kept.cell (o := 0) k67 y4).trans pX; have hX7 := hX6.kept k67) | (go_at_call 23; refine (eqWeb_yes _ (some ⟨b4, 0, none⟩) (some ⟨b7, 0, none⟩) l.length l.length l hl hs (hX7.kept (by repeat (first | apply Kept.drew | exact Kept.refl _))) (NodesNew.nodes (NodesNew.kept hN7 (by repeat (first | apply Kept.drew | exact Kept.refl _))))).mono ?_; rintro e w8 ⟨rfl, k8⟩; have k68 : Kept w6 w8 := Kept.trans (Kept.trans k67 (by repeat (first | apply Kept.drew | exact Kept.refl _))) k8))
      all_goals
        have K8 := K6.trans k68
        have pA8 := boxCell K8
        have pX8 := boxCell ((k5.trans kC6).trans k68)
        have pW8 := boxCell ((kq.trans kC6).trans k68)
        have pG8 := boxCell (k6.trans k68)
        have z8 := k68.size
        have hI8 := HI4.out.same (((kB.trans k5).trans (kC6.trans k68)).same _ _)
        have HG8 := hide (HI5.out.same ((kC6.trans k68).same _ _))
        have HW8 := hide (HNr.out.kept ((kA.trans kq).trans (kC6.trans k68)))
        have HI8 := hide hI8
        clear hI8 pA pX pW pG pX7 hX7 hN7 hb7 hX6
        have x0 : w.heap.size < w8.heap.size := by omega
        have x3 : w3.heap.size < w8.heap.size := by omega
        have x5 : w5.heap.size < w8.heap.size := by omega
        go_wp2_with fail
        refine (markWeb_any _ _ _ (some ⟨b4, 0, none⟩) l.length l 1 (by omega) hcn (HI8.out.same (Kept.same (by repeat (first | apply Kept.drew | exact Kept.refl _)) _ _))).mono ?_
        rintro e w9 ⟨rfl, _, kb9⟩
        simp only [World.size_alloc] at kb9
        have kb9' : KeptBut (w3.heap.size + 1) w4.heap.size w8 w9 := ⟨kb9.os, kb9.tape, kb9.output, kb9.size, kb9.block⟩
        have K9 := kb9'.kept K8 (by simp; omega)
        have KW9 := kb9'.kept ((kq.trans kC6).trans k68) (by simp)
        have pA9 := boxCell K9
        have pW9 := boxCell KW9
        have s9 := kb9'.same (l2 := w5.heap.size) (h2 := w5.heap.size + 1) (by omega)
        have pG9 := (s9.cell (o := 0) (Nat.le_refl _) (by omega) x5).trans pG8
        have z9 := kb9'.size
        have HG9 := hide (HG8.out.same (kb9'.same (by simp)))
        have hW9 := HNr.out.kept (kA.trans KW9)
        obtain ⟨m9, hm9⟩ : ∃ m9, m9 = 1 + (l.map cntNode).sum := ⟨_, rfl⟩
        rw [← hm9]
        clear hm9 kb9 kb9' s9 pA8 pX8 pW8 pG8 HG8 HW8 HI8
        have v0 : w.heap.size < w9.heap.size := by omega
        have v3 : w3.heap.size < w9.heap.size := by omega
        have v5 : w5.heap.size < w9.heap.size := by omega
        go_wp2_with fail
        refine (eqWeb_yes _ a5 a3 c5 c3 r' hlr HFr.out (HG9.out.nodes.kept (by repeat (first | apply Kept.drew | exact Kept.refl _))) (hW9.kept (by repeat (first | apply Kept.drew | exact Kept.refl _)))).mono ?_
        rintro e w10 ⟨rfl, k10'⟩
        have k10 : Kept w9 w10 := Kept.trans (by repeat (first | apply Kept.drew | exact Kept.refl _)) k10'
        have K10 := K9.trans k10
        have KW10 := KW9.trans k10
        have pG10 := (k10.cell (o := 0) v5).trans pG9
        have z10 := k10.size
        have HG10 := hide (HG9.out.same (k10.same _ _))
        clear pA9 pW9 pG9 HG9 hW9 k10 k10'
        go_wp2_with fail
        refine (markWeb_any _ _ _ a5 c5 r' 1 (by omega) hcr (HG10.out.same (Kept.same (by repeat (first | apply Kept.drew | exact Kept.refl _)) _ _))).mono ?_
        rintro e w11 ⟨rfl, hM11, kb11⟩
        simp only [World.size_alloc] at kb11
        have kb11' : KeptBut (w4.heap.size + 1) w5.heap.size w10 w11 := ⟨kb11.os, kb11.tape, kb11.output, kb11.size, kb11.block⟩
        have K11 := kb11'.kept K10 (by simp; omega)
        have KW11 := kb11'.kept KW10 (by simp; omega)
        have s11 := kb11'.same (l2 := w5.heap.size) (h2 := w5.heap.size + 1) (by omega)
        have pG11 := (s11.cell (o := 0) (Nat.le_refl _) (by omega) (by omega)).trans pG10
        have z11 := kb11'.size
        have HM11 := hide hM11
        obtain ⟨m11, hm11⟩ : ∃ m11, m11 = 1 + (r'.map cntNode).sum := ⟨_, rfl⟩
        rw [← hm11]
        have HMm := hide hm11
        clear hm11 kb11 kb11' s11 pG10 HG10 hM11
        have u5 : w5.heap.size < w11.heap.size := by omega
        go_wp2_with fail
        refine (heldWeb_yes _ a5 c5 r' 1 (by omega) hcr (HM11.out.nodes.kept (by repeat (first | apply Kept.drew | exact Kept.refl _)))).mono ?_
        rintro e w12 ⟨rfl, k12'⟩
        rw [← HMm.out]
        have k12 : Kept w11 w12 := Kept.trans (by repeat (first | apply Kept.drew | exact Kept.refl _)) k12'
        have K12 := K11.trans k12
        have KW12 := KW11.trans k12
        have pG12 := (k12.cell (o := 0) u5).trans pG11
        have pA12 := boxCell K12
        have z12 := k12.size
        have HM12 := hide (HM11.out.nodes.kept k12)
        clear pG11 HM11 k12 k12'
        go_wp2_with fail
        refine (toWeb_any _ a cap l hl2 hs2 (((hS.kept k0).kept K12).kept (by repeat (first | apply Kept.drew | exact Kept.refl _)))).mono ?_
        rintro e w13 ⟨b13, rfl, hN13, k13', hb13⟩
        have k13 : Kept w12 w13 := Kept.trans (by repeat (first | apply Kept.drew | exact Kept.refl _)) k13'
        go_wp2_with fail
        refine (implDrop_any _ b13 0 l.length l name hn hl2 (Nat.le_refl _) hs HSm.out hN13.nodes).mono ?_
        rintro e w14 hEnd
        obtain ⟨a14, c14, cc14, r14, rfl, hDR14, hI14, k14⟩ := hEnd
        obtain ⟨rfl, rfl⟩ := hDR14.unique HDR.out
        have k134 := k13.trans k14
        have kD : Kept w14 (w14.alloc (.cells #[.slice a14 r14.length c14] 50)) := (Kept.refl _).alloc _
        have KW14 := KW12.trans k134
        have pW14 := boxCell (KW14.trans kD)
        have K14 := K12.trans k134
        have z14 := k134.size
        have hW14 := HNr.out.kept ((kA.trans KW14).trans kD)
        have hG14 := hI14.nodes.kept kD
        have HM14 := hide (HM12.out.kept (k134.trans kD))
        have pG14 := ((k134.trans kD).cell (o := 0) (by omega : w5.heap.size < w12.heap.size)).trans pG12
        clear hDR14 hI14 pA12 pG12 hN13 hb13
        have t3 : w3.heap.size < w14.heap.size := by omega
        have t5 : w5.heap.size < w14.heap.size := by omega
        go_wp2_with fail
        refine (eqWeb_yes _ a14 a3 c14 c3 r14 hlr HFr.out (hG14.kept (by repeat (first | apply Kept.drew | exact Kept.refl _))) (hW14.kept (by repeat (first | apply Kept.drew | exact Kept.refl _)))).mono ?_
        rintro e w15 ⟨rfl, k15'⟩
        have k15 := Kept.trans kD k15'
        have pG15 := (Kept.cell (o := 0) (Kept.trans (by repeat (first | apply Kept.drew | exact Kept.refl _)) k15') (by simp; omega)).trans pG14
        have K15 := K14.trans k15
        have HM15 := hide (HM14.out.kept k15')
        clear pG14 HM14
        go_wp2_with fail
        refine (heldWeb_yes _ a5 c5 r14 1 (by omega) hcr (HM15.out.kept (by repeat (first | apply Kept.drew | exact Kept.refl _)))).mono ?_
        rintro e w16 ⟨rfl, k16'⟩
        rw [← HMm.out]
        have k16 : Kept w15 w16 := Kept.trans (by repeat (first | apply Kept.drew | exact Kept.refl _)) k16'
        go_wp2
        go_ret
        exact ⟨rfl, k0.trans (K15.trans k16)⟩
    · rw [szL_neg (by omega)]
      go_wp2
      go_ret
      exact ⟨rfl, k0.trans K1⟩

end Go.Proofs.Ytfjbdapblmlneaa
