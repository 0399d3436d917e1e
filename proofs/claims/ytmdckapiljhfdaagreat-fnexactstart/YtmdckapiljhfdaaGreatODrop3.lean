import Derived.Test.YtmdckapiljhfdaaGreatODataN
import Derived.Test.YtmdckapiljhfdaaGreatODrop2

/-
  WALKS over marks: markNodeS, markWeb.
-/
namespace Go.Proofs.YtmdckapiljhfdaaGreat
open Go.RowKit

set_option maxRecDepth 100000 in
set_option maxHeartbeats 3200000 in
theorem markNodeS_any (w : World) (lo hi : Nat) (a : Option Addr) (cap : Nat) (l : List NodeD) (k : Nat) (h0 : 0 < k) (h1 : k + (l.map cntNode).sum ≤ 4611686018427387904) (hS : NodesIn w lo hi a l) :
    Calls Tryz.prog 27 #[.slice a l.length cap, .int .i64 k] w fun e w' => e = .returned (.int .i64 ((k + (l.map cntNode).sum : Nat) : Int)) ∧ NodesIn w' lo hi a (markNodes l k) ∧ KeptBut lo hi w w' := by
  have hlen := len_le_cntN l
  rcases hS with rfl | ⟨B, c, rfl, hlo, hBc, hhi, hr, hmono, hf⟩
  · go_enter Tryz.func27, Tryz.ntmps27
    go_wp2
    go_loopw [1, 5] (fun x i wr => x = .int .i64 k ∧ i = .int .i64 0 ∧ wr = w) (fun _ _ _ => 0)
    case atStart => exact ⟨rfl, rfl, rfl⟩
    case round =>
      obtain ⟨rfl, rfl, rfl⟩ := hrel
      go_wp2
      go_ret
      exact ⟨by simp, .inl rfl, KeptBut.refl _ _ _⟩
  · have HMono := hide hmono
    clear hmono
    go_enter Tryz.func27, Tryz.ntmps27
    go_wp2
    go_loopw [1, 5] (fun x i wr => ∃ j m : Nat, j ≤ l.length ∧ i = .int .i64 j ∧ x = .int .i64 m ∧ m = k + sumTo cntNode l j ∧ KeptBut lo hi w wr ∧ Row wr B (l.length * 3) ∧ ∀ t, t < l.length → NodeIn wr B t (c t) (c (t + 1)) (nodeMix l k j t)) (fun _ i _ => l.length - (intOf i).toNat)
    case atStart => exact ⟨0, k, Nat.zero_le _, rfl, rfl, by rw [sumTo_zero]; omega, KeptBut.refl _ _ _, hr, fun t ht => by simpa [nodeMix] using hf t ht⟩
    case round =>
      obtain ⟨j, m, hj, rfl, rfl, hm, hw, hr', hf'⟩ := hrel
      clear hr hf
      have HMn := hide hm
      have HF := hide hf'
      by_cases hlt : j < l.length
      · have hst := hf' j hlt
        have hmix : nodeMix l k j j = l.getD j NodeD.zero := by simp [nodeMix]
        rw [hmix] at hst
        have hsum := sumTo_succ cntNode l NodeD.zero j hlt
        have hsl := sumTo_le cntNode l (j + 1)
        obtain ⟨aa, ca, g3, g4⟩ := hst
        obtain ⟨s, hsd⟩ : ∃ s, s = l.getD j NodeD.zero := ⟨_, rfl⟩
        rw [← hsd] at g3 g4 hsum
        have hcnt : m + cntNode s ≤ 4611686018427387904 := by omega
        have hm0 : 0 < m := by omega
        have hcs : cntNode s = (s.steps.map cntStep).sum + 2 := rfl
        have HSd := hide hsd
        have HSum := hide hsum
        clear hf' hmix hsd hm hsum hsl
        have hBj : B < c j := Nat.lt_of_lt_of_le hBc (HMono.out 0 j (Nat.zero_le _))
        have hBs := hr'.lt
        have c2 := g3 2 _ rfl
        have HG4 := hide g4
        obtain ⟨txt, htx, hmt⟩ := markM m hm0 (by omega)
        have HTX := hide htx
        have HMT := hide hmt
        clear htx hmt g4 g3
        go_wp2_with fail
        refine (HMT.out _).mono ?_
        rintro e w1 ⟨rfl, k1⟩
        have hr1 := hr'.kept k1
        have d2 := (k1.cell hBs).trans c2
        have hB1 := hr1.lt
        obtain ⟨⟨_, f0c⟩, f0⟩ := hr1.at (i := j * 3) (by omega)
        obtain ⟨⟨_, f1c⟩, f1⟩ := hr1.at (i := j * 3 + 1) (by omega)
        have HG5 := hide (HG4.out.same (k1.same _ _))
        have t1 := (Turn.refl B (j * 3) (j * 3 + 3) (c j) (c (j + 1)) wr).kept k1 hBs
        have hms : ∀ W, StepsIn W (c j) (c (j + 1)) aa s.steps → Calls Tryz.prog 52 #[.slice aa s.steps.length ca, .int .i64 ((m : Int) + 1 + 1)] W fun e w' => e = .returned (.int .i64 ((m + 2 + (s.steps.map cntStep).sum : Nat) : Int)) ∧ StepsIn w' (c j) (c (j + 1)) aa (markSteps s.steps (m + 2)) ∧ KeptBut (c j) (c (j + 1)) W w' := by
          intro W hW
          have := markStepS_any W (c j) (c (j + 1)) aa ca s.steps (m + 2) (by omega) (by omega) hW
          rw [show ((m + 2 : Nat) : Int) = (m : Int) + 1 + 1 by omega] at this
          exact this
        have HMS := hide hms
        have HR1 := hide hr1
        have HT1 := hide t1
        clear hms c2 hr' HG4 k1 HMT hr1 t1
        go_wp2_with fail
        have hB' : B < c j := hBj
        refine (HMS.out _ ((HG5.out.same (Same.setCell _ (.inl hB') _)).same (Same.setCell _ (.inl hB') _))).mono ?_
        rintro e w2 ⟨rfl, hC2, kb2⟩
        obtain ⟨m2, hm2⟩ : ∃ m2, m2 = m + 2 + (s.steps.map cntStep).sum := ⟨_, rfl⟩
        rw [← hm2]
        have hb2 : m2 ≤ 4611686018427387904 := by omega
        have HM2 := hide hm2
        clear hm2 hcnt hcs
        have hrA : Row (w1.setCell ⟨B, j * 3, none⟩ (.string txt)) B (l.length * 3) := HR1.out.set _ rfl _
        have hrB : Row ((w1.setCell ⟨B, j * 3, none⟩ (.string txt)).setCell ⟨B, j * 3 + 1, none⟩ (.int .i64 ((m : Int) + 1))) B (l.length * 3) := hrA.set _ rfl _
        have s2 := kb2.same (l2 := B) (h2 := B + 1) (by omega)
        have hr2 : Row w2 B (l.length * 3) := s2.row (Nat.le_refl _) (by omega) hrB
        have e0 : w2.cell? ⟨B, j * 3, none⟩ = some (.string txt) := by rw [s2.cell (Nat.le_refl _) (by omega) hrB.lt, set_miss (by omega)]; exact set_hit HR1.out (by omega) _
        have e1 : w2.cell? ⟨B, j * 3 + 1, none⟩ = some (.int .i64 ((m : Int) + 1)) := by rw [s2.cell (Nat.le_refl _) (by omega) hrB.lt]; exact set_hit hrA (by omega) _
        have e2 : w2.cell? ⟨B, j * 3 + 2, none⟩ = some (.slice aa s.steps.length ca) := by rw [s2.cell (Nat.le_refl _) (by omega) hrB.lt, set_miss (by omega), set_miss (by omega)]; exact d2
        have tF := ((HT1.out.setCell (o := j * 3) (by omega) (by omega) (.string txt)).setCell (o := j * 3 + 1) (by omega) (by omega) (.int .i64 ((m : Int) + 1))).but kb2 (Nat.le_refl _) (Nat.le_refl _) (.inl hBj) hrB.lt
        have HE := hide (And.intro e0 (And.intro e1 e2))
        have HTF := hide tF
        have HC2 := hide hC2
        have HR2 := hide hr2
        clear e0 e1 e2 tF hC2 hr2 kb2 s2 hrA hrB f0 f0c f1 f1c d2 HR1 HT1 HG5 HMS
        go_wp2
        go_roundw
        case rel =>
          obtain ⟨e0, e1, e2⟩ := HE.out
          have tF := HTF.out
          refine ⟨j + 1, m2, by omega, by go_num, by go_num, by have q1 := HMn.out; have q2 := HSum.out; have q4 := HM2.out; have q5 : cntNode s = (s.steps.map cntStep).sum + 2 := rfl; omega, hw.trans (tF.keptBut (by omega) (by have := HMono.out (j + 1) l.length (by omega); omega) hlo (by have := HMono.out 0 l.length (by omega); omega)), HR2.out, fun t ht => ?_⟩
          by_cases e : t = j
          · subst e
            have em : nodeMix l k (t + 1) t = markNode s m := by
              unfold nodeMix
              rw [if_pos (by omega), ← HSd.out, ← HMn.out]
            rw [em]
            refine ⟨aa, ca, ?_, HC2.out⟩
            rw [markNode_cells, ← HTX.out]
            exact range3 e0 (by rw [e1]; simp) e2
          · have em : nodeMix l k (j + 1) t = nodeMix l k j t := by
              unfold nodeMix
              by_cases h : t < j
              · rw [if_pos h, if_pos (by omega)]
              · rw [if_neg h, if_neg (by omega)]
            rw [em]
            have hBt : B < c t := Nat.lt_of_lt_of_le hBc (HMono.out 0 t (Nat.zero_le _))
            obtain ⟨aa', ca', z3, z4⟩ := HF.out t ht
            have hd : c (t + 1) ≤ c j ∨ c (j + 1) ≤ c t := by
              by_cases h : t < j
              · exact .inl (HMono.out _ _ (by omega))
              · exact .inr (HMono.out _ _ (by omega))
            exact ⟨aa', ca', tF.range (by simp [NodeD.cells]; omega) z3, z4.same (tF.same (by omega) (.inl hBt))⟩
        case measure => simp [intOf]; omega
      · have : j = l.length := by omega
        subst this
        go_wp2
        go_ret
        refine ⟨ret_int (by have := HMn.out; rw [sumTo_all] at this; omega), .inr ⟨B, c, rfl, hlo, hBc, by rw [markNodes_length]; exact hhi, by rw [markNodes_length]; exact hr', HMono.out, fun i hi' => ?_⟩, hw⟩
        rw [markNodes_length] at hi'
        have := HF.out i hi'
        rw [markNodes_getD _ _ _ hi']
        unfold nodeMix at this
        rw [if_pos hi'] at this
        exact this

set_option maxHeartbeats 800000 in
theorem markWeb_any (w : World) (lo hi : Nat) (a : Option Addr) (cap : Nat) (l : List NodeD) (k : Nat) (h0 : 0 < k) (h1 : k + (l.map cntNode).sum ≤ 4611686018427387904) (hS : NodesIn w lo hi a l) :
    Calls Tryz.prog 13 #[.agg #[.slice a l.length cap], .int .i64 k] w fun e w' => e = .returned (.int .i64 ((k + (l.map cntNode).sum : Nat) : Int)) ∧ NodesIn w' lo hi a (markNodes l k) ∧ KeptBut lo hi w w' := by
  have k0 : Kept w (w.alloc (.cells #[.slice a l.length cap] 34)) := (Kept.refl _).alloc _
  go_enter Tryz.func13, Tryz.ntmps13
  go_wp2_with fail
  refine (markNodeS_any _ lo hi a cap l k h0 h1 (hS.same (k0.same _ _))).mono ?_
  rintro e w1 ⟨rfl, hN, kb⟩
  obtain ⟨m2, hm2⟩ : ∃ m2, m2 = k + (l.map cntNode).sum := ⟨_, rfl⟩
  rw [← hm2]
  have HM2 := hide hm2
  clear hm2
  go_wp2
  go_ret
  exact ⟨ret_int (by rw [HM2.out]), hN, (KeptBut.of_kept k0).trans kb⟩

end Go.Proofs.YtmdckapiljhfdaaGreat

/-
  WALKS over marks: heldNodeS, heldWeb.
-/
namespace Go.Proofs.YtmdckapiljhfdaaGreat
open Go.RowKit

end Go.Proofs.YtmdckapiljhfdaaGreat

/-
  THE WALK over laws.FnExactDropNode.
-/
namespace Go.Proofs.YtmdckapiljhfdaaGreat
open Go.RowKit

theorem le_sum' {α : Type} (f g : α → Nat) (c : Nat) (h : ∀ x, f x ≤ c * g x) : ∀ l : List α, (l.map f).sum ≤ c * (l.map g).sum
  | [] => by simp
  | x :: r => by
    have h1 := h x
    have h2 := le_sum' f g c h r
    simp only [List.map_cons, List.sum_cons, Nat.mul_add]
    omega

theorem cntStep_le (s : StepD) : cntStep s ≤ 8 * (szStepD s + 1) := by
  have h2 : szStepD s = (s.asks.length + (s.asks.map (·.size)).sum) + (s.cases.length + (s.cases.map (·.text.size)).sum) + s.give.size := rfl
  unfold cntStep
  omega
theorem sum_add_one {α : Type} (f : α → Nat) : ∀ l : List α, (l.map (fun x => f x + 1)).sum = (l.map f).sum + l.length
  | [] => rfl
  | x :: r => by simp only [List.map_cons, List.sum_cons, List.length_cons, sum_add_one f r]; omega
theorem cntSteps_le (l : List StepD) : (l.map cntStep).sum ≤ 8 * szSteps l := by
  have h := le_sum' cntStep (fun s => szStepD s + 1) 8 cntStep_le l
  rw [sum_add_one] at h
  unfold szSteps
  omega
theorem cntNode_le (d : NodeD) : cntNode d ≤ 8 * (szNodeD d + 1) := by
  have h := cntSteps_le d.steps
  have h2 : szNodeD d = d.name.size + szSteps d.steps := rfl
  unfold cntNode
  omega
theorem cntNodes_le (l : List NodeD) : (l.map cntNode).sum ≤ 8 * szNodesD l := by
  have h := le_sum' cntNode (fun s => szNodeD s + 1) 8 cntNode_le l
  rw [sum_add_one] at h
  unfold szNodesD
  omega

/-- What the purse pays for is small, its texts too. -/
theorem smallS_of {l : List StepD} {n : Nat} (h : szSteps l ≤ n) (hn : n ≤ 1048576) : ∀ s ∈ l, s.Small := by
  intro s hs
  unfold szSteps at h
  have h1 := le_sum szStepD hs
  have h2 : szStepD s = (s.asks.length + (s.asks.map (·.size)).sum) + (s.cases.length + (s.cases.map (·.text.size)).sum) + s.give.size := rfl
  exact ⟨by omega, fun x hx => by have := le_sum (fun b : ByteArray => b.size) hx; omega, by omega, fun c hc => by have := le_sum (fun c : CaseD => c.text.size) hc; omega, by omega⟩
theorem smallN_of {l : List NodeD} {n : Nat} (h : szNodesD l ≤ n) (hn : n ≤ 1048576) : ∀ d ∈ l, d.Small := by
  intro d hd
  unfold szNodesD at h
  have h1 := le_sum szNodeD hd
  have h2 : szNodeD d = d.name.size + szSteps d.steps := rfl
  refine ⟨by omega, ?_, smallS_of (l := d.steps) (n := n) (by omega) hn⟩
  have h3 : szSteps d.steps = d.steps.length + (d.steps.map szStepD).sum := rfl
  omega

theorem cut_mem {l : List NodeD} {p : Nat} {d : NodeD} (h : d ∈ cutOut l p) : d ∈ l := by
  rcases List.mem_append.1 h with h | h
  · exact List.mem_of_mem_take h
  · exact List.mem_of_mem_drop h
theorem DropR.mem {l r : List NodeD} {name : ByteArray} {c : Int} (h : DropR l name c r) {d : NodeD} (hd : d ∈ r) : d ∈ l := by
  rcases h with ⟨_, _, rfl⟩ | ⟨_, _, _, rfl⟩ | ⟨_, _, _, _, rfl⟩ | ⟨_, _, p, _, _, _, rfl⟩
  · cases hd
  · cases hd
  · cases hd
  · exact cut_mem hd
theorem sum_cut (f : NodeD → Nat) (l : List NodeD) (p : Nat) : ((cutOut l p).map f).sum ≤ (l.map f).sum := by
  unfold cutOut
  have e : (l.map f).sum = ((l.take p).map f).sum + ((l.drop p).map f).sum := by rw [← List.sum_append, ← List.map_append, List.take_append_drop]
  have e2 : ((l.drop (p + 1)).map f).sum ≤ ((l.drop p).map f).sum := by
    by_cases h : p < l.length
    · rw [List.drop_eq_getElem_cons h, List.map_cons, List.sum_cons]
      omega
    · rw [List.drop_eq_nil_of_le (by omega)]
      simp
  rw [List.map_append, List.sum_append]
  omega
theorem DropR.sum {l r : List NodeD} {name : ByteArray} {c : Int} (h : DropR l name c r) (f : NodeD → Nat) : (r.map f).sum ≤ (l.map f).sum := by
  rcases h with ⟨_, _, rfl⟩ | ⟨_, _, _, rfl⟩ | ⟨_, _, _, _, rfl⟩ | ⟨_, _, p, _, _, _, rfl⟩
  · simp
  · simp
  · simp
  · exact sum_cut f l p
theorem DropR.len {l r : List NodeD} {name : ByteArray} {c : Int} (h : DropR l name c r) : r.length ≤ l.length := by
  rcases h with ⟨_, _, rfl⟩ | ⟨_, _, _, rfl⟩ | ⟨_, _, _, _, rfl⟩ | ⟨_, _, p, _, _, _, rfl⟩
  · simp
  · simp
  · simp
  · unfold cutOut; rw [List.length_append, List.length_take, List.length_drop]; omega

end Go.Proofs.YtmdckapiljhfdaaGreat
