import Derived.Test.YtfjbdapblmlneaaOMark3

/-
  THE WALK over heldStepS.
-/
namespace Go.Proofs.Ytfjbdapblmlneaa
open Go.RowKit

set_option maxRecDepth 100000 in
set_option maxHeartbeats 3200000 in
theorem heldStepS_yes (w : World) (a : Option Addr) (cap : Nat) (l : List StepD) (k : Nat) (h0 : 0 < k) (h1 : k + (l.map cntStep).sum ≤ 4611686018427387904) (hS : Steps w a (markSteps l k)) :
    Calls Try.prog 77 #[.slice a l.length cap, .int .i64 k] w fun e w' => e = .returned (.int .i64 ((k + (l.map cntStep).sum : Nat) : Int)) ∧ Kept w w' := by
  have hlen := len_le_cnt l
  go_enter Try.func77, Try.ntmps77
  go_wp2
  go_loopw [1, 5] (fun x i wr => ∃ j m : Nat, j ≤ l.length ∧ i = .int .i64 j ∧ x = .int .i64 m ∧ m = k + sumTo cntStep l j ∧ Kept w wr) (fun _ i _ => l.length - (intOf i).toNat)
  case atStart => exact ⟨0, k, Nat.zero_le _, rfl, rfl, by rw [sumTo_zero]; omega, Kept.refl _⟩
  case round =>
    obtain ⟨j, m, hj, rfl, rfl, hm, hw⟩ := hrel
    have HMn := hide hm
    by_cases hlt : j < l.length
    · obtain ⟨b, o, cs, rfl, hb, hc, aa, ca, ac, cc, rfl, hA, hC, hca⟩ := hS.kept hw j (by rw [markSteps_length]; exact hlt)
      rw [markSteps_getD _ _ _ hlt, ← hm] at hc hA hC hca
      have hsum := sumTo_succ cntStep l StepD.zero j hlt
      have hsl := sumTo_le cntStep l (j + 1)
      generalize l.getD j StepD.zero = s at *
      have hcnt : m + cntStep s ≤ 4611686018427387904 := by omega
      have hm0 : 0 < m := by omega
      have hcs : cntStep s = s.asks.length + s.cases.length * 2 + 6 := rfl
      rw [markStep_cells] at hc
      have hA' : Strs wr aa (markStrs s.asks m) := hA
      obtain ⟨m1, hm1⟩ : ∃ m1, m1 = m + s.asks.length := ⟨_, rfl⟩
      obtain ⟨m2, hm2⟩ : ∃ m2, m2 = m1 + 1 + s.cases.length * 2 := ⟨_, rfl⟩
      have hC' : Cases wr ac (markCases s.cases (m1 + 1)) := by rw [hm1]; exact hC
      rw [← hm1, ← hm2] at hc
      have hb1 : m1 + s.cases.length * 2 + 6 ≤ 4611686018427387904 := by omega
      have hb2 : m2 + 5 ≤ 4611686018427387904 := by omega
      have HTot : Hid (m2 + 5 = k + sumTo cntStep l (j + 1)) := by show _ = _; omega
      obtain ⟨txt, htx, hmt⟩ : ∃ txt, txt = mtext (m2 + 4) ∧ ∀ z : Int, z = ((m2 + 4 : Nat) : Int) → ∀ W, Calls Try.prog 75 #[.int .i64 z] W fun e w' => e = .returned (.string txt) ∧ Kept W w' := ⟨_, rfl, fun z hz W => by rw [hz]; exact markText_any W _ (by omega) (by omega)⟩
      rw [← htx, ← mod3 m2 2 ((m2 : Int) + 1 + 1) (by omega), ← mod3 m2 3 ((m2 : Int) + 1 + 1 + 1) (by omega)] at hc
      have c0 := hc 0 _ rfl
      have c1 := hc 1 _ rfl
      have c2 := hc 2 _ rfl
      have c3 := hc 3 _ rfl
      have c4 := hc 4 (.int .i64 ((m2 : Int) + 1)) (by simp)
      have c5 := hc 5 _ rfl
      have c6 := hc 6 _ rfl
      have c7 := hc 7 _ rfl
      rw [Nat.add_zero] at c0
      have hmc : ∀ W, Cases W ac (markCases s.cases (m1 + 1)) → Calls Try.prog 99 #[.slice ac s.cases.length cc, .int .i64 ((m1 : Int) + 1)] W fun e w' => e = .returned (.int .i64 ((m1 + 1 + s.cases.length * 2 : Nat) : Int)) ∧ Kept W w' := by
        intro W hW
        have := heldCaseS_yes W ac cc s.cases (m1 + 1) (by omega) (by omega) hW
        rw [show ((m1 + 1 : Nat) : Int) = (m1 : Int) + 1 by omega] at this
        exact this
      have hms : ∀ W, Strs W aa (markStrs s.asks m) → Calls Try.prog 98 #[.slice aa s.asks.length ca, .int .i64 m] W fun e w' => e = .returned (.int .i64 (m1 : Int)) ∧ Kept W w' := by
        intro W hW
        rw [hm1]
        exact heldStringS_yes W aa ca s.asks m (by omega) (by omega) hW
      rw [← hm2] at hmc
      have HMS := hide hms
      have HMC := hide hmc
      have HMT := hide hmt
      have HC' := hide hC'
      have hbr : b < wr.heap.size := Nat.lt_of_lt_of_le hb (Nat.le_refl _)
      clear hm1 hm2 hm hcs hcnt hmt htx hmc hms hsum hsl hA hC hca hC' hc
      go_wp2_with fail
      refine (HMS.out _ hA').mono ?_
      rintro e w1 ⟨rfl, k1⟩
      have d1 := (k1.cell hbr).trans c1
      have d2 := (k1.cell hbr).trans c2
      go_wp2_with fail
      refine (HMC.out _ (HC'.out.kept (by repeat (first | apply Kept.drew | exact k1)))).mono ?_
      rintro e w2 ⟨rfl, k2⟩
      have k12 : Kept wr w2 := Kept.trans (by repeat (first | apply Kept.drew | exact k1)) k2
      have e3 := (k12.cell hbr).trans c3
      have e4 := (k12.cell hbr).trans c4
      have e5 := (k12.cell hbr).trans c5
      have e6 := (k12.cell hbr).trans c6
      have e7 := (k12.cell hbr).trans c7
      have hbr2 : b < w2.heap.size := Nat.lt_of_lt_of_le hbr k12.size
      clear c0 c1 c2 c3 c4 c5 c6 c7 d1 d2 k1 k2 HMS HMC HC' hA'
      go_wp2
      go_region_with (go_at_call 75; refine (HMT.out _ (by omega) _).mono ?_; rintro e w3 ⟨rfl, k3⟩; have kk : Kept w2 w3 := Kept.trans (by repeat (first | apply Kept.drew | exact Kept.refl _)) k3; have hc3 := (kk.cell (o := o + j * 8 + 7) hbr2).trans e7)
      all_goals
        go_wp2
        go_roundw
        case rel => exact ⟨j + 1, m2 + 5, by omega, by go_num, by go_num, HTot.out, by repeat (first | exact (hw.trans k12).trans kk | apply Kept.drew)⟩
        case measure => simp [intOf]; omega
    · have : j = l.length := by omega
      subst this
      go_wp2
      go_ret
      exact ⟨ret_int (by have := HMn.out; rw [sumTo_all] at this; omega), hw⟩

end Go.Proofs.Ytfjbdapblmlneaa
