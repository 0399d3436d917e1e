import Derived.Test.YtmdckapiljhfdaaGreatWStep2

/-
  WALKS over steps: szStepS, toStepS, eqStepS.
-/
namespace Go.Proofs.YtmdckapiljhfdaaGreat
open Go.RowKit

/-- How much the steps of a list weigh. -/
def szSteps (l : List StepD) : Nat := l.length + (l.map szStepD).sum

set_option maxHeartbeats 800000 in
theorem szStepS_any (w : World) (a : Option Addr) (cap : Nat) (l : List StepD) (left : Int) (hl : l.length ≤ maxLen) (hs : ∀ s ∈ l, s.Fits)
    (hS : Steps w a l) (h0 : 0 ≤ left) (h1 : left ≤ 1048576) :
    Calls Tryz.prog 69 #[.slice a l.length cap, .int .i64 left] w fun e w' => e = .returned (.int .i64 (szL (szSteps l) left)) ∧ Kept w w' := by
  unfold maxLen at hl
  go_enter Tryz.func69, Tryz.ntmps69
  go_wp2
  · go_ret
    exact ⟨ret_int (szL_neg (by unfold szSteps; omega)).symm, Kept.refl _⟩
  · go_loopw [1, 5] (fun x i wr => ∃ k : Nat, k ≤ l.length ∧ i = .int .i64 k ∧ x = .int .i64 (left - l.length - sumTo szStepD l k) ∧ 0 ≤ left - l.length - sumTo szStepD l k ∧ Kept w wr) (fun _ i _ => l.length - (intOf i).toNat)
    case atStart => exact ⟨0, Nat.zero_le _, rfl, by simp [sumTo_zero], by simp [sumTo_zero]; omega, Kept.refl _⟩
    case round =>
      obtain ⟨k, hk, rfl, rfl, hge, hw⟩ := hrel
      by_cases hlt : k < l.length
      · obtain ⟨b, o, cs, rfl, hb, hc, aa, ca, ac, cc, rfl, hA, hC, hca⟩ := hS.kept hw k hlt
        have hsz : (l.getD k StepD.zero).Fits := hs _ (by simp [List.getD, hlt])
        have HS : Hid (sumTo szStepD l (k + 1) = sumTo szStepD l k + szStepD (l.getD k StepD.zero)) := sumTo_succ _ l _ k hlt
        have HT := sumTo_le szStepD l (k + 1)
        generalize l.getD k StepD.zero = s at *
        have c0 := hc 0 _ rfl
        have c1 := hc 1 _ rfl
        have c2 := hc 2 _ rfl
        have c3 := hc 3 _ rfl
        have c4 := hc 4 _ rfl
        have c5 := hc 5 _ rfl
        have c6 := hc 6 _ rfl
        have c7 := hc 7 _ rfl
        simp only [Nat.add_zero] at c0
        clear hc
        go_wp2_with fail
        refine (szStep_any _ s aa ac ca cc _ hsz hA hC (by omega) (by omega)).mono ?_
        rintro e w1 ⟨rfl, hw1⟩
        have hw2 := hw.trans hw1
        by_cases hle : (szStepD s : Int) ≤ left - l.length - sumTo szStepD l k
        · rw [szL_pos hle]
          clear c0 c1 c2 c3 c4 c5 c6 c7 hA hC hw hw1
          go_wp2
          go_roundw
          case rel => exact ⟨k + 1, by omega, by go_num, by rw [HS.out]; go_num, by rw [HS.out]; omega, hw2⟩
          case measure => simp [intOf]; omega
        · rw [szL_neg (by omega)]
          clear c0 c1 c2 c3 c4 c5 c6 c7 hA hC hw hw1
          go_wp2
          go_ret
          exact ⟨ret_int (szL_neg (by unfold szSteps; have := HS.out; omega)).symm, hw2⟩
      · go_wp2
        go_ret
        have : k = l.length := by omega
        subst this
        rw [sumTo_all] at hge ⊢
        exact ⟨ret_int (by rw [szL_pos (by unfold szSteps; omega)]; unfold szSteps; omega), hw⟩

end Go.Proofs.YtmdckapiljhfdaaGreat
