import Derived.Test.YtmdckapiljhfdaaGreatWStep2

/-
  THE WALK over eqStepS.
-/
namespace Go.Proofs.YtmdckapiljhfdaaGreat
open Go.RowKit

set_option maxHeartbeats 1600000 in
theorem eqStepS_yes (w : World) (a a' : Option Addr) (cap cap' : Nat) (l : List StepD) (hl : l.length ≤ maxLen) (hs : ∀ s ∈ l, s.asks.length ≤ maxLen ∧ s.cases.length ≤ maxLen)
    (hS : Steps w a l) (hS' : Steps w a' l) :
    Calls Tryz.prog 79 #[.slice a l.length cap, .slice a' l.length cap'] w fun e w' => e = .returned (.bool true) ∧ Kept w w' := by
  unfold maxLen at hl
  go_enter Tryz.func79, Tryz.ntmps79
  go_wp2
  go_loopw [5] (fun i wr => ∃ k : Nat, k ≤ l.length ∧ i = .int .i64 k ∧ Kept w wr) (fun i _ => l.length - (intOf i).toNat)
  case atStart => exact ⟨0, Nat.zero_le _, rfl, Kept.refl _⟩
  case round =>
    obtain ⟨k, hk, rfl, hw⟩ := hrel
    by_cases hlt : k < l.length
    · obtain ⟨b, o, cs, rfl, hb, hc, aa, ca, ac, cc, rfl, hA, hC, hca⟩ := hS.kept hw k hlt
      obtain ⟨b', o', cs', rfl, hb', hc', ba, da, bc, dc, rfl, hA', hC', hca'⟩ := hS'.kept hw k hlt
      have hsz := hs (l.getD k StepD.zero) (by simp [List.getD, hlt])
      clear hs
      generalize l.getD k StepD.zero = s at *
      have c0 := hc 0 _ rfl
      have c1 := hc 1 _ rfl
      have c2 := hc 2 _ rfl
      have c3 := hc 3 _ rfl
      have c4 := hc 4 _ rfl
      have c5 := hc 5 _ rfl
      have c6 := hc 6 _ rfl
      have c7 := hc 7 _ rfl
      have d0 := hc' 0 _ rfl
      have d1 := hc' 1 _ rfl
      have d2 := hc' 2 _ rfl
      have d3 := hc' 3 _ rfl
      have d4 := hc' 4 _ rfl
      have d5 := hc' 5 _ rfl
      have d6 := hc' 6 _ rfl
      have d7 := hc' 7 _ rfl
      simp only [Nat.add_zero] at c0 d0
      clear hc hc'
      go_wp2
      go_region_with (go_at_call 87; refine (eqStep_yes _ s aa ac ba bc ca cc da dc hsz.1 hsz.2 (hA.kept (by repeat (first | apply Kept.drew | exact Kept.refl _))) (hC.kept (by repeat (first | apply Kept.drew | exact Kept.refl _))) (hA'.kept (by repeat (first | apply Kept.drew | exact Kept.refl _))) (hC'.kept (by repeat (first | apply Kept.drew | exact Kept.refl _)))).mono ?_; rintro e w1 ⟨rfl, hw1⟩)
      all_goals
        go_wp2
        go_roundw
        case rel => exact ⟨k + 1, by omega, by go_num, by repeat (first | assumption | apply Kept.drew | refine Kept.trans ?_ (by assumption))⟩
        case measure => simp [intOf]; omega
    · go_wp2
      go_ret
      exact ⟨rfl, hw⟩

end Go.Proofs.YtmdckapiljhfdaaGreat
