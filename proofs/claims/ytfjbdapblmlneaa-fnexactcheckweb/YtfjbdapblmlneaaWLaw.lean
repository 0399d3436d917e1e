import Derived.Test.YtfjbdapblmlneaaWAction
import Derived.Test.YtfjbdapblmlneaaWSpec5
import Derived.Test.YtfjbdapblmlneaaWImpl5

/-
  THE WALK over laws.FnExactValidAction.
-/
namespace Go.Proofs.Ytfjbdapblmlneaa
open Go.RowKit

theorem le_sum {α : Type} (f : α → Nat) {l : List α} {x : α} (h : x ∈ l) : f x ≤ (l.map f).sum := by
  induction l with
  | nil => cases h
  | cons y r ih =>
    rcases List.mem_cons.1 h with rfl | h
    · simp
    · have := ih h
      simp; omega

/-- What the purse pays for is small. -/
theorem small_of_sz {l : List StepD} {n : Nat} (h : szSteps l ≤ n) : l.length ≤ n ∧ ∀ s ∈ l, s.asks.length ≤ n ∧ s.cases.length ≤ n := by
  unfold szSteps at h
  refine ⟨by omega, fun s hs => ?_⟩
  have h1 := le_sum szStepD hs
  have h2 : szStepD s = (s.asks.length + (s.asks.map (·.size)).sum) + (s.cases.length + (s.cases.map (·.text.size)).sum) + s.give.size := rfl
  omega

theorem boxCells {w wi : World} {x y : Value} {t : TypeId} (K : Kept (w.alloc (.cells #[x, y] t)) wi) : wi.cell? ⟨w.heap.size, 0, none⟩ = some x ∧ wi.cell? ⟨w.heap.size, 1, none⟩ = some y := by
  constructor
  · rw [K.cell (by simp)]; simp
  · rw [K.cell (by simp)]; simp

set_option maxRecDepth 100000 in
set_option maxHeartbeats 1600000 in
theorem lawValidAction (w : World) (cost : Int) (a : Option Addr) (cap : Nat) (l : List StepD) (hl : l.length ≤ maxLen) (hs : ∀ s ∈ l, s.Fits) (hS : Steps w a l) :
    Calls Try.prog 3 #[.agg #[.int .i64 cost, .slice a l.length cap]] w fun e w' => e = .returned (.bool true) ∧ Kept w w' := by
  have k0 : Kept w (w.alloc (.cells #[.int .i64 cost, .slice a l.length cap] 24)) := (Kept.refl _).alloc _
  go_enter Try.func3, Try.ntmps3
  go_wp2_with fail
  refine (szAction_any _ cost a cap l 1048576 hl hs (hS.kept k0) (by omega) (by omega)).mono ?_
  rintro e w1 ⟨rfl, K1⟩
  by_cases hle : (szSteps l : Int) ≤ 1048576
  · rw [szL_pos hle]
    obtain ⟨hl2, hs2⟩ := small_of_sz (l := l) (n := 1048576) (by omega)
    obtain ⟨p1, p2⟩ := boxCells K1
    go_wp2_with fail
    refine (toAction_any _ cost a cap l hl2 hs2 ((hS.kept k0).kept K1)).mono ?_
    rintro e w2 ⟨b1, rfl, hN1, k2, hb1⟩
    have K2 := K1.trans k2
    clear p1 p2 K1 k2 hb1
    go_wp2_with fail
    refine (specValidAction_any _ cost (some ⟨b1, 0, none⟩) l.length l hl hs hN1.steps).mono ?_
    rintro e w3 ⟨⟨r, rfl, hr⟩, k3⟩
    have K3 := K2.trans k3
    clear K2 k3 hN1
    have HR := hide hr
    clear hr
    obtain ⟨p1, p2⟩ := boxCells K3
    go_wp2_with fail
    refine (toAction_any _ cost a cap l hl2 hs2 ((hS.kept k0).kept K3)).mono ?_
    rintro e w4 ⟨b2, rfl, hN2, k4, hb2⟩
    have K4 := K3.trans k4
    clear p1 p2 K3 k4 hb2
    have k5 : Kept w4 (w4.alloc (.cells #[.int .i64 cost, .slice (some ⟨b2, 0, none⟩) l.length l.length] 29)) := (Kept.refl _).alloc _
    go_wp2_with fail
    refine (implValidAction_any _ cost (some ⟨b2, 0, none⟩) l.length l hl hs (hN2.kept k5).steps).mono ?_
    rintro e w5 ⟨⟨r2, rfl, hr2⟩, k6⟩
    have hrr : r2 = r := Bool.eq_iff_iff.2 (hr2.trans HR.out.symm)
    subst hrr
    clear hr2 HR
    have K5 := (K4.trans k5).trans k6
    have hN3 := (hN2.kept k5).kept k6
    obtain ⟨p1, p2⟩ := boxCells K5
    obtain ⟨q1, q2⟩ := boxCells k6
    have hzz := k6.size
    have hz4 := K4.size
    simp only [World.size_alloc] at hzz hz4
    have Kw5 := k0.trans K5
    have hs3 : ∀ s ∈ l, s.asks.length ≤ maxLen ∧ s.cases.length ≤ maxLen := fun s hs' => ⟨(hs s hs').asks, (hs s hs').cases⟩
    have hS5 := (hS.kept Kw5)
    clear K4 k5 k6 hN2 K5
    have y0 : w.heap.size < w5.heap.size := by omega
    have y1 : w4.heap.size < w5.heap.size := by omega
    cases r2
    all_goals
      go_wp2
      go_region_with (first | (go_at_call 10; refine (toAction_any _ cost a cap l hl2 hs2 (hS5.kept (by repeat (first | apply Kept.drew | exact Kept.refl _)))).mono ?_; rintro e w6 ⟨b3, rfl, hN4, k7, hb3⟩; have k8 : Kept w5 w6 := Kept.trans (by repeat (first | apply Kept.drew | exact Kept.refl _)) k7; have q3 := (Kept.cell (o := 0) k8 y1).trans q1; have q4 := (Kept.cell (o := 1) k8 y1).trans q2; have hN5 := hN3.kept k8; have Kw6 := Kw5.trans k8) | (go_at_call 12; refine (eqAction_yes _ cost (some ⟨b2, 0, none⟩) (some ⟨b3, 0, none⟩) l.length l.length l hl hs3 (StepsNew.steps (StepsNew.kept hN5 (by repeat (first | apply Kept.drew | exact Kept.refl _)))) (StepsNew.steps (StepsNew.kept hN4 (by repeat (first | apply Kept.drew | exact Kept.refl _))))).mono ?_; rintro e w7 ⟨rfl, k9⟩; have Kw7 : Kept w w7 := Kept.trans (Kept.trans Kw6 (by repeat (first | apply Kept.drew | exact Kept.refl _))) k9))
      all_goals
        go_wp2
        go_ret
        exact ⟨rfl, by repeat (first | apply Kept.drew | exact Kw7)⟩
  · rw [szL_neg (by omega)]
    go_wp2
    go_ret
    exact ⟨rfl, k0.trans K1⟩

end Go.Proofs.Ytfjbdapblmlneaa
