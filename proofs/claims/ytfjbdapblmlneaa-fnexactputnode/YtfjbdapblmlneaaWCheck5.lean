import Derived.Test.YtfjbdapblmlneaaWCheck2
import Derived.Test.YtfjbdapblmlneaaWLaw

/-
  THE WALK over laws.FnExactCheckWeb.
-/
namespace Go.Proofs.Ytfjbdapblmlneaa
open Go.RowKit

/-- What the purse pays for is small. -/
theorem small_of_szN {l : List NodeD} {n : Nat} (h : szNodesD l ≤ n) : l.length ≤ n ∧ ∀ s ∈ l, s.steps.length ≤ n ∧ ∀ x ∈ s.steps, x.asks.length ≤ n ∧ x.cases.length ≤ n := by
  unfold szNodesD at h
  refine ⟨by omega, fun s hs => ?_⟩
  have h1 := le_sum szNodeD hs
  have h2 : szNodeD s = s.name.size + szSteps s.steps := rfl
  have h3 := small_of_sz (l := s.steps) (n := n) (by omega)
  exact h3

theorem boxCell {w wi : World} {x : Value} {t : TypeId} (K : Kept (w.alloc (.cells #[x] t)) wi) : wi.cell? ⟨w.heap.size, 0, none⟩ = some x := by
  rw [K.cell (by simp)]; simp

set_option maxRecDepth 100000 in
set_option maxHeartbeats 1600000 in
theorem lawCheckWeb (w : World) (a : Option Addr) (cap : Nat) (l : List NodeD) (hl : l.length ≤ maxLen) (hs : ∀ s ∈ l, s.Fits) (hS : Nodes w a l) :
    Calls Try.prog 5 #[.agg #[.slice a l.length cap]] w fun e w' => e = .returned (.bool true) ∧ Kept w w' := by
  have k0 : Kept w (w.alloc (.cells #[.slice a l.length cap] 45)) := (Kept.refl _).alloc _
  go_enter Try.func5, Try.ntmps5
  go_wp2_with fail
  refine (szWeb_any _ a cap l 1048576 hl hs (hS.kept k0) (by omega) (by omega)).mono ?_
  rintro e w1 ⟨rfl, K1⟩
  by_cases hle : (szNodesD l : Int) ≤ 1048576
  · rw [szL_pos hle]
    obtain ⟨hl2, hs2⟩ := small_of_szN (l := l) (n := 1048576) (by omega)
    have p1 := boxCell K1
    go_wp2_with fail
    refine (toWeb_any _ a cap l hl2 hs2 ((hS.kept k0).kept K1)).mono ?_
    rintro e w2 ⟨b1, rfl, hN1, k2, hb1⟩
    have K2 := K1.trans k2
    clear p1 K1 k2 hb1
    go_wp2_with fail
    refine (specCheckWeb_any _ (some ⟨b1, 0, none⟩) l.length l hl hs hN1.nodes).mono ?_
    rintro e w3 ⟨⟨r, rfl, hr⟩, k3⟩
    have K3 := K2.trans k3
    clear K2 k3 hN1
    have HR := hide hr
    clear hr
    have p1 := boxCell K3
    go_wp2_with fail
    refine (toWeb_any _ a cap l hl2 hs2 ((hS.kept k0).kept K3)).mono ?_
    rintro e w4 ⟨b2, rfl, hN2, k4, hb2⟩
    have K4 := K3.trans k4
    clear p1 K3 k4 hb2
    have k5 : Kept w4 (w4.alloc (.cells #[.slice (some ⟨b2, 0, none⟩) l.length l.length] 50)) := (Kept.refl _).alloc _
    go_wp2_with fail
    refine (implCheckWeb_any ascSaid _ (some ⟨b2, 0, none⟩) l.length l hl hs (hN2.kept k5).nodes).mono ?_
    rintro e w5 ⟨⟨r2, rfl, hr2⟩, k6⟩
    obtain rfl : r2 = r := hr2.unique HR.out
    clear hr2 HR
    have K5 := (K4.trans k5).trans k6
    have hN3 := (hN2.kept k5).kept k6
    have p1 := boxCell K5
    have q1 := boxCell k6
    have hzz := k6.size
    have hz4 := K4.size
    simp only [World.size_alloc] at hzz hz4
    have Kw5 := k0.trans K5
    have hS5 := (hS.kept Kw5)
    clear K4 k5 k6 hN2 K5
    have y0 : w.heap.size < w5.heap.size := by omega
    have y1 : w4.heap.size < w5.heap.size := by omega
    go_wp2
    go_region_with (first | (go_at_call 21; refine (toWeb_any _ a cap l hl2 hs2 (hS5.kept (by repeat (first | apply Kept.drew | exact Kept.refl _)))).mono ?_; rintro e w6 ⟨b3, rfl, hN4, k7, hb3⟩; have k8 : Kept w5 w6 := Kept.trans (by repeat (first | apply Kept.drew | exact Kept.refl _)) k7; have q3 := (Kept.cell (o := 0) k8 y1).trans q1; have hN5 := hN3.kept k8; have Kw6 := Kw5.trans k8) | (go_at_call 23; refine (eqWeb_yes _ (some ⟨b2, 0, none⟩) (some ⟨b3, 0, none⟩) l.length l.length l hl hs (NodesNew.nodes (NodesNew.kept hN5 (by repeat (first | apply Kept.drew | exact Kept.refl _)))) (NodesNew.nodes (NodesNew.kept hN4 (by repeat (first | apply Kept.drew | exact Kept.refl _))))).mono ?_; rintro e w7 ⟨rfl, k9⟩; have Kw7 : Kept w w7 := Kept.trans (Kept.trans Kw6 (by repeat (first | apply Kept.drew | exact Kept.refl _))) k9))
    all_goals
      go_wp2
      go_ret
      exact ⟨rfl, by repeat (first | apply Kept.drew | exact Kw7)⟩
  · rw [szL_neg (by omega)]
    go_wp2
    go_ret
    exact ⟨rfl, k0.trans K1⟩

end Go.Proofs.Ytfjbdapblmlneaa
