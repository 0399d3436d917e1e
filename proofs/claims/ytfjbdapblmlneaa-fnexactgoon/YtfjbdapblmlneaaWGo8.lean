import Derived.Test.YtfjbdapblmlneaaWGo7b
import Derived.Test.YtfjbdapblmlneaaWAnswers2
import Derived.Test.YtfjbdapblmlneaaWLaw

/-
  THE WALK over laws.FnExactGoOn.
-/
namespace Go.Proofs.Ytfjbdapblmlneaa
open Go.RowKit

set_option maxHeartbeats 400000 in
theorem eqGone_yes (w : World) (c : Int) (o : Bool) (t : Int) (x : ByteArray) :
    Calls Try.prog 17 #[.agg #[.int .i64 c, .bool o, .int .i64 t, .string x], .agg #[.int .i64 c, .bool o, .int .i64 t, .string x]] w fun e w' => e = .returned (.bool true) ∧ Kept w w' := by
  go_enter Try.func17, Try.ntmps17
  go_wp2
  go_ret
  exact ⟨rfl, by repeat (first | apply Kept.drew | apply Kept.alloc | exact Kept.refl _)⟩

theorem small_of_szA {l : List AnswerD} {n : Nat} (h : szAnswersD l ≤ n) : l.length ≤ n := by
  unfold szAnswersD at h
  omega

theorem goneCells {w wi : World} {x y z u : Value} {t : TypeId} (K : Kept (w.alloc (.cells #[x, y, z, u] t)) wi) :
    wi.cell? ⟨w.heap.size, 0, none⟩ = some x ∧ wi.cell? ⟨w.heap.size, 1, none⟩ = some y ∧ wi.cell? ⟨w.heap.size, 2, none⟩ = some z ∧ wi.cell? ⟨w.heap.size, 3, none⟩ = some u := by
  refine ⟨?_, ?_, ?_, ?_⟩
  all_goals
    rw [K.cell (by simp)]
    simp

set_option maxRecDepth 100000 in
set_option maxHeartbeats 3200000 in
theorem lawGoOn (w : World) (cost at' : Int) (a d : Option Addr) (cap dcap : Nat) (l : List StepD) (ans : List AnswerD) (hl : l.length ≤ maxLen) (hs : ∀ s ∈ l, s.Fits) (hS : Steps w a l)
    (hal : ans.length ≤ maxLen) (has : ∀ c ∈ ans, c.text.size ≤ maxLen) (hD : Answers w d ans) :
    Calls Try.prog 4 #[.agg #[.int .i64 cost, .slice a l.length cap], .int .i64 at', .slice d ans.length dcap] w fun e w' => e = .returned (.bool true) ∧ Kept w w' := by
  have k0 : Kept w (w.alloc (.cells #[.int .i64 cost, .slice a l.length cap] 24)) := (Kept.refl _).alloc _
  go_enter Try.func4, Try.ntmps4
  go_wp2_with fail
  refine (szAction_any _ cost a cap l 1048576 hl hs (hS.kept k0) (by omega) (by omega)).mono ?_
  rintro e w1 ⟨rfl, K1⟩
  by_cases hle : (szSteps l : Int) ≤ 1048576
  · rw [szL_pos hle]
    obtain ⟨hl2, hs2⟩ := small_of_sz (l := l) (n := 1048576) (by omega)
    go_wp2_with fail
    refine (szAnswerS_any _ d dcap ans _ hal has ((hD.kept k0).kept K1) (by omega) (by omega)).mono ?_
    rintro e w2 ⟨rfl, k2⟩
    have K2 := K1.trans k2
    clear K1 k2
    by_cases hle2 : (szAnswersD ans : Int) ≤ 1048576 - szSteps l
    · rw [szL_pos hle2]
      have hal2 : ans.length ≤ 1048576 := small_of_szA (n := 1048576) (by omega)
      obtain ⟨p1, p2⟩ := boxCells K2
      go_wp2_with fail
      refine (toAction_any _ cost a cap l hl2 hs2 ((hS.kept k0).kept K2)).mono ?_
      rintro e w3 ⟨b1, rfl, hN1, k3, hb1⟩
      have K3 := K2.trans k3
      clear p1 p2 K2 k3 hb1
      go_wp2_with fail
      refine (toAnswerS_any _ d dcap ans hal2 ((hD.kept k0).kept K3)).mono ?_
      rintro e w4 ⟨b2, rfl, hM1, k4, hb2⟩
      have K4 := K3.trans k4
      have hN1' := hN1.kept k4
      clear K3 k4 hb2 hN1
      go_wp2_with fail
      refine (specGoOn_any _ cost at' (some ⟨b1, 0, none⟩) (some ⟨b2, 0, none⟩) l.length ans.length l ans hl hs hN1'.steps hal has hM1).mono ?_
      rintro e w5 ⟨⟨g, rfl, hg⟩, k5⟩
      have K5 := K4.trans k5
      clear K4 k5 hN1' hM1
      obtain ⟨gc, go, gt, gx⟩ := g
      have HG := hide hg
      clear hg
      have hcells : (GoneD.mk gc go gt gx).cells.toArray = #[.int .i64 gc, .bool go, .int .i64 gt, .string gx] := rfl
      rw [hcells]
      clear hcells
      have k6 : Kept w5 (w5.alloc (.cells #[.int .i64 gc, .bool go, .int .i64 gt, .string gx] 36)) := (Kept.refl _).alloc _
      have K6 := K5.trans k6
      clear K5 k6
      obtain ⟨p1, p2⟩ := boxCells K6
      go_wp2_with fail
      refine (toAction_any _ cost a cap l hl2 hs2 ((hS.kept k0).kept K6)).mono ?_
      rintro e w7 ⟨b3, rfl, hN2, k7, hb3⟩
      have K7 := K6.trans k7
      clear p1 p2 hb3
      have k8 : Kept w7 (w7.alloc (.cells #[.int .i64 cost, .slice (some ⟨b3, 0, none⟩) l.length l.length] 29)) := (Kept.refl _).alloc _
      go_wp2_with fail
      refine (toAnswerS_any _ d dcap ans hal2 (((hD.kept k0).kept K7).kept k8)).mono ?_
      rintro e w9 ⟨b4, rfl, hM2, k9, hb4⟩
      obtain ⟨q1, q2⟩ := boxCells k9
      have hN3 := (hN2.kept k8).kept k9
      have K9 := (K7.trans k8).trans k9
      have kg := (k7.trans k8).trans k9
      clear hb4 hN2
      go_wp2_with fail
      refine (implGoOn_any _ cost at' (some ⟨b3, 0, none⟩) (some ⟨b4, 0, none⟩) l.length ans.length l ans hl hs hN3.steps hal has hM2).mono ?_
      rintro e w10 ⟨⟨g', rfl, hg'⟩, k10⟩
      obtain rfl : GoneD.mk gc go gt gx = g' := HG.out.unique hg'
      clear hg' HG
      have hcells : (GoneD.mk gc go gt gx).cells.toArray = #[.int .i64 gc, .bool go, .int .i64 gt, .string gx] := rfl
      rw [hcells]
      clear hcells
      have ka : Kept w10 (w10.alloc (.cells #[.int .i64 gc, .bool go, .int .i64 gt, .string gx] 36)) := (Kept.refl _).alloc _
      obtain ⟨u0, u1, u2, u3⟩ := goneCells (kg.trans k10)
      have h5 := (kg.trans k10).size
      simp only [World.size_alloc] at h5
      have h5' : w5.heap.size < w10.heap.size := by omega
      go_wp2_with fail
      refine (eqGone_yes _ gc go gt gx).mono ?_
      rintro e w11 ⟨rfl, k11⟩
      have kb : Kept w9 w11 := (k10.trans ka).trans k11
      have hN4 := hN3.kept kb
      have hM3 := hM2.kept kb
      have K11 := K9.trans kb
      have kx := k9.trans kb
      obtain ⟨p1, p2⟩ := boxCells K11
      obtain ⟨q1, q2⟩ := boxCells kx
      have Kw := k0.trans K11
      have hS5 := hS.kept Kw
      have hD5 := hD.kept Kw
      have hzx := kx.size
      have hzy := K11.size
      simp only [World.size_alloc] at hzx hzy
      have y1 : w7.heap.size < w11.heap.size := by omega
      have y0 : w.heap.size < w11.heap.size := by omega
      have hs3 : ∀ s ∈ l, s.asks.length ≤ maxLen ∧ s.cases.length ≤ maxLen := fun s hs' => ⟨(hs s hs').asks, (hs s hs').cases⟩
      clear u0 u1 u2 u3 h5 h5' ka k10 k11 kg kb K7 K9 k7 k8 k9 K6 hN3 hM2 K11 kx
      go_wp2
      go_region_with (first | (go_at_call 10; refine (toAction_any _ cost a cap l hl2 hs2 (hS5.kept (by repeat (first | apply Kept.drew | exact Kept.refl _)))).mono ?_; rintro e w12 ⟨b5, rfl, hN6, k12, hb5⟩; have k13 : Kept w11 w12 := Kept.trans (by repeat (first | apply Kept.drew | exact Kept.refl _)) k12; have q3 := (Kept.cell (o := 0) k13 y1).trans q1; have q4 := (Kept.cell (o := 1) k13 y1).trans q2; have hN5 := hN4.kept k13) | (go_at_call 12; refine (eqAction_yes _ cost (some ⟨b3, 0, none⟩) (some ⟨b5, 0, none⟩) l.length l.length l hl hs3 (StepsNew.steps (StepsNew.kept hN5 (by repeat (first | apply Kept.drew | exact Kept.refl _)))) (StepsNew.steps (StepsNew.kept hN6 (by repeat (first | apply Kept.drew | exact Kept.refl _))))).mono ?_; rintro e w13 ⟨rfl, k14⟩; have k15 : Kept w11 w13 := Kept.trans (Kept.trans k13 (by repeat (first | apply Kept.drew | exact Kept.refl _))) k14))
      all_goals
        go_wp2_with fail
        refine (toAnswerS_any _ d dcap ans hal2 (hD5.kept (by repeat (first | apply Kept.drew | exact k15)))).mono ?_
        rintro e w14 ⟨b6, rfl, hM4, k16, hb6⟩
        have k17 : Kept w11 w14 := Kept.trans (by repeat (first | apply Kept.drew | exact k15)) k16
        go_wp2_with fail
        refine (eqAnswerS_yes _ (some ⟨b4, 0, none⟩) (some ⟨b6, 0, none⟩) ans.length ans.length ans hal (hM3.kept k17) hM4).mono ?_
        rintro e w15 ⟨rfl, k18⟩
        have k19 := Kw.trans (k17.trans k18)
        go_wp2
        go_ret
        exact ⟨rfl, k19⟩
    · rw [szL_neg (by omega)]
      go_wp2
      go_ret
      exact ⟨rfl, k0.trans K2⟩
  · rw [szL_neg (by omega)]
    go_wp2
    go_ret
    exact ⟨rfl, k0.trans K1⟩

end Go.Proofs.Ytfjbdapblmlneaa
