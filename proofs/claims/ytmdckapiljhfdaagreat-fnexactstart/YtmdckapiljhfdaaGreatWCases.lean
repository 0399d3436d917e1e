import Derived.Test.YtmdckapiljhfdaaGreatProg
import Derived.Test.YtmdckapiljhfdaaGreatData
import Derived.WalkKit
import Derived.WalkSpells
import Derived.WalkLawsBesides
import Derived.Deep.OwnRows
import Derived.Deep.RegionWith

/-
  WALKS over cases: szCase, szCaseS, toCase, toCaseS, eqCase, eqCaseS.
-/
namespace Go.Proofs.YtmdckapiljhfdaaGreat
open Go.RowKit

set_option maxHeartbeats 400000 in
theorem szCase_any (w : World) (c : CaseD) (left : Int) (hs : c.text.size ≤ maxLen) (h0 : 0 ≤ left) (h1 : left ≤ 1048576) :
    Calls Tryz.prog 91 #[.agg #[.string c.text, .int .i64 c.goto], .int .i64 left] w fun e w' => e = .returned (.int .i64 (szL c.text.size left)) ∧ Kept w w' := by
  unfold maxLen at hs
  go_enter Tryz.func91, Tryz.ntmps91
  go_wp2
  · go_ret
    exact ⟨ret_int (szL_neg (by omega)).symm, (Kept.refl _).alloc _⟩
  · go_ret
    exact ⟨ret_int (szL_pos (by omega)).symm, (Kept.refl _).alloc _⟩

set_option maxHeartbeats 400000 in
theorem toCase_any (w : World) (c : CaseD) :
    Calls Tryz.prog 92 #[.agg #[.string c.text, .int .i64 c.goto]] w fun e w' => e = .returned (.agg #[.string c.text, .int .i64 c.goto]) ∧ Kept w w' := by
  go_enter Tryz.func92, Tryz.ntmps92
  go_wp2
  exact bodyPost_ret (v := .agg #[.string c.text, .int .i64 c.goto]) (by simp [results, Tryz.results92, go_sem]) rfl ⟨rfl, by
    repeat (first | apply Kept.alloc | (refine Kept.setCell ?_ (by simp) _) | exact Kept.refl _)⟩

set_option maxHeartbeats 400000 in
theorem eqCase_yes (w : World) (c : CaseD) :
    Calls Tryz.prog 93 #[.agg #[.string c.text, .int .i64 c.goto], .agg #[.string c.text, .int .i64 c.goto]] w fun e w' => e = .returned (.bool true) ∧ Kept w w' := by
  go_enter Tryz.func93, Tryz.ntmps93
  go_wp2
  go_ret
  exact ⟨rfl, by repeat (first | apply Kept.alloc | apply Kept.drew | exact Kept.refl _)⟩

/-- How much the cases of a list weigh. -/
def szCases (l : List CaseD) : Nat := l.length + (l.map (·.text.size)).sum

set_option maxHeartbeats 400000 in
theorem szCaseS_any (w : World) (a : Option Addr) (cap : Nat) (l : List CaseD) (left : Int) (hl : l.length ≤ maxLen) (hs : ∀ c ∈ l, c.text.size ≤ maxLen)
    (hS : Cases w a l) (h0 : 0 ≤ left) (h1 : left ≤ 1048576) :
    Calls Tryz.prog 88 #[.slice a l.length cap, .int .i64 left] w fun e w' => e = .returned (.int .i64 (szL (szCases l) left)) ∧ Kept w w' := by
  unfold maxLen at hl
  go_enter Tryz.func88, Tryz.ntmps88
  go_wp2
  · go_ret
    exact ⟨ret_int (szL_neg (by unfold szCases; omega)).symm, Kept.refl _⟩
  · go_loopw [1, 5] (fun x i wr => ∃ k : Nat, k ≤ l.length ∧ i = .int .i64 k ∧ x = .int .i64 (left - l.length - sumTo (·.text.size) l k) ∧ 0 ≤ left - l.length - sumTo (·.text.size) l k ∧ Kept w wr) (fun _ i _ => l.length - (intOf i).toNat)
    case atStart => exact ⟨0, Nat.zero_le _, rfl, by simp [sumTo_zero], by simp [sumTo_zero]; omega, Kept.refl _⟩
    case round =>
      obtain ⟨k, hk, rfl, rfl, hge, hw⟩ := hrel
      by_cases hlt : k < l.length
      · obtain ⟨b, o, rfl, hb, hc⟩ := hS.kept hw k hlt
        have hsz : (l.getD k CaseD.zero).text.size ≤ maxLen := hs _ (by simp [List.getD, hlt])
        have HS : Hid (sumTo (·.text.size) l (k + 1) = sumTo (·.text.size) l k + (l.getD k CaseD.zero).text.size) := sumTo_succ _ l _ k hlt
        have HT := sumTo_le (·.text.size) l (k + 1)
        generalize l.getD k CaseD.zero = c at *
        have c0 := hc 0 _ rfl
        have c1 := hc 1 _ rfl
        simp only [Nat.add_zero] at c0
        go_wp2_with fail
        refine (szCase_any _ c _ hsz (by omega) (by omega)).mono ?_
        rintro e w1 ⟨rfl, hw1⟩
        have hw2 := hw.trans hw1
        by_cases hle : (c.text.size : Int) ≤ left - l.length - sumTo (·.text.size) l k
        · rw [szL_pos hle]
          clear c0 c1 hc hw hw1
          go_wp2
          go_roundw
          case rel => exact ⟨k + 1, by omega, by go_num, by rw [HS.out]; go_num, by rw [HS.out]; omega, hw2⟩
          case measure => simp [intOf]; omega
        · rw [szL_neg (by omega)]
          clear c0 c1 hc hw hw1
          go_wp2
          go_ret
          exact ⟨ret_int (szL_neg (by unfold szCases; have := HS.out; omega)).symm, hw2⟩
      · go_wp2
        go_ret
        have : k = l.length := by omega
        subst this
        rw [sumTo_all] at hge ⊢
        exact ⟨ret_int (by rw [szL_pos (by unfold szCases; omega)]; unfold szCases; omega), hw⟩

set_option maxHeartbeats 400000 in
theorem eqCaseS_yes (w : World) (a a' : Option Addr) (cap cap' : Nat) (l : List CaseD) (hl : l.length ≤ maxLen)
    (hS : Cases w a l) (hS' : Cases w a' l) :
    Calls Tryz.prog 90 #[.slice a l.length cap, .slice a' l.length cap'] w fun e w' => e = .returned (.bool true) ∧ Kept w w' := by
  unfold maxLen at hl
  go_enter Tryz.func90, Tryz.ntmps90
  go_wp2
  go_loopw [5] (fun i wr => ∃ k : Nat, k ≤ l.length ∧ i = .int .i64 k ∧ Kept w wr) (fun i _ => l.length - (intOf i).toNat)
  case atStart => exact ⟨0, Nat.zero_le _, rfl, Kept.refl _⟩
  case round =>
    obtain ⟨k, hk, rfl, hw⟩ := hrel
    by_cases hlt : k < l.length
    · obtain ⟨b, o, rfl, hb, hc⟩ := hS.kept hw k hlt
      obtain ⟨b', o', rfl, hb', hc'⟩ := hS'.kept hw k hlt
      generalize l.getD k CaseD.zero = c at *
      have c0 := hc 0 _ rfl
      have c1 := hc 1 _ rfl
      have d0 := hc' 0 _ rfl
      have d1 := hc' 1 _ rfl
      simp only [Nat.add_zero] at c0 d0
      clear hc hc'
      go_wp2
      go_region_with (go_at_call 93; refine (eqCase_yes _ c).mono ?_; rintro e w1 ⟨rfl, hw1⟩)
      all_goals
        go_wp2
        go_roundw
        case rel => exact ⟨k + 1, by omega, by go_num, by repeat (first | assumption | apply Kept.drew | refine Kept.trans ?_ (by assumption))⟩
        case measure => simp [intOf]; omega
    · go_wp2
      go_ret
      exact ⟨rfl, hw⟩

theorem Tryz.sizeCase : (Tryz.prog.info? 122).map (·.size) = some 2 := by kernel_rfl
theorem Tryz.infoCase : (Tryz.prog.info? 122).map (fun i => (i.zero, i.size, i.bytes)) = some (some (.agg #[.string ByteArray.empty, .int .i64 0]), 2, 24) := by kernel_rfl

end Go.Proofs.YtmdckapiljhfdaaGreat
