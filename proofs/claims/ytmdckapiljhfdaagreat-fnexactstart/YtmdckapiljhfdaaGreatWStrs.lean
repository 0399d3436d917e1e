import Derived.Test.YtmdckapiljhfdaaGreatProg
import Derived.Test.YtmdckapiljhfdaaGreatData
import Derived.WalkKit
import Derived.WalkSpells
import Derived.WalkLawsBesides
import Derived.Deep.OwnRows

/-
  WALKS over strings' lists: szStringS, eqStringS, toStringS.
-/
namespace Go.Proofs.YtmdckapiljhfdaaGreat
open Go.RowKit

/-- How much the strings of a list weigh. -/
def szStrs (l : List ByteArray) : Nat := l.length + (l.map (·.size)).sum

set_option maxHeartbeats 400000 in
theorem szStringS_any (w : World) (a : Option Addr) (cap : Nat) (l : List ByteArray) (left : Int) (hl : l.length ≤ maxLen) (hs : ∀ s ∈ l, s.size ≤ maxLen)
    (hS : Strs w a l) (h0 : 0 ≤ left) (h1 : left ≤ 1048576) :
    Calls Tryz.prog 5 #[.slice a l.length cap, .int .i64 left] w fun e w' => e = .returned (.int .i64 (szL (szStrs l) left)) ∧ w' = w := by
  unfold maxLen at hl
  go_enter Tryz.func5, Tryz.ntmps5
  go_wp2
  · go_ret
    exact ⟨ret_int (szL_neg (by unfold szStrs; omega)).symm, rfl⟩
  · go_loop [1, 5] (fun x i => ∃ k : Nat, k ≤ l.length ∧ i = .int .i64 k ∧ x = .int .i64 (left - l.length - sumTo (·.size) l k) ∧ 0 ≤ left - l.length - sumTo (·.size) l k) (fun _ i => l.length - (intOf i).toNat)
    case atStart => exact ⟨0, Nat.zero_le _, rfl, by simp [sumTo_zero], by simp [sumTo_zero]; omega⟩
    case round =>
      obtain ⟨k, hk, rfl, rfl, hge⟩ := hrel
      by_cases hlt : k < l.length
      · obtain ⟨b, o, rfl, hb, hc⟩ := hS k hlt
        have hsz : (l.getD k ByteArray.empty).size ≤ maxLen := hs _ (by simp [List.getD, hlt])
        have HS : Hid (sumTo (·.size) l (k + 1) = sumTo (·.size) l k + (l.getD k ByteArray.empty).size) := sumTo_succ _ l _ k hlt
        have HT := sumTo_le (·.size) l (k + 1)
        generalize l.getD k ByteArray.empty = s at *
        unfold maxLen at hsz
        go_wp2
        · go_ret
          exact ⟨ret_int (szL_neg (by unfold szStrs; have := HS.out; omega)).symm, rfl⟩
        · go_round
          case rel => exact ⟨k + 1, by omega, by go_num, by rw [HS.out]; go_num, by rw [HS.out]; omega⟩
          case measure => simp [intOf]; omega
      · go_wp2
        go_ret
        have : k = l.length := by omega
        subst this
        rw [sumTo_all] at hge ⊢
        exact ⟨ret_int (by rw [szL_pos (by unfold szStrs; omega)]; unfold szStrs; omega), rfl⟩

/-- Two lists of strings that are the same. -/
theorem eqStringS_yes (w : World) (a a' : Option Addr) (cap cap' : Nat) (l : List ByteArray) (hl : l.length ≤ maxLen)
    (hS : Strs w a l) (hS' : Strs w a' l) :
    Calls Tryz.prog 12 #[.slice a l.length cap, .slice a' l.length cap'] w fun e w' => e = .returned (.bool true) ∧ Kept w w' := by
  unfold maxLen at hl
  go_enter Tryz.func12, Tryz.ntmps12
  go_wp2
  go_loopw [5] (fun i wr => ∃ k : Nat, k ≤ l.length ∧ i = .int .i64 k ∧ Kept w wr) (fun i _ => l.length - (intOf i).toNat)
  case atStart => exact ⟨0, Nat.zero_le _, rfl, Kept.refl _⟩
  case round =>
    obtain ⟨k, hk, rfl, hw⟩ := hrel
    by_cases hlt : k < l.length
    · obtain ⟨b, o, rfl, hb, hc⟩ := hS.kept hw k hlt
      obtain ⟨b', o', rfl, hb', hc'⟩ := hS'.kept hw k hlt
      generalize l.getD k ByteArray.empty = s at *
      go_wp2
      go_region
      all_goals
        go_wp2
        go_roundw
        case rel => exact ⟨k + 1, by omega, by go_num, Below.drew hw⟩
        case measure => simp [intOf]; omega
    · go_wp2
      go_ret
      exact ⟨rfl, hw⟩

theorem Tryz.infoStr : (Tryz.prog.info? 9).map (fun i => (i.zero, i.size, i.bytes)) = some (some (.string ByteArray.empty), 1, 16) := by kernel_rfl

theorem toStringS_any (w : World) (a : Option Addr) (cap : Nat) (l : List ByteArray) (hl : l.length ≤ 1048576)
    (hS : Strs w a l) :
    Calls Tryz.prog 8 #[.slice a l.length cap] w fun e w' => ∃ b, e = .returned (.slice (some ⟨b, 0, none⟩) l.length l.length) ∧ Strs w' (some ⟨b, 0, none⟩) l ∧ Kept w w' ∧ w.heap.size ≤ b := by
  have hmk := run_make_row' (P := Tryz.prog) 25 9 _ _ Tryz.underlying25 Tryz.infoStr rfl .i64 .i64 l.length (by omega) (by omega)
  go_enter Tryz.func8, Tryz.ntmps8
  go_wp2
  clear hmk
  have hrow := World.rowIs_made w (.string ByteArray.empty) l.length 9
  have hkept : Kept w (w.alloc (.cells (madeCells #[.string ByteArray.empty] l.length) 9)) := Below.alloc (Below.refl _ _) (Nat.le_refl _) _
  go_loopw [4] (fun i wr => ∃ k : Nat, k ≤ l.length ∧ i = .int .i64 k ∧ Kept w wr ∧ (∃ f, wr.rowIs w.heap.size 9 l.length f) ∧ ∀ j, j < k → wr.cell? ⟨w.heap.size, j, none⟩ = some (.string (l.getD j ByteArray.empty))) (fun i _ => l.length - (intOf i).toNat)
  case atStart => exact ⟨0, Nat.zero_le _, rfl, hkept, ⟨_, hrow⟩, fun j hj => absurd hj (Nat.not_lt_zero _)⟩
  case round =>
    obtain ⟨k, hk, rfl, hw, ⟨f, hr⟩, hf⟩ := hrel
    clear hrow hkept
    by_cases hlt : k < l.length
    · obtain ⟨b, o, rfl, hb, hc⟩ := hS.kept hw k hlt
      have hfr := hr.frozen k
      have hold := hr.cell hlt
      have HR := hide hr
      have HF := hide hf
      clear hr hf
      generalize hs : l.getD k ByteArray.empty = s at *
      have HSs := hide hs
      clear hs
      go_wp2
      go_roundw
      case rel =>
        refine ⟨k + 1, by omega, by go_num, Below.setCell hw (Nat.le_refl _) _, ⟨_, (unhide HR).set k (.string s)⟩, fun j hj => ?_⟩
        by_cases e : j = k
        · subst e
          rw [World.cell?_setCell_same _ _ _ hold, unhide HSs]
        · rw [World.cell?_setCell_other _ _ _ _ (by simp <;> omega)]
          exact unhide HF j (by omega)
      case measure => simp [intOf]; omega
    · go_wp2
      go_ret
      have : k = l.length := by omega
      subst this
      exact ⟨w.heap.size, rfl, fun j hj => ⟨w.heap.size, 0, rfl, hr.lt, by rw [Nat.zero_add]; exact hf j hj⟩, hw, Nat.le_refl _⟩

end Go.Proofs.YtmdckapiljhfdaaGreat
