import Derived.Test.YtmdckapiljhfdaaGreatWCases

/-
  THE WALK over toCaseS.
-/
namespace Go.Proofs.YtmdckapiljhfdaaGreat
open Go.RowKit

set_option maxHeartbeats 400000 in
theorem toCaseS_any (w : World) (a : Option Addr) (cap : Nat) (l : List CaseD) (hl : l.length ≤ 1048576)
    (hS : Cases w a l) :
    Calls Tryz.prog 89 #[.slice a l.length cap] w fun e w' => ∃ b, e = .returned (.slice (some ⟨b, 0, none⟩) l.length l.length) ∧ Cases w' (some ⟨b, 0, none⟩) l ∧ Kept w w' ∧ w.heap.size ≤ b := by
  have hmk := run_make_many (P := Tryz.prog) 106 122 _ _ _ Tryz.underlying106 Tryz.infoCase .i64 .i64 l.length (by omega) (by omega)
  go_enter Tryz.func89, Tryz.ntmps89
  go_wp2
  clear hmk
  have hrow := Row.made w (madeCells #[.string ByteArray.empty, .int .i64 0] (l.length * 2)) 122
  rw [size_madeCells] at hrow
  have hkept : Kept w (w.alloc (.cells (madeCells #[.string ByteArray.empty, .int .i64 0] (l.length * 2)) 122)) := (Kept.refl _).alloc _
  go_loopw [4] (fun i wr => ∃ k : Nat, k ≤ l.length ∧ i = .int .i64 k ∧ Kept w wr ∧ Row wr w.heap.size (l.length * 2) ∧ ∀ j, j < k → wr.rangeAt w.heap.size (j * 2) (l.getD j CaseD.zero).cells) (fun i _ => l.length - (intOf i).toNat)
  case atStart => exact ⟨0, Nat.zero_le _, rfl, hkept, hrow, fun j hj => absurd hj (Nat.not_lt_zero _)⟩
  case round =>
    obtain ⟨k, hk, rfl, hw, hr, hf⟩ := hrel
    clear hrow hkept
    by_cases hlt : k < l.length
    · obtain ⟨b, o, rfl, hb, hc⟩ := hS.kept hw k hlt
      have HF := hide hf
      clear hf
      generalize hs : l.getD k CaseD.zero = c at *
      have HSs := hide hs
      clear hs
      have c0 := hc 0 _ rfl
      have c1 := hc 1 _ rfl
      simp only [Nat.add_zero] at c0
      clear hc
      go_wp2_with fail
      refine (toCase_any _ c).mono ?_
      rintro e w1 ⟨rfl, hw1⟩
      have hw2 := hw.trans hw1
      have hr1 := hr.kept hw1
      have hth := hr1.there (o := k * 2) (m := 2) (by omega)
      have HR : Hid (Row w1 w.heap.size (l.length * 2)) := hr1
      have HF1 : Hid (∀ j, j < k → w1.rangeAt w.heap.size (j * 2) (l.getD j CaseD.zero).cells) := fun j hj => hw1.range hr.lt (HF.out j hj)
      clear HF c0 c1 hw hw1 hr hr1
      go_wp2_with (refine wpList_store_mid rfl 122 _ _ rfl w.heap.size (k * 2) #[.string c.text, .int .i64 c.goto] rfl rfl hth Tryz.sizeCase (CaseD.one c) ?_)
      go_roundw
      case rel =>
        refine ⟨k + 1, by omega, by go_num, Kept.setCells (Nat.le_refl _) _ _ hw2, Row.setCells _ _ HR.out, fun j hj => ?_⟩
        by_cases e : j = k
        · subst e
          rw [unhide HSs]
          exact World.rangeAt_setCells_same _ _ _ _ hth
        · exact World.rangeAt_setCells_apart (HF1.out j (by omega)) _ _ _ (by simp [CaseD.cells]; omega)
      case measure => simp [intOf]; omega
    · go_wp2
      go_ret
      have : k = l.length := by omega
      subst this
      exact ⟨w.heap.size, rfl, fun j hj => ⟨w.heap.size, 0, rfl, hr.lt, by rw [Nat.zero_add]; exact hf j hj⟩, hw, Nat.le_refl _⟩

end Go.Proofs.YtmdckapiljhfdaaGreat
