import Derived.Test.YtmdckapiljhfdaaGreatOTo2
import Derived.Test.YtmdckapiljhfdaaGreatShelf

/-
  WALKS over the program's copies: strings.Clone, copyEach of strings, copyCase, copyEach of cases, copyStep.
-/
namespace Go.Proofs.YtmdckapiljhfdaaGreat
open Go.RowKit

theorem clone_any (w : World) (s : ByteArray) (hs : s.size ≤ 1048576) : Calls Tryz.prog 47 #[.string s] w fun e w' => e = .returned (.string s) ∧ Kept w w' := by
  go_enter Tryz.func47, Tryz.ntmps47
  go_wp2_with fail
  refine (Tryz.stringslite_Clone s _ (by omega)).mono ?_
  rintro e w1 ⟨rfl, k1⟩
  go_wp2
  go_ret
  exact ⟨rfl, k1⟩

set_option maxHeartbeats 800000 in
theorem copyStrs_in (w : World) (a : Option Addr) (cap : Nat) (l : List ByteArray) (hl : l.length ≤ 1048576) (hs : ∀ s ∈ l, s.size ≤ 1048576) (hS : Strs w a l) :
    Calls Tryz.prog 46 #[.slice a l.length cap, .func (.func 47) #[] #[]] w fun e w' => ∃ a', e = .returned (.slice a' l.length l.length) ∧ StrsIn w' w.heap.size w'.heap.size a' l ∧ Kept w w' := by
  by_cases h0 : l.length = 0
  · have hnil : l = [] := List.eq_nil_of_length_eq_zero h0
    subst hnil
    go_enter Tryz.func46, Tryz.ntmps46
    go_wp2
    go_ret
    exact ⟨none, rfl, .inl rfl, Kept.refl _⟩
  · have hmk := run_make_row' (P := Tryz.prog) 25 9 _ _ Tryz.underlying25 Tryz.infoStr rfl .i64 .i64 l.length (by omega) (by omega)
    have h00 : ((l.length : Int) == 0) = false := by simpa using h0
    go_enter Tryz.func46, Tryz.ntmps46
    go_wp2
    clear hmk h00
    have hrow : Row (w.alloc (.cells (madeCells #[.string ByteArray.empty] l.length) 9)) w.heap.size l.length := ⟨_, _, World.rowIs_made w (.string ByteArray.empty) l.length 9⟩
    have hkept : Kept w (w.alloc (.cells (madeCells #[.string ByteArray.empty] l.length) 9)) := Below.alloc (Below.refl _ _) (Nat.le_refl _) _
    go_loopw [16] (fun i wr => ∃ k : Nat, k ≤ l.length ∧ i = .int .i64 k ∧ Kept w wr ∧ Row wr w.heap.size l.length ∧ ∀ j, j < k → wr.cell? ⟨w.heap.size, j, none⟩ = some (.string (l.getD j ByteArray.empty))) (fun i _ => l.length - (intOf i).toNat)
    case atStart => exact ⟨0, Nat.zero_le _, rfl, hkept, hrow, fun j hj => absurd hj (Nat.not_lt_zero _)⟩
    case round =>
      obtain ⟨k, hk, rfl, hw, hr, hf⟩ := hrel
      clear hrow hkept
      have HF := hide hf
      by_cases hlt : k < l.length
      · obtain ⟨b, o, rfl, hb, hc⟩ := hS.kept hw k hlt
        have hsz := hs (l.getD k ByteArray.empty) (by simp [List.getD, hlt])
        obtain ⟨s, hsd⟩ : ∃ s, s = l.getD k ByteArray.empty := ⟨_, rfl⟩
        rw [← hsd] at hc hsz
        have HSd := hide hsd
        clear hsd hf
        have hrl := hr.lt
        go_wp2_with fail
        refine (clone_any _ s hsz).mono ?_
        rintro e w1 ⟨rfl, k1⟩
        have hr1 := hr.kept k1
        have HR1 := hide hr1
        have HF1 : Hid (∀ j, j < k → w1.cell? ⟨w.heap.size, j, none⟩ = some (.string (l.getD j ByteArray.empty))) := fun j hj => by rw [k1.cell hrl]; exact HF.out j hj
        obtain ⟨⟨old, hcell⟩, hfroz⟩ := hr1.at hlt
        have hw1 := hw.trans k1
        clear HF hr hr1 hw k1 hc
        go_wp2
        go_roundw
        case rel =>
          refine ⟨k + 1, by omega, by go_num, hw1.setCell (Nat.le_refl _) _, HR1.out.set _ rfl _, fun j hj => ?_⟩
          by_cases e : j = k
          · subst e
            rw [World.cell?_setCell_same _ _ _ hcell, HSd.out]
          · rw [World.cell?_setCell_other _ _ _ _ (by simp <;> omega)]
            exact HF1.out j (by omega)
        case measure => simp [intOf]; omega
      · have : k = l.length := by omega
        subst this
        go_wp2
        go_ret
        exact ⟨_, rfl, .inr ⟨w.heap.size, rfl, Nat.le_refl _, hr.lt, hr, HF.out⟩, hw⟩

end Go.Proofs.YtmdckapiljhfdaaGreat
