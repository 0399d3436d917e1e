import Derived.Test.YtmdckapiljhfdaaGreatOMark1

/-
  WALKS over marks: markCaseS, heldCaseS.
-/
namespace Go.Proofs.YtmdckapiljhfdaaGreat
open Go.RowKit

/-- A mark, at a number. -/
theorem markM (m : Nat) (h0 : 0 < m) (h1 : m ≤ 4611686018427387904) : ∃ s, s = mtext m ∧ ∀ W, Calls Tryz.prog 28 #[.int .i64 (m : Int)] W fun e w' => e = .returned (.string s) ∧ Kept W w' :=
  ⟨_, rfl, fun W => markText_any W m h0 h1⟩

/-- Two cells, one after the other. -/
theorem range2 {w : World} {b o : Nat} {x y : Value} (h0 : w.cell? ⟨b, o, none⟩ = some x) (h1 : w.cell? ⟨b, o + 1, none⟩ = some y) : w.rangeAt b o [x, y] := by
  intro i v hv
  match i, hv with
  | 0, hv => simp at hv; subst hv; exact h0
  | 1, hv => simp at hv; subst hv; exact h1
  | i + 2, hv => simp at hv

theorem two_set {w : World} {b o : Nat} {x y old old1 : Value} (h0 : w.cell? ⟨b, o, none⟩ = some old) (h1 : w.cell? ⟨b, o + 1, none⟩ = some old1) : ((w.setCell ⟨b, o, none⟩ x).setCell ⟨b, o + 1, none⟩ y).rangeAt b o [x, y] := by
  have h2 : (w.setCell ⟨b, o, none⟩ x).cell? ⟨b, o + 1, none⟩ = some old1 := by rw [World.cell?_setCell_other _ _ _ _ (by simp)]; exact h1
  refine range2 ?_ ?_
  · rw [World.cell?_setCell_other _ _ _ _ (by simp), World.cell?_setCell_same _ _ _ h0]
  · rw [World.cell?_setCell_same _ _ _ h2]

set_option maxHeartbeats 800000 in
theorem markCaseS_any (w : World) (lo hi : Nat) (a : Option Addr) (cap : Nat) (l : List CaseD) (k : Nat) (h0 : 0 < k) (h1 : k + l.length * 2 ≤ 4611686018427387904) (hS : CasesIn w lo hi a l) :
    Calls Tryz.prog 68 #[.slice a l.length cap, .int .i64 k] w fun e w' => e = .returned (.int .i64 ((k + l.length * 2 : Nat) : Int)) ∧ CasesIn w' lo hi a (markCases l k) ∧ KeptBut lo hi w w' := by
  rcases hS with rfl | ⟨B, rfl, hlo, hhi, hr, hf⟩
  · go_enter Tryz.func68, Tryz.ntmps68
    go_wp2
    go_loopw [1, 5] (fun x i wr => x = .int .i64 k ∧ i = .int .i64 0 ∧ wr = w) (fun _ _ _ => 0)
    case atStart => exact ⟨rfl, rfl, rfl⟩
    case round =>
      obtain ⟨rfl, rfl, rfl⟩ := hrel
      go_wp2
      go_ret
      exact ⟨by simp, .inl rfl, KeptBut.refl _ _ _⟩
  · go_enter Tryz.func68, Tryz.ntmps68
    go_wp2
    go_loopw [1, 5] (fun x i wr => ∃ j m : Nat, j ≤ l.length ∧ i = .int .i64 j ∧ x = .int .i64 m ∧ m = k + j * 2 ∧ KeptBut lo hi w wr ∧ Row wr B (l.length * 2) ∧ ∀ t, t < j → wr.rangeAt B (t * 2) (markCase (k + t * 2)).cells) (fun _ i _ => l.length - (intOf i).toNat)
    case atStart => exact ⟨0, k, Nat.zero_le _, rfl, rfl, by omega, KeptBut.refl _ _ _, hr, fun t ht => absurd ht (Nat.not_lt_zero _)⟩
    case round =>
      obtain ⟨j, m, hj, rfl, rfl, hm, hw, hr', hf'⟩ := hrel
      clear hr hf
      have HR := hide hr'
      have HF := hide hf'
      have HMn := hide hm
      by_cases hlt : j < l.length
      · have hrl := hr'.lt
        have hm2 : m + 2 ≤ 4611686018427387904 := by omega
        obtain ⟨s, hs, hmt⟩ := markM m (by omega) (by omega)
        have HS := hide hs
        have HM1 := hide hmt
        clear hs hmt hf' hm
        go_wp2_with fail
        refine (HM1.out _).mono ?_
        rintro e w1 ⟨rfl, k1⟩
        have hr1 := HR.out.kept k1
        have HR1 := hide hr1
        have HF1 : Hid (∀ t, t < j → w1.rangeAt B (t * 2) (markCase (k + t * 2)).cells) := fun t ht => k1.range hrl (HF.out t ht)
        obtain ⟨⟨old, hcell⟩, hfroz⟩ := hr1.at (i := j * 2) (by omega)
        obtain ⟨⟨old1, hcell1⟩, hfroz1⟩ := hr1.at (i := j * 2 + 1) (by omega)
        have hw1 := hw.trans (.of_kept k1)
        clear HR HF hr' hr1 hw
        go_wp2
        go_roundw
        case rel =>
          refine ⟨j + 1, m + 2, by omega, by go_num, by go_num, by have := HMn.out; omega, (hw1.setCell hlo hhi _).setCell hlo hhi _, (HR1.out.set _ rfl _).set _ rfl _, fun t ht => ?_⟩
          by_cases e : t = j
          · subst e
            have e1 : markCase (k + t * 2) = ⟨s, ((m + 1 : Nat) : Int)⟩ := by unfold markCase; rw [← HMn.out, HS.out]
            rw [e1]
            exact two_set hcell hcell1
          · intro i v hv
            have hi2 : i < 2 := by have := (List.getElem?_eq_some_iff.1 hv).1; simpa [CaseD.cells] using this
            rw [World.cell?_setCell_other _ _ _ _ (by simp <;> omega), World.cell?_setCell_other _ _ _ _ (by simp <;> omega)]
            exact HF1.out t (by omega) i v hv
        case measure => simp [intOf]; omega
      · have : j = l.length := by omega
        subst this
        go_wp2
        go_ret
        refine ⟨ret_int (by have := HMn.out; omega), .inr ⟨B, rfl, hlo, hhi, by rw [markCases_length]; exact HR.out, fun i hi' => ?_⟩, hw⟩
        rw [markCases_length] at hi'
        rw [markCases_getD _ _ _ hi']
        exact HF.out i hi'

end Go.Proofs.YtmdckapiljhfdaaGreat
