import Derived.Test.YtmdckapiljhfdaaGreatWImpl

/-
  THE WALK over the program's soundWays.
-/
namespace Go.Proofs.YtmdckapiljhfdaaGreat
open Go.RowKit

def WaysOk (s : StepD) (n : Int) : Prop := s.cases.length ≤ 5 ∧ CasesOk s n ∧ (0 ≤ s.els ∧ s.els < n) ∧ (-1 ≤ s.fall ∧ s.fall < n)

set_option maxRecDepth 100000 in
set_option maxHeartbeats 1600000 in
theorem soundWays_any (w : World) (s : StepD) (aa ac : Option Addr) (ca cc : Nat) (n : Int) (hs : s.Fits) (hn : 1 ≤ n ∧ n ≤ 20) (hC : Cases w ac s.cases) :
    Calls Tryz.prog 115 #[.agg #[.slice aa s.asks.length ca, .int .i64 s.on, .slice ac s.cases.length cc, .int .i64 s.els, .int .i64 s.fall, .bool s.fin, .bool s.bad, .string s.give], .int .i64 n] w fun e w' => Says e (WaysOk s n) ∧ Kept w w' := by
  have h1 := hs.cases
  unfold maxLen at h1
  obtain ⟨hn0, hn1⟩ := hn
  have k0 : Kept w (w.alloc (.cells #[.slice aa s.asks.length ca, .int .i64 s.on, .slice ac s.cases.length cc, .int .i64 s.els, .int .i64 s.fall, .bool s.fin, .bool s.bad, .string s.give] 150)) := (Kept.refl _).alloc _
  by_cases a1 : (s.cases.length : Int) ≤ 5
  · go_enter Tryz.func115, Tryz.ntmps115
    go_wp2
    go_loopw [16] (fun i wr => ∃ k : Nat, k ≤ s.cases.length ∧ i = .int .i64 k ∧ Kept (w.alloc (.cells #[.slice aa s.asks.length ca, .int .i64 s.on, .slice ac s.cases.length cc, .int .i64 s.els, .int .i64 s.fall, .bool s.fin, .bool s.bad, .string s.give] 150)) wr ∧ ∀ j, j < k → CaseOkAt s n j) (fun i _ => s.cases.length - (intOf i).toNat)
    case atStart => exact ⟨0, Nat.zero_le _, rfl, Kept.refl _, fun j hj => absurd hj (Nat.not_lt_zero _)⟩
    case round =>
      obtain ⟨k, hk, rfl, hw, hg⟩ := hrel
      have HG := hide hg
      clear hg
      have hz1 := hw.size
      simp only [World.size_alloc] at hz1
      by_cases hlt : k < s.cases.length
      · obtain ⟨b, o, rfl, hb, hc⟩ := (hC.kept k0).kept hw k hlt
        have hce : (s.cases.getD k CaseD.zero).text.size ≤ maxLen := (hs.caseEach _ (by simp [List.getD, hlt])).1
        obtain ⟨c, hck⟩ : ∃ c, c = s.cases.getD k CaseD.zero := ⟨_, rfl⟩
        rw [← hck] at hc hce
        have HCK := hide hck
        clear hck
        unfold maxLen at hce
        have c0 := hc 0 _ rfl
        have c1 := hc 1 _ rfl
        simp only [Nat.add_zero] at c0
        clear hc
        by_cases d1 : (c.text.size : Int) ≤ 200
        · by_cases d2 : 0 ≤ c.goto
          · cases d3 : decide (c.goto < n)
            · have d3' : n ≤ c.goto := by simpa using d3
              go_wp2
              go_ret
              exact ⟨Says.no fun h => by have := h.2.1 k hlt; unfold CaseOkAt at this; rw [← HCK.out] at this; obtain ⟨q1, q2, q3⟩ := this; omega, k0.trans (hw.alloc _)⟩
            · have d3' : c.goto < n := by simpa using d3
              go_wp2
              go_roundw
              case rel =>
                refine ⟨k + 1, by omega, by go_num, hw.alloc _, fun j hj => ?_⟩
                by_cases e : j = k
                · subst e
                  unfold CaseOkAt
                  rw [← HCK.out]
                  exact ⟨by omega, by omega, by omega⟩
                · exact unhide HG j (by omega)
              case measure => simp [intOf]; omega
          · go_wp2
            go_ret
            exact ⟨Says.no fun h => by have := h.2.1 k hlt; unfold CaseOkAt at this; rw [← HCK.out] at this; obtain ⟨q1, q2, q3⟩ := this; omega, k0.trans (hw.alloc _)⟩
        · go_wp2
          go_ret
          exact ⟨Says.no fun h => by have := h.2.1 k hlt; unfold CaseOkAt at this; rw [← HCK.out] at this; obtain ⟨q1, q2, q3⟩ := this; omega, k0.trans (hw.alloc _)⟩
      · obtain ⟨hc1, hf1⟩ := hw.rules
        have hcs : Hid (CasesOk s n) := fun j hj => unhide HG j (by omega)
        clear HG
        by_cases b1 : 0 ≤ s.els
        · cases b2 : decide (s.els < n)
          · have b2' : n ≤ s.els := by simpa using b2
            go_wp2
            go_ret
            exact ⟨Says.no fun h => by have := h.2.2; omega, k0.trans hw⟩
          · have b2' : s.els < n := by simpa using b2
            cases b3 : (s.fall == -1)
            · by_cases b4 : 0 ≤ s.fall
              · cases b5 : decide (s.fall < n)
                · have b5' : n ≤ s.fall := by simpa using b5
                  go_wp2
                  go_ret
                  exact ⟨Says.no fun h => by have := h.2.2; omega, k0.trans hw⟩
                · have b5' : s.fall < n := by simpa using b5
                  go_wp2
                  go_ret
                  exact ⟨Says.yes ⟨by omega, hcs.out, ⟨by omega, by omega⟩, ⟨by omega, by omega⟩⟩, k0.trans hw⟩
              · go_wp2
                go_ret
                exact ⟨Says.no fun h => by have := h.2.2; simp at b3; omega, k0.trans hw⟩
            · go_wp2
              go_ret
              exact ⟨Says.yes ⟨by omega, hcs.out, ⟨by omega, by omega⟩, by simp at b3; omega⟩, k0.trans hw⟩
        · go_wp2
          go_ret
          exact ⟨Says.no fun h => by have := h.2.2; omega, k0.trans hw⟩
  · go_enter Tryz.func115, Tryz.ntmps115
    go_wp2
    go_ret
    exact ⟨Says.no fun h => by have := h.1; omega, k0⟩

end Go.Proofs.YtmdckapiljhfdaaGreat
