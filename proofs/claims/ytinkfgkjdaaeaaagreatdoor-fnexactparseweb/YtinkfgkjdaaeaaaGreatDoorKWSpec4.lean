import Derived.Test.YtinkfgkjdaaeaaaGreatDoorKWSpec

namespace Go.Proofs.YtinkfgkjdaaeaaaGreatDoor
open Go.RowKit

set_option maxRecDepth 100000 in
set_option maxHeartbeats 1600000 in
theorem l1StepOk_askYes (w : World) (s : StepD) (aa ac : Option Addr) (ca cc : Nat) (n : Int) (hs : s.Fits) (hn : 0 ≤ n ∧ n ≤ 20)
    (hA : Strs w aa s.asks) (hC : Cases w ac s.cases) (hfin : s.fin = false) (hF : FrontOk s n) :
    Calls Tryz.prog 44 #[.agg #[.slice aa s.asks.length ca, .int .i64 s.on, .slice ac s.cases.length cc, .int .i64 s.els, .int .i64 s.fall, .bool s.fin, .bool s.bad, .string s.give], .int .i64 n] w
      fun e w' => Says e (CasesOk s n) ∧ Kept w w' := by
  rw [hfin]
  obtain ⟨hn0, hn1⟩ := hn
  have h1 := hs.asks
  have h2 := hs.cases
  have h3 := hs.give
  unfold maxLen at h1 h2 h3
  have hgive := empty_iff s.give
  have HGV := hide hgive
  clear hgive
  obtain ⟨hbad, hgv, ha5, hnames, b1, ⟨b2, b3⟩, ⟨b4, b5⟩, hon⟩ := hF
  have hge : s.give.toList = [] := HGV.out.2 hgv
  have HN := hide hnames
  rw [hbad]
  have k0 : Kept w (w.alloc (.cells #[.slice aa s.asks.length ca, .int .i64 s.on, .slice ac s.cases.length cc, .int .i64 s.els, .int .i64 s.fall, .bool false, .bool false, .string s.give] 59)) := (Kept.refl _).alloc _
  clear hgv hnames HGV
  have b3' : s.els ≤ n - 1 := by omega
  have b5' : s.fall ≤ n - 1 := by omega
  have HON := hide hon
  clear hon
  go_enter Tryz.func44, Tryz.ntmps44
  go_wp2_with fail
  refine (l1Names_any _ aa ca s.asks hs.asks hs.askEach (hA.kept k0)).mono ?_
  rintro e w1 ⟨hsay, k1⟩
  have k2 := k0.trans k1
  rcases hsay.cases with ⟨rfl, hyes⟩ | ⟨rfl, hno⟩
  · clear hyes hsay
    obtain ⟨hc1, hf1⟩ := k1.rules
    have hz1 := k1.size
    simp only [World.size_alloc] at hz1
    clear k0 k1
    have hC2 := hC.kept k2
    clear hC hA
    by_cases hz : s.on = 0
    · have ho : (s.on != 0) = false := by rw [hz]; rfl
      clear hz
      go_wp2
      go_loop [5] (fun i => ∃ k : Nat, k ≤ s.cases.length ∧ i = .int .i64 k ∧ ∀ j, j < k → CaseOkAt s n j) (fun i => s.cases.length - (intOf i).toNat)
      case atStart => exact ⟨0, Nat.zero_le _, rfl, fun j hj => absurd hj (Nat.not_lt_zero _)⟩
      case round =>
        obtain ⟨k, hk, rfl, hg⟩ := hrel
        have HG := hide hg
        clear hg
        by_cases hlt : k < s.cases.length
        · obtain ⟨b, o, rfl, hb, hc⟩ := hC2 k hlt
          have hce : (s.cases.getD k CaseD.zero).text.size ≤ maxLen := (hs.caseEach _ (by simp [List.getD, hlt])).1
          obtain ⟨c, hck⟩ : ∃ c, c = s.cases.getD k CaseD.zero := ⟨_, rfl⟩
          rw [← hck] at hc hce
          have HCK := hide hck
          clear hck
          unfold maxLen at hce
          have c0 := hc 0 _ rfl
          have c1 := hc 1 _ rfl
          simp only [Nat.add_zero] at c0
          clear hc
          by_cases d1 : (c.text.size : Int) ≤ 200
          · by_cases d2 : 0 ≤ c.goto
            · cases d3 : decide (c.goto ≤ n - 1)
              · have d3' : n - 1 < c.goto := by simpa using d3
                go_wp2
                go_ret
                exact ⟨Says.no fun h => by have := h k hlt; unfold CaseOkAt at this; rw [← HCK.out] at this; obtain ⟨q1, q2, q3⟩ := this; omega, k2⟩
              · have d3' : c.goto ≤ n - 1 := by simpa using d3
                go_wp2
                go_round
                case rel =>
                  refine ⟨k + 1, by omega, by go_num, fun j hj => ?_⟩
                  by_cases e : j = k
                  · subst e
                    unfold CaseOkAt
                    rw [← HCK.out]
                    exact ⟨by omega, by omega, by omega⟩
                  · exact unhide HG j (by omega)
                case measure => simp [intOf]; omega
            · go_wp2
              go_ret
              exact ⟨Says.no fun h => by have := h k hlt; unfold CaseOkAt at this; rw [← HCK.out] at this; obtain ⟨q1, q2, q3⟩ := this; omega, k2⟩
          · go_wp2
            go_ret
            exact ⟨Says.no fun h => by have := h k hlt; unfold CaseOkAt at this; rw [← HCK.out] at this; obtain ⟨q1, q2, q3⟩ := this; omega, k2⟩
        · go_wp2
          go_ret
          exact ⟨Says.yes fun j hj => unhide HG j (by omega), k2⟩
    · have ho : (s.on != 0) = true := bne_iff_ne.2 hz
      have o1 : 0 ≤ s.on := by have := HON.out; omega
      have o3 : s.on ≤ (s.asks.length : Int) - 1 := by have := HON.out; omega
      clear hz
      go_wp2
      go_loop [5] (fun i => ∃ k : Nat, k ≤ s.cases.length ∧ i = .int .i64 k ∧ ∀ j, j < k → CaseOkAt s n j) (fun i => s.cases.length - (intOf i).toNat)
      case atStart => exact ⟨0, Nat.zero_le _, rfl, fun j hj => absurd hj (Nat.not_lt_zero _)⟩
      case round =>
        obtain ⟨k, hk, rfl, hg⟩ := hrel
        have HG := hide hg
        clear hg
        by_cases hlt : k < s.cases.length
        · obtain ⟨b, o, rfl, hb, hc⟩ := hC2 k hlt
          have hce : (s.cases.getD k CaseD.zero).text.size ≤ maxLen := (hs.caseEach _ (by simp [List.getD, hlt])).1
          obtain ⟨c, hck⟩ : ∃ c, c = s.cases.getD k CaseD.zero := ⟨_, rfl⟩
          rw [← hck] at hc hce
          have HCK := hide hck
          clear hck
          unfold maxLen at hce
          have c0 := hc 0 _ rfl
          have c1 := hc 1 _ rfl
          simp only [Nat.add_zero] at c0
          clear hc
          by_cases d1 : (c.text.size : Int) ≤ 200
          · by_cases d2 : 0 ≤ c.goto
            · cases d3 : decide (c.goto ≤ n - 1)
              · have d3' : n - 1 < c.goto := by simpa using d3
                go_wp2
                go_ret
                exact ⟨Says.no fun h => by have := h k hlt; unfold CaseOkAt at this; rw [← HCK.out] at this; obtain ⟨q1, q2, q3⟩ := this; omega, k2⟩
              · have d3' : c.goto ≤ n - 1 := by simpa using d3
                go_wp2
                go_round
                case rel =>
                  refine ⟨k + 1, by omega, by go_num, fun j hj => ?_⟩
                  by_cases e : j = k
                  · subst e
                    unfold CaseOkAt
                    rw [← HCK.out]
                    exact ⟨by omega, by omega, by omega⟩
                  · exact unhide HG j (by omega)
                case measure => simp [intOf]; omega
            · go_wp2
              go_ret
              exact ⟨Says.no fun h => by have := h k hlt; unfold CaseOkAt at this; rw [← HCK.out] at this; obtain ⟨q1, q2, q3⟩ := this; omega, k2⟩
          · go_wp2
            go_ret
            exact ⟨Says.no fun h => by have := h k hlt; unfold CaseOkAt at this; rw [← HCK.out] at this; obtain ⟨q1, q2, q3⟩ := this; omega, k2⟩
        · go_wp2
          go_ret
          exact ⟨Says.yes fun j hj => unhide HG j (by omega), k2⟩
  · exact absurd HN.out hno

end Go.Proofs.YtinkfgkjdaaeaaaGreatDoor
