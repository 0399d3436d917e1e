import Derived.Test.YtinkfgkjdaaeaaaGreatDoorKWSpec2
import Derived.Test.YtinkfgkjdaaeaaaGreatDoorKWSpec3
import Derived.Test.YtinkfgkjdaaeaaaGreatDoorKWSpec4

namespace Go.Proofs.YtinkfgkjdaaeaaaGreatDoor
open Go.RowKit

theorem l1In_yes (w : World) (n lo hi : Int) (h1 : lo ≤ n) (h2 : n ≤ hi) :
    Calls Tryz.prog 43 #[.int .i64 n, .int .i64 lo, .int .i64 hi] w fun e w' => e = .returned (.bool true) ∧ w' = w := by
  go_enter Tryz.func43, Tryz.ntmps43
  go_wp2
  go_ret
  exact ⟨rfl, rfl⟩

theorem l1StepOk_any (w : World) (s : StepD) (aa ac : Option Addr) (ca cc : Nat) (n : Int) (hs : s.Fits) (hn : 0 ≤ n ∧ n ≤ 20)
    (hA : Strs w aa s.asks) (hC : Cases w ac s.cases) :
    Calls Tryz.prog 44 #[.agg #[.slice aa s.asks.length ca, .int .i64 s.on, .slice ac s.cases.length cc, .int .i64 s.els, .int .i64 s.fall, .bool s.fin, .bool s.bad, .string s.give], .int .i64 n] w
      fun e w' => Says e (StepOk s n) ∧ Kept w w' := by
  cases hfin : s.fin
  · rw [← hfin]
    by_cases hF : FrontOk s n
    · refine (l1StepOk_askYes w s aa ac ca cc n hs hn hA hC hfin hF).mono ?_
      rintro e w' ⟨h, k⟩
      exact ⟨h.congr ⟨fun h => ⟨fun e => (by rw [hfin] at e; cases e), fun _ => ⟨hF, h⟩⟩, fun h => (h.2 hfin).2⟩, k⟩
    · refine (l1StepOk_askNo w s aa ac ca cc n hs hn hA hC hfin hF).mono ?_
      rintro e w' ⟨rfl, k⟩
      exact ⟨Says.no fun h => hF (h.2 hfin).1, k⟩
  · refine (l1StepOk_end w s.asks.length s.on s.cases.length s.els s.fall s.bad s.give aa ac ca cc n hs.asks hs.cases hs.give).mono ?_
    rintro e w' ⟨h, k⟩
    exact ⟨h.congr ⟨fun h => ⟨fun _ => h, fun e => (by rw [hfin] at e; cases e)⟩, fun h => h.1 hfin⟩, k⟩

set_option maxRecDepth 100000 in
set_option maxHeartbeats 1600000 in
theorem specValidAction_any (w : World) (cost : Int) (a : Option Addr) (cap : Nat) (l : List StepD) (hl : l.length ≤ maxLen) (hs : ∀ s ∈ l, s.Fits) (hS : Steps w a l) :
    Calls Tryz.prog 25 #[.agg #[.int .i64 cost, .slice a l.length cap]] w fun e w' => Says e (ActionOk ⟨cost, l⟩) ∧ Kept w w' := by
  unfold maxLen at hl
  have k0 : Kept w (w.alloc (.cells #[.int .i64 cost, .slice a l.length cap] 52)) := (Kept.refl _).alloc _
  by_cases a1 : 1 ≤ cost
  · by_cases a2 : cost ≤ 20
    · by_cases a3 : (1 : Int) ≤ l.length
      · by_cases a4 : (l.length : Int) ≤ 20
        · go_enter Tryz.func25, Tryz.ntmps25
          go_wp2_with (go_at_call 43; refine (l1In_yes _ _ _ _ (by omega) (by omega)).mono ?_; rintro e w' ⟨rfl, rfl⟩)
          go_loopw [4] (fun i wr => ∃ k : Nat, k ≤ l.length ∧ i = .int .i64 k ∧ Kept (w.alloc (.cells #[.int .i64 cost, .slice a l.length cap] 52)) wr ∧ ∀ j, j < k → StepOk (l.getD j StepD.zero) l.length) (fun i _ => l.length - (intOf i).toNat)
          case atStart => exact ⟨0, Nat.zero_le _, rfl, Kept.refl _, fun j hj => absurd hj (Nat.not_lt_zero _)⟩
          case round =>
            obtain ⟨k, hk, rfl, hw, hg⟩ := hrel
            have HG := hide hg
            clear hg
            obtain ⟨hc1, hf1⟩ := hw.rules
            have hz1 := hw.size
            simp only [World.size_alloc] at hz1
            by_cases hlt : k < l.length
            · obtain ⟨b, o, cs, rfl, hb, hc, aa, ca, ac, cc, rfl, hA, hC, hca⟩ := (hS.kept k0).kept hw k hlt
              have hsz := hs (l.getD k StepD.zero) (by simp [List.getD, hlt])
              obtain ⟨s, hsk⟩ : ∃ s, s = l.getD k StepD.zero := ⟨_, rfl⟩
              rw [← hsk] at hc hsz hA hC
              have HSK := hide hsk
              clear hsk
              have c0 := hc 0 _ rfl
              have c1 := hc 1 _ rfl
              have c2 := hc 2 _ rfl
              have c3 := hc 3 _ rfl
              have c4 := hc 4 _ rfl
              have c5 := hc 5 _ rfl
              have c6 := hc 6 _ rfl
              have c7 := hc 7 _ rfl
              simp only [Nat.add_zero] at c0
              clear hc
              go_wp2_with fail
              refine (l1StepOk_any _ s aa ac ca cc _ hsz ⟨by omega, by omega⟩ hA hC).mono ?_
              rintro e w1 ⟨hsay, hw1⟩
              have hw2 := hw.trans hw1
              clear c0 c1 c2 c3 c4 c5 c6 c7 hA hC hw hw1 hc1 hf1
              rcases hsay.cases with ⟨rfl, hyes⟩ | ⟨rfl, hno⟩
              · have HY := hide hyes
                clear hyes hsay
                go_wp2
                go_roundw
                case rel =>
                  refine ⟨k + 1, by omega, by go_num, hw2, fun j hj => ?_⟩
                  by_cases e : j = k
                  · subst e
                    rw [← HSK.out]
                    exact HY.out
                  · exact unhide HG j (by omega)
                case measure => simp [intOf]; omega
              · have HN := hide hno
                clear hno hsay
                go_wp2
                go_ret
                exact ⟨Says.no fun h => HN.out (by rw [HSK.out]; exact h.2.2 k hlt), k0.trans hw2⟩
            · go_wp2
              go_ret
              exact ⟨Says.yes ⟨⟨a1, a2⟩, ⟨by show 1 ≤ l.length; omega, by show l.length ≤ 20; omega⟩, fun j (hj : j < l.length) => unhide HG j (by omega)⟩, k0.trans hw⟩
        · go_enter Tryz.func25, Tryz.ntmps25
          go_wp2
          go_ret
          exact ⟨Says.no fun h => by have := h.2.1.2; simp at this; omega, k0⟩
      · go_enter Tryz.func25, Tryz.ntmps25
        go_wp2
        go_ret
        exact ⟨Says.no fun h => by have := h.2.1.1; simp at this; omega, k0⟩
    · go_enter Tryz.func25, Tryz.ntmps25
      go_wp2
      go_ret
      exact ⟨Says.no fun h => by have := h.1.2; simp at this; omega, k0⟩
  · go_enter Tryz.func25, Tryz.ntmps25
    go_wp2
    go_ret
    exact ⟨Says.no fun h => by have := h.1.1; simp at this; omega, k0⟩

end Go.Proofs.YtinkfgkjdaaeaaaGreatDoor
