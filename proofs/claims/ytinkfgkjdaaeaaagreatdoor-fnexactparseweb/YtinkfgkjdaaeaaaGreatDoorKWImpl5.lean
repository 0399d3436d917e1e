import Derived.Test.YtinkfgkjdaaeaaaGreatDoorKWSpec
import Derived.Deep.RegionWith

namespace Go.Proofs.YtinkfgkjdaaeaaaGreatDoor
open Go.RowKit

theorem meth_ask (vs : Array Value) (W : World) : (method 355 164 (.agg vs) "loop.example/kilnweb/impl.sound").run Tryz.prog W = .ok (192, .agg vs) W := by kernel_rfl
theorem meth_bad (vs : Array Value) (W : World) : (method 355 165 (.agg vs) "loop.example/kilnweb/impl.sound").run Tryz.prog W = .ok (199, .agg vs) W := by kernel_rfl
theorem meth_good (vs : Array Value) (W : World) : (method 355 166 (.agg vs) "loop.example/kilnweb/impl.sound").run Tryz.prog W = .ok (201, .agg vs) W := by kernel_rfl

set_option maxRecDepth 100000 in
set_option maxHeartbeats 6400000 in
theorem implValidAction_any (w : World) (cost : Int) (a : Option Addr) (cap : Nat) (l : List StepD) (hl : l.length ≤ maxLen) (hs : ∀ s ∈ l, s.Fits) (hS : Steps w a l) :
    Calls Tryz.prog 56 #[.agg #[.int .i64 cost, .slice a l.length cap]] w fun e w' => Says e (ActionOk ⟨cost, l⟩) ∧ Kept w w' := by
  unfold maxLen at hl
  have k0 : Kept w (w.alloc (.cells #[.int .i64 cost, .slice a l.length cap] 52)) := (Kept.refl _).alloc _
  by_cases a1 : 1 ≤ cost
  · by_cases a2 : cost ≤ 20
    · by_cases a3 : (1 : Int) ≤ l.length
      · by_cases a4 : (l.length : Int) ≤ 20
        · have e1 : decide (cost < 1) = false := by simp; omega
          have e2 : decide (20 < cost) = false := by simp; omega
          have e3 : decide ((l.length : Int) < 1) = false := by simp; omega
          have e4 : decide (20 < (l.length : Int)) = false := by simp; omega
          go_enter Tryz.func56, Tryz.ntmps56
          go_wp2
          clear e1 e2 e3 e4
          go_loopw [28] (fun i wr => ∃ k : Nat, k ≤ l.length ∧ i = .int .i64 k ∧ Kept (w.alloc (.cells #[.int .i64 cost, .slice a l.length cap] 52)) wr ∧ ∀ j, j < k → StepOk (l.getD j StepD.zero) l.length) (fun i _ => l.length - (intOf i).toNat)
          case atStart => exact ⟨0, Nat.zero_le _, rfl, Kept.refl _, fun j hj => absurd hj (Nat.not_lt_zero _)⟩
          case round =>
            obtain ⟨k, hk, rfl, hw, hg⟩ := hrel
            have HG := hide hg
            clear hg
            have hz1 := hw.size
            simp only [World.size_alloc] at hz1
            by_cases hlt : k < l.length
            · obtain ⟨b, o, cs, rfl, hb, hc, aa, ca, ac, cc, rfl, hA, hC, hca⟩ := (hS.kept k0).kept hw k hlt
              have hsz := hs (l.getD k StepD.zero) (by simp [List.getD, hlt])
              obtain ⟨s, hsk⟩ : ∃ s, s = l.getD k StepD.zero := ⟨_, rfl⟩
              rw [← hsk] at hc hsz hA hC hca
              have HSK := hide hsk
              clear hsk
              have c0 := hc 0 _ rfl
              have c1 := hc 1 _ rfl
              have c2 := hc 2 _ rfl
              have c3 := hc 3 _ rfl
              have c4 := hc 4 _ rfl
              have c5 := hc 5 _ rfl
              have c6 := hc 6 _ rfl
              have c7 := hc 7 _ rfl
              simp only [Nat.add_zero] at c0
              clear hc
              obtain ⟨hc1, hf1⟩ := hw.rules
              have z0 : w.heap.size < wr.heap.size := by omega
              have z1 : w.heap.size < wr.heap.size + 1 := by omega
              cases hfin : s.fin
              · rw [hfin] at c5
                have hq : ∀ W, Kept wr W → Calls Tryz.prog 192 #[.agg #[.slice aa s.asks.length ca, .int .i64 s.on, .slice ac s.cases.length cc, .int .i64 s.els, .int .i64 s.fall, .bool false, .bool s.bad, .string s.give], .int .i64 l.length] W fun e w' => Says e (AskOk s l.length) ∧ Kept W w' := fun W hW => by
                  have h := questionSound_any W s aa ac ca cc l.length hsz ⟨a3, a4⟩ (hA.kept hW) (hC.kept hW) hca
                  rw [hfin] at h
                  exact h
                have HQ := hide hq
                clear hq
                have hm := meth_ask
                go_wp2
                go_region_with (first | (go_at_call 77; refine (kindOf_ask _ s aa ac ca cc).mono ?_; rintro e w1 ⟨rfl, hw1⟩; obtain ⟨hc2, hf2⟩ := hw1.rules; have hk1 : Kept wr w1 := Kept.trans (by repeat (first | apply Kept.drew | apply Kept.alloc | exact Kept.refl _)) hw1) | (go_at_call 192; refine (unhide HQ _ (by repeat (first | apply Kept.drew | assumption))).mono ?_; rintro e w2 ⟨⟨r, rfl, hr⟩, hw2⟩; have hk2 : Kept wr w2 := Kept.trans (by repeat (first | apply Kept.drew | assumption)) hw2; have HR := hide hr; clear hr))
                all_goals
                  clear hc1 hf1 hc2 hf2 hm c0 c1 c2 c3 c4 c5 c6 c7 hA hC
                  cases r
                  · go_wp2
                    go_ret
                    exact ⟨Says.no fun h => (by have h2 := h.2.2 k hlt; rw [← HSK.out] at h2; have := HR.out.2 (h2.2 hfin); cases this), k0.trans (by repeat (first | apply Kept.drew | exact hw.trans hk2))⟩
                  · go_wp2
                    go_roundw
                    case rel =>
                      refine ⟨k + 1, by omega, by go_num, by repeat (first | apply Kept.drew | exact hw.trans hk2), fun j hj => ?_⟩
                      by_cases e : j = k
                      · subst e
                        rw [← HSK.out]
                        exact ⟨fun e => (by rw [hfin] at e; cases e), fun _ => HR.out.1 rfl⟩
                      · exact unhide HG j (by omega)
                    case measure => simp [intOf]; omega
              · cases hbad : s.bad
                · rw [hfin] at c5
                  rw [hbad] at c6
                  have hq : ∀ W, Kept wr W → Calls Tryz.prog 201 #[.agg #[.slice aa s.asks.length ca, .int .i64 s.on, .slice ac s.cases.length cc, .int .i64 s.els, .int .i64 s.fall, .bool true, .bool false, .string s.give], .int .i64 l.length] W fun e w' => Says e (EndOk s) ∧ Kept W w' := fun W hW => by
                    have h := goodSound_any W s aa ac ca cc l.length hsz
                    rw [hfin, hbad] at h
                    exact h
                  have HQ := hide hq
                  clear hq
                  have hm := meth_good
                  go_wp2
                  go_region_with (first | (go_at_call 77; refine (kindOf_good _ s aa ac ca cc).mono ?_; rintro e w1 ⟨rfl, hw1⟩; obtain ⟨hc2, hf2⟩ := hw1.rules; have hk1 : Kept wr w1 := Kept.trans (by repeat (first | apply Kept.drew | apply Kept.alloc | exact Kept.refl _)) hw1) | (go_at_call 201; refine (unhide HQ _ (by repeat (first | apply Kept.drew | assumption))).mono ?_; rintro e w2 ⟨⟨r, rfl, hr⟩, hw2⟩; have hk2 : Kept wr w2 := Kept.trans (by repeat (first | apply Kept.drew | assumption)) hw2; have HR := hide hr; clear hr))
                  all_goals
                    clear hc1 hf1 hc2 hf2 hm c0 c1 c2 c3 c4 c5 c6 c7 hA hC
                    cases r
                    · go_wp2
                      go_ret
                      exact ⟨Says.no fun h => (by have h2 := h.2.2 k hlt; rw [← HSK.out] at h2; have := HR.out.2 (h2.1 hfin); cases this), k0.trans (by repeat (first | apply Kept.drew | exact hw.trans hk2))⟩
                    · go_wp2
                      go_roundw
                      case rel =>
                        refine ⟨k + 1, by omega, by go_num, by repeat (first | apply Kept.drew | exact hw.trans hk2), fun j hj => ?_⟩
                        by_cases e : j = k
                        · subst e
                          rw [← HSK.out]
                          exact ⟨fun _ => HR.out.1 rfl, fun e => (by rw [hfin] at e; cases e)⟩
                        · exact unhide HG j (by omega)
                      case measure => simp [intOf]; omega
                · rw [hfin] at c5
                  rw [hbad] at c6
                  have hq : ∀ W, Kept wr W → Calls Tryz.prog 199 #[.agg #[.slice aa s.asks.length ca, .int .i64 s.on, .slice ac s.cases.length cc, .int .i64 s.els, .int .i64 s.fall, .bool true, .bool true, .string s.give], .int .i64 l.length] W fun e w' => Says e (EndOk s) ∧ Kept W w' := fun W hW => by
                    have h := badSound_any W s aa ac ca cc l.length hsz
                    rw [hfin, hbad] at h
                    exact h
                  have HQ := hide hq
                  clear hq
                  have hm := meth_bad
                  go_wp2
                  go_region_with (first | (go_at_call 77; refine (kindOf_bad _ s aa ac ca cc).mono ?_; rintro e w1 ⟨rfl, hw1⟩; obtain ⟨hc2, hf2⟩ := hw1.rules; have hk1 : Kept wr w1 := Kept.trans (by repeat (first | apply Kept.drew | apply Kept.alloc | exact Kept.refl _)) hw1) | (go_at_call 199; refine (unhide HQ _ (by repeat (first | apply Kept.drew | assumption))).mono ?_; rintro e w2 ⟨⟨r, rfl, hr⟩, hw2⟩; have hk2 : Kept wr w2 := Kept.trans (by repeat (first | apply Kept.drew | assumption)) hw2; have HR := hide hr; clear hr))
                  all_goals
                    clear hc1 hf1 hc2 hf2 hm c0 c1 c2 c3 c4 c5 c6 c7 hA hC
                    cases r
                    · go_wp2
                      go_ret
                      exact ⟨Says.no fun h => (by have h2 := h.2.2 k hlt; rw [← HSK.out] at h2; have := HR.out.2 (h2.1 hfin); cases this), k0.trans (by repeat (first | apply Kept.drew | exact hw.trans hk2))⟩
                    · go_wp2
                      go_roundw
                      case rel =>
                        refine ⟨k + 1, by omega, by go_num, by repeat (first | apply Kept.drew | exact hw.trans hk2), fun j hj => ?_⟩
                        by_cases e : j = k
                        · subst e
                          rw [← HSK.out]
                          exact ⟨fun _ => HR.out.1 rfl, fun e => (by rw [hfin] at e; cases e)⟩
                        · exact unhide HG j (by omega)
                      case measure => simp [intOf]; omega
            · go_wp2
              go_ret
              exact ⟨Says.yes ⟨⟨a1, a2⟩, ⟨by show 1 ≤ l.length; omega, by show l.length ≤ 20; omega⟩, fun j (hj : j < l.length) => unhide HG j (by omega)⟩, k0.trans hw⟩
        · go_enter Tryz.func56, Tryz.ntmps56
          go_wp2
          go_ret
          exact ⟨Says.no fun h => by have := h.2.1.2; simp at this; omega, k0⟩
      · go_enter Tryz.func56, Tryz.ntmps56
        go_wp2
        go_ret
        exact ⟨Says.no fun h => by have := h.2.1.1; simp at this; omega, k0⟩
    · go_enter Tryz.func56, Tryz.ntmps56
      go_wp2
      go_ret
      exact ⟨Says.no fun h => by have := h.1.2; simp at this; omega, k0⟩
  · go_enter Tryz.func56, Tryz.ntmps56
    go_wp2
    go_ret
    exact ⟨Says.no fun h => by have := h.1.1; simp at this; omega, k0⟩

end Go.Proofs.YtinkfgkjdaaeaaaGreatDoor
