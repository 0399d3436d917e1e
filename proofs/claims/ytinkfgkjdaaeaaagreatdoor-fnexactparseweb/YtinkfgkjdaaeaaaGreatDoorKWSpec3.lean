import Derived.Test.YtinkfgkjdaaeaaaGreatDoorKWSpec

namespace Go.Proofs.YtinkfgkjdaaeaaaGreatDoor
open Go.RowKit

set_option maxRecDepth 100000 in
set_option maxHeartbeats 1600000 in
theorem l1StepOk_askNo (w : World) (s : StepD) (aa ac : Option Addr) (ca cc : Nat) (n : Int) (hs : s.Fits) (hn : 0 ≤ n ∧ n ≤ 20)
    (hA : Strs w aa s.asks) (hC : Cases w ac s.cases) (hfin : s.fin = false) (hF : Hid (¬ FrontOk s n)) :
    Calls Tryz.prog 44 #[.agg #[.slice aa s.asks.length ca, .int .i64 s.on, .slice ac s.cases.length cc, .int .i64 s.els, .int .i64 s.fall, .bool s.fin, .bool s.bad, .string s.give], .int .i64 n] w
      fun e w' => e = .returned (.bool false) ∧ Kept w w' := by
  rw [hfin]
  obtain ⟨hn0, hn1⟩ := hn
  have h1 := hs.asks
  have h2 := hs.cases
  have h3 := hs.give
  unfold maxLen at h1 h2 h3
  have hgive := empty_iff s.give
  have HGV := hide hgive
  clear hgive
  cases hbad : s.bad
  · have k0 : Kept w (w.alloc (.cells #[.slice aa s.asks.length ca, .int .i64 s.on, .slice ac s.cases.length cc, .int .i64 s.els, .int .i64 s.fall, .bool false, .bool false, .string s.give] 59)) := (Kept.refl _).alloc _
    go_enter Tryz.func44, Tryz.ntmps44
    go_wp2_with fail
    · have HE : Hid (s.give.size = 0) := HGV.out.1 (by assumption)
      refine (l1Names_any _ aa ca s.asks hs.asks hs.askEach (hA.kept k0)).mono ?_
      rintro e w1 ⟨hsay, k1⟩
      have k2 := k0.trans k1
      rcases hsay.cases with ⟨rfl, hyes⟩ | ⟨rfl, hno⟩
      · have HY := hide hyes
        clear hyes hsay
        obtain ⟨hc1, hf1⟩ := k1.rules
        have hz1 := k1.size
        simp only [World.size_alloc] at hz1
        clear k0 k1
        have hC2 := hC.kept k2
        clear hC hA
        by_cases b1 : (s.cases.length : Int) ≤ 5
        · by_cases b2 : 0 ≤ s.els
          · cases b3 : decide (s.els ≤ n - 1)
            · have b3' : n - 1 < s.els := by simpa using b3
              go_wp2
              go_ret
              exact ⟨rfl, k2⟩
            · have b3' : s.els ≤ n - 1 := by simpa using b3
              by_cases b4 : -1 ≤ s.fall
              · cases b5 : decide (s.fall ≤ n - 1)
                · have b5' : n - 1 < s.fall := by simpa using b5
                  go_wp2
                  go_ret
                  exact ⟨rfl, k2⟩
                · have b5' : s.fall ≤ n - 1 := by simpa using b5
                  have hon : ¬ (s.on = 0 ∨ (0 ≤ s.on ∧ s.on < s.asks.length)) := fun hon => hF.out ⟨hbad, HE.out, by omega, HY.out, by omega, ⟨by omega, by omega⟩, ⟨by omega, by omega⟩, hon⟩
                  have ho : (s.on != 0) = true := bne_iff_ne.2 (by omega)
                  by_cases o1 : 0 ≤ s.on
                  · have o2 : s.asks.length - 1 < s.on := by omega
                    have o3 : decide (s.on ≤ (s.asks.length : Int) - 1) = false := by simp; omega
                    clear hon
                    go_wp2
                    go_ret
                    exact ⟨rfl, k2⟩
                  · clear hon
                    go_wp2
                    go_ret
                    exact ⟨rfl, k2⟩
              · go_wp2
                go_ret
                exact ⟨rfl, k2⟩
          · go_wp2
            go_ret
            exact ⟨rfl, k2⟩
        · go_wp2
          go_ret
          exact ⟨rfl, k2⟩
      · clear hsay k0 k1
        go_wp2
        go_ret
        exact ⟨rfl, k2⟩
    · go_ret
      exact ⟨rfl, k0⟩
    · go_ret
      exact ⟨rfl, k0⟩
  · go_enter Tryz.func44, Tryz.ntmps44
    go_wp2
    go_ret
    exact ⟨rfl, (Kept.refl _).alloc _⟩

end Go.Proofs.YtinkfgkjdaaeaaaGreatDoor
