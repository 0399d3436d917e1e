import Derived.Test.YtinkfgkjdaaeaaaGreatDoorKWSpec

namespace Go.Proofs.YtinkfgkjdaaeaaaGreatDoor
open Go.RowKit

set_option maxHeartbeats 800000 in
theorem l1StepOk_end (w : World) (asks : Nat) (on : Int) (cases : Nat) (els fall : Int) (bad : Bool) (give : ByteArray) (aa ac : Option Addr) (ca cc : Nat) (n : Int) (h1 : asks ≤ maxLen) (h2 : cases ≤ maxLen) (h3 : give.size ≤ maxLen) :
    Calls Tryz.prog 44 #[.agg #[.slice aa asks ca, .int .i64 on, .slice ac cases cc, .int .i64 els, .int .i64 fall, .bool true, .bool bad, .string give], .int .i64 n] w
      fun e w' => Says e (asks = 0 ∧ on = 0 ∧ cases = 0 ∧ els = 0 ∧ fall = 0 ∧ give.size ≤ 30) ∧ Kept w w' := by
  unfold maxLen at h1 h2 h3
  have k0 : Kept w (w.alloc (.cells #[.slice aa asks ca, .int .i64 on, .slice ac cases cc, .int .i64 els, .int .i64 fall, .bool true, .bool bad, .string give] 59)) := (Kept.refl _).alloc _
  cases a1 : ((asks : Int) == 0)
  · go_enter Tryz.func44, Tryz.ntmps44
    go_wp2
    go_ret
    exact ⟨Says.no fun h => by simp at a1; omega, k0⟩
  · obtain rfl : asks = 0 := by simp at a1; omega
    clear a1
    cases a2 : (on == 0)
    · go_enter Tryz.func44, Tryz.ntmps44
      go_wp2
      go_ret
      exact ⟨Says.no fun h => by simp at a2; omega, k0⟩
    · obtain rfl : on = 0 := by simpa using a2
      clear a2
      cases a3 : ((cases : Int) == 0)
      · go_enter Tryz.func44, Tryz.ntmps44
        go_wp2
        go_ret
        exact ⟨Says.no fun h => by simp at a3; omega, k0⟩
      · obtain rfl : cases = 0 := by simp at a3; omega
        clear a3
        cases a4 : (els == 0)
        · go_enter Tryz.func44, Tryz.ntmps44
          go_wp2
          go_ret
          exact ⟨Says.no fun h => by simp at a4; omega, k0⟩
        · obtain rfl : els = 0 := by simpa using a4
          clear a4
          cases a5 : (fall == 0)
          · go_enter Tryz.func44, Tryz.ntmps44
            go_wp2
            go_ret
            exact ⟨Says.no fun h => by simp at a5; omega, k0⟩
          · obtain rfl : fall = 0 := by simpa using a5
            clear a5
            by_cases a6 : (give.size : Int) ≤ 30
            · go_enter Tryz.func44, Tryz.ntmps44
              go_wp2
              go_ret
              exact ⟨Says.yes (by simp; omega), k0⟩
            · go_enter Tryz.func44, Tryz.ntmps44
              go_wp2
              go_ret
              exact ⟨Says.no fun h => by omega, k0⟩

end Go.Proofs.YtinkfgkjdaaeaaaGreatDoor
