import Derived.Test.YticdoifcfokckaaGreatDoorKWName

/-
  WALKS over the specification's names: spec.l1Names.
-/
namespace Go.Proofs.YticdoifcfokckaaGreatDoor
open Go.RowKit

set_option maxHeartbeats 800000 in
theorem l1Names_any (w : World) (a : Option Addr) (cap : Nat) (l : List ByteArray) (hl : l.length ≤ maxLen) (hs : ∀ s ∈ l, s.size ≤ maxLen) (hS : Strs w a l) :
    Calls Tryz.prog 100 #[.slice a l.length cap] w fun e w' => Says e (NamesOk l) ∧ Kept w w' := by
  unfold maxLen at hl
  go_enter Tryz.func100, Tryz.ntmps100
  go_wp2
  go_loopw [3] (fun i wr => ∃ k : Nat, k ≤ l.length ∧ i = .int .i64 k ∧ Kept w wr ∧ ∀ j, j < k → NameOk (l.getD j ByteArray.empty) ∧ ∀ m, m < j → l.getD m ByteArray.empty ≠ l.getD j ByteArray.empty) (fun i _ => l.length - (intOf i).toNat)
  case atStart => exact ⟨0, Nat.zero_le _, rfl, Kept.refl _, fun j hj => absurd hj (Nat.not_lt_zero _)⟩
  case round =>
    obtain ⟨k, hk, rfl, hw, hg⟩ := hrel
    have HG := hide hg
    clear hg
    by_cases hlt : k < l.length
    · obtain ⟨b, o, rfl, hb, hc⟩ := hS.kept hw k hlt
      have hsz : (l.getD k ByteArray.empty).size ≤ maxLen := hs _ (by simp [List.getD, hlt])
      obtain ⟨s, hsk⟩ : ∃ s, s = l.getD k ByteArray.empty := ⟨_, rfl⟩
      rw [← hsk] at hc hsz
      have HSK := hide hsk
      clear hsk
      go_wp2_with fail
      refine (l1NameOk_any _ s hsz).mono ?_
      rintro e w1 ⟨hsay, rfl⟩
      rcases hsay.cases with ⟨rfl, hyes⟩ | ⟨rfl, hno⟩
      · have HY := hide hyes
        clear hyes hsay
        go_wp2
        clear hc
        go_loopw [4] (fun m wr => ∃ q : Nat, q ≤ k ∧ m = .int .i64 q ∧ Kept w wr ∧ ∀ t, t < q → l.getD t ByteArray.empty ≠ s) (fun m _ => k - (intOf m).toNat)
        case atStart => exact ⟨0, Nat.zero_le _, rfl, hw, fun j hj => absurd hj (Nat.not_lt_zero _)⟩
        case round =>
          obtain ⟨q, hq, rfl, hw2, hd⟩ := hrel
          have HD := hide hd
          clear hd hw
          by_cases hqlt : q < k
          · obtain ⟨b', o', e1, hb', hc'⟩ := hS.kept hw2 k hlt
            simp only [Option.some.injEq, Addr.mk.injEq, and_true] at e1
            obtain ⟨rfl, rfl⟩ := e1
            obtain ⟨b', o', e1, hb'', hd'⟩ := hS.kept hw2 q (by omega)
            simp only [Option.some.injEq, Addr.mk.injEq, and_true] at e1
            obtain ⟨rfl, rfl⟩ := e1
            rw [← HSK.out] at hc'
            obtain ⟨t, htk⟩ : ∃ t, t = l.getD q ByteArray.empty := ⟨_, rfl⟩
            rw [← htk] at hd'
            have HTK := hide htk
            clear htk
            cases hts : (t.toList == s.toList)
            · go_wp2
              go_region
              all_goals
                go_wp2
                go_roundw
                case rel =>
                  refine ⟨q + 1, by omega, by go_num, by repeat (first | apply Kept.drew | exact hw2), fun j hj => ?_⟩
                  by_cases e : j = q
                  · subst e
                    rw [← HTK.out]
                    exact bytes_ne hts
                  · exact unhide HD j (by omega)
                case measure => simp [intOf]; omega
            · go_wp2
              go_region
              all_goals
                go_wp2
                go_ret
                exact ⟨Says.no fun h => (h k hlt).2 q hqlt (by rw [← HTK.out, ← HSK.out]; exact bytes_eq.1 hts), by repeat (first | apply Kept.drew | exact hw2)⟩
          · go_wp2
            go_roundw
            case rel =>
              refine ⟨k + 1, by omega, by go_num, hw2, fun j hj => ?_⟩
              by_cases e : j = k
              · subst e
                rw [← HSK.out]
                exact ⟨HY.out, fun m hm => unhide HD m (by omega)⟩
              · exact unhide HG j (by omega)
            case measure => simp [intOf]; omega
      · go_wp2
        go_ret
        exact ⟨Says.no fun h => hno (by rw [HSK.out]; exact (h k hlt).1), hw⟩
    · go_wp2
      go_ret
      exact ⟨Says.yes fun j hj => unhide HG j (by omega), hw⟩

end Go.Proofs.YticdoifcfokckaaGreatDoor

/-
  WALKS over the specification's steps: spec.l1StepOk, a step with End.
-/
namespace Go.Proofs.YticdoifcfokckaaGreatDoor
open Go.RowKit

set_option maxHeartbeats 800000 in
theorem l1StepOk_end (w : World) (asks : Nat) (on : Int) (cases : Nat) (els fall : Int) (bad : Bool) (give : ByteArray) (aa ac : Option Addr) (ca cc : Nat) (n : Int) (h1 : asks ≤ maxLen) (h2 : cases ≤ maxLen) (h3 : give.size ≤ maxLen) :
    Calls Tryz.prog 144 #[.agg #[.slice aa asks ca, .int .i64 on, .slice ac cases cc, .int .i64 els, .int .i64 fall, .bool true, .bool bad, .string give], .int .i64 n] w
      fun e w' => Says e (asks = 0 ∧ on = 0 ∧ cases = 0 ∧ els = 0 ∧ fall = 0 ∧ give.size ≤ 30) ∧ Kept w w' := by
  unfold maxLen at h1 h2 h3
  have k0 : Kept w (w.alloc (.cells #[.slice aa asks ca, .int .i64 on, .slice ac cases cc, .int .i64 els, .int .i64 fall, .bool true, .bool bad, .string give] 148)) := (Kept.refl _).alloc _
  cases a1 : ((asks : Int) == 0)
  · go_enter Tryz.func144, Tryz.ntmps144
    go_wp2
    go_ret
    exact ⟨Says.no fun h => by simp at a1; omega, k0⟩
  · obtain rfl : asks = 0 := by simp at a1; omega
    clear a1
    cases a2 : (on == 0)
    · go_enter Tryz.func144, Tryz.ntmps144
      go_wp2
      go_ret
      exact ⟨Says.no fun h => by simp at a2; omega, k0⟩
    · obtain rfl : on = 0 := by simpa using a2
      clear a2
      cases a3 : ((cases : Int) == 0)
      · go_enter Tryz.func144, Tryz.ntmps144
        go_wp2
        go_ret
        exact ⟨Says.no fun h => by simp at a3; omega, k0⟩
      · obtain rfl : cases = 0 := by simp at a3; omega
        clear a3
        cases a4 : (els == 0)
        · go_enter Tryz.func144, Tryz.ntmps144
          go_wp2
          go_ret
          exact ⟨Says.no fun h => by simp at a4; omega, k0⟩
        · obtain rfl : els = 0 := by simpa using a4
          clear a4
          cases a5 : (fall == 0)
          · go_enter Tryz.func144, Tryz.ntmps144
            go_wp2
            go_ret
            exact ⟨Says.no fun h => by simp at a5; omega, k0⟩
          · obtain rfl : fall = 0 := by simpa using a5
            clear a5
            by_cases a6 : (give.size : Int) ≤ 30
            · go_enter Tryz.func144, Tryz.ntmps144
              go_wp2
              go_ret
              exact ⟨Says.yes (by simp; omega), k0⟩
            · go_enter Tryz.func144, Tryz.ntmps144
              go_wp2
              go_ret
              exact ⟨Says.no fun h => by omega, k0⟩

end Go.Proofs.YticdoifcfokckaaGreatDoor
