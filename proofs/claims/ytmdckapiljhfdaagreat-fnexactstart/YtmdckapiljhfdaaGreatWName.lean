import Derived.Test.YtmdckapiljhfdaaGreatWConv
import Derived.WalkSpells
import Derived.Laws.IdiomStrings
import Derived.WalkLawsBesides

/-
  WALKS over names: spec.l1NameOk, impl.validName.
-/
namespace Go.Proofs.YtmdckapiljhfdaaGreat
open Go.RowKit

set_option maxHeartbeats 800000 in
theorem l1NameOk_any (w : World) (s : ByteArray) (hs : s.size ≤ maxLen) :
    Calls Tryz.prog 33 #[.string s] w fun e w' => Says e (NameOk s) ∧ w' = w := by
  unfold maxLen at hs
  by_cases h1 : (1 : Int) ≤ s.size
  · by_cases h2 : (s.size : Int) ≤ 20
    · cases h3 : (s.toList == [45])
      · go_enter Tryz.func33, Tryz.ntmps33
        go_wp2
        go_loop [3] (fun i => ∃ k : Nat, k ≤ s.size ∧ i = .int .i64 k ∧ ∀ j (h : j < s.size), j < k → GoodByte s[j]) (fun i => s.size - (intOf i).toNat)
        case atStart => exact ⟨0, Nat.zero_le _, rfl, fun j _ hj => absurd hj (Nat.not_lt_zero _)⟩
        case round =>
          obtain ⟨k, hk, rfl, hg⟩ := hrel
          have HG := hide hg
          clear hg
          by_cases hlt : k < s.size
          · by_cases b1 : (s[k].toNat : Int) < 33
            · go_wp2
              go_ret
              exact ⟨Says.no fun h => by have := h.2.2.2 k hlt; unfold GoodByte at this; omega, rfl⟩
            · by_cases b2 : 126 < (s[k].toNat : Int)
              · go_wp2
                go_ret
                exact ⟨Says.no fun h => by have := h.2.2.2 k hlt; unfold GoodByte at this; omega, rfl⟩
              · cases b3 : ((s[k].toNat : Int) == 44)
                · go_wp2
                  go_round
                  case rel =>
                    refine ⟨k + 1, by omega, by go_num, fun j hj hjk => ?_⟩
                    by_cases e : j = k
                    · subst e
                      exact ⟨by omega, by omega, by simpa using b3⟩
                    · exact unhide HG j hj (by omega)
                  case measure => simp [intOf]; omega
                · go_wp2
                  go_ret
                  exact ⟨Says.no fun h => by have := h.2.2.2 k hlt; unfold GoodByte at this; simp at b3; omega, rfl⟩
          · go_wp2
            go_ret
            exact ⟨Says.yes ⟨by omega, by omega, h3, fun j hj => unhide HG j hj (by omega)⟩, rfl⟩
      · go_enter Tryz.func33, Tryz.ntmps33
        go_wp2
        go_ret
        exact ⟨Says.no fun h => by have := h.2.2.1; simp [h3] at this, rfl⟩
    · go_enter Tryz.func33, Tryz.ntmps33
      go_wp2
      go_ret
      exact ⟨Says.no fun h => by have := h.2.1; omega, rfl⟩
  · go_enter Tryz.func33, Tryz.ntmps33
    go_wp2
    go_ret
    exact ⟨Says.no fun h => by have := h.1; omega, rfl⟩

set_option maxRecDepth 100000 in
set_option maxHeartbeats 800000 in
theorem validName_any (w : World) (s : ByteArray) (hs : s.size ≤ maxLen) :
    Calls Tryz.prog 60 #[.string s] w fun e w' => Says e (NameOk s) ∧ Kept w w' := by
  unfold maxLen at hs
  by_cases h1 : (1 : Int) ≤ s.size
  · by_cases h2 : (s.size : Int) ≤ 20
    · cases h3 : (s.toList == [45])
      · obtain ⟨cap, C, fr, hconv, hcell⟩ := convBytes w s
        go_enter Tryz.func60, Tryz.ntmps60
        go_wp2
        clear hconv
        go_loopw [20] (fun i wr => ∃ k : Nat, k ≤ s.size ∧ i = .int .i64 k ∧ (∀ j (h : j < s.size), j < k → GoodByte s[j]) ∧ wr = (w.alloc (.cells C 5 fr)).drew) (fun i _ => s.size - (intOf i).toNat)
        case atStart => exact ⟨0, Nat.zero_le _, rfl, fun j _ hj => absurd hj (Nat.not_lt_zero _), rfl⟩
        case round =>
          obtain ⟨k, hk, rfl, hg, rfl⟩ := hrel
          have HG := hide hg
          clear hg
          by_cases hlt : k < s.size
          · have hc := hcell k hlt
            clear hcell
            by_cases b1 : (s[k].toNat : Int) < 33
            · go_wp2
              go_ret
              exact ⟨Says.no fun h => by have := h.2.2.2 k hlt; unfold GoodByte at this; omega, ((Kept.refl _).alloc _).drew⟩
            · by_cases b2 : 126 < (s[k].toNat : Int)
              · go_wp2
                go_ret
                exact ⟨Says.no fun h => by have := h.2.2.2 k hlt; unfold GoodByte at this; omega, ((Kept.refl _).alloc _).drew⟩
              · cases b3 : ((s[k].toNat : Int) == 44)
                · go_wp2
                  go_roundw
                  case rel =>
                    refine ⟨k + 1, by omega, by go_num, fun j hj hjk => ?_, by first | rfl | trivial⟩
                    by_cases e : j = k
                    · subst e
                      exact ⟨by omega, by omega, by simpa using b3⟩
                    · exact unhide HG j hj (by omega)
                  case measure => simp [intOf]; omega
                · go_wp2
                  go_ret
                  exact ⟨Says.no fun h => by have := h.2.2.2 k hlt; unfold GoodByte at this; simp at b3; omega, ((Kept.refl _).alloc _).drew⟩
          · go_wp2
            go_ret
            exact ⟨Says.yes ⟨by omega, by omega, h3, fun j hj => unhide HG j hj (by omega)⟩, ((Kept.refl _).alloc _).drew⟩
      · go_enter Tryz.func60, Tryz.ntmps60
        go_wp2
        go_ret
        exact ⟨Says.no fun h => by have := h.2.2.1; simp [h3] at this, Kept.refl _⟩
    · go_enter Tryz.func60, Tryz.ntmps60
      go_wp2
      go_ret
      exact ⟨Says.no fun h => by have := h.2.1; omega, Kept.refl _⟩
  · go_enter Tryz.func60, Tryz.ntmps60
    go_wp2
    go_ret
    exact ⟨Says.no fun h => by have := h.1; omega, Kept.refl _⟩

end Go.Proofs.YtmdckapiljhfdaaGreat
