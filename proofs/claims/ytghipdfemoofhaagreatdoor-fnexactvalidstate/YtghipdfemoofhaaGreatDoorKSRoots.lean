import Derived.Test.YtghipdfemoofhaaGreatDoorKWGo4
import Derived.Test.YtghipdfemoofhaaGreatDoorKWImpl

namespace Go.Proofs.YtghipdfemoofhaaGreatDoor
open Go.RowKit

def RootsOk (l : List ByteArray) : Prop := 1 ≤ l.length ∧ l.length ≤ 10 ∧ NamesOk l

theorem l1In_no (w : World) (n lo hi : Int) (h : n < lo ∨ hi < n) :
    Calls Tryz.prog 100 #[.int .i64 n, .int .i64 lo, .int .i64 hi] w fun e w' => e = .returned (.bool false) ∧ w' = w := by
  by_cases h1 : lo ≤ n
  · have h2 : ¬ n ≤ hi := by omega
    go_enter Tryz.func100, Tryz.ntmps100
    go_wp2
    go_ret
    exact ⟨rfl, rfl⟩
  · go_enter Tryz.func100, Tryz.ntmps100
    go_wp2
    go_ret
    exact ⟨rfl, rfl⟩

set_option maxHeartbeats 800000 in
theorem l3RootsOk_any (w : World) (a : Option Addr) (cap : Nat) (l : List ByteArray) (hl : l.length ≤ maxLen) (hs : ∀ s ∈ l, s.size ≤ maxLen) (hS : Strs w a l) :
    Calls Tryz.prog 61 #[.slice a l.length cap] w fun e w' => Says e (RootsOk l) ∧ Kept w w' := by
  by_cases h : 1 ≤ l.length ∧ l.length ≤ 10
  · go_enter Tryz.func61, Tryz.ntmps61
    go_wp2_with (go_at_call 100; refine (l1In_yes _ _ _ _ (by omega) (by omega)).mono ?_; rintro e w' ⟨rfl, rfl⟩)
    refine (l1Names_any _ a cap l hl hs hS).mono ?_
    rintro e w1 ⟨hsay, k1⟩
    rcases hsay.cases with ⟨rfl, hyes⟩ | ⟨rfl, hno⟩
    · have HY := hide hyes
      clear hyes hsay
      go_wp2
      go_ret
      exact ⟨Says.yes ⟨h.1, h.2, HY.out⟩, k1⟩
    · have HY := hide hno
      clear hno hsay
      go_wp2
      go_ret
      exact ⟨Says.no fun g => HY.out g.2.2, k1⟩
  · go_enter Tryz.func61, Tryz.ntmps61
    go_wp2_with (go_at_call 100; refine (l1In_no _ _ _ _ (by omega)).mono ?_; rintro e w' ⟨rfl, rfl⟩)
    go_ret
    exact ⟨Says.no fun g => h ⟨g.1, g.2.1⟩, Kept.refl _⟩

set_option maxRecDepth 100000 in
set_option maxHeartbeats 1600000 in
theorem validRoots_any (w : World) (a : Option Addr) (cap : Nat) (l : List ByteArray) (hl : l.length ≤ maxLen) (hcap : l.length ≤ cap) (hs : ∀ s ∈ l, s.size ≤ maxLen) (hS : Strs w a l) :
    Calls Tryz.prog 105 #[.slice a l.length cap] w fun e w' => Says e (RootsOk l) ∧ Kept w w' := by
  have hl' := hl
  unfold maxLen at hl'
  by_cases h1 : (l.length : Int) < 1
  · go_enter Tryz.func105, Tryz.ntmps105
    go_wp2
    go_ret
    exact ⟨Says.no fun g => by have := g.1; omega, Kept.refl _⟩
  · by_cases h2 : (10 : Int) < l.length
    · go_enter Tryz.func105, Tryz.ntmps105
      go_wp2
      go_ret
      exact ⟨Says.no fun g => by have := g.2.1; omega, Kept.refl _⟩
    · have hb1 : decide ((l.length : Int) < 1) = false := by simpa using h1
      have hb2 : decide ((10 : Int) < l.length) = false := by simpa using h2
      go_enter Tryz.func105, Tryz.ntmps105
      go_wp2
      clear hb1 hb2
      go_loopw [15] (fun i wr => ∃ k : Nat, k ≤ l.length ∧ i = .int .i64 k ∧ Kept w wr ∧ ∀ j, j < k → NameOkAt l j) (fun i _ => l.length - (intOf i).toNat)
      case atStart => exact ⟨0, Nat.zero_le _, rfl, Kept.refl _, fun j hj => absurd hj (Nat.not_lt_zero _)⟩
      case round =>
        obtain ⟨k, hk, rfl, hw, hg⟩ := hrel
        have HG := hide hg
        clear hg
        by_cases hlt : k < l.length
        · obtain ⟨b, o, rfl, hb, hc⟩ := hS.kept hw k hlt
          have hsz : (l.getD k ByteArray.empty).size ≤ maxLen := hs _ (by simp [List.getD, hlt])
          obtain ⟨v, hvk⟩ : ∃ v, v = l.getD k ByteArray.empty := ⟨_, rfl⟩
          rw [← hvk] at hc hsz
          have HVK := hide hvk
          clear hvk
          go_wp2_with fail
          refine (validName_any _ v hsz).mono ?_
          rintro e w1 ⟨hsay, hw1⟩
          have hw2 := hw.trans hw1
          have hA1 := hS.kept hw2
          clear hc hb
          rcases hsay.cases with ⟨rfl, hyes⟩ | ⟨rfl, hno⟩
          · have HY := hide hyes
            clear hyes hsay hw hw1
            have hkc : k ≤ cap := by omega
            go_wp2_with fail
            refine (contains_take _ _ cap k l v hl (by omega) hA1).mono ?_
            rintro e w2 ⟨hsay, rfl⟩
            rcases hsay.cases with ⟨rfl, hyes⟩ | ⟨rfl, hno⟩
            · have HN := hide hyes
              clear hyes hsay hA1
              go_wp2
              go_ret
              exact ⟨Says.no fun h => by obtain ⟨i, hi, e⟩ := HN.out; exact (h.2.2 k hlt).2 i hi (by rw [e, HVK.out]), hw2⟩
            · have HN := hide hno
              clear hno hsay hA1
              go_wp2
              go_roundw
              case rel =>
                refine ⟨k + 1, by omega, by go_num, hw2, fun j hj => ?_⟩
                by_cases e : j = k
                · subst e
                  exact ⟨by rw [← HVK.out]; exact HY.out, fun m hm h => HN.out ⟨m, hm, by rw [h, HVK.out]⟩⟩
                · exact unhide HG j (by omega)
              case measure => simp [intOf]; omega
          · have HN := hide hno
            clear hno hsay hw hw1
            go_wp2
            go_ret
            exact ⟨Says.no fun h => HN.out (by rw [HVK.out]; exact (h.2.2 k hlt).1), hw2⟩
        · go_wp2
          go_ret
          exact ⟨Says.yes ⟨by omega, by omega, fun j hj => unhide HG j (by omega)⟩, hw⟩

end Go.Proofs.YtghipdfemoofhaaGreatDoor
