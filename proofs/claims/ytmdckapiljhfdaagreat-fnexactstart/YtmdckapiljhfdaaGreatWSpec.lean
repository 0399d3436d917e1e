import Derived.Test.YtmdckapiljhfdaaGreatWName

/-
  WALKS over the specification's names: spec.l1Names.
-/
namespace Go.Proofs.YtmdckapiljhfdaaGreat
open Go.RowKit

set_option maxHeartbeats 800000 in
theorem l1Names_any (w : World) (a : Option Addr) (cap : Nat) (l : List ByteArray) (hl : l.length ≤ maxLen) (hs : ∀ s ∈ l, s.size ≤ maxLen) (hS : Strs w a l) :
    Calls Tryz.prog 36 #[.slice a l.length cap] w fun e w' => Says e (NamesOk l) ∧ Kept w w' := by
  unfold maxLen at hl
  go_enter Tryz.func36, Tryz.ntmps36
  go_wp2
  go_loopw [3] (fun i wr => ∃ k : Nat, k ≤ l.length ∧ i = .int .i64 k ∧ Kept w wr ∧ ∀ j, j < k → NameOk (l.getD j ByteArray.empty) ∧ ∀ m, m < j → l.getD m ByteArray.empty ≠ l.getD j ByteArray.empty) (fun i _ => l.length - (intOf i).toNat)
  case atStart => exact ⟨0, Nat.zero_le _, rfl, Kept.refl _, fun j hj => absurd hj (Nat.not_lt_zero _)⟩
  case round =>
    obtain ⟨k, hk, rfl, hw, hg⟩ := hrel
    have HG := hide hg
    clear hg
    by_cases hlt : k < l.length
    · obtain ⟨b, o, rfl, hb, hc⟩ := hS.kept hw k hlt
      have hsz : (l.getD k ByteArray.empty).size ≤ maxLen := hs _ (by simp [List.getD, hlt])
      obtain ⟨s, hsk⟩ : ∃ s, s = l.getD k ByteArray.empty := ⟨_, rfl⟩
      rw [← hsk] at hc hsz
      have HSK := hide hsk
      clear hsk
      go_wp2_with fail
      refine (l1NameOk_any _ s hsz).mono ?_
      rintro e w1 ⟨hsay, rfl⟩
      rcases hsay.cases with ⟨rfl, hyes⟩ | ⟨rfl, hno⟩
      · have HY := hide hyes
        clear hyes hsay
        go_wp2
        clear hc
        go_loopw [4] (fun m wr => ∃ q : Nat, q ≤ k ∧ m = .int .i64 q ∧ Kept w wr ∧ ∀ t, t < q → l.getD t ByteArray.empty ≠ s) (fun m _ => k - (intOf m).toNat)
        case atStart => exact ⟨0, Nat.zero_le _, rfl, hw, fun j hj => absurd hj (Nat.not_lt_zero _)⟩
        case round =>
          obtain ⟨q, hq, rfl, hw2, hd⟩ := hrel
          have HD := hide hd
          clear hd hw
          by_cases hqlt : q < k
          · obtain ⟨b', o', e1, hb', hc'⟩ := hS.kept hw2 k hlt
            simp only [Option.some.injEq, Addr.mk.injEq, and_true] at e1
            obtain ⟨rfl, rfl⟩ := e1
            obtain ⟨b', o', e1, hb'', hd'⟩ := hS.kept hw2 q (by omega)
            simp only [Option.some.injEq, Addr.mk.injEq, and_true] at e1
            obtain ⟨rfl, rfl⟩ := e1
            rw [← HSK.out] at hc'
            obtain ⟨t, htk⟩ : ∃ t, t = l.getD q ByteArray.empty := ⟨_, rfl⟩
            rw [← htk] at hd'
            have HTK := hide htk
            clear htk
            cases hts : (t.toList == s.toList)
            · go_wp2
              go_region
              all_goals
                go_wp2
                go_roundw
                case rel =>
                  refine ⟨q + 1, by omega, by go_num, by repeat (first | apply Kept.drew | exact hw2), fun j hj => ?_⟩
                  by_cases e : j = q
                  · subst e
                    rw [← HTK.out]
                    exact bytes_ne hts
                  · exact unhide HD j (by omega)
                case measure => simp [intOf]; omega
            · go_wp2
              go_region
              all_goals
                go_wp2
                go_ret
                exact ⟨Says.no fun h => (h k hlt).2 q hqlt (by rw [← HTK.out, ← HSK.out]; exact bytes_eq.1 hts), by repeat (first | apply Kept.drew | exact hw2)⟩
          · go_wp2
            go_roundw
            case rel =>
              refine ⟨k + 1, by omega, by go_num, hw2, fun j hj => ?_⟩
              by_cases e : j = k
              · subst e
                rw [← HSK.out]
                exact ⟨HY.out, fun m hm => unhide HD m (by omega)⟩
              · exact unhide HG j (by omega)
            case measure => simp [intOf]; omega
      · go_wp2
        go_ret
        exact ⟨Says.no fun h => hno (by rw [HSK.out]; exact (h k hlt).1), hw⟩
    · go_wp2
      go_ret
      exact ⟨Says.yes fun j hj => unhide HG j (by omega), hw⟩

end Go.Proofs.YtmdckapiljhfdaaGreat
