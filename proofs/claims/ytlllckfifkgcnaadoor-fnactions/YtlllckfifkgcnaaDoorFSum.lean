import Derived.Test.YtlllckfifkgcnaaDoorWConv
import Derived.Test.YtlllckfifkgcnaaDoorFPlain

/-
  THE WALK over impl.sum.
-/
namespace Go.Proofs.YtlllckfifkgcnaaDoor
open Go.RowKit

set_option maxRecDepth 100000 in
set_option maxHeartbeats 800000 in
theorem sum_any (w : World) (s : ByteArray) (hs : s.size ≤ maxLen) :
    Calls Tryd.prog 31 #[.string s] w fun e w' => e = .returned (.int .u64 (sumOf s.data.toList)) ∧ Kept w w' := by
  unfold maxLen at hs
  obtain ⟨cap, C, fr, hconv, hcell⟩ := convBytes w s
  go_enter Tryd.func31, Tryd.ntmps31
  go_wp2
  clear hconv
  go_loopw [3, 9] (fun x i wr => ∃ k : Nat, k ≤ s.size ∧ i = .int .i64 k ∧ x = .int .u64 ((s.data.toList.take k).foldl sumStep 14695981039346656037) ∧ wr = (w.alloc (.cells C 5 fr)).drew) (fun _ i _ => s.size - (intOf i).toNat)
  case atStart => exact ⟨0, Nat.zero_le _, rfl, rfl, rfl⟩
  case round =>
    obtain ⟨k, hk, rfl, rfl, rfl⟩ := hrel
    by_cases hlt : k < s.size
    · have hc := hcell k hlt
      have hlen : k < s.data.toList.length := by simpa using hlt
      have HS : Hid ((s.data.toList.take (k + 1)).foldl sumStep 14695981039346656037 = sumStep ((s.data.toList.take k).foldl sumStep 14695981039346656037) s[k]) := by
        have e := sumTake_succ s.data.toList k hlen
        rw [List.getD_eq_getElem?_getD, List.getElem?_eq_getElem hlen, Option.getD_some] at e
        exact e
      generalize (s.data.toList.take k).foldl sumStep 14695981039346656037 = v at *
      clear hcell
      go_wp2
      go_roundw
      case rel => exact ⟨k + 1, by omega, by go_num, by rw [HS.out]; rw [wrap_byte]; rfl, by first | rfl | trivial⟩
      case measure => simp [intOf]; omega
    · go_wp2
      go_ret
      have : k = s.data.toList.length := by simp; omega
      subst this
      rw [List.take_length]
      exact ⟨rfl, ((Kept.refl _).alloc _).drew⟩

end Go.Proofs.YtlllckfifkgcnaaDoor
