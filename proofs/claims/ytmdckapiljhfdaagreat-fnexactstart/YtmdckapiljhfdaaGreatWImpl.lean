import Derived.Test.YtmdckapiljhfdaaGreatWName

/-
  WALKS over the program's own: slices.Index, slices.Contains (of strings), impl.soundEnd and the two ends.
-/
namespace Go.Proofs.YtmdckapiljhfdaaGreat
open Go.RowKit

/-- The text is among the list's. -/
def Has (l : List ByteArray) (v : ByteArray) : Prop := ∃ i, i < l.length ∧ l.getD i ByteArray.empty = v

set_option maxHeartbeats 800000 in
theorem index_any (w : World) (a : Option Addr) (cap : Nat) (l : List ByteArray) (v : ByteArray) (hl : l.length ≤ maxLen) (hS : Strs w a l) :
    Calls Tryz.prog 73 #[.slice a l.length cap, .string v] w fun e w' => (∃ r, e = .returned (.int .i64 r) ∧ (0 ≤ r ↔ Has l v)) ∧ w' = w := by
  unfold maxLen at hl
  go_enter Tryz.func73, Tryz.ntmps73
  go_wp2
  go_loop [8] (fun i => ∃ k : Nat, k ≤ l.length ∧ i = .int .i64 k ∧ ∀ j, j < k → l.getD j ByteArray.empty ≠ v) (fun i => l.length - (intOf i).toNat)
  case atStart => exact ⟨0, Nat.zero_le _, rfl, fun j hj => absurd hj (Nat.not_lt_zero _)⟩
  case round =>
    obtain ⟨k, hk, rfl, hg⟩ := hrel
    have HG := hide hg
    clear hg
    by_cases hlt : k < l.length
    · obtain ⟨b, o, rfl, hb, hc⟩ := hS k hlt
      obtain ⟨s, hsk⟩ : ∃ s, s = l.getD k ByteArray.empty := ⟨_, rfl⟩
      rw [← hsk] at hc
      have HSK := hide hsk
      clear hsk
      cases hvs : (v.toList == s.toList)
      · go_wp2
        go_round
        case rel =>
          refine ⟨k + 1, by omega, by go_num, fun j hj => ?_⟩
          by_cases e : j = k
          · subst e
            rw [← HSK.out]
            exact (bytes_ne hvs).symm
          · exact unhide HG j (by omega)
        case measure => simp [intOf]; omega
      · go_wp2
        go_ret
        exact ⟨⟨_, rfl, ⟨fun _ => ⟨k, hlt, by rw [← HSK.out]; exact (bytes_eq.1 hvs).symm⟩, fun _ => by omega⟩⟩, rfl⟩
    · go_wp2
      go_ret
      exact ⟨⟨_, rfl, ⟨fun h => by omega, fun ⟨i, hi, e⟩ => absurd e (unhide HG i (by omega))⟩⟩, rfl⟩

theorem contains_any (w : World) (a : Option Addr) (cap : Nat) (l : List ByteArray) (v : ByteArray) (hl : l.length ≤ maxLen) (hS : Strs w a l) :
    Calls Tryz.prog 61 #[.slice a l.length cap, .string v] w fun e w' => Says e (Has l v) ∧ w' = w := by
  go_enter Tryz.func61, Tryz.ntmps61
  go_wp2_with fail
  refine (index_any _ a cap l v hl hS).mono ?_
  rintro e w1 ⟨⟨r, rfl, hr⟩, rfl⟩
  have HR := hide hr
  clear hr
  by_cases h0 : 0 ≤ r
  · have h1 : decide (0 ≤ r) = true := by simpa using h0
    go_wp2
    go_ret
    exact ⟨Says.congr (p := True) (Says.yes trivial) ⟨fun _ => HR.out.1 h0, fun _ => trivial⟩, rfl⟩
  · have h1 : decide (0 ≤ r) = false := by simpa using h0
    go_wp2
    go_ret
    exact ⟨Says.congr (p := False) (Says.no id) ⟨False.elim, fun h => by have := HR.out.2 h; omega⟩, rfl⟩

set_option maxHeartbeats 800000 in
theorem soundEnd_any (w : World) (asks : Nat) (on : Int) (cases : Nat) (els fall : Int) (fin bad : Bool) (give : ByteArray) (aa ac : Option Addr) (ca cc : Nat) (h1 : asks ≤ maxLen) (h2 : cases ≤ maxLen) (h3 : give.size ≤ maxLen) :
    Calls Tryz.prog 119 #[.agg #[.slice aa asks ca, .int .i64 on, .slice ac cases cc, .int .i64 els, .int .i64 fall, .bool fin, .bool bad, .string give]] w
      fun e w' => Says e (asks = 0 ∧ on = 0 ∧ cases = 0 ∧ els = 0 ∧ fall = 0 ∧ give.size ≤ 30) ∧ Kept w w' := by
  unfold maxLen at h1 h2 h3
  cases a1 : ((asks : Int) == 0)
  · go_enter Tryz.func119, Tryz.ntmps119
    go_wp2
    all_goals
      go_ret
      exact ⟨Says.no fun h => by simp at a1; omega, (Kept.refl _).alloc _⟩
  · obtain rfl : asks = 0 := by simp at a1; omega
    clear a1
    cases a2 : (on == 0)
    · go_enter Tryz.func119, Tryz.ntmps119
      go_wp2
      all_goals
        go_ret
        exact ⟨Says.no fun h => by simp at a2; omega, (Kept.refl _).alloc _⟩
    · obtain rfl : on = 0 := by simpa using a2
      clear a2
      cases a3 : ((cases : Int) == 0)
      · go_enter Tryz.func119, Tryz.ntmps119
        go_wp2
        go_ret
        exact ⟨Says.no fun h => by simp at a3; omega, (Kept.refl _).alloc _⟩
      · obtain rfl : cases = 0 := by simp at a3; omega
        clear a3
        cases a4 : (els == 0)
        · go_enter Tryz.func119, Tryz.ntmps119
          go_wp2
          go_ret
          exact ⟨Says.no fun h => by simp at a4; omega, (Kept.refl _).alloc _⟩
        · obtain rfl : els = 0 := by simpa using a4
          clear a4
          cases a5 : (fall == 0)
          · go_enter Tryz.func119, Tryz.ntmps119
            go_wp2
            go_ret
            exact ⟨Says.no fun h => by simp at a5; omega, (Kept.refl _).alloc _⟩
          · obtain rfl : fall = 0 := by simpa using a5
            clear a5
            by_cases a6 : (give.size : Int) ≤ 30
            · go_enter Tryz.func119, Tryz.ntmps119
              go_wp2
              go_ret
              exact ⟨Says.yes (by simp; omega), (Kept.refl _).alloc _⟩
            · go_enter Tryz.func119, Tryz.ntmps119
              go_wp2
              go_ret
              exact ⟨Says.no fun h => by omega, (Kept.refl _).alloc _⟩

end Go.Proofs.YtmdckapiljhfdaaGreat
