import Derived.Test.YtlllckfifkgcnaaDoorFSum
import Derived.Test.YtlllckfifkgcnaaDoorFFmt2
import Derived.Test.YtlllckfifkgcnaaDoorShelf

/-
  WALKS over impl.Finish and what it calls.
-/
namespace Go.Proofs.YtlllckfifkgcnaaDoor
open Go.RowKit

theorem formatUint_in (w : World) (v : Nat) (hv : v < 18446744073709551616) (hT : TabOk w) :
    Calls Tryd.prog 52 #[.int .u64 v, .int .i64 16] w fun e w' => (∃ (n : Nat) (b : ByteArray), e = .returned (.string b) ∧ b.data.toList = hexL n v ∧ 1 ≤ n ∧ n ≤ 16 ∧ v < 16 ^ n) ∧ Kept w w' := by
  go_enter Tryd.func52, Tryd.ntmps52
  go_wp2_with fail
  refine (formatBits_16 _ v hv hT).mono ?_
  rintro e w1 ⟨⟨n, b, rfl, h1, h2, h3, h4⟩, k1⟩
  have H1 := hide h1
  have H4 := hide h4
  clear h1 h4
  go_wp2
  go_ret
  exact ⟨⟨n, b, rfl, H1.out, h2, h3, H4.out⟩, k1⟩

theorem formatUint_any (w : World) (v : Nat) (hv : v < 18446744073709551616) (hT : TabOk w) :
    Calls Tryd.prog 42 #[.int .u64 v, .int .i64 16] w fun e w' => (∃ (n : Nat) (b : ByteArray), e = .returned (.string b) ∧ b.data.toList = hexL n v ∧ 1 ≤ n ∧ n ≤ 16 ∧ v < 16 ^ n) ∧ Kept w w' := by
  go_enter Tryd.func42, Tryd.ntmps42
  go_wp2_with fail
  refine (formatUint_in _ v hv hT).mono ?_
  rintro e w1 ⟨⟨n, b, rfl, h1, h2, h3, h4⟩, k1⟩
  have H1 := hide h1
  have H4 := hide h4
  clear h1 h4
  go_wp2
  go_ret
  exact ⟨⟨n, b, rfl, H1.out, h2, h3, H4.out⟩, k1⟩

theorem digits_any (w : World) (v : Nat) (hv : v < 18446744073709551616) (hT : TabOk w) :
    Calls Tryd.prog 30 #[.int .u64 v, .int .i64 16] w fun e w' => (∃ b : ByteArray, e = .returned (.string b) ∧ b.data.toList = hexL 16 v) ∧ Kept w w' := by
  go_enter Tryd.func30, Tryd.ntmps30
  go_wp2_with fail
  refine (formatUint_any _ v hv hT).mono ?_
  rintro e w1 ⟨⟨n, b, rfl, h1, h2, h3, h4⟩, k1⟩
  have hbn : b.size = n := by have := congrArg List.length h1; rw [hexL_length] at this; simpa using this
  have H1 := hide h1
  have H4 := hide h4
  clear h1 h4
  obtain ⟨m, hm⟩ : ∃ m : Nat, m + n = 16 := ⟨16 - n, by omega⟩
  have hsub : (16 : Int) - (n : Int) = (m : Int) := by omega
  have e1 : (⟨#[48]⟩ : ByteArray).data.toList = [48] := rfl
  have hz : (⟨#[48]⟩ : ByteArray).size * m ≤ 140737488355328 := by rw [show (⟨#[48]⟩ : ByteArray).size = 1 from rfl]; omega
  have h63 : (m : Int) ≤ 9223372036854775807 := by omega
  go_wp2_with fail
  refine (Tryd.strings_Repeat ⟨#[48]⟩ m _ (by omega) hz).mono ?_
  rintro e w2 ⟨rfl, k2⟩
  have hrs : (⟨(Lib.repeatL [48] m).toArray⟩ : ByteArray).size ≤ 16 := by show (Lib.repeatL [48] m).toArray.size ≤ 16; rw [List.size_toArray, Lib.repeatL_length]; simp; omega
  go_wp2
  go_ret
  refine ⟨⟨_, rfl, ?_⟩, Kept.trans k1 k2⟩
  rw [ba_append, H1.out, ← hm, hexL_pad n v H4.out m]
  congr 1
  have := Lib.repeatL_replicate 48 1 m
  simpa using this

/-- Is a text too long? -/
def Long (s : ByteArray) : Prop := 200 < s.size

theorem longText_any (w : World) (s : ByteArray) : Calls Tryd.prog 28 #[.string s] w fun e w' => Says e (Long s) ∧ w' = w := by
  by_cases h : (200 : Int) < s.size
  · have h1 : decide ((200 : Int) < s.size) = true := by simpa using h
    go_enter Tryd.func28, Tryd.ntmps28
    go_wp2
    go_ret
    exact ⟨Says.congr (p := True) (Says.yes trivial) ⟨fun _ => by unfold Long; omega, fun _ => trivial⟩, rfl⟩
  · have h1 : decide ((200 : Int) < s.size) = false := by simpa using h
    go_enter Tryd.func28, Tryd.ntmps28
    go_wp2
    go_ret
    exact ⟨Says.congr (p := False) (Says.no id) ⟨False.elim, fun g => by unfold Long at g; omega⟩, rfl⟩

/-- One of the texts is too long. -/
def SomeLong (l : List ByteArray) : Prop := ∃ i, i < l.length ∧ Long (l.getD i ByteArray.empty)

set_option maxHeartbeats 800000 in
theorem indexLong_any (w : World) (a : Option Addr) (cap : Nat) (l : List ByteArray) (hl : l.length ≤ maxLen) (hS : Strs w a l) :
    Calls Tryd.prog 38 #[.slice a l.length cap, .func (.func 28) #[] #[]] w fun e w' => (∃ r, e = .returned (.int .i64 r) ∧ (0 ≤ r ↔ SomeLong l)) ∧ w' = w := by
  unfold maxLen at hl
  go_enter Tryd.func38, Tryd.ntmps38
  go_wp2
  go_loop [8] (fun i => ∃ k : Nat, k ≤ l.length ∧ i = .int .i64 k ∧ ∀ j, j < k → ¬ Long (l.getD j ByteArray.empty)) (fun i => l.length - (intOf i).toNat)
  case atStart => exact ⟨0, Nat.zero_le _, rfl, fun j hj => absurd hj (Nat.not_lt_zero _)⟩
  case round =>
    obtain ⟨k, hk, rfl, hg⟩ := hrel
    have HG := hide hg
    clear hg
    by_cases hlt : k < l.length
    · obtain ⟨b, o, rfl, hb, hc⟩ := hS k hlt
      obtain ⟨c, hck⟩ : ∃ c, c = l.getD k ByteArray.empty := ⟨_, rfl⟩
      rw [← hck] at hc
      have HCK := hide hck
      clear hck
      go_wp2_with fail
      refine (longText_any _ c).mono ?_
      rintro e w1 ⟨hsay, rfl⟩
      rcases hsay.cases with ⟨rfl, hyes⟩ | ⟨rfl, hno⟩
      · have HY := hide hyes
        clear hyes hsay
        go_wp2
        go_ret
        exact ⟨⟨k, rfl, ⟨fun _ => ⟨k, hlt, by rw [← HCK.out]; exact HY.out⟩, fun _ => by omega⟩⟩, rfl⟩
      · have HN := hide hno
        clear hno hsay
        go_wp2
        go_round
        case rel =>
          refine ⟨k + 1, by omega, by go_num, fun j hj => ?_⟩
          by_cases e : j = k
          · subst e
            rw [← HCK.out]
            exact HN.out
          · exact HG.out j (by omega)
        case measure => simp [intOf]; omega
    · go_wp2
      go_ret
      exact ⟨⟨-1, rfl, ⟨fun h => by omega, fun ⟨i, hi, e⟩ => absurd e (HG.out i (by omega))⟩⟩, rfl⟩

theorem containsLong_any (w : World) (a : Option Addr) (cap : Nat) (l : List ByteArray) (hl : l.length ≤ maxLen) (hS : Strs w a l) :
    Calls Tryd.prog 27 #[.slice a l.length cap, .func (.func 28) #[] #[]] w fun e w' => Says e (SomeLong l) ∧ w' = w := by
  go_enter Tryd.func27, Tryd.ntmps27
  go_wp2_with fail
  refine (indexLong_any _ a cap l hl hS).mono ?_
  rintro e w1 ⟨⟨r, rfl, hr⟩, rfl⟩
  have HR := hide hr
  clear hr
  by_cases h0 : 0 ≤ r
  · have h1 : decide (0 ≤ r) = true := by simpa using h0
    go_wp2
    go_ret
    exact ⟨Says.congr (p := True) (Says.yes trivial) ⟨fun _ => HR.out.1 h0, fun _ => trivial⟩, rfl⟩
  · have h1 : decide (0 ≤ r) = false := by simpa using h0
    go_wp2
    go_ret
    exact ⟨Says.congr (p := False) (Says.no id) ⟨False.elim, fun h => by have := HR.out.2 h; omega⟩, rfl⟩

end Go.Proofs.YtlllckfifkgcnaaDoor
