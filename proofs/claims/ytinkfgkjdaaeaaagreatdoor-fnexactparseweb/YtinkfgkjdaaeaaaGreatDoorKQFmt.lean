import Derived.Test.YtinkfgkjdaaeaaaGreatDoorKFFmt2
import Derived.Test.YtinkfgkjdaaeaaaGreatDoorKShelf
import Derived.Test.YtinkfgkjdaaeaaaGreatDoorKQPlain
import Derived.Lib.AppendIntMem

namespace Go.Proofs.YtinkfgkjdaaeaaaGreatDoor
open Go.RowKit

theorem pow16_byte {v j : Nat} (hv : v < 256) (hj : j ≤ 1) (h : 16 ≤ v / 16 ^ j) : j + 1 ≤ 1 := by
  rcases Nat.lt_or_ge j 1 with h' | h'
  · omega
  · obtain rfl : j = 1 := by omega
    simp only [Nat.pow_one] at h
    omega

set_option maxRecDepth 100000 in
set_option maxHeartbeats 1600000 in
theorem formatBits_byte (w : World) (v : Nat) (hv : v < 256) (hT : TabOk w) :
    Calls Tryz.prog 141 #[.slice none 0 0, .int .u64 v, .int .i64 16, .bool false, .bool false] w fun e w' => (∃ (n : Nat) (b : ByteArray), e = .returned (.tuple #[.slice none 0 0, .string b]) ∧ b.data.toList = hexL n v ∧ 1 ≤ n ∧ n ≤ 2 ∧ v < 16 ^ n) ∧ Kept w w' := by
  obtain ⟨zs, hzs, hzero⟩ := Tryz.zero65
  have hne : ¬ zs = #[] := fun e => by rw [e] at hzs; simp at hzs
  go_enter Tryz.func141, Tryz.ntmps141
  go_wp2_with (first | (go_at_call 151; refine (tz_16 _ (hT.kept (by repeat (first | apply Kept.alloc | exact Kept.refl _)))).mono ?_; rintro e w1 ⟨rfl, rfl⟩) | go_in)
  have hrow : Row (w.alloc (.cells zs 216)) w.heap.size 65 := by have := Row.made w zs 216; rw [hzs] at this; exact this
  have hk0 : Kept w (w.alloc (.cells zs 216)) := (Kept.refl _).alloc _
  go_loopw [1, 13] (fun u i wr => ∃ j : Nat, j ≤ 1 ∧ u = .int .u64 ((v / 16 ^ j : Nat) : Int) ∧ (∃ p : Nat, p + 1 + j = 65 ∧ i = .int .i64 ((p : Int) + 1)) ∧ Kept w wr ∧ Row wr w.heap.size 65 ∧ Written wr w.heap.size v j) (fun u _ _ => (intOf u).toNat)
  case atStart => exact ⟨0, by omega, by simp, ⟨64, by omega, rfl⟩, hk0, hrow, fun t ht => absurd ht (Nat.not_lt_zero _)⟩
  case round =>
    obtain ⟨j, hj, rfl, ⟨p, hp, rfl⟩, hw, hr, hf⟩ := hrel
    clear hrow hk0
    obtain ⟨hcell, hfroz⟩ := hr.at0 (i := p) (by omega)
    obtain ⟨old, hcell⟩ := hcell
    have HR := hide hr
    have HF := hide hf
    clear hr hf
    have hul : v / 16 ^ j < 18446744073709551616 := Nat.lt_of_le_of_lt (Nat.div_le_self _ _) (by omega)
    have hdv : v / 16 ^ j / 16 = v / 16 ^ (j + 1) := by rw [Nat.div_div_eq_div_mul, Nat.pow_succ]
    have HD := hide hdv
    clear hdv
    have HP : Hid (16 ≤ v / 16 ^ j → j + 1 ≤ 1) := pow16_byte hv hj
    have HV : Hid (v / 16 ^ j < 16 → v < 16 ^ (j + 1)) := fun h => by
      have := Nat.lt_mul_of_div_lt h (Nat.pow_pos (by omega))
      rw [Nat.pow_succ, Nat.mul_comm]; exact this
    generalize hu : v / 16 ^ j = u at *
    have HU := hide hu
    clear hu
    have hand := and_15 u hul
    have hmod : u % 16 < 16 := Nat.mod_lt _ (by omega)
    by_cases h16 : (16 : Int) ≤ u
    · go_wp2
      go_roundw
      case rel =>
        refine ⟨j + 1, HP.out (by omega), by rw [← HD.out]; simp, ⟨p - 1, by have := HP.out (by omega); omega, by congr 1; have := HP.out (by omega); omega⟩, Kept.setCell hw (Nat.le_refl _) _, Row.set HR.out _ rfl _, ?_⟩
        exact Written.set HF.out hp hcell (by rw [tab36 _ hmod, HU.out])
      case measure => simp [intOf]; omega
    · have hu16 : u < 16 := by omega
      have hcut : ∀ W, (Instr.sliceAt 216 (.pointer (some ⟨w.heap.size, 0, none⟩)) (some (.int .i64 (p : Int))) none none).run Tryz.prog W = .ok (.slice (some ⟨w.heap.size, p, none⟩) (65 - p) (65 - p)) W := fun W => cut65 W _ _ (by omega)
      have hstr := fun W => str65 W w.heap.size v j p hp
      have HWr := fun hlt => hide (Written.set HF.out hp hcell (d := (⟨#[48, 49, 50, 51, 52, 53, 54, 55, 56, 57, 97, 98, 99, 100, 101, 102, 103, 104, 105, 106, 107, 108, 109, 110, 111, 112, 113, 114, 115, 116, 117, 118, 119, 120, 121, 122]⟩ : ByteArray)[u]'hlt) (by rw [tab36 _ hu16, HU.out, Nat.mod_eq_of_lt hu16]))
      have hstr1 := hstr _ (HWr (Nat.lt_of_lt_of_le hu16 (by decide))).out
      clear hstr HWr
      go_wp2
      go_ret2
      exact ⟨⟨j + 1, _, rfl, rfl, by omega, by omega, HV.out hu16⟩, Kept.setCell hw (Nat.le_refl _) _⟩

theorem formatUint_inB (w : World) (v : Nat) (hv : v < 256) (hT : TabOk w) :
    Calls Tryz.prog 142 #[.int .u64 v, .int .i64 16] w fun e w' => (∃ (n : Nat) (b : ByteArray), e = .returned (.string b) ∧ b.data.toList = hexL n v ∧ 1 ≤ n ∧ n ≤ 2 ∧ v < 16 ^ n) ∧ Kept w w' := by
  go_enter Tryz.func142, Tryz.ntmps142
  go_wp2_with fail
  refine (formatBits_byte _ v hv hT).mono ?_
  rintro e w1 ⟨⟨n, b, rfl, h1, h2, h3, h4⟩, k1⟩
  have H1 := hide h1
  have H4 := hide h4
  clear h1 h4
  go_wp2
  go_ret
  exact ⟨⟨n, b, rfl, H1.out, h2, h3, H4.out⟩, k1⟩

theorem formatUint_B (w : World) (v : Nat) (hv : v < 256) (hT : TabOk w) :
    Calls Tryz.prog 134 #[.int .u64 v, .int .i64 16] w fun e w' => (∃ (n : Nat) (b : ByteArray), e = .returned (.string b) ∧ b.data.toList = hexL n v ∧ 1 ≤ n ∧ n ≤ 2 ∧ v < 16 ^ n) ∧ Kept w w' := by
  go_enter Tryz.func134, Tryz.ntmps134
  go_wp2_with fail
  refine (formatUint_inB _ v hv hT).mono ?_
  rintro e w1 ⟨⟨n, b, rfl, h1, h2, h3, h4⟩, k1⟩
  have H1 := hide h1
  have H4 := hide h4
  clear h1 h4
  go_wp2
  go_ret
  exact ⟨⟨n, b, rfl, H1.out, h2, h3, H4.out⟩, k1⟩

theorem digits2_any (w : World) (v : Nat) (hv : v < 256) (hT : TabOk w) :
    Calls Tryz.prog 117 #[.int .u64 v, .int .i64 2] w fun e w' => (∃ b : ByteArray, e = .returned (.string b) ∧ b.data.toList = hexL 2 v) ∧ Kept w w' := by
  go_enter Tryz.func117, Tryz.ntmps117
  go_wp2_with fail
  refine (formatUint_B _ v hv hT).mono ?_
  rintro e w1 ⟨⟨n, b, rfl, h1, h2, h3, h4⟩, k1⟩
  have hbn : b.size = n := by have := congrArg List.length h1; rw [hexL_length] at this; simpa using this
  have H1 := hide h1
  have H4 := hide h4
  clear h1 h4
  obtain ⟨m, hm⟩ : ∃ m : Nat, m + n = 2 := ⟨2 - n, by omega⟩
  have hsub : (2 : Int) - (n : Int) = (m : Int) := by omega
  have e1 : (⟨#[48]⟩ : ByteArray).data.toList = [48] := rfl
  have hz : (⟨#[48]⟩ : ByteArray).size * m ≤ 140737488355328 := by rw [show (⟨#[48]⟩ : ByteArray).size = 1 from rfl]; omega
  have h63 : (m : Int) ≤ 9223372036854775807 := by omega
  go_wp2_with fail
  refine (Tryz.strings_Repeat ⟨#[48]⟩ m _ (by omega) hz).mono ?_
  rintro e w2 ⟨rfl, k2⟩
  have hrs : (⟨(Lib.repeatL [48] m).toArray⟩ : ByteArray).size ≤ 2 := by show (Lib.repeatL [48] m).toArray.size ≤ 2; rw [List.size_toArray, Lib.repeatL_length]; simp; omega
  go_wp2
  go_ret
  refine ⟨⟨_, rfl, ?_⟩, Kept.trans k1 k2⟩
  rw [ba_append, H1.out, ← hm, hexL_pad n v H4.out m]
  congr 1
  have := Lib.repeatL_replicate 48 1 m
  simpa using this

def PowOk (w : World) : Prop := Lib.TabIs Tryz.prog w "internal/strconv.uint64pow10" .u64 Lib.pow10Tab
theorem PowOk.kept {w w' : World} (h : PowOk w) (k : Kept w w') : PowOk w' := Lib.tabBelow_of_tabIs h w' k

end Go.Proofs.YtinkfgkjdaaeaaaGreatDoor
