import Derived.Test.YtjhemildijapmaaGreatDoorKFFmt
namespace Go.Proofs.YtjhemildijapmaaGreatDoor
open Go.RowKit
theorem and_15 (u : Nat) (h : u < 18446744073709551616) : bits BinOp.and IntKind.u64 (u : Int) 15 = ((u % 16 : Nat) : Int) := by
  have e := bits_and_u64_nat u 15 h (by omega)
  rw [show ((15 : Nat) : Int) = 15 from rfl] at e
  rw [e, show (15 : Nat) = 2 ^ 4 - 1 from rfl, Nat.and_two_pow_sub_one_eq_mod]
theorem pow16_lt {j v : Nat} (h : v < 18446744073709551616) (hu : 16 ≤ v / 16 ^ j) : j + 1 ≤ 15 := by
  have h1 : 16 ^ (j + 1) ≤ v := by
    rw [Nat.pow_succ]
    have := Nat.div_mul_le_self v (16 ^ j)
    have := Nat.mul_le_mul_right (16 ^ j) hu
    rw [Nat.mul_comm] at this
    omega
  apply Decidable.byContradiction
  intro hj
  have h2 : 16 ^ 16 ≤ 16 ^ (j + 1) := Nat.pow_le_pow_right (by omega) (by omega)
  have h3 : (16 : Nat) ^ 16 = 18446744073709551616 := by decide
  omega
theorem Row.at0 {w : World} {b n i : Nat} (h : Row w b n) (hi : i < n) : (∃ v, w.cell? ⟨b, i, none⟩ = some v) ∧ w.frozen? ⟨b, i, none⟩ = false := by
  obtain ⟨t, f, h⟩ := h
  exact ⟨⟨_, h.cell hi⟩, h.frozen i⟩
theorem tab36 (n : Nat) (h : n < 16) (h' : n < (⟨#[48, 49, 50, 51, 52, 53, 54, 55, 56, 57, 97, 98, 99, 100, 101, 102, 103, 104, 105, 106, 107, 108, 109, 110, 111, 112, 113, 114, 115, 116, 117, 118, 119, 120, 121, 122]⟩ : ByteArray).size) :
    (⟨#[48, 49, 50, 51, 52, 53, 54, 55, 56, 57, 97, 98, 99, 100, 101, 102, 103, 104, 105, 106, 107, 108, 109, 110, 111, 112, 113, 114, 115, 116, 117, 118, 119, 120, 121, 122]⟩ : ByteArray)[n] = hexDig n := by
  have : ∀ m : Fin 16, (⟨#[48, 49, 50, 51, 52, 53, 54, 55, 56, 57, 97, 98, 99, 100, 101, 102, 103, 104, 105, 106, 107, 108, 109, 110, 111, 112, 113, 114, 115, 116, 117, 118, 119, 120, 121, 122]⟩ : ByteArray)[m.val]'(Nat.lt_of_lt_of_le m.isLt (by decide)) = hexDig m.val := by decide +kernel
  exact this ⟨n, h⟩
def Written (w : World) (B v j : Nat) : Prop := ∀ t, t < j → w.cell? ⟨B, 64 - t, none⟩ = some (.int .u8 ((hexDig (v / 16 ^ t % 16)).toNat : Int))
theorem Written.set {w : World} {B v j p : Nat} {old : Value} (h : Written w B v j) (hp : p + 1 + j = 65) (hc : w.cell? ⟨B, p, none⟩ = some old) {d : UInt8} (hd : d = hexDig (v / 16 ^ j % 16)) : Written (w.setCell ⟨B, p, none⟩ (.int .u8 (d.toNat : Int))) B v (j + 1) := by
  intro t ht
  by_cases e : t = j
  · subst e
    have : 64 - t = p := by omega
    rw [this, World.cell?_setCell_same _ _ _ hc, hd]
  · rw [World.cell?_setCell_other _ _ _ _ (by simp <;> omega)]
    exact h t (by omega)
theorem Tryz.zero65 : ∃ zs : Array Value, zs.size = 65 ∧ ∀ W, (zeroValue 245).run Tryz.prog W = .ok (.agg zs) W := ⟨Array.replicate 65 (.int .u8 0), by simp, fun W => by kernel_rfl⟩
theorem Tryz.alen65 : Tryz.prog.arrayLen 245 = 65 := by kernel_rfl
theorem Tryz.aund65 : Tryz.prog.underlying 245 = some (.array (Tryz.prog.arrayLen 245) (Tryz.prog.elem 245)) := by kernel_rfl
theorem Tryz.aelem65 : Tryz.prog.elem 245 = 5 := by kernel_rfl
theorem cut65 (W : World) (B p : Nat) (hp : p ≤ 64) : (Instr.sliceAt 245 (.pointer (some ⟨B, 0, none⟩)) (some (.int .i64 (p : Int))) none none).run Tryz.prog W = .ok (.slice (some ⟨B, p, none⟩) (65 - p) (65 - p)) W := by
  rw [run_sliceAt_array_l W 245 ⟨B, 0, none⟩ Tryz.aund65 .i64 p (by omega) (by rw [Tryz.alen65]; omega), Tryz.aelem65, Tryz.alen65, Tryz.sizeOf5]
  have h65 : ¬ (65 : Nat) = p := by omega
  simp [Result.andThen, slicedAt, Addr.add, h65]
  intro h; exact h.symm
theorem str65 (W : World) (B v j p : Nat) (hp : p + 1 + j = 65) (h : Written W B v (j + 1)) : (convert 166 9 (.slice (some ⟨B, p, none⟩) (65 - p) (65 - p))).run Tryz.prog W = .ok (.string ⟨(hexL (j + 1) v).toArray⟩) W := by
  have hl : (hexL (j + 1) v).length = 65 - p := by rw [hexL_length]; omega
  have e := run_convert_bytes_back (P := Tryz.prog) W 166 9 5 ⟨B, p, none⟩ (65 - p) (hexL (j + 1) v) Tryz.underlying166 Tryz.underlying5 Tryz.underlying9 (fun i hi => by
    have h1 := h (j - i) (by omega)
    have h2 : 64 - (j - i) = p + i := by omega
    rw [h2] at h1
    have h3 : (⟨B, p, none⟩ : Addr).add i = ⟨B, p + i, none⟩ := by simp [Addr.add]
    rw [hexL_get, Nat.add_sub_cancel, h3]
    exact h1)
  rw [hl] at e
  exact e
set_option maxRecDepth 100000 in
set_option maxHeartbeats 1600000 in
theorem formatBits_16 (w : World) (v : Nat) (hv : v < 18446744073709551616) (hT : TabOk w) :
    Calls Tryz.prog 163 #[.slice none 0 0, .int .u64 v, .int .i64 16, .bool false, .bool false] w fun e w' => (∃ (n : Nat) (b : ByteArray), e = .returned (.tuple #[.slice none 0 0, .string b]) ∧ b.data.toList = hexL n v ∧ 1 ≤ n ∧ n ≤ 16 ∧ v < 16 ^ n) ∧ Kept w w' := by
  obtain ⟨zs, hzs, hzero⟩ := Tryz.zero65
  have hne : ¬ zs = #[] := fun e => by rw [e] at hzs; simp at hzs
  go_enter Tryz.func163, Tryz.ntmps163
  go_wp2_with (first | (go_at_call 174; refine (tz_16 _ (hT.kept (by repeat (first | apply Kept.alloc | exact Kept.refl _)))).mono ?_; rintro e w1 ⟨rfl, rfl⟩) | go_in)
  have hrow : Row (w.alloc (.cells zs 245)) w.heap.size 65 := by have := Row.made w zs 245; rw [hzs] at this; exact this
  have hk0 : Kept w (w.alloc (.cells zs 245)) := (Kept.refl _).alloc _
  go_loopw [1, 13] (fun u i wr => ∃ j : Nat, j ≤ 15 ∧ u = .int .u64 ((v / 16 ^ j : Nat) : Int) ∧ (∃ p : Nat, p + 1 + j = 65 ∧ i = .int .i64 ((p : Int) + 1)) ∧ Kept w wr ∧ Row wr w.heap.size 65 ∧ Written wr w.heap.size v j) (fun u _ _ => (intOf u).toNat)
  case atStart => exact ⟨0, by omega, by simp, ⟨64, by omega, rfl⟩, hk0, hrow, fun t ht => absurd ht (Nat.not_lt_zero _)⟩
  case round =>
    obtain ⟨j, hj, rfl, ⟨p, hp, rfl⟩, hw, hr, hf⟩ := hrel
    clear hrow hk0
    obtain ⟨hcell, hfroz⟩ := hr.at0 (i := p) (by omega)
    obtain ⟨old, hcell⟩ := hcell
    have HR := hide hr
    have HF := hide hf
    clear hr hf
    have hul : v / 16 ^ j < 18446744073709551616 := Nat.lt_of_le_of_lt (Nat.div_le_self _ _) hv
    have hdv : v / 16 ^ j / 16 = v / 16 ^ (j + 1) := by rw [Nat.div_div_eq_div_mul, Nat.pow_succ]
    have HD := hide hdv
    clear hdv
    have HP : Hid (16 ≤ v / 16 ^ j → j + 1 ≤ 15) := pow16_lt hv
    have HV : Hid (v / 16 ^ j < 16 → v < 16 ^ (j + 1)) := fun h => by
      have := Nat.lt_mul_of_div_lt h (Nat.pow_pos (by omega))
      rw [Nat.pow_succ, Nat.mul_comm]; exact this
    generalize hu : v / 16 ^ j = u at *
    have HU := hide hu
    clear hu
    have hand := and_15 u hul
    have hmod : u % 16 < 16 := Nat.mod_lt _ (by omega)
    by_cases h16 : (16 : Int) ≤ u
    · go_wp2
      go_roundw
      case rel =>
        refine ⟨j + 1, HP.out (by omega), by rw [← HD.out]; simp, ⟨p - 1, by have := HP.out (by omega); omega, by congr 1; have := HP.out (by omega); omega⟩, Kept.setCell hw (Nat.le_refl _) _, Row.set HR.out _ rfl _, ?_⟩
        exact Written.set HF.out hp hcell (by rw [tab36 _ hmod, HU.out])
      case measure => simp [intOf]; omega
    · have hu16 : u < 16 := by omega
      have hcut : ∀ W, (Instr.sliceAt 245 (.pointer (some ⟨w.heap.size, 0, none⟩)) (some (.int .i64 (p : Int))) none none).run Tryz.prog W = .ok (.slice (some ⟨w.heap.size, p, none⟩) (65 - p) (65 - p)) W := fun W => cut65 W _ _ (by omega)
      have hstr := fun W => str65 W w.heap.size v j p hp
      have HWr := fun hlt => hide (Written.set HF.out hp hcell (d := (⟨#[48, 49, 50, 51, 52, 53, 54, 55, 56, 57, 97, 98, 99, 100, 101, 102, 103, 104, 105, 106, 107, 108, 109, 110, 111, 112, 113, 114, 115, 116, 117, 118, 119, 120, 121, 122]⟩ : ByteArray)[u]'hlt) (by rw [tab36 _ hu16, HU.out, Nat.mod_eq_of_lt hu16]))
      have hstr1 := hstr _ (HWr (Nat.lt_of_lt_of_le hu16 (by decide))).out
      clear hstr HWr
      go_wp2
      go_ret2
      exact ⟨⟨j + 1, _, rfl, rfl, by omega, by omega, HV.out hu16⟩, Kept.setCell hw (Nat.le_refl _) _⟩
end Go.Proofs.YtjhemildijapmaaGreatDoor
