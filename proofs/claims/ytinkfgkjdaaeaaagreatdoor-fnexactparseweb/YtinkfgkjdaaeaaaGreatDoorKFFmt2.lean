import Derived.Test.YtinkfgkjdaaeaaaGreatDoorKWImpl2
import Derived.Test.YtinkfgkjdaaeaaaGreatDoorKFPlain

namespace Go.Proofs.YtinkfgkjdaaeaaaGreatDoor
open Go.RowKit

def texts (l : List ByteArray) : List (List UInt8) := l.map (·.data.toList)
theorem texts_length (l : List ByteArray) : (texts l).length = l.length := by simp [texts]
theorem texts_getD (l : List ByteArray) (k : Nat) (h : k < l.length) : (texts l).getD k [] = (l.getD k ByteArray.empty).data.toList := by simp [texts, List.getD, h]

theorem ba_ext {a b : ByteArray} (h : a.data.toList = b.data.toList) : a = b := by
  cases a; cases b
  simp at h
  simp [h]
theorem ba_append (a b : ByteArray) : (a ++ b).data.toList = a.data.toList ++ b.data.toList := by simp [ByteArray.data_append]

end Go.Proofs.YtinkfgkjdaaeaaaGreatDoor

namespace Go.Proofs.YtinkfgkjdaaeaaaGreatDoor
open Go.RowKit

def TabOk (w : World) : Prop := 14 < w.heap.size ∧ w.cell? ⟨14, 15, none⟩ = some (.int .u8 4)
theorem TabOk.kept {w w' : World} (h : TabOk w) (k : Kept w w') : TabOk w' := ⟨Nat.lt_of_lt_of_le h.1 k.size, by rw [k.cell h.1]; exact h.2⟩

theorem tz64_16 (w : World) (h : TabOk w) : Calls Tryz.prog 156 #[.int .u64 16] w fun e w' => e = .returned (.int .i64 4) ∧ w' = w := by
  have key : IntKind.u64.wrap (bits BinOp.and IntKind.u64 16 (IntKind.u64.wrap (-16)) * 285870213051353865) / 288230376151711744 = 15 := by decide +kernel
  have hc := h.2
  go_enter Tryz.func156, Tryz.ntmps156
  go_wp2_with (simp only [key])
  go_ret
  exact ⟨rfl, rfl⟩

theorem tz_16 (w : World) (h : TabOk w) : Calls Tryz.prog 151 #[.int .u64 16] w fun e w' => e = .returned (.int .i64 4) ∧ w' = w := by
  go_enter Tryz.func151, Tryz.ntmps151
  go_wp2_with fail
  refine (tz64_16 _ h).mono ?_
  rintro e w1 ⟨rfl, rfl⟩
  go_wp2
  go_ret
  exact ⟨rfl, rfl⟩

end Go.Proofs.YtinkfgkjdaaeaaaGreatDoor

namespace Go.Proofs.YtinkfgkjdaaeaaaGreatDoor
open Go.RowKit

theorem and_15 (u : Nat) (h : u < 18446744073709551616) : bits BinOp.and IntKind.u64 (u : Int) 15 = ((u % 16 : Nat) : Int) := by
  have e := bits_and_u64_nat u 15 h (by omega)
  rw [show ((15 : Nat) : Int) = 15 from rfl] at e
  rw [e, show (15 : Nat) = 2 ^ 4 - 1 from rfl, Nat.and_two_pow_sub_one_eq_mod]

theorem Row.at0 {w : World} {b n i : Nat} (h : Row w b n) (hi : i < n) : (∃ v, w.cell? ⟨b, i, none⟩ = some v) ∧ w.frozen? ⟨b, i, none⟩ = false := by
  obtain ⟨t, f, h⟩ := h
  exact ⟨⟨_, h.cell hi⟩, h.frozen i⟩

theorem tab36 (n : Nat) (h : n < 16) (h' : n < (⟨#[48, 49, 50, 51, 52, 53, 54, 55, 56, 57, 97, 98, 99, 100, 101, 102, 103, 104, 105, 106, 107, 108, 109, 110, 111, 112, 113, 114, 115, 116, 117, 118, 119, 120, 121, 122]⟩ : ByteArray).size) :
    (⟨#[48, 49, 50, 51, 52, 53, 54, 55, 56, 57, 97, 98, 99, 100, 101, 102, 103, 104, 105, 106, 107, 108, 109, 110, 111, 112, 113, 114, 115, 116, 117, 118, 119, 120, 121, 122]⟩ : ByteArray)[n] = hexDig n := by
  have : ∀ m : Fin 16, (⟨#[48, 49, 50, 51, 52, 53, 54, 55, 56, 57, 97, 98, 99, 100, 101, 102, 103, 104, 105, 106, 107, 108, 109, 110, 111, 112, 113, 114, 115, 116, 117, 118, 119, 120, 121, 122]⟩ : ByteArray)[m.val]'(Nat.lt_of_lt_of_le m.isLt (by decide)) = hexDig m.val := by decide +kernel
  exact this ⟨n, h⟩

def Written (w : World) (B v j : Nat) : Prop := ∀ t, t < j → w.cell? ⟨B, 64 - t, none⟩ = some (.int .u8 ((hexDig (v / 16 ^ t % 16)).toNat : Int))

theorem Written.set {w : World} {B v j p : Nat} {old : Value} (h : Written w B v j) (hp : p + 1 + j = 65) (hc : w.cell? ⟨B, p, none⟩ = some old) {d : UInt8} (hd : d = hexDig (v / 16 ^ j % 16)) : Written (w.setCell ⟨B, p, none⟩ (.int .u8 (d.toNat : Int))) B v (j + 1) := by
  intro t ht
  by_cases e : t = j
  · subst e
    have : 64 - t = p := by omega
    rw [this, World.cell?_setCell_same _ _ _ hc, hd]
  · rw [World.cell?_setCell_other _ _ _ _ (by simp <;> omega)]
    exact h t (by omega)

theorem Tryz.zero65 : ∃ zs : Array Value, zs.size = 65 ∧ ∀ W, (zeroValue 216).run Tryz.prog W = .ok (.agg zs) W := ⟨Array.replicate 65 (.int .u8 0), by simp, fun W => by kernel_rfl⟩

theorem Tryz.alen65 : Tryz.prog.arrayLen 216 = 65 := by kernel_rfl
theorem Tryz.aund65 : Tryz.prog.underlying 216 = some (.array (Tryz.prog.arrayLen 216) (Tryz.prog.elem 216)) := by kernel_rfl
theorem Tryz.aelem65 : Tryz.prog.elem 216 = 5 := by kernel_rfl

theorem cut65 (W : World) (B p : Nat) (hp : p ≤ 64) : (Instr.sliceAt 216 (.pointer (some ⟨B, 0, none⟩)) (some (.int .i64 (p : Int))) none none).run Tryz.prog W = .ok (.slice (some ⟨B, p, none⟩) (65 - p) (65 - p)) W := by
  rw [run_sliceAt_array_l W 216 ⟨B, 0, none⟩ Tryz.aund65 .i64 p (by omega) (by rw [Tryz.alen65]; omega), Tryz.aelem65, Tryz.alen65, Tryz.sizeOf5]
  have h65 : ¬ (65 : Nat) = p := by omega
  simp [Result.andThen, slicedAt, Addr.add, h65]
  intro h; exact h.symm

theorem str65 (W : World) (B v j p : Nat) (hp : p + 1 + j = 65) (h : Written W B v (j + 1)) : (convert 63 9 (.slice (some ⟨B, p, none⟩) (65 - p) (65 - p))).run Tryz.prog W = .ok (.string ⟨(hexL (j + 1) v).toArray⟩) W := by
  have hl : (hexL (j + 1) v).length = 65 - p := by rw [hexL_length]; omega
  have e := run_convert_bytes_back (P := Tryz.prog) W 63 9 5 ⟨B, p, none⟩ (65 - p) (hexL (j + 1) v) Tryz.underlying63 Tryz.underlying5 Tryz.underlying9 (fun i hi => by
    have h1 := h (j - i) (by omega)
    have h2 : 64 - (j - i) = p + i := by omega
    rw [h2] at h1
    have h3 : (⟨B, p, none⟩ : Addr).add i = ⟨B, p + i, none⟩ := by simp [Addr.add]
    rw [hexL_get, Nat.add_sub_cancel, h3]
    exact h1)
  rw [hl] at e
  exact e

end Go.Proofs.YtinkfgkjdaaeaaaGreatDoor
