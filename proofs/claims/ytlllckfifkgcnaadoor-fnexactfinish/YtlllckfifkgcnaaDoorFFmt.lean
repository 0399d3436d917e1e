import Derived.Test.YtlllckfifkgcnaaDoorFSpec

/-
  WALKS over strconv.FormatUint at the base 16: math/bits.TrailingZeros(16), formatBits.
-/
namespace Go.Proofs.YtlllckfifkgcnaaDoor
open Go.RowKit

/-- The one place of the table that is looked at. -/
def TabOk (w : World) : Prop := 3 < w.heap.size ∧ w.cell? ⟨3, 15, none⟩ = some (.int .u8 4)
theorem TabOk.kept {w w' : World} (h : TabOk w) (k : Kept w w') : TabOk w' := ⟨Nat.lt_of_lt_of_le h.1 k.size, by rw [k.cell h.1]; exact h.2⟩

theorem tz64_16 (w : World) (h : TabOk w) : Calls Tryd.prog 71 #[.int .u64 16] w fun e w' => e = .returned (.int .i64 4) ∧ w' = w := by
  have key : IntKind.u64.wrap (bits BinOp.and IntKind.u64 16 (IntKind.u64.wrap (-16)) * 285870213051353865) / 288230376151711744 = 15 := by decide +kernel
  have hc := h.2
  go_enter Tryd.func71, Tryd.ntmps71
  go_wp2_with (simp only [key])
  go_ret
  exact ⟨rfl, rfl⟩

theorem tz_16 (w : World) (h : TabOk w) : Calls Tryd.prog 69 #[.int .u64 16] w fun e w' => e = .returned (.int .i64 4) ∧ w' = w := by
  go_enter Tryd.func69, Tryd.ntmps69
  go_wp2_with fail
  refine (tz64_16 _ h).mono ?_
  rintro e w1 ⟨rfl, rfl⟩
  go_wp2
  go_ret
  exact ⟨rfl, rfl⟩

end Go.Proofs.YtlllckfifkgcnaaDoor
