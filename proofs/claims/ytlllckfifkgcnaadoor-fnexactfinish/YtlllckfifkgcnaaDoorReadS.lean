import Derived.Test.YtlllckfifkgcnaaDoorProg
import Derived.Test.YtlllckfifkgcnaaDoorData
import Derived.Deep.Strs
import Derived.ProofKit
import Derived.KernelRfl

/-
  FROM THE FORM's READING OF AN ARGUMENT TO THE PLAIN DATA: strings.
-/
namespace Go.Proofs.YtlllckfifkgcnaaDoor
open Go.RowKit Go.Deep

section
variable {H : Type} {enc : TypeId × Value → H} {w : World} {base : Nat} {spare : Nat → Bool} {held : Bool}

/-- Cells that are there from an address on: the address is plain. -/
theorem plain_addr {a : Addr} {v : Value} (h : w.cell? a = some v) : ∃ b o, a = ⟨b, o, none⟩ ∧ b < w.heap.size := by
  obtain ⟨b, o, s⟩ := a
  have hs : s = none := World.cell?_spot h
  subst hs
  exact ⟨b, o, rfl, World.block_lt_of_cell? _ _ h⟩

theorem Tryd.cellsStr : Tryd.prog.cellsOf 9 = 1 := by kernel_rfl

theorem readStrs {fuel : Nat} {cs : List Value} {x : DataW H × List MemPlace} (h : DataW.trod enc Tryd.prog w base spare held fuel 32 cs = some x) :
    ∃ a l cap, cs = [.slice a l.length cap] ∧ Strs w a l ∧ l.length ≤ maxLen ∧ l.length ≤ cap ∧ ∀ s ∈ l, s.size ≤ maxLen := by
  rcases open_strs Tryd.underlying32 Tryd.underlying9 Tryd.cellsStr h with ⟨rfl, _⟩ | ⟨a, len, cap, m, Sx, rfl, _, hl, hm, hmm, _, hx⟩
  · exact ⟨none, [], 0, rfl, fun i hi => absurd hi (Nat.not_lt_zero _), Nat.zero_le _, Nat.zero_le _, fun s hs => by cases hs⟩
  · have hlm : len ≤ m := by rw [hmm]; split <;> omega
    refine ⟨some a, (List.range len).map Sx, cap, by simp, fun i hi => ?_, by simp; omega, by simp; omega, fun s hs => ?_⟩
    · have hi' : i < len := by simpa using hi
      obtain ⟨b, o, rfl, hb⟩ := plain_addr (by have := (hx 0 (by omega)).1; simpa [Addr.add] using this)
      refine ⟨b, o, rfl, hb, ?_⟩
      have := (hx i (by omega)).1
      rw [Addr.add_mid] at this
      rw [this]
      simp [List.getD, hi']
    · simp only [List.mem_map, List.mem_range] at hs
      obtain ⟨i, hi, rfl⟩ := hs
      exact (hx i (by omega)).2

end
end Go.Proofs.YtlllckfifkgcnaaDoor
