import Derived.Test.YtmdckapiljhfdaaGreatProg
import Derived.Test.YtmdckapiljhfdaaGreatValid
import Derived.WalkSpells
import Derived.Laws.IdiomStrings
import Derived.WalkLawsBesides

/-
  A CONVERSION: bytes of a string.
-/
namespace Go.Proofs.YtmdckapiljhfdaaGreat
open Go.RowKit

/-- '[]byte(s)'. -/
theorem convBytes (w : World) (s : ByteArray) : ∃ cap C fr, (convert 9 103 (.string s)).run Tryz.prog w = .ok (.slice (some ⟨w.heap.size, 0, none⟩) s.size cap) (w.drew.alloc (.cells C 5 fr)) ∧
    ∀ j (h : j < s.size), (w.alloc (.cells C 5 fr)).cell? ⟨w.heap.size, j, none⟩ = some (.int .u8 (s[j].toNat : Int)) := by
  refine ⟨_, _, _, run_bytes_of_string (P := Tryz.prog) w 9 103 5 s Tryz.underlying9 Tryz.underlying103 Tryz.underlying5, fun j h => ?_⟩
  rw [World.cell?_alloc_mark]
  unfold bytesRow
  have h' : j < s.data.size := h
  rw [Array.getElem?_append_left (by simpa using h')]
  simp only [Array.getElem?_map, Array.getElem?_eq_getElem h', Option.map_some]
  rfl

end Go.Proofs.YtmdckapiljhfdaaGreat
