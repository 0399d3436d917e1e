import Derived.Test.YteabdfhkoloimaaProg
import Derived.Test.YteabdfhkoloimaaKOMarkD
import Derived.WalkSpells
import Derived.Laws.IdiomStrings
import Derived.WalkLawsBesides
set_option maxRecDepth 100000
set_option maxHeartbeats 25600000
namespace Go.Proofs.Yteabdfhkoloimaa
open Go.RowKit
theorem convBytes (w:World) (s:ByteArray): ∃cap C fr,(convert 9 22 (.string s)).run Try.prog w= .ok (.slice (some ⟨w.heap.size,0,none⟩) s.size cap) (w.drew.alloc (.cells C 5 fr))∧
  ∀j (h:j < s.size),(w.alloc (.cells C 5 fr)).cell? ⟨w.heap.size,j,none⟩=some (.int .u8 (s[j].toNat:Int)):=by
 refine ⟨_,_,_,run_bytes_of_string (P:=Try.prog) w 9 22 5 s Try.underlying9 Try.underlying22 Try.underlying5,fun j h=> ?_⟩
 rw [World.cell?_alloc_mark]
 unfold bytesRow
 have h':j < s.data.size:=h
 rw [Array.getElem?_append_left (by simpa using h')]
 simp only [Array.getElem?_map,Array.getElem?_eq_getElem h',Option.map_some]
 rfl
