import Derived.Test.YtghipdfemoofhaaGreatDoorKReadN
import Derived.Test.YtghipdfemoofhaaGreatDoorKRInts
import Derived.ChangeSlices
namespace Go.Proofs.YtghipdfemoofhaaGreatDoor
open Go.RowKit Go.Deep Go.ChangeShapes
section
variable {H : Type} {enc : TypeId × Value → H} {w : World} {base : Nat} {spare : Nat → Bool} {held : Bool}
theorem readInts {fuel : Nat} {cs : List Value} {x : DataW H × List MemPlace} (h : DataW.trod enc Tryz.prog w base spare held fuel 50 cs = some x) :
    ∃ a l cap, cs = [.slice a l.length cap] ∧ Ints w a l ∧ ∀ n ∈ l, In64 n := by
  rcases open_ints Tryz.underlying50 Tryz.underlying3 Tryz.cellsInt h with ⟨rfl, _⟩ | ⟨a, len, cap, zs, rfl, _, hl, hm, hz, _, hx, hw⟩
  · exact ⟨none, [], 0, rfl, fun i hi => absurd hi (Nat.not_lt_zero _), fun n hn => by cases hn⟩
  · have hlz : len ≤ zs.length := by rw [hz]; split <;> omega
    refine ⟨some a, zs.take len, cap, by simp [Nat.min_eq_left hlz], fun i hi => ?_, fun n hn => ?_⟩
    · have hi' : i < len := by simp at hi; omega
      obtain ⟨b, o, rfl, hb⟩ := plain_addr (by have := hx 0 (by omega); simpa [Addr.add] using this)
      refine ⟨b, o, rfl, hb, ?_⟩
      have := hx i (by omega)
      rw [Addr.add_mid] at this
      rw [this]
      simp [List.getD, hi']
    · have h := hw n (List.mem_of_mem_take hn)
      exact in64_of_wf h
end
end Go.Proofs.YtghipdfemoofhaaGreatDoor
