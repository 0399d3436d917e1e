import Derived.Test.YtmdckapiljhfdaaGreatOWithout
import Derived.Test.YtmdckapiljhfdaaGreatWCheck5
import Derived.Test.YtmdckapiljhfdaaGreatOSpec2

/-
  THE WALK over impl.DropNode.
-/
namespace Go.Proofs.YtmdckapiljhfdaaGreat
open Go.RowKit

theorem rises_of_code {l : List NodeD} (h : WebCode l 0) : Rises l := by
  have hn : ¬ SomeFalls l := by
    rcases h with ⟨_, e⟩ | ⟨_, _, e⟩ | ⟨_, _, _, e⟩ | ⟨_, _, _, _, e⟩ | ⟨_, _, h3, _, _⟩
    · omega
    · omega
    · omega
    · omega
    · exact h3
  refine rises_of fun i hi => ?_
  cases hq : Op.bytesLess (nameAt l i) (nameAt l (i + 1))
  · exact absurd ⟨i, hi, hq⟩ hn
  · rfl

/-- What DropNode gives: a code, and the nodes. -/
def DropR (l : List NodeD) (name : ByteArray) (c : Int) (r : List NodeD) : Prop :=
  (¬ WebCode l 0 ∧ c = 1 ∧ r = []) ∨ (WebCode l 0 ∧ ¬ NameOk name ∧ c = 2 ∧ r = []) ∨ (WebCode l 0 ∧ NameOk name ∧ (∀ j, j < l.length → nameAt l j ≠ name.toList) ∧ c = 4 ∧ r = []) ∨
  (WebCode l 0 ∧ NameOk name ∧ ∃ p, p < l.length ∧ nameAt l p = name.toList ∧ c = 0 ∧ r = cutOut l p)

theorem DropR.unique {l : List NodeD} {name : ByteArray} {c c' : Int} {r r' : List NodeD} (h : DropR l name c r) (h' : DropR l name c' r') : c = c' ∧ r = r' := by
  rcases h with ⟨h1, rfl, rfl⟩ | ⟨h1, h2, rfl, rfl⟩ | ⟨h1, h2, h3, rfl, rfl⟩ | ⟨h1, h2, p, h3, h4, rfl, rfl⟩ <;>
    rcases h' with ⟨g1, rfl, rfl⟩ | ⟨g1, g2, rfl, rfl⟩ | ⟨g1, g2, g3, rfl, rfl⟩ | ⟨g1, g2, q, g3, g4, rfl, rfl⟩
  · exact ⟨rfl, rfl⟩
  · exact absurd g1 h1
  · exact absurd g1 h1
  · exact absurd g1 h1
  · exact absurd h1 g1
  · exact ⟨rfl, rfl⟩
  · exact absurd g2 h2
  · exact absurd g2 h2
  · exact absurd h1 g1
  · exact absurd h2 g2
  · exact ⟨rfl, rfl⟩
  · exact absurd g4 (h3 q g3)
  · exact absurd h1 g1
  · exact absurd h2 g2
  · exact absurd h4 (g3 p h3)
  · have hr := rises_of_code h1
    have : p = q := by
      by_cases e : p = q
      · exact e
      · rcases Nat.lt_or_gt_of_ne e with hlt | hlt
        · have := hr p q hlt g3
          rw [h4, g4, less_irrefl] at this
          cases this
        · have := hr q p hlt h3
          rw [h4, g4, less_irrefl] at this
          cases this
    subst this
    exact ⟨rfl, rfl⟩

/-- What the walk ends with. -/
def DropEnd (l : List NodeD) (name : ByteArray) (w w' : World) (e : Ending) : Prop :=
  ∃ a cap c r, e = .returned (.tuple #[.agg #[.slice a r.length cap], .int .i64 c]) ∧ DropR l name c r ∧ NodesIn w' w.heap.size w'.heap.size a r ∧ Kept w w'

theorem DropEnd.none {l : List NodeD} {name : ByteArray} {w w' : World} {e : Ending} (c : Int) (he : e = .returned (.tuple #[.agg #[.slice none 0 0], .int .i64 c])) (h : DropR l name c []) (k : Kept w w') : DropEnd l name w w' e := ⟨Option.none, 0, c, [], he, h, .inl rfl, k⟩

end Go.Proofs.YtmdckapiljhfdaaGreat

/-
  WALKS: spec.l2At, spec.DropNode.
-/
namespace Go.Proofs.YtmdckapiljhfdaaGreat
open Go.RowKit

theorem rises_only {l : List NodeD} (hr : Rises l) {p j : Nat} (hp : p < l.length) (hj : j < l.length) (e : nameAt l j = nameAt l p) : j = p := by
  by_cases h : j = p
  · exact h
  · rcases Nat.lt_or_gt_of_ne h with hlt | hlt
    · have := hr j p hlt hp
      rw [e, less_irrefl] at this
      cases this
    · have := hr p j hlt hj
      rw [e, less_irrefl] at this
      cases this

theorem filter_cut {l : List NodeD} (hr : Rises l) {key : List UInt8} {p : Nat} (hp : p < l.length) (e : nameAt l p = key) : l.filter (otherN key) = cutOut l p := by
  have hget : ∀ j (hj : j < l.length), j ≠ p → otherN key l[j] = true := fun j hj hne => by
    have hn : nameAt l j = l[j].name.toList := by unfold nameAt; simp [List.getD, hj]
    simp only [otherN, Bool.not_eq_true', beq_eq_false_iff_ne]
    intro h
    exact hne (rises_only hr hp hj (by rw [hn, h, e]))
  have hpn : otherN key l[p] = false := by
    have hn : nameAt l p = l[p].name.toList := by unfold nameAt; simp [List.getD, hp]
    simp [otherN, ← hn, e]
  have hsplit : l = l.take p ++ (l[p] :: l.drop (p + 1)) := by
    rw [← List.drop_eq_getElem_cons hp, List.take_append_drop]
  have h1 : (l.take p).filter (otherN key) = l.take p := List.filter_eq_self.2 fun d hd => by
    obtain ⟨i, hi, rfl⟩ := List.getElem_of_mem hd
    rw [List.length_take] at hi
    rw [List.getElem_take]
    exact hget i (by omega) (by omega)
  have h2 : (l.drop (p + 1)).filter (otherN key) = l.drop (p + 1) := List.filter_eq_self.2 fun d hd => by
    obtain ⟨i, hi, rfl⟩ := List.getElem_of_mem hd
    rw [List.length_drop] at hi
    rw [List.getElem_drop]
    exact hget _ (by omega) (by omega)
  unfold cutOut
  conv => lhs; rw [hsplit]
  rw [List.filter_append, List.filter_cons_of_neg (by rw [hpn]; simp), h1, h2]

/-- The name is there. -/
def HasName (l : List NodeD) (key : List UInt8) : Prop := ∃ j, j < l.length ∧ nameAt l j = key

set_option maxHeartbeats 800000 in
theorem l2At_any (w : World) (a : Option Addr) (cap : Nat) (l : List NodeD) (key : ByteArray) (hl : l.length ≤ 1048576) (hS : Nodes w a l) :
    Calls Tryz.prog 37 #[.agg #[.slice a l.length cap], .string key] w fun e w' => (∃ r, e = .returned (.int .i64 r) ∧ (0 ≤ r ↔ HasName l key.toList)) ∧ Kept w w' := by
  have k0 : Kept w (w.alloc (.cells #[.slice a l.length cap] 34)) := (Kept.refl _).alloc _
  go_enter Tryz.func37, Tryz.ntmps37
  go_wp2
  go_loop [5] (fun i => ∃ k : Nat, k ≤ l.length ∧ i = .int .i64 k ∧ ∀ j, j < k → nameAt l j ≠ key.toList) (fun i => l.length - (intOf i).toNat)
  case atStart => exact ⟨0, Nat.zero_le _, rfl, fun j hj => absurd hj (Nat.not_lt_zero _)⟩
  case round =>
    obtain ⟨k, hk, rfl, hg⟩ := hrel
    have HG := hide hg
    clear hg
    by_cases hlt : k < l.length
    · obtain ⟨b, o, cs, rfl, hb, hc, aa, ca, rfl, hA⟩ := (hS.kept k0) k hlt
      obtain ⟨d, hd⟩ : ∃ d, d = l.getD k NodeD.zero := ⟨_, rfl⟩
      rw [← hd] at hc
      have HN : Hid (nameAt l k = d.name.toList) := by show _ = _; unfold nameAt; rw [← hd]
      clear hd hA
      have c0 := hc 0 _ rfl
      rw [Nat.add_zero] at c0
      clear hc
      cases hne : (d.name.toList == key.toList)
      · go_wp2
        go_round
        case rel =>
          refine ⟨k + 1, by omega, by go_num, fun j hj => ?_⟩
          by_cases e : j = k
          · subst e; rw [HN.out]; simpa using hne
          · exact HG.out j (by omega)
        case measure => simp [intOf]; omega
      · go_wp2
        go_ret
        exact ⟨⟨k, rfl, ⟨fun _ => ⟨k, hlt, by rw [HN.out]; simpa using hne⟩, fun _ => by omega⟩⟩, k0⟩
    · go_wp2
      go_ret
      exact ⟨⟨-1, rfl, ⟨fun h => by omega, fun ⟨j, hj, e⟩ => absurd e (HG.out j (by omega))⟩⟩, k0⟩

/-- What the specification's walk ends with. -/
def DropEndS (l : List NodeD) (name : ByteArray) (w w' : World) (e : Ending) : Prop :=
  ∃ a cap c r, e = .returned (.tuple #[.agg #[.slice a r.length cap], .int .i64 c]) ∧ DropR l name c r ∧ Nodes w' a r ∧ Kept w w'
theorem DropEndS.none {l : List NodeD} {name : ByteArray} {w w' : World} {e : Ending} (c : Int) (he : e = .returned (.tuple #[.agg #[.slice none 0 0], .int .i64 c])) (h : DropR l name c []) (k : Kept w w') : DropEndS l name w w' e := ⟨Option.none, 0, c, [], he, h, fun i hi => by simp at hi, k⟩

end Go.Proofs.YtmdckapiljhfdaaGreat
