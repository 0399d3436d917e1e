import Derived.Test.YtmdckapiljhfdaaGreatOMark3
import Derived.Test.YtmdckapiljhfdaaGreatOHeld3
import Derived.Test.YtmdckapiljhfdaaGreatDataN

/-
  NODES THAT OWN THEIR MEMORY; their marks.
-/
namespace Go.Proofs.YtmdckapiljhfdaaGreat
open Go.RowKit

/-- Element j of the row in block B is this node, its steps in rows of their own. -/
def NodeIn (w : World) (B j lo hi : Nat) (d : NodeD) : Prop := ∃ a cap, w.rangeAt B (j * 3) (d.cells a cap) ∧ StepsIn w lo hi a d.steps

/-- The slice at a holds these nodes, in a row of its own; the steps of each in blocks of their own behind it. -/
def NodesIn (w : World) (lo hi : Nat) (a : Option Addr) (l : List NodeD) : Prop :=
  l = [] ∨ ∃ (b : Nat) (c : Nat → Nat), a = some ⟨b, 0, none⟩ ∧ lo ≤ b ∧ b < c 0 ∧ c l.length ≤ hi ∧ Row w b (l.length * 3) ∧ (∀ i j, i ≤ j → c i ≤ c j) ∧ ∀ i, i < l.length → NodeIn w b i (c i) (c (i + 1)) (l.getD i NodeD.zero)

theorem NodesIn.same {w w' : World} {lo hi : Nat} {a : Option Addr} {l : List NodeD} (h : NodesIn w lo hi a l) (k : Same lo hi w w') : NodesIn w' lo hi a l := by
  rcases h with h | ⟨b, c, ha, h1, h2, h3, hr, hm, hc⟩
  · exact .inl h
  · have hbh : b < hi := Nat.lt_of_lt_of_le h2 (Nat.le_trans (hm 0 _ (Nat.zero_le _)) h3)
    refine .inr ⟨b, c, ha, h1, h2, h3, k.row h1 hbh hr, hm, fun i hi' => ?_⟩
    obtain ⟨a', cap, g1, g2⟩ := hc i hi'
    refine ⟨a', cap, k.range h1 hbh hr.lt g1, g2.same (k.mono ?_ ?_)⟩
    · have := hm 0 i (Nat.zero_le _); omega
    · have := hm (i + 1) l.length (by omega); omega
theorem NodesIn.mono {w : World} {lo hi lo' hi' : Nat} {a : Option Addr} {l : List NodeD} (h : NodesIn w lo hi a l) (h1 : lo' ≤ lo) (h2 : hi ≤ hi') : NodesIn w lo' hi' a l := by
  rcases h with h | ⟨b, c, ha, g1, g2, g3, hr, hm, hc⟩
  · exact .inl h
  · exact .inr ⟨b, c, ha, by omega, g2, by omega, hr, hm, hc⟩
theorem NodesIn.nodes {w : World} {lo hi : Nat} {a : Option Addr} {l : List NodeD} (h : NodesIn w lo hi a l) : Nodes w a l := by
  rcases h with rfl | ⟨b, c, ha, h1, h2, h3, hr, hm, hc⟩
  · intro i hi
    simp at hi
  · intro i hi
    obtain ⟨a', cap, g1, g2⟩ := hc i hi
    exact ⟨b, 0, _, ha, hr.lt, by rw [Nat.zero_add]; exact g1, a', cap, rfl, g2.steps⟩

def cntNode (d : NodeD) : Nat := (d.steps.map cntStep).sum + 2
def markNode (d : NodeD) (k : Nat) : NodeD := { name := mtext k, cost := ((k + 1 : Nat) : Int), steps := markSteps d.steps (k + 2) }
def markNodes (l : List NodeD) (k : Nat) : List NodeD := l.mapIdx fun i d => markNode d (k + sumTo cntNode l i)
theorem markNodes_length (l : List NodeD) (k : Nat) : (markNodes l k).length = l.length := by simp [markNodes]
theorem markNodes_getD (l : List NodeD) (k i : Nat) (h : i < l.length) : (markNodes l k).getD i NodeD.zero = markNode (l.getD i NodeD.zero) (k + sumTo cntNode l i) := by simp [markNodes, List.getD, h]
theorem markNode_cells (d : NodeD) (k : Nat) (a : Option Addr) (cap : Nat) : (markNode d k).cells a cap = [.string (mtext k), .int .i64 ((k + 1 : Nat) : Int), .slice a d.steps.length cap] := by
  simp [markNode, NodeD.cells, markSteps_length]

/-- Nodes, the first j of them marked. -/
def nodeMix (l : List NodeD) (k j t : Nat) : NodeD := if t < j then markNode (l.getD t NodeD.zero) (k + sumTo cntNode l t) else l.getD t NodeD.zero

theorem len_le_cntN (l : List NodeD) : l.length ≤ (l.map cntNode).sum := by
  induction l with
  | nil => simp
  | cons s r ih =>
    simp only [List.length_cons, List.map_cons, List.sum_cons]
    have : 2 ≤ cntNode s := by unfold cntNode; omega
    omega

end Go.Proofs.YtmdckapiljhfdaaGreat
