import Derived.Test.YtmdckapiljhfdaaGreatWAction

/-
  NODES, and what it means that a world holds them.
-/
namespace Go.Proofs.YtmdckapiljhfdaaGreat
open Go.RowKit

structure NodeD where
  name : ByteArray
  cost : Int
  steps : List StepD

def NodeD.zero : NodeD := ⟨ByteArray.empty, 0, []⟩
def NodeD.cells (d : NodeD) (a : Option Addr) (cap : Nat) : List Value := [.string d.name, .int .i64 d.cost, .slice a d.steps.length cap]

theorem NodeD.one (d : NodeD) (a : Option Addr) (cap : Nat) : (d.cells a cap).toArray.all (·.oneCell') = true :=
  all_oneCell_toArray (by simp [NodeD.cells, Value.oneCell'])

/-- These cells are that node. -/
def NodeIs (w : World) (cs : List Value) (d : NodeD) : Prop := ∃ a cap, cs = d.cells a cap ∧ Steps w a d.steps

theorem NodeIs.kept {w w' : World} {cs : List Value} {d : NodeD} (h : NodeIs w cs d) (k : Kept w w') : NodeIs w' cs d := by
  obtain ⟨a, cap, e, h1⟩ := h
  exact ⟨a, cap, e, h1.kept k⟩

/-- The slice that begins at a holds these nodes. -/
def Nodes (w : World) (a : Option Addr) (l : List NodeD) : Prop :=
  ∀ i, i < l.length → ∃ b o cs, a = some ⟨b, o, none⟩ ∧ b < w.heap.size ∧ w.rangeAt b (o + i * 3) cs ∧ NodeIs w cs (l.getD i NodeD.zero)

theorem Nodes.kept {w w' : World} {a : Option Addr} {l : List NodeD} (h : Nodes w a l) (k : Kept w w') : Nodes w' a l := by
  intro i hi
  obtain ⟨b, o, cs, ha, hb, hc, hs⟩ := h i hi
  exact ⟨b, o, cs, ha, Nat.lt_of_lt_of_le hb k.size, k.range hb hc, hs.kept k⟩

/-- That all in a node is of Go's size. -/
structure NodeD.Fits (d : NodeD) : Prop where
  name : d.name.size ≤ maxLen
  cost : In64 d.cost
  steps : d.steps.length ≤ maxLen
  each : ∀ s ∈ d.steps, s.Fits

theorem StepNew.setCellsBelow {w : World} {B j g o : Nat} {s : StepD} {vs : List Value} (h : StepNew w B j s) (hg : g < B) : StepNew (w.setCells g o vs) B j s := by
  obtain ⟨b1, b2, h1, h2, h3, h4, h5⟩ := h
  exact ⟨b1, b2, h1, h2, World.rangeAt_setCells_apart h3 _ _ _ (by omega), Strs.setCells (by omega) _ _ h4, Cases.setCells (by omega) _ _ h5⟩

theorem size_setCells (g : Nat) : ∀ (vs : List Value) (o : Nat) (w : World), (w.setCells g o vs).heap.size = w.heap.size
  | [], _, _ => rfl
  | v :: r, o, w => by rw [World.setCells, size_setCells g r (o + 1), size_setCell]

theorem StepsNew.setCellsBelow {w : World} {B g o : Nat} {l : List StepD} {vs : List Value} (h : StepsNew w B l) (hg : g < B) : StepsNew (w.setCells g o vs) B l :=
  ⟨by rw [size_setCells]; exact h.1, fun j hj => (h.2 j hj).setCellsBelow hg⟩

/-- Element j of the row in block B is a node whose steps lie in blocks behind B. -/
def NodeNew (w : World) (B j : Nat) (d : NodeD) : Prop :=
  ∃ b1, B < b1 ∧ w.rangeAt B (j * 3) (d.cells (some ⟨b1, 0, none⟩) d.steps.length) ∧ StepsNew w b1 d.steps

theorem NodeNew.kept {w w' : World} {B j : Nat} {d : NodeD} (h : NodeNew w B j d) (k : Kept w w') (hB : B < w.heap.size) : NodeNew w' B j d := by
  obtain ⟨b1, h1, h2, h3⟩ := h
  exact ⟨b1, h1, k.range hB h2, h3.kept k⟩

theorem NodeNew.setCells {w : World} {B j o : Nat} {d : NodeD} {vs : List Value} (h : NodeNew w B j d) (ho : j * 3 + 3 ≤ o ∨ o + vs.length ≤ j * 3) : NodeNew (w.setCells B o vs) B j d := by
  obtain ⟨b1, h1, h2, h3⟩ := h
  exact ⟨b1, h1, World.rangeAt_setCells_apart h2 _ _ _ (by right; simpa [NodeD.cells] using ho), h3.setCellsBelow h1⟩

theorem NodeNew.setCell {w : World} {B j : Nat} {d : NodeD} (h : NodeNew w B j d) {p : Addr} (hp : p.block < B) (v : Value) : NodeNew (w.setCell p v) B j d := by
  obtain ⟨b1, h1, h2, h3⟩ := h
  exact ⟨b1, h1, fun i u hu => by rw [World.cell?_setCell_other _ _ _ _ (fun e => by rw [e] at hp; simp at hp)]; exact h2 i u hu, h3.setCell (by omega) v⟩

/-- The row in block B holds these nodes, all their steps behind it. -/
def NodesNew (w : World) (B : Nat) (l : List NodeD) : Prop := B < w.heap.size ∧ ∀ j, j < l.length → NodeNew w B j (l.getD j NodeD.zero)

theorem NodesNew.setCell {w : World} {B : Nat} {l : List NodeD} (h : NodesNew w B l) {p : Addr} (hp : p.block < B) (v : Value) : NodesNew (w.setCell p v) B l :=
  ⟨by rw [size_setCell]; exact h.1, fun j hj => (h.2 j hj).setCell hp v⟩
theorem NodesNew.kept {w w' : World} {B : Nat} {l : List NodeD} (h : NodesNew w B l) (k : Kept w w') : NodesNew w' B l :=
  ⟨Nat.lt_of_lt_of_le h.1 k.size, fun j hj => (h.2 j hj).kept k h.1⟩
theorem NodesNew.nodes {w : World} {B : Nat} {l : List NodeD} (h : NodesNew w B l) : Nodes w (some ⟨B, 0, none⟩) l := by
  intro j hj
  obtain ⟨b1, _, g1, g2⟩ := h.2 j hj
  exact ⟨B, 0, _, rfl, h.1, by rw [Nat.zero_add]; exact g1, _, _, rfl, g2.steps⟩

end Go.Proofs.YtmdckapiljhfdaaGreat
