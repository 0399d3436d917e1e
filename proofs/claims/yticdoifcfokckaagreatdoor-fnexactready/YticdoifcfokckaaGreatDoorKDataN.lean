import Derived.Test.YticdoifcfokckaaGreatDoorKWSteps3

namespace Go.Proofs.YticdoifcfokckaaGreatDoor
open Go.RowKit

set_option maxHeartbeats 400000 in
theorem szAction_any (w : World) (cost : Int) (a : Option Addr) (cap : Nat) (l : List StepD) (left : Int) (hl : l.length ≤ maxLen) (hs : ∀ s ∈ l, s.Fits)
    (hS : Steps w a l) (h0 : 0 ≤ left) (h1 : left ≤ 1048576) :
    Calls Tryz.prog 122 #[.agg #[.int .i64 cost, .slice a l.length cap], .int .i64 left] w fun e w' => e = .returned (.int .i64 (szL (szSteps l) left)) ∧ Kept w w' := by
  have k0 : Kept w (w.alloc (.cells #[.int .i64 cost, .slice a l.length cap] 105)) := (Kept.refl _).alloc _
  go_enter Tryz.func122, Tryz.ntmps122
  go_wp2_with fail
  refine (szStepS_any _ a cap l left hl hs (hS.kept k0) h0 h1).mono ?_
  rintro e w1 ⟨rfl, k1⟩
  have k2 := k0.trans k1
  clear k0 k1
  by_cases hle : (szSteps l : Int) ≤ left
  · rw [szL_pos hle]
    go_wp2
    go_ret
    exact ⟨ret_int (szL_pos hle).symm, k2⟩
  · rw [szL_neg (by omega)]
    go_wp2
    go_ret
    exact ⟨ret_int (szL_neg (by omega)).symm, k2⟩

theorem Tryz.sizeAction : (Tryz.prog.info? 80).map (·.size) = some 2 := by kernel_rfl

set_option maxHeartbeats 400000 in
theorem toAction_any (w : World) (cost : Int) (a : Option Addr) (cap : Nat) (l : List StepD) (hl : l.length ≤ 1048576) (hs : ∀ s ∈ l, s.asks.length ≤ 1048576 ∧ s.cases.length ≤ 1048576)
    (hS : Steps w a l) :
    Calls Tryz.prog 124 #[.agg #[.int .i64 cost, .slice a l.length cap]] w fun e w' => ∃ b, e = .returned (.agg #[.int .i64 cost, .slice (some ⟨b, 0, none⟩) l.length l.length]) ∧ StepsNew w' b l ∧ Kept w w' ∧ w.heap.size ≤ b := by
  go_enter Tryz.func124, Tryz.ntmps124
  go_wp2_with fail
  refine (toStepS_any _ a cap l hl hs (hS.kept (by repeat (first | apply Kept.alloc | exact Kept.refl _)))).mono ?_
  rintro e w1 ⟨b, rfl, hN, k1, hb⟩
  obtain ⟨hc1, hf1⟩ := k1.rules
  have hz1 := k1.size
  simp only [World.size_alloc] at hb hz1
  have K1 : Kept w w1 := Kept.trans (by repeat (first | apply Kept.alloc | exact Kept.refl _)) k1
  have hrow1 : Row w1 (w.heap.size + 1) 2 := Row.kept (Row.alloc (by have := Row.made (w.alloc (.cells #[.int .i64 cost, .slice a l.length cap] 105)) #[.int .i64 0, .slice none 0 0] 80; simpa using this) _) k1
  have HRow := hide hrow1
  clear k1 hrow1
  go_wp2
  have hX : Row (w1.setCell ⟨w.heap.size + 1 + 1, 1, none⟩ (.slice (some ⟨b, 0, none⟩) l.length l.length)) (w.heap.size + 1) 2 := Row.set HRow.out _ rfl _
  have hR := World.rangeAt_setCells_same _ (w.heap.size + 1) 0 [.int .i64 cost, .slice (some ⟨b, 0, none⟩) l.length l.length] (hX.there (o := 0) (m := 2) (Nat.le_refl _))
  refine bodyPost_ret_cell [.int .i64 cost, .slice (some ⟨b, 0, none⟩) l.length l.length] _ Tryz.results124 rfl hR Tryz.underlying80 rfl Tryz.sizeAction rfl ⟨b, rfl, ?_, ?_, by omega⟩
  · repeat (first | (refine StepsNew.setCell ?_ (by simp <;> omega) _) | exact hN)
  · repeat (first | (refine Kept.setCell ?_ (by simp <;> omega) _) | exact K1)

set_option maxHeartbeats 400000 in
theorem eqAction_yes (w : World) (cost : Int) (a a' : Option Addr) (cap cap' : Nat) (l : List StepD) (hl : l.length ≤ maxLen) (hs : ∀ s ∈ l, s.asks.length ≤ maxLen ∧ s.cases.length ≤ maxLen)
    (hS : Steps w a l) (hS' : Steps w a' l) :
    Calls Tryz.prog 128 #[.agg #[.int .i64 cost, .slice a l.length cap], .agg #[.int .i64 cost, .slice a' l.length cap']] w fun e w' => e = .returned (.bool true) ∧ Kept w w' := by
  have k0 : Kept w ((w.alloc (.cells #[.int .i64 cost, .slice a l.length cap] 80)).alloc (.cells #[.int .i64 cost, .slice a' l.length cap'] 80)) := ((Kept.refl _).alloc _).alloc _
  go_enter Tryz.func128, Tryz.ntmps128
  go_wp2_with fail
  refine (eqStepS_yes _ a a' cap cap' l hl hs (hS.kept (by repeat (first | apply Kept.drew | exact k0))) (hS'.kept (by repeat (first | apply Kept.drew | exact k0)))).mono ?_
  rintro e w1 ⟨rfl, k1⟩
  have k2 : Kept w w1 := Kept.trans (by repeat (first | apply Kept.drew | exact k0)) k1
  clear k0 k1
  go_wp2
  go_ret
  exact ⟨rfl, k2⟩

end Go.Proofs.YticdoifcfokckaaGreatDoor

namespace Go.Proofs.YticdoifcfokckaaGreatDoor
open Go.RowKit

structure NodeD where
  name : ByteArray
  cost : Int
  steps : List StepD

def NodeD.zero : NodeD := ⟨ByteArray.empty, 0, []⟩
def NodeD.cells (d : NodeD) (a : Option Addr) (cap : Nat) : List Value := [.string d.name, .int .i64 d.cost, .slice a d.steps.length cap]

theorem NodeD.one (d : NodeD) (a : Option Addr) (cap : Nat) : (d.cells a cap).toArray.all (·.oneCell') = true :=
  all_oneCell_toArray (by simp [NodeD.cells, Value.oneCell'])

def NodeIs (w : World) (cs : List Value) (d : NodeD) : Prop := ∃ a cap, cs = d.cells a cap ∧ Steps w a d.steps

theorem NodeIs.kept {w w' : World} {cs : List Value} {d : NodeD} (h : NodeIs w cs d) (k : Kept w w') : NodeIs w' cs d := by
  obtain ⟨a, cap, e, h1⟩ := h
  exact ⟨a, cap, e, h1.kept k⟩

def Nodes (w : World) (a : Option Addr) (l : List NodeD) : Prop :=
  ∀ i, i < l.length → ∃ b o cs, a = some ⟨b, o, none⟩ ∧ b < w.heap.size ∧ w.rangeAt b (o + i * 3) cs ∧ NodeIs w cs (l.getD i NodeD.zero)

theorem Nodes.kept {w w' : World} {a : Option Addr} {l : List NodeD} (h : Nodes w a l) (k : Kept w w') : Nodes w' a l := by
  intro i hi
  obtain ⟨b, o, cs, ha, hb, hc, hs⟩ := h i hi
  exact ⟨b, o, cs, ha, Nat.lt_of_lt_of_le hb k.size, k.range hb hc, hs.kept k⟩

structure NodeD.Fits (d : NodeD) : Prop where
  name : d.name.size ≤ maxLen
  cost : In64 d.cost
  steps : d.steps.length ≤ maxLen
  each : ∀ s ∈ d.steps, s.Fits

theorem StepNew.setCellsBelow {w : World} {B j g o : Nat} {s : StepD} {vs : List Value} (h : StepNew w B j s) (hg : g < B) : StepNew (w.setCells g o vs) B j s := by
  obtain ⟨b1, b2, h1, h2, h3, h4, h5⟩ := h
  exact ⟨b1, b2, h1, h2, World.rangeAt_setCells_apart h3 _ _ _ (by omega), Strs.setCells (by omega) _ _ h4, Cases.setCells (by omega) _ _ h5⟩

theorem size_setCells (g : Nat) : ∀ (vs : List Value) (o : Nat) (w : World), (w.setCells g o vs).heap.size = w.heap.size
  | [], _, _ => rfl
  | v :: r, o, w => by rw [World.setCells, size_setCells g r (o + 1), size_setCell]

theorem StepsNew.setCellsBelow {w : World} {B g o : Nat} {l : List StepD} {vs : List Value} (h : StepsNew w B l) (hg : g < B) : StepsNew (w.setCells g o vs) B l :=
  ⟨by rw [size_setCells]; exact h.1, fun j hj => (h.2 j hj).setCellsBelow hg⟩

def NodeNew (w : World) (B j : Nat) (d : NodeD) : Prop :=
  ∃ b1, B < b1 ∧ w.rangeAt B (j * 3) (d.cells (some ⟨b1, 0, none⟩) d.steps.length) ∧ StepsNew w b1 d.steps

theorem NodeNew.kept {w w' : World} {B j : Nat} {d : NodeD} (h : NodeNew w B j d) (k : Kept w w') (hB : B < w.heap.size) : NodeNew w' B j d := by
  obtain ⟨b1, h1, h2, h3⟩ := h
  exact ⟨b1, h1, k.range hB h2, h3.kept k⟩

theorem NodeNew.setCells {w : World} {B j o : Nat} {d : NodeD} {vs : List Value} (h : NodeNew w B j d) (ho : j * 3 + 3 ≤ o ∨ o + vs.length ≤ j * 3) : NodeNew (w.setCells B o vs) B j d := by
  obtain ⟨b1, h1, h2, h3⟩ := h
  exact ⟨b1, h1, World.rangeAt_setCells_apart h2 _ _ _ (by right; simpa [NodeD.cells] using ho), h3.setCellsBelow h1⟩

theorem NodeNew.setCell {w : World} {B j : Nat} {d : NodeD} (h : NodeNew w B j d) {p : Addr} (hp : p.block < B) (v : Value) : NodeNew (w.setCell p v) B j d := by
  obtain ⟨b1, h1, h2, h3⟩ := h
  exact ⟨b1, h1, fun i u hu => by rw [World.cell?_setCell_other _ _ _ _ (fun e => by rw [e] at hp; simp at hp)]; exact h2 i u hu, h3.setCell (by omega) v⟩

def NodesNew (w : World) (B : Nat) (l : List NodeD) : Prop := B < w.heap.size ∧ ∀ j, j < l.length → NodeNew w B j (l.getD j NodeD.zero)

theorem NodesNew.setCell {w : World} {B : Nat} {l : List NodeD} (h : NodesNew w B l) {p : Addr} (hp : p.block < B) (v : Value) : NodesNew (w.setCell p v) B l :=
  ⟨by rw [size_setCell]; exact h.1, fun j hj => (h.2 j hj).setCell hp v⟩
theorem NodesNew.kept {w w' : World} {B : Nat} {l : List NodeD} (h : NodesNew w B l) (k : Kept w w') : NodesNew w' B l :=
  ⟨Nat.lt_of_lt_of_le h.1 k.size, fun j hj => (h.2 j hj).kept k h.1⟩
theorem NodesNew.nodes {w : World} {B : Nat} {l : List NodeD} (h : NodesNew w B l) : Nodes w (some ⟨B, 0, none⟩) l := by
  intro j hj
  obtain ⟨b1, _, g1, g2⟩ := h.2 j hj
  exact ⟨B, 0, _, rfl, h.1, by rw [Nat.zero_add]; exact g1, _, _, rfl, g2.steps⟩

end Go.Proofs.YticdoifcfokckaaGreatDoor
