import Derived.Test.YtnphmohnickdkabOMark2

/-
  A TURN: some cells of one row, and the blocks from lo to hi, have been written; all else is as it was.
-/
namespace Go.Proofs.Ytnphmohnickdkab
open Go.RowKit

structure Turn (B p q lo hi : Nat) (w w' : World) : Prop where
  os : w'.os = w.os
  tape : w'.tape = w.tape
  output : w'.output = w.output
  size : w.heap.size ≤ w'.heap.size
  block : ∀ k, k < w.heap.size → k ≠ B → (k < lo ∨ hi ≤ k) → w'.heap[k]? = w.heap[k]?
  cell : ∀ o, (o < p ∨ q ≤ o) → w'.cell? ⟨B, o, none⟩ = w.cell? ⟨B, o, none⟩

theorem Turn.refl (B p q lo hi : Nat) (w : World) : Turn B p q lo hi w w := ⟨rfl, rfl, rfl, Nat.le_refl _, fun _ _ _ _ => rfl, fun _ _ => rfl⟩
theorem Turn.but {B p q lo hi l2 h2 : Nat} {a b c : World} (h : Turn B p q lo hi a b) (k : KeptBut l2 h2 b c) (h1 : lo ≤ l2) (h3 : h2 ≤ hi) (hB : B < l2 ∨ h2 ≤ B) (hs : B < b.heap.size) : Turn B p q lo hi a c :=
  ⟨k.os.trans h.os, k.tape.trans h.tape, k.output.trans h.output, Nat.le_trans h.size k.size,
    fun i hi' hn ho => (k.block i (Nat.lt_of_lt_of_le hi' h.size) (by omega)).trans (h.block i hi' hn ho),
    fun o ho => (World.cell?_of_block (w := b) (k.block B hs hB)).trans (h.cell o ho)⟩
theorem Turn.kept {B p q lo hi : Nat} {a b c : World} (h : Turn B p q lo hi a b) (k : Kept b c) (hs : B < b.heap.size) : Turn B p q lo hi a c :=
  ⟨k.os.trans h.os, k.tape.trans h.tape, k.output.trans h.output, Nat.le_trans h.size k.size,
    fun i hi' hn ho => (k.block i (Nat.lt_of_lt_of_le hi' h.size)).trans (h.block i hi' hn ho),
    fun o ho => (k.cell hs).trans (h.cell o ho)⟩
theorem Turn.drew {B p q lo hi : Nat} {a b : World} (h : Turn B p q lo hi a b) : Turn B p q lo hi a b.drew := ⟨h.os, h.tape, h.output, h.size, h.block, h.cell⟩
theorem Turn.setCell {B p q lo hi o : Nat} {a b : World} (h : Turn B p q lo hi a b) (h1 : p ≤ o) (h2 : o < q) (v : Value) : Turn B p q lo hi a (b.setCell ⟨B, o, none⟩ v) :=
  ⟨h.os, h.tape, h.output, by rw [size_setCell]; exact h.size, fun k hk hn ho => by rw [Below.heap_setCell _ _ _ _ hn]; exact h.block k hk hn ho,
    fun t ht => by rw [World.cell?_setCell_other _ _ _ _ (by simp <;> omega)]; exact h.cell t ht⟩

/-- Blocks that a turn leaves alone. -/
theorem Turn.same {B p q lo hi l2 h2 : Nat} {w w' : World} (h : Turn B p q lo hi w w') (hd : h2 ≤ lo ∨ hi ≤ l2) (hB : B < l2 ∨ h2 ≤ B) : Same l2 h2 w w' :=
  fun b h1 h2' hs => h.block b hs (by omega) (by omega)
theorem Turn.keptBut {B p q lo hi l2 h2 : Nat} {w w' : World} (h : Turn B p q lo hi w w') (h1 : l2 ≤ lo) (h3 : hi ≤ h2) (hB : l2 ≤ B) (hB2 : B < h2) : KeptBut l2 h2 w w' :=
  ⟨h.os, h.tape, h.output, h.size, fun k hk ho => h.block k hk (by omega) (by omega)⟩
theorem Turn.range {B p q lo hi o : Nat} {w w' : World} {cs : List Value} (h : Turn B p q lo hi w w') (ho : o + cs.length ≤ p ∨ q ≤ o) (hr : w.rangeAt B o cs) : w'.rangeAt B o cs := by
  intro i v hv
  have hi' := (List.getElem?_eq_some_iff.1 hv).1
  rw [h.cell (o + i) (by omega)]
  exact hr i v hv

/-- Eight cells, one after the other. -/
theorem range8 {w : World} {b o : Nat} {x0 x1 x2 x3 x4 x5 x6 x7 : Value} (h0 : w.cell? ⟨b, o, none⟩ = some x0) (h1 : w.cell? ⟨b, o + 1, none⟩ = some x1) (h2 : w.cell? ⟨b, o + 2, none⟩ = some x2) (h3 : w.cell? ⟨b, o + 3, none⟩ = some x3)
    (h4 : w.cell? ⟨b, o + 4, none⟩ = some x4) (h5 : w.cell? ⟨b, o + 5, none⟩ = some x5) (h6 : w.cell? ⟨b, o + 6, none⟩ = some x6) (h7 : w.cell? ⟨b, o + 7, none⟩ = some x7) : w.rangeAt b o [x0, x1, x2, x3, x4, x5, x6, x7] := by
  intro i v hv
  match i, hv with
  | 0, hv => simp at hv; subst hv; exact h0
  | 1, hv => simp at hv; subst hv; exact h1
  | 2, hv => simp at hv; subst hv; exact h2
  | 3, hv => simp at hv; subst hv; exact h3
  | 4, hv => simp at hv; subst hv; exact h4
  | 5, hv => simp at hv; subst hv; exact h5
  | 6, hv => simp at hv; subst hv; exact h6
  | 7, hv => simp at hv; subst hv; exact h7
  | i + 8, hv => simp at hv
theorem range3 {w : World} {b o : Nat} {x0 x1 x2 : Value} (h0 : w.cell? ⟨b, o, none⟩ = some x0) (h1 : w.cell? ⟨b, o + 1, none⟩ = some x1) (h2 : w.cell? ⟨b, o + 2, none⟩ = some x2) : w.rangeAt b o [x0, x1, x2] := by
  intro i v hv
  match i, hv with
  | 0, hv => simp at hv; subst hv; exact h0
  | 1, hv => simp at hv; subst hv; exact h1
  | 2, hv => simp at hv; subst hv; exact h2
  | i + 3, hv => simp at hv

/-- A row's cell that has been written. -/
theorem set_hit {w : World} {b n o : Nat} (h : Row w b n) (ho : o < n) (v : Value) : (w.setCell ⟨b, o, none⟩ v).cell? ⟨b, o, none⟩ = some v := by
  obtain ⟨⟨old, hc⟩, _⟩ := h.at ho
  exact World.cell?_setCell_same _ _ _ hc
theorem set_miss {w : World} {b o p : Nat} (hn : o ≠ p) (v : Value) : (w.setCell ⟨b, o, none⟩ v).cell? ⟨b, p, none⟩ = w.cell? ⟨b, p, none⟩ :=
  World.cell?_setCell_other _ _ _ _ (by simp <;> omega)

/-- Four stores into one row. -/
theorem four_set {w : World} {b n o : Nat} (h : Row w b n) (ho : o + 7 < n) (v3 v4 v5 v6 : Value) : ∃ W, W = (((w.setCell ⟨b, o + 3, none⟩ v3).setCell ⟨b, o + 4, none⟩ v4).setCell ⟨b, o + 5, none⟩ v5).setCell ⟨b, o + 6, none⟩ v6 ∧ Row W b n ∧
    W.cell? ⟨b, o, none⟩ = w.cell? ⟨b, o, none⟩ ∧ W.cell? ⟨b, o + 1, none⟩ = w.cell? ⟨b, o + 1, none⟩ ∧ W.cell? ⟨b, o + 2, none⟩ = w.cell? ⟨b, o + 2, none⟩ ∧ W.cell? ⟨b, o + 3, none⟩ = some v3 ∧ W.cell? ⟨b, o + 4, none⟩ = some v4 ∧ W.cell? ⟨b, o + 5, none⟩ = some v5 ∧ W.cell? ⟨b, o + 6, none⟩ = some v6 := by
  have r1 := h.set ⟨b, o + 3, none⟩ rfl v3
  have r2 := r1.set ⟨b, o + 4, none⟩ rfl v4
  have r3 := r2.set ⟨b, o + 5, none⟩ rfl v5
  refine ⟨_, rfl, r3.set _ rfl _, ?_, ?_, ?_, ?_, ?_, ?_, ?_⟩
  · rw [set_miss (by omega), set_miss (by omega), set_miss (by omega), set_miss (by omega)]
  · rw [set_miss (by omega), set_miss (by omega), set_miss (by omega), set_miss (by omega)]
  · rw [set_miss (by omega), set_miss (by omega), set_miss (by omega), set_miss (by omega)]
  · rw [set_miss (by omega), set_miss (by omega), set_miss (by omega)]; exact set_hit h (by omega) _
  · rw [set_miss (by omega), set_miss (by omega)]; exact set_hit r1 (by omega) _
  · rw [set_miss (by omega)]; exact set_hit r2 (by omega) _
  · exact set_hit r3 (by omega) _

/-- 'k % 3 == 0', as the walk writes it. -/
theorem mod3 (m d : Nat) (z : Int) (h : z = ((m + d : Nat) : Int)) : (z % 3 == 0) = decide ((m + d) % 3 = 0) := by
  subst h
  rw [Bool.eq_iff_iff]
  simp
  omega

/-- Steps, the first j of them marked. -/
def stepMix (l : List StepD) (k j t : Nat) : StepD := if t < j then markStep (l.getD t StepD.zero) (k + sumTo cntStep l t) else l.getD t StepD.zero

theorem len_le_cnt (l : List StepD) : l.length ≤ (l.map cntStep).sum := by
  induction l with
  | nil => simp
  | cons s r ih =>
    simp only [List.length_cons, List.map_cons, List.sum_cons]
    have : 6 ≤ cntStep s := by unfold cntStep; omega
    omega

theorem markStep_cells (s : StepD) (k : Nat) (aa : Option Addr) (ca : Nat) (ac : Option Addr) (cc : Nat) : (markStep s k).cells aa ca ac cc =
    [.slice aa s.asks.length ca, .int .i64 ((k + s.asks.length : Nat) : Int), .slice ac s.cases.length cc, .int .i64 ((k + s.asks.length + 1 + s.cases.length * 2 : Nat) : Int), .int .i64 ((k + s.asks.length + 1 + s.cases.length * 2 + 1 : Nat) : Int),
      .bool (decide ((k + s.asks.length + 1 + s.cases.length * 2 + 2) % 3 = 0)), .bool (decide ((k + s.asks.length + 1 + s.cases.length * 2 + 3) % 3 = 0)), .string (mtext (k + s.asks.length + 1 + s.cases.length * 2 + 4))] := by
  simp [markStep, StepD.cells, markStrs_length, markCases_length]

end Go.Proofs.Ytnphmohnickdkab
