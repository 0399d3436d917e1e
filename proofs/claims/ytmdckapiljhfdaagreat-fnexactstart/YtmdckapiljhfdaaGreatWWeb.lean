import Derived.Test.YtmdckapiljhfdaaGreatWNodes
import Derived.Test.YtmdckapiljhfdaaGreatWNodes2
import Derived.Test.YtmdckapiljhfdaaGreatWNodes3

/-
  WALKS over a web: szWeb, toWeb, eqWeb.
-/
namespace Go.Proofs.YtmdckapiljhfdaaGreat
open Go.RowKit

set_option maxHeartbeats 400000 in
theorem szWeb_any (w : World) (a : Option Addr) (cap : Nat) (l : List NodeD) (left : Int) (hl : l.length ≤ maxLen) (hs : ∀ s ∈ l, s.Fits) (hS : Nodes w a l) (h0 : 0 ≤ left) (h1 : left ≤ 1048576) :
    Calls Tryz.prog 4 #[.agg #[.slice a l.length cap], .int .i64 left] w fun e w' => e = .returned (.int .i64 (szL (szNodesD l) left)) ∧ Kept w w' := by
  have k0 : Kept w (w.alloc (.cells #[.slice a l.length cap] 24)) := (Kept.refl _).alloc _
  go_enter Tryz.func4, Tryz.ntmps4
  go_wp2_with fail
  refine (szNodeS_any _ a cap l left hl hs (hS.kept k0) h0 h1).mono ?_
  rintro e w1 ⟨rfl, k1⟩
  have k2 := k0.trans k1
  clear k0 k1
  by_cases hle : (szNodesD l : Int) ≤ left
  · rw [szL_pos hle]
    go_wp2
    go_ret
    exact ⟨ret_int (szL_pos hle).symm, k2⟩
  · rw [szL_neg (by omega)]
    go_wp2
    go_ret
    exact ⟨ret_int (szL_neg (by omega)).symm, k2⟩

theorem Tryz.sizeWeb : (Tryz.prog.info? 34).map (·.size) = some 1 := by kernel_rfl

set_option maxHeartbeats 400000 in
theorem toWeb_any (w : World) (a : Option Addr) (cap : Nat) (l : List NodeD) (hl : l.length ≤ 1048576) (hs : ∀ s ∈ l, s.steps.length ≤ 1048576 ∧ ∀ x ∈ s.steps, x.asks.length ≤ 1048576 ∧ x.cases.length ≤ 1048576) (hS : Nodes w a l) :
    Calls Tryz.prog 7 #[.agg #[.slice a l.length cap]] w fun e w' => ∃ b, e = .returned (.agg #[.slice (some ⟨b, 0, none⟩) l.length l.length]) ∧ NodesNew w' b l ∧ Kept w w' ∧ w.heap.size ≤ b := by
  go_enter Tryz.func7, Tryz.ntmps7
  go_wp2_with fail
  refine (toNodeS_any _ a cap l hl hs (hS.kept (by repeat (first | apply Kept.alloc | exact Kept.refl _)))).mono ?_
  rintro e w1 ⟨b, rfl, hN, k1, hb⟩
  obtain ⟨hc1, hf1⟩ := k1.rules
  have hz1 := k1.size
  simp only [World.size_alloc] at hb hz1
  have K1 : Kept w w1 := Kept.trans (by repeat (first | apply Kept.alloc | exact Kept.refl _)) k1
  have hrow1 : Row w1 (w.heap.size + 1) 1 := Row.kept (Row.alloc (by have := Row.made (w.alloc (.cells #[.slice a l.length cap] 24)) #[.slice none 0 0] 34; simpa using this) _) k1
  have HRow := hide hrow1
  clear k1 hrow1
  go_wp2
  have hX : Row (w1.setCell ⟨w.heap.size + 1 + 1, 0, none⟩ (.slice (some ⟨b, 0, none⟩) l.length l.length)) (w.heap.size + 1) 1 := Row.set HRow.out _ rfl _
  have hR := World.rangeAt_setCells_same _ (w.heap.size + 1) 0 [.slice (some ⟨b, 0, none⟩) l.length l.length] (hX.there (o := 0) (m := 1) (Nat.le_refl _))
  refine bodyPost_ret_cell [.slice (some ⟨b, 0, none⟩) l.length l.length] _ Tryz.results7 rfl hR Tryz.underlying34 rfl Tryz.sizeWeb rfl ⟨b, rfl, ?_, ?_, by omega⟩
  · repeat (first | (refine NodesNew.setCell ?_ (by simp <;> omega) _) | exact hN)
  · repeat (first | (refine Kept.setCell ?_ (by simp <;> omega) _) | exact K1)

set_option maxHeartbeats 400000 in
theorem eqWeb_yes (w : World) (a a' : Option Addr) (cap cap' : Nat) (l : List NodeD) (hl : l.length ≤ maxLen) (hs : ∀ s ∈ l, s.Fits) (hS : Nodes w a l) (hS' : Nodes w a' l) :
    Calls Tryz.prog 11 #[.agg #[.slice a l.length cap], .agg #[.slice a' l.length cap']] w fun e w' => e = .returned (.bool true) ∧ Kept w w' := by
  have k0 : Kept w ((w.alloc (.cells #[.slice a l.length cap] 34)).alloc (.cells #[.slice a' l.length cap'] 34)) := ((Kept.refl _).alloc _).alloc _
  go_enter Tryz.func11, Tryz.ntmps11
  go_wp2_with fail
  refine (eqNodeS_yes _ a a' cap cap' l hl hs (hS.kept (by repeat (first | apply Kept.drew | exact k0))) (hS'.kept (by repeat (first | apply Kept.drew | exact k0)))).mono ?_
  rintro e w1 ⟨rfl, k1⟩
  have k2 : Kept w w1 := Kept.trans (by repeat (first | apply Kept.drew | exact k0)) k1
  clear k0 k1
  go_wp2
  go_ret
  exact ⟨rfl, k2⟩

end Go.Proofs.YtmdckapiljhfdaaGreat
