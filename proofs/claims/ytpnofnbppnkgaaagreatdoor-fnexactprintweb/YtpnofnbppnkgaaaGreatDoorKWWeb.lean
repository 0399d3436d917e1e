import Derived.Test.YtpnofnbppnkgaaaGreatDoorKWNodes2

namespace Go.Proofs.YtpnofnbppnkgaaaGreatDoor
open Go.RowKit

set_option maxHeartbeats 1600000 in
theorem eqNodeS_yes (w : World) (a a' : Option Addr) (cap cap' : Nat) (l : List NodeD) (hl : l.length ≤ maxLen) (hs : ∀ s ∈ l, s.Fits)
    (hS : Nodes w a l) (hS' : Nodes w a' l) :
    Calls Tryz.prog 18 #[.slice a l.length cap, .slice a' l.length cap'] w fun e w' => e = .returned (.bool true) ∧ Kept w w' := by
  unfold maxLen at hl
  go_enter Tryz.func18, Tryz.ntmps18
  go_wp2
  go_loopw [5] (fun i wr => ∃ k : Nat, k ≤ l.length ∧ i = .int .i64 k ∧ Kept w wr) (fun i _ => l.length - (intOf i).toNat)
  case atStart => exact ⟨0, Nat.zero_le _, rfl, Kept.refl _⟩
  case round =>
    obtain ⟨k, hk, rfl, hw⟩ := hrel
    by_cases hlt : k < l.length
    · obtain ⟨b, o, cs, rfl, hb, hc, aa, ca, rfl, hA⟩ := hS.kept hw k hlt
      obtain ⟨b', o', cs', rfl, hb', hc', ba, da, rfl, hA'⟩ := hS'.kept hw k hlt
      have hsz := hs (l.getD k NodeD.zero) (by simp [List.getD, hlt])
      clear hs
      generalize l.getD k NodeD.zero = s at *
      have c0 := hc 0 _ rfl
      have c1 := hc 1 _ rfl
      have c2 := hc 2 _ rfl
      have d0 := hc' 0 _ rfl
      have d1 := hc' 1 _ rfl
      have d2 := hc' 2 _ rfl
      simp only [Nat.add_zero] at c0 d0
      clear hc hc'
      go_wp2
      go_region_with (go_at_call 34; refine (eqNode_yes _ s aa ba ca da hsz (hA.kept (by repeat (first | apply Kept.drew | exact Kept.refl _))) (hA'.kept (by repeat (first | apply Kept.drew | exact Kept.refl _)))).mono ?_; rintro e w1 ⟨rfl, hw1⟩)
      all_goals
        go_wp2
        go_roundw
        case rel => exact ⟨k + 1, by omega, by go_num, by repeat (first | assumption | apply Kept.drew | refine Kept.trans ?_ (by assumption))⟩
        case measure => simp [intOf]; omega
    · go_wp2
      go_ret
      exact ⟨rfl, hw⟩

end Go.Proofs.YtpnofnbppnkgaaaGreatDoor

namespace Go.Proofs.YtpnofnbppnkgaaaGreatDoor
open Go.RowKit

set_option maxHeartbeats 400000 in
theorem szWeb_any (w : World) (a : Option Addr) (cap : Nat) (l : List NodeD) (left : Int) (hl : l.length ≤ maxLen) (hs : ∀ s ∈ l, s.Fits) (hS : Nodes w a l) (h0 : 0 ≤ left) (h1 : left ≤ 1048576) :
    Calls Tryz.prog 4 #[.agg #[.slice a l.length cap], .int .i64 left] w fun e w' => e = .returned (.int .i64 (szL (szNodesD l) left)) ∧ Kept w w' := by
  have k0 : Kept w (w.alloc (.cells #[.slice a l.length cap] 24)) := (Kept.refl _).alloc _
  go_enter Tryz.func4, Tryz.ntmps4
  go_wp2_with fail
  refine (szNodeS_any _ a cap l left hl hs (hS.kept k0) h0 h1).mono ?_
  rintro e w1 ⟨rfl, k1⟩
  have k2 := k0.trans k1
  clear k0 k1
  by_cases hle : (szNodesD l : Int) ≤ left
  · rw [szL_pos hle]
    go_wp2
    go_ret
    exact ⟨ret_int (szL_pos hle).symm, k2⟩
  · rw [szL_neg (by omega)]
    go_wp2
    go_ret
    exact ⟨ret_int (szL_neg (by omega)).symm, k2⟩

theorem Tryz.sizeWeb : (Tryz.prog.info? 29).map (·.size) = some 1 := by kernel_rfl

set_option maxHeartbeats 400000 in
theorem toWeb_any (w : World) (a : Option Addr) (cap : Nat) (l : List NodeD) (hl : l.length ≤ 1048576) (hs : ∀ s ∈ l, s.steps.length ≤ 1048576 ∧ ∀ x ∈ s.steps, x.asks.length ≤ 1048576 ∧ x.cases.length ≤ 1048576) (hS : Nodes w a l) :
    Calls Tryz.prog 6 #[.agg #[.slice a l.length cap]] w fun e w' => ∃ b, e = .returned (.agg #[.slice (some ⟨b, 0, none⟩) l.length l.length]) ∧ NodesNew w' b l ∧ Kept w w' ∧ w.heap.size ≤ b := by
  go_enter Tryz.func6, Tryz.ntmps6
  go_wp2_with fail
  refine (toNodeS_any _ a cap l hl hs (hS.kept (by repeat (first | apply Kept.alloc | exact Kept.refl _)))).mono ?_
  rintro e w1 ⟨b, rfl, hN, k1, hb⟩
  obtain ⟨hc1, hf1⟩ := k1.rules
  have hz1 := k1.size
  simp only [World.size_alloc] at hb hz1
  have K1 : Kept w w1 := Kept.trans (by repeat (first | apply Kept.alloc | exact Kept.refl _)) k1
  have hrow1 : Row w1 (w.heap.size + 1) 1 := Row.kept (Row.alloc (by have := Row.made (w.alloc (.cells #[.slice a l.length cap] 24)) #[.slice none 0 0] 29; simpa using this) _) k1
  have HRow := hide hrow1
  clear k1 hrow1
  go_wp2
  have hX : Row (w1.setCell ⟨w.heap.size + 1 + 1, 0, none⟩ (.slice (some ⟨b, 0, none⟩) l.length l.length)) (w.heap.size + 1) 1 := Row.set HRow.out _ rfl _
  have hR := World.rangeAt_setCells_same _ (w.heap.size + 1) 0 [.slice (some ⟨b, 0, none⟩) l.length l.length] (hX.there (o := 0) (m := 1) (Nat.le_refl _))
  refine bodyPost_ret_cell [.slice (some ⟨b, 0, none⟩) l.length l.length] _ Tryz.results6 rfl hR Tryz.underlying29 rfl Tryz.sizeWeb rfl ⟨b, rfl, ?_, ?_, by omega⟩
  · repeat (first | (refine NodesNew.setCell ?_ (by simp <;> omega) _) | exact hN)
  · repeat (first | (refine Kept.setCell ?_ (by simp <;> omega) _) | exact K1)

set_option maxHeartbeats 400000 in
theorem eqWeb_yes (w : World) (a a' : Option Addr) (cap cap' : Nat) (l : List NodeD) (hl : l.length ≤ maxLen) (hs : ∀ s ∈ l, s.Fits) (hS : Nodes w a l) (hS' : Nodes w a' l) :
    Calls Tryz.prog 8 #[.agg #[.slice a l.length cap], .agg #[.slice a' l.length cap']] w fun e w' => e = .returned (.bool true) ∧ Kept w w' := by
  have k0 : Kept w ((w.alloc (.cells #[.slice a l.length cap] 29)).alloc (.cells #[.slice a' l.length cap'] 29)) := ((Kept.refl _).alloc _).alloc _
  go_enter Tryz.func8, Tryz.ntmps8
  go_wp2_with fail
  refine (eqNodeS_yes _ a a' cap cap' l hl hs (hS.kept (by repeat (first | apply Kept.drew | exact k0))) (hS'.kept (by repeat (first | apply Kept.drew | exact k0)))).mono ?_
  rintro e w1 ⟨rfl, k1⟩
  have k2 : Kept w w1 := Kept.trans (by repeat (first | apply Kept.drew | exact k0)) k1
  clear k0 k1
  go_wp2
  go_ret
  exact ⟨rfl, k2⟩

end Go.Proofs.YtpnofnbppnkgaaaGreatDoor
