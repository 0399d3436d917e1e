import Derived.Test.YtmdckapiljhfdaaGreatWNode

/-
  THE WALK over toNodeS.
-/
namespace Go.Proofs.YtmdckapiljhfdaaGreat
open Go.RowKit

theorem Tryz.infoNode : (Tryz.prog.info? 72).map (fun i => (i.zero, i.size, i.bytes)) = some (some (.agg #[.string ⟨#[]⟩, .int .i64 0, .slice none 0 0]), 3, 48) := by kernel_rfl

set_option maxHeartbeats 800000 in
theorem toNodeS_any (w : World) (a : Option Addr) (cap : Nat) (l : List NodeD) (hl : l.length ≤ 1048576) (hs : ∀ s ∈ l, s.steps.length ≤ 1048576 ∧ ∀ x ∈ s.steps, x.asks.length ≤ 1048576 ∧ x.cases.length ≤ 1048576)
    (hS : Nodes w a l) :
    Calls Tryz.prog 22 #[.slice a l.length cap] w fun e w' => ∃ b, e = .returned (.slice (some ⟨b, 0, none⟩) l.length l.length) ∧ NodesNew w' b l ∧ Kept w w' ∧ w.heap.size ≤ b := by
  have hmk := run_make_many (P := Tryz.prog) 32 72 _ _ _ Tryz.underlying32 Tryz.infoNode .i64 .i64 l.length (by omega) (by omega)
  go_enter Tryz.func22, Tryz.ntmps22
  go_wp2
  clear hmk
  have hrow := Row.made w (madeCells #[.string ⟨#[]⟩, .int .i64 0, .slice none 0 0] (l.length * 3)) 72
  rw [size_madeCells] at hrow
  have hkept : Kept w (w.alloc (.cells (madeCells #[.string ⟨#[]⟩, .int .i64 0, .slice none 0 0] (l.length * 3)) 72)) := (Kept.refl _).alloc _
  go_loopw [4] (fun i wr => ∃ k : Nat, k ≤ l.length ∧ i = .int .i64 k ∧ Kept w wr ∧ Row wr w.heap.size (l.length * 3) ∧ ∀ j, j < k → NodeNew wr w.heap.size j (l.getD j NodeD.zero)) (fun i _ => l.length - (intOf i).toNat)
  case atStart => exact ⟨0, Nat.zero_le _, rfl, hkept, hrow, fun j hj => absurd hj (Nat.not_lt_zero _)⟩
  case round =>
    obtain ⟨k, hk, rfl, hw, hr, hf⟩ := hrel
    clear hrow hkept
    by_cases hlt : k < l.length
    · obtain ⟨b, o, cs, rfl, hb, hc, aa, ca, rfl, hA⟩ := hS.kept hw k hlt
      have hsz := hs (l.getD k NodeD.zero) (by simp [List.getD, hlt])
      have HF := hide hf
      clear hf
      generalize hs : l.getD k NodeD.zero = s at *
      have HSs := hide hs
      clear hs
      have c0 := hc 0 _ rfl
      have c1 := hc 1 _ rfl
      have c2 := hc 2 _ rfl
      simp only [Nat.add_zero] at c0
      clear hc
      go_wp2_with fail
      refine (toNode_any _ s aa ca hsz.1 hsz.2 hA).mono ?_
      rintro e w1 ⟨b1, rfl, g1, hw1, g3⟩
      have hrl := hr.lt
      have hw2 := hw.trans hw1
      have hr1 := hr.kept hw1
      generalize hcs : s.cells (some ⟨b1, 0, none⟩) s.steps.length = cs
      have hlen : cs.length = 3 := by rw [← hcs]; rfl
      have hone : cs.toArray.all (·.oneCell') = true := by rw [← hcs]; exact NodeD.one s _ _
      have hth : w1.there w.heap.size (k * 3) cs.toArray.size := by simpa [hlen] using hr1.there (o := k * 3) (m := 3) (by omega)
      have hsize : (Tryz.prog.info? 72).map (·.size) = some cs.toArray.size := by rw [Tryz.sizeNode]; simp [hlen]
      have HCS := hide hcs
      have HLEN := hide hlen
      have HSZ := hide hsize
      clear hcs hlen hsize
      have HR : Hid (Row w1 w.heap.size (l.length * 3)) := hr1
      have HF1 : Hid (∀ j, j < k → NodeNew w1 w.heap.size j (l.getD j NodeD.zero)) := fun j hj => (HF.out j hj).kept hw1 hr.lt
      clear HF c0 c1 c2 hw hw1 hr hr1 hA
      go_wp2_with (refine wpList_store_mid rfl 72 _ _ rfl w.heap.size (k * 3) cs.toArray rfl rfl hth (unhide HSZ) hone ?_)
      go_roundw
      case rel =>
        refine ⟨k + 1, by omega, by go_num, Kept.setCells (Nat.le_refl _) _ _ hw2, Row.setCells _ _ HR.out, fun j hj => ?_⟩
        by_cases e : j = k
        · subst e
          rw [unhide HSs]
          exact ⟨b1, by omega, by rw [HCS.out]; exact World.rangeAt_setCells_same _ _ _ _ (by simpa using hth), StepsNew.setCellsBelow g1 (by omega)⟩
        · exact (HF1.out j (by omega)).setCells (by rw [HLEN.out]; omega)
      case measure => simp [intOf]; omega
    · go_wp2
      go_ret
      have : k = l.length := by omega
      subst this
      exact ⟨w.heap.size, rfl, ⟨hr.lt, hf⟩, hw, Nat.le_refl _⟩

end Go.Proofs.YtmdckapiljhfdaaGreat
