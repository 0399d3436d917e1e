import Derived.Test.YtinkfgkjdaaeaaaGreatDoorKOCopy3
import Derived.Test.YtinkfgkjdaaeaaaGreatDoorKWCheck4

namespace Go.Proofs.YtinkfgkjdaaeaaaGreatDoor
open Go.RowKit

structure NodeD.Small (d : NodeD) : Prop where
  name : d.name.size ≤ 1048576
  steps : d.steps.length ≤ 1048576
  each : ∀ s ∈ d.steps, s.Small

set_option maxHeartbeats 1600000 in
theorem copyNodes_in (w : World) (a : Option Addr) (cap : Nat) (l : List NodeD) (hl : l.length ≤ 1048576) (hs : ∀ s ∈ l, s.Small) (hS : Nodes w a l) :
    Calls Tryz.prog 35 #[.slice a l.length cap, .func (.func 36) #[] #[]] w fun e w' => ∃ a', e = .returned (.slice a' l.length l.length) ∧ NodesIn w' w.heap.size w'.heap.size a' l ∧ Kept w w' := by
  by_cases h0 : l.length = 0
  · have hnil : l = [] := List.eq_nil_of_length_eq_zero h0
    subst hnil
    go_enter Tryz.func35, Tryz.ntmps35
    go_wp2
    go_ret
    exact ⟨none, rfl, .inl rfl, Kept.refl _⟩
  · have hmk := run_make_many (P := Tryz.prog) 22 54 _ _ _ Tryz.underlying22 Tryz.infoNode .i64 .i64 l.length (by omega) (by omega)
    have h00 : ((l.length : Int) == 0) = false := by simpa using h0
    go_enter Tryz.func35, Tryz.ntmps35
    go_wp2
    clear hmk h00
    have hrow := Row.made w (madeCells #[.string ⟨#[]⟩, .int .i64 0, .slice none 0 0] (l.length * 3)) 54
    rw [size_madeCells] at hrow
    have hkept : Kept w (w.alloc (.cells (madeCells #[.string ⟨#[]⟩, .int .i64 0, .slice none 0 0] (l.length * 3)) 54)) := (Kept.refl _).alloc _
    go_loopw [16] (fun i wr => ∃ k : Nat, k ≤ l.length ∧ i = .int .i64 k ∧ Kept w wr ∧ Row wr w.heap.size (l.length * 3) ∧ ∃ c : Nat → Nat, w.heap.size < c 0 ∧ c k ≤ wr.heap.size ∧ (∀ i j, i ≤ j → c i ≤ c j) ∧ ∀ j, j < k → NodeIn wr w.heap.size j (c j) (c (j + 1)) (l.getD j NodeD.zero)) (fun i _ => l.length - (intOf i).toNat)
    case atStart => exact ⟨0, Nat.zero_le _, rfl, hkept, hrow, fun _ => w.heap.size + 1, Nat.lt_succ_self _, by simp, fun _ _ _ => Nat.le_refl _, fun j hj => absurd hj (Nat.not_lt_zero _)⟩
    case round =>
      obtain ⟨k, hk, rfl, hw, hr, c, hc0, hck, hmono, hf⟩ := hrel
      have HMono := hide hmono
      clear hmono
      clear hrow hkept
      by_cases hlt : k < l.length
      · obtain ⟨b, o, cs, rfl, hb, hc, aa, ca, rfl, hA⟩ := hS.kept hw k hlt
        have hsz := hs (l.getD k NodeD.zero) (by simp [List.getD, hlt])
        have HF := hide hf
        clear hf hs
        generalize hs : l.getD k NodeD.zero = s at *
        have HSs := hide hs
        clear hs
        have c0 := hc 0 _ rfl
        have c1 := hc 1 _ rfl
        have c2 := hc 2 _ rfl
        simp only [Nat.add_zero] at c0
        clear hc
        go_wp2_with fail
        refine (copyNode_in _ s aa ca hsz.name hsz.steps hsz.each (hA.kept (by repeat (first | (refine Kept.setCell ?_ (by simp) _) | apply Kept.alloc | exact Kept.refl _)))).mono ?_
        rintro e w1 ⟨b1, rfl, g1, k1⟩
        simp only [World.size_alloc] at g1
        have hw1 : Kept wr w1 := Kept.trans (by repeat (first | (refine Kept.setCell ?_ (by simp) _) | apply Kept.alloc | exact Kept.refl _)) k1
        have hz1 := hw1.size
        have hrl := hr.lt
        have hw2 := hw.trans hw1
        have hr1 := hr.kept hw1
        generalize hcs : s.cells b1 s.steps.length = cs
        have hlen : cs.length = 3 := by rw [← hcs]; rfl
        have hone : cs.toArray.all (·.oneCell') = true := by rw [← hcs]; exact NodeD.one s _ _
        have hth : w1.there w.heap.size (k * 3) cs.toArray.size := by simpa [hlen] using hr1.there (o := k * 3) (m := 3) (by omega)
        have hsize : (Tryz.prog.info? 54).map (·.size) = some cs.toArray.size := by rw [Tryz.sizeNode]; simp [hlen]
        have HCS := hide hcs
        have HLEN := hide hlen
        have HSZ := hide hsize
        clear hcs hlen hsize
        have HR : Hid (Row w1 w.heap.size (l.length * 3)) := hr1
        have HF1 : Hid (∀ j, j < k → NodeIn w1 w.heap.size j (c j) (c (j + 1)) (l.getD j NodeD.zero)) := fun j hj => (HF.out j hj).kept hw1 hr.lt
        clear HF c0 c1 c2 hw hw1 k1 hr hr1 hA
        go_wp2_with (refine wpList_store_mid rfl 54 _ _ rfl w.heap.size (k * 3) cs.toArray rfl rfl hth (unhide HSZ) hone ?_)
        go_roundw
        case rel =>
          have hmono := HMono.out
          refine ⟨k + 1, by omega, by go_num, Kept.setCells (Nat.le_refl _) _ _ hw2, Row.setCells _ _ HR.out, cutAt c k w1.heap.size, by rw [cutAt_le (Nat.zero_le _)]; exact hc0, by rw [cutAt_gt (by omega), size_setCells]; exact Nat.le_refl _, cutAt_mono hmono (by omega), fun j hj => ?_⟩
          by_cases e : j = k
          · subst e
            rw [unhide HSs, cutAt_le (Nat.le_refl _), cutAt_gt (by omega)]
            have hcj : w.heap.size < c j := Nat.lt_of_lt_of_le hc0 (hmono 0 j (Nat.zero_le _))
            exact ⟨_, _, by rw [HCS.out]; exact World.rangeAt_setCells_same _ _ _ _ (by simpa using hth), (g1.mono (by omega) (Nat.le_refl _)).same (Same.setCells (.inl hcj) _ _ _)⟩
          · rw [cutAt_le (by omega), cutAt_le (by omega)]
            exact (HF1.out j (by omega)).setCells (Nat.lt_of_lt_of_le hc0 (hmono 0 j (Nat.zero_le _))) (by rw [HLEN.out]; omega)
        case measure => simp [intOf]; omega
      · go_wp2
        go_ret
        have : k = l.length := by omega
        subst this
        exact ⟨_, rfl, .inr ⟨w.heap.size, c, rfl, Nat.le_refl _, hc0, hck, hr, HMono.out, hf⟩, hw⟩

set_option maxRecDepth 100000 in
set_option maxHeartbeats 800000 in
theorem webOf_in (w : World) (a : Option Addr) (cap : Nat) (l : List NodeD) (hl : l.length ≤ 1048576) (hs : ∀ s ∈ l, s.Small) (hS : Nodes w a l) :
    Calls Tryz.prog 15 #[.agg #[.slice a l.length cap, .func (.func 37) #[] #[]]] w fun e w' => ∃ a', e = .returned (.agg #[.slice a' l.length l.length]) ∧ NodesIn w' w.heap.size w'.heap.size a' l ∧ Kept w w' := by
  go_enter Tryz.func15, Tryz.ntmps15
  go_wp2_with fail
  refine (copyNodes_in _ a cap l hl hs (hS.kept (by repeat (first | apply Kept.alloc | exact Kept.refl _)))).mono ?_
  rintro e w1 ⟨a2, rfl, hS2, k1⟩
  have hz1 := k1.size
  simp only [World.size_alloc] at hz1 hS2
  have K1 : Kept w w1 := Kept.trans (by repeat (first | apply Kept.alloc | exact Kept.refl _)) k1
  have hrow1 : Row w1 (w.heap.size + 1) 1 := Row.kept (by have := Row.made (w.alloc (.cells #[.slice a l.length cap, .func (.func 37) #[] #[]] 43)) #[.slice none 0 0] 24; simpa using this) k1
  obtain ⟨⟨_, x0⟩, g0⟩ := hrow1.at (i := 0) (by omega)
  have HR1 := hide hrow1
  have HS2 := hide hS2
  clear k1 hrow1 hS2
  go_wp2
  have hR := World.rangeAt_setCells_same _ (w.heap.size + 1) 0 [.slice a2 l.length l.length] (HR1.out.there (o := 0) (m := 1) (Nat.le_refl _))
  refine bodyPost_ret_cell [.slice a2 l.length l.length] _ Tryz.results15 rfl hR Tryz.underlying24 rfl Tryz.sizeWeb rfl ⟨a2, rfl, NodesIn.mono (lo := w.heap.size + 1 + 1) (hi := w1.heap.size) ?_ (by omega) (by simp), ?_⟩
  · repeat (first | (refine NodesIn.setCell ?_ (by simp <;> omega) _) | exact HS2.out)
  · repeat (first | (refine Kept.setCell ?_ (by simp <;> omega) _) | exact K1)

end Go.Proofs.YtinkfgkjdaaeaaaGreatDoor
