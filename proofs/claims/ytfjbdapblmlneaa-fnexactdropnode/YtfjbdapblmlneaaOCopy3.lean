import Derived.Test.YtfjbdapblmlneaaOCopy2

/-
  WALKS over the program's copies: copyEach of steps, copyNode.
-/
namespace Go.Proofs.Ytfjbdapblmlneaa
open Go.RowKit

/-- That all in a step is small. -/
structure StepD.Small (s : StepD) : Prop where
  asks : s.asks.length ≤ 1048576
  askEach : ∀ x ∈ s.asks, x.size ≤ 1048576
  cases : s.cases.length ≤ 1048576
  caseEach : ∀ c ∈ s.cases, c.text.size ≤ 1048576
  give : s.give.size ≤ 1048576

set_option maxHeartbeats 1600000 in
theorem copySteps_in (w : World) (a : Option Addr) (cap : Nat) (l : List StepD) (hl : l.length ≤ 1048576) (hs : ∀ s ∈ l, s.Small) (hS : Steps w a l) :
    Calls Try.prog 94 #[.slice a l.length cap, .func (.func 95) #[] #[]] w fun e w' => ∃ a', e = .returned (.slice a' l.length l.length) ∧ StepsIn w' w.heap.size w'.heap.size a' l ∧ Kept w w' := by
  by_cases h0 : l.length = 0
  · have hnil : l = [] := List.eq_nil_of_length_eq_zero h0
    subst hnil
    go_enter Try.func94, Try.ntmps94
    go_wp2
    go_ret
    exact ⟨none, rfl, .inl rfl, Kept.refl _⟩
  · have hmk := run_make_many (P := Try.prog) 27 74 _ _ _ Try.underlying27 Try.infoStep .i64 .i64 l.length (by omega) (by omega)
    have h00 : ((l.length : Int) == 0) = false := by simpa using h0
    go_enter Try.func94, Try.ntmps94
    go_wp2
    clear hmk h00
    have hrow := Row.made w (madeCells #[.slice none 0 0, .int .i64 0, .slice none 0 0, .int .i64 0, .int .i64 0, .bool false, .bool false, .string ⟨#[]⟩] (l.length * 8)) 74
    rw [size_madeCells] at hrow
    have hkept : Kept w (w.alloc (.cells (madeCells #[.slice none 0 0, .int .i64 0, .slice none 0 0, .int .i64 0, .int .i64 0, .bool false, .bool false, .string ⟨#[]⟩] (l.length * 8)) 74)) := (Kept.refl _).alloc _
    go_loopw [16] (fun i wr => ∃ k : Nat, k ≤ l.length ∧ i = .int .i64 k ∧ Kept w wr ∧ Row wr w.heap.size (l.length * 8) ∧ ∃ c : Nat → Nat, w.heap.size < c 0 ∧ c k ≤ wr.heap.size ∧ (∀ i j, i ≤ j → c i ≤ c j) ∧ ∀ j, j < k → StepIn wr w.heap.size j (c j) (c (j + 1)) (l.getD j StepD.zero)) (fun i _ => l.length - (intOf i).toNat)
    case atStart => exact ⟨0, Nat.zero_le _, rfl, hkept, hrow, fun _ => w.heap.size + 1, Nat.lt_succ_self _, by simp, fun _ _ _ => Nat.le_refl _, fun j hj => absurd hj (Nat.not_lt_zero _)⟩
    case round =>
      obtain ⟨k, hk, rfl, hw, hr, c, hc0, hck, hmono, hf⟩ := hrel
      have HMono := hide hmono
      clear hmono
      clear hrow hkept
      by_cases hlt : k < l.length
      · obtain ⟨b, o, cs, rfl, hb, hc, aa, ca, ac, cc, rfl, hA, hC, hca⟩ := hS.kept hw k hlt
        have hsz := hs (l.getD k StepD.zero) (by simp [List.getD, hlt])
        have HF := hide hf
        clear hf hs
        generalize hs : l.getD k StepD.zero = s at *
        have HSs := hide hs
        clear hs
        have c0 := hc 0 _ rfl
        have c1 := hc 1 _ rfl
        have c2 := hc 2 _ rfl
        have c3 := hc 3 _ rfl
        have c4 := hc 4 _ rfl
        have c5 := hc 5 _ rfl
        have c6 := hc 6 _ rfl
        have c7 := hc 7 _ rfl
        simp only [Nat.add_zero] at c0
        clear hc
        go_wp2_with fail
        refine (copyStep_in _ s aa ac ca cc hsz.asks hsz.askEach hsz.cases hsz.caseEach hsz.give (hA.kept (by repeat (first | (refine Kept.setCell ?_ (by simp) _) | apply Kept.alloc | exact Kept.refl _))) (hC.kept (by repeat (first | (refine Kept.setCell ?_ (by simp) _) | apply Kept.alloc | exact Kept.refl _)))).mono ?_
        rintro e w1 ⟨b1, b2, mid, hi, rfl, ⟨g1, g2, g3, g4, g5⟩, k1⟩
        simp only [World.size_alloc] at g1 g3
        have hw1 : Kept wr w1 := Kept.trans (by repeat (first | (refine Kept.setCell ?_ (by simp) _) | apply Kept.alloc | exact Kept.refl _)) k1
        have hz1 := hw1.size
        have hrl := hr.lt
        have hw2 := hw.trans hw1
        have hr1 := hr.kept hw1
        generalize hcs : s.cells b1 s.asks.length b2 s.cases.length = cs
        have hlen : cs.length = 8 := by rw [← hcs]; rfl
        have hone : cs.toArray.all (·.oneCell') = true := by rw [← hcs]; exact StepD.one s _ _ _ _
        have hth : w1.there w.heap.size (k * 8) cs.toArray.size := by simpa [hlen] using hr1.there (o := k * 8) (m := 8) (by omega)
        have hsize : (Try.prog.info? 74).map (·.size) = some cs.toArray.size := by rw [Try.sizeStep]; simp [hlen]
        have HCS := hide hcs
        have HLEN := hide hlen
        have HSZ := hide hsize
        clear hcs hlen hsize
        have HR : Hid (Row w1 w.heap.size (l.length * 8)) := hr1
        have HF1 : Hid (∀ j, j < k → StepIn w1 w.heap.size j (c j) (c (j + 1)) (l.getD j StepD.zero)) := fun j hj => (HF.out j hj).kept hw1 hr.lt
        clear HF c0 c1 c2 c3 c4 c5 c6 c7 hw hw1 k1 hr hr1 hA hC
        go_wp2_with (refine wpList_store_mid rfl 74 _ _ rfl w.heap.size (k * 8) cs.toArray rfl rfl hth (unhide HSZ) hone ?_)
        go_roundw
        case rel =>
          have hmono := HMono.out
          refine ⟨k + 1, by omega, by go_num, Kept.setCells (Nat.le_refl _) _ _ hw2, Row.setCells _ _ HR.out, cutAt c k w1.heap.size, by rw [cutAt_le (Nat.zero_le _)]; exact hc0, by rw [cutAt_gt (by omega), size_setCells]; exact Nat.le_refl _, cutAt_mono hmono (by omega), fun j hj => ?_⟩
          by_cases e : j = k
          · subst e
            rw [unhide HSs, cutAt_le (Nat.le_refl _), cutAt_gt (by omega)]
            have hcj : w.heap.size < c j := Nat.lt_of_lt_of_le hc0 (hmono 0 j (Nat.zero_le _))
            exact ⟨_, _, _, _, mid, by omega, by omega, by rw [HCS.out]; exact World.rangeAt_setCells_same _ _ _ _ (by simpa using hth), (g1.mono (by omega) (Nat.le_refl _)).same (Same.setCells (.inl hcj) _ _ _), (g2.mono (Nat.le_refl _) g5).same (Same.setCells (.inl (by omega)) _ _ _), Nat.le_refl _⟩
          · rw [cutAt_le (by omega), cutAt_le (by omega)]
            exact (HF1.out j (by omega)).setCells (Nat.lt_of_lt_of_le hc0 (hmono 0 j (Nat.zero_le _))) (by rw [HLEN.out]; omega)
        case measure => simp [intOf]; omega
      · go_wp2
        go_ret
        have : k = l.length := by omega
        subst this
        exact ⟨_, rfl, .inr ⟨w.heap.size, c, rfl, Nat.le_refl _, hc0, hck, hr, HMono.out, hf⟩, hw⟩

set_option maxRecDepth 100000 in
set_option maxHeartbeats 1600000 in
theorem copyNode_in (w : World) (d : NodeD) (a : Option Addr) (cap : Nat) (h1 : d.name.size ≤ 1048576) (h2 : d.steps.length ≤ 1048576) (h3 : ∀ s ∈ d.steps, s.Small) (hS : Steps w a d.steps) :
    Calls Try.prog 74 #[.agg #[.string d.name, .int .i64 d.cost, .slice a d.steps.length cap]] w fun e w' => ∃ a', e = .returned (.agg (d.cells a' d.steps.length).toArray) ∧ StepsIn w' w.heap.size w'.heap.size a' d.steps ∧ Kept w w' := by
  go_enter Try.func74, Try.ntmps74
  go_wp2_with fail
  refine (clone_any _ d.name h1).mono ?_
  rintro e w1 ⟨rfl, k1⟩
  have hz1 := k1.size
  simp only [World.size_alloc] at hz1
  have K1 : Kept w w1 := Kept.trans (by repeat (first | apply Kept.alloc | exact Kept.refl _)) k1
  have z0 : w.heap.size < w1.heap.size := by omega
  have p0 : w1.cell? ⟨w.heap.size, 0, none⟩ = some (.string d.name) := by rw [k1.cell (by simp <;> omega)]; simp
  have p1 : w1.cell? ⟨w.heap.size, 1, none⟩ = some (.int .i64 d.cost) := by rw [k1.cell (by simp <;> omega)]; simp
  have p2 : w1.cell? ⟨w.heap.size, 2, none⟩ = some (.slice a d.steps.length cap) := by rw [k1.cell (by simp <;> omega)]; simp
  have hrow0 : Row w1 w.heap.size 3 := Row.kept (Row.alloc (by have := Row.made w #[.string d.name, .int .i64 d.cost, .slice a d.steps.length cap] 60; simpa using this) _) k1
  have hrow1 : Row w1 (w.heap.size + 1) 3 := Row.kept (by have := Row.made (w.alloc (.cells #[.string d.name, .int .i64 d.cost, .slice a d.steps.length cap] 60)) #[.string ⟨#[]⟩, .int .i64 0, .slice none 0 0] 60; simpa using this) k1
  have f0 := (hrow0.at (i := 0) (by omega)).2
  have HR0 := hide hrow0
  have HR1 := hide hrow1
  clear k1 hrow0 hrow1
  go_wp2_with fail
  have KW1 : Kept w (w1.setCell ⟨w.heap.size, 0, none⟩ (.string d.name)) := K1.setCell (Nat.le_refl _) _
  have hW1 : w.heap.size < (w1.setCell ⟨w.heap.size, 0, none⟩ (.string d.name)).heap.size := by rw [size_setCell]; exact z0
  refine (copySteps_in _ a cap d.steps h2 h3 (hS.kept KW1)).mono ?_
  rintro e w2 ⟨a2, rfl, hS2, k2⟩
  rw [size_setCell] at hS2
  have hz2 := k2.size
  rw [size_setCell] at hz2
  have K2 := KW1.trans k2
  have r0 : w2.cell? ⟨w.heap.size, 0, none⟩ = some (.string d.name) := by rw [k2.cell hW1]; exact set_hit HR0.out (by omega) _
  have r1 : w2.cell? ⟨w.heap.size, 1, none⟩ = some (.int .i64 d.cost) := by rw [k2.cell hW1, set_miss (by omega)]; exact p1
  have r2 : w2.cell? ⟨w.heap.size, 2, none⟩ = some (.slice a d.steps.length cap) := by rw [k2.cell hW1, set_miss (by omega)]; exact p2
  have R0 : Row w2 w.heap.size 3 := (HR0.out.set _ rfl _).kept k2
  have R1 : Row w2 (w.heap.size + 1) 3 := (HR1.out.set _ rfl _).kept k2
  have f2 := (R0.at (i := 2) (by omega)).2
  obtain ⟨⟨_, x0⟩, g0⟩ := R1.at (i := 0) (by omega)
  obtain ⟨⟨_, x1⟩, g1⟩ := R1.at (i := 1) (by omega)
  obtain ⟨⟨_, x2⟩, g2⟩ := R1.at (i := 2) (by omega)
  have HR1c := hide R1
  have HS2 := hide hS2
  clear HR0 HR1 hS2 k2 KW1 hW1 p0 p1 p2 R0 R1 f0 K1 z0
  go_wp2
  have hX : Row (w2.setCell ⟨w.heap.size, 2, none⟩ (.slice a2 d.steps.length d.steps.length)) (w.heap.size + 1) 3 := Row.set HR1c.out _ rfl _
  have hR := World.rangeAt_setCells_same _ (w.heap.size + 1) 0 (d.cells a2 d.steps.length) (hX.there (o := 0) (m := 3) (Nat.le_refl _))
  refine bodyPost_ret_cell (d.cells a2 d.steps.length) _ Try.results74 rfl hR Try.underlying60 rfl Try.sizeNode rfl ⟨a2, rfl, StepsIn.mono (lo := w1.heap.size) (hi := w2.heap.size) ?_ (by omega) (by simp), ?_⟩
  · repeat (first | (refine StepsIn.setCell ?_ (by simp <;> omega) _) | exact HS2.out)
  · repeat (first | (refine Kept.setCell ?_ (by simp <;> omega) _) | exact K2)

end Go.Proofs.Ytfjbdapblmlneaa
