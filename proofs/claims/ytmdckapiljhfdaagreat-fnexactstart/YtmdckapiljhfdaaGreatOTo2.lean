import Derived.Test.YtmdckapiljhfdaaGreatOTo1
import Derived.Test.YtmdckapiljhfdaaGreatWWeb

/-
  COPIES THAT OWN THEIR MEMORY: toStepS, toAction, toNode, toNodeS, toWeb.
-/
namespace Go.Proofs.YtmdckapiljhfdaaGreat
open Go.RowKit

/-- Cuts, one more: from place k + 1 on all lie at z. -/
def cutAt (c : Nat → Nat) (k z t : Nat) : Nat := if t ≤ k then c t else z
theorem cutAt_le {c : Nat → Nat} {k z t : Nat} (h : t ≤ k) : cutAt c k z t = c t := by simp [cutAt, h]
theorem cutAt_gt {c : Nat → Nat} {k z t : Nat} (h : k < t) : cutAt c k z t = z := by simp [cutAt]; omega
theorem cutAt_mono {c : Nat → Nat} {k z : Nat} (h : ∀ i j, i ≤ j → c i ≤ c j) (hz : c k ≤ z) : ∀ i j, i ≤ j → cutAt c k z i ≤ cutAt c k z j := by
  intro i j hij
  by_cases h1 : i ≤ k
  · by_cases h2 : j ≤ k
    · rw [cutAt_le h1, cutAt_le h2]; exact h i j hij
    · rw [cutAt_le h1, cutAt_gt (by omega)]; exact Nat.le_trans (h i k h1) hz
  · rw [cutAt_gt (by omega), cutAt_gt (by omega)]; exact Nat.le_refl _

theorem StepIn.kept {w w' : World} {B j lo hi : Nat} {s : StepD} (h : StepIn w B j lo hi s) (k : Kept w w') (hB : B < w.heap.size) : StepIn w' B j lo hi s :=
  h.same (k.same _ _) (rangeAt_of_block (k.block B hB) _)
theorem StepIn.setCells {w : World} {B j lo hi o : Nat} {s : StepD} {vs : List Value} (h : StepIn w B j lo hi s) (hB : B < lo) (ho : j * 8 + 8 ≤ o ∨ o + vs.length ≤ j * 8) : StepIn (w.setCells B o vs) B j lo hi s := by
  obtain ⟨aa, ca, ac, cc, mid, h1, h2, h3, h4, h5, h6⟩ := h
  exact ⟨aa, ca, ac, cc, mid, h1, h2, World.rangeAt_setCells_apart h3 _ _ _ (by right; simpa [StepD.cells] using ho), h4.same (Same.setCells (.inl hB) _ _ _), h5.same (Same.setCells (.inl (by omega)) _ _ _), h6⟩
theorem NodeIn.kept {w w' : World} {B j lo hi : Nat} {d : NodeD} (h : NodeIn w B j lo hi d) (k : Kept w w') (hB : B < w.heap.size) : NodeIn w' B j lo hi d := by
  obtain ⟨a, cap, h1, h2⟩ := h
  exact ⟨a, cap, k.range hB h1, h2.same (k.same _ _)⟩
theorem NodeIn.setCells {w : World} {B j lo hi o : Nat} {d : NodeD} {vs : List Value} (h : NodeIn w B j lo hi d) (hB : B < lo) (ho : j * 3 + 3 ≤ o ∨ o + vs.length ≤ j * 3) : NodeIn (w.setCells B o vs) B j lo hi d := by
  obtain ⟨a, cap, h1, h2⟩ := h
  exact ⟨a, cap, World.rangeAt_setCells_apart h1 _ _ _ (by right; simpa [NodeD.cells] using ho), h2.same (Same.setCells (.inl hB) _ _ _)⟩

set_option maxHeartbeats 800000 in
theorem toStepS_in (w : World) (a : Option Addr) (cap : Nat) (l : List StepD) (hl : l.length ≤ 1048576) (hs : ∀ s ∈ l, s.asks.length ≤ 1048576 ∧ s.cases.length ≤ 1048576)
    (hS : Steps w a l) :
    Calls Tryz.prog 70 #[.slice a l.length cap] w fun e w' => ∃ b, e = .returned (.slice (some ⟨b, 0, none⟩) l.length l.length) ∧ StepsIn w' w.heap.size w'.heap.size (some ⟨b, 0, none⟩) l ∧ Kept w w' := by
  have hmk := run_make_many (P := Tryz.prog) 68 108 _ _ _ Tryz.underlying68 Tryz.infoStep .i64 .i64 l.length (by omega) (by omega)
  go_enter Tryz.func70, Tryz.ntmps70
  go_wp2
  clear hmk
  have hrow := Row.made w (madeCells #[.slice none 0 0, .int .i64 0, .slice none 0 0, .int .i64 0, .int .i64 0, .bool false, .bool false, .string ⟨#[]⟩] (l.length * 8)) 108
  rw [size_madeCells] at hrow
  have hkept : Kept w (w.alloc (.cells (madeCells #[.slice none 0 0, .int .i64 0, .slice none 0 0, .int .i64 0, .int .i64 0, .bool false, .bool false, .string ⟨#[]⟩] (l.length * 8)) 108)) := (Kept.refl _).alloc _
  go_loopw [4] (fun i wr => ∃ k : Nat, k ≤ l.length ∧ i = .int .i64 k ∧ Kept w wr ∧ Row wr w.heap.size (l.length * 8) ∧ ∃ c : Nat → Nat, w.heap.size < c 0 ∧ c k ≤ wr.heap.size ∧ (∀ i j, i ≤ j → c i ≤ c j) ∧ ∀ j, j < k → StepIn wr w.heap.size j (c j) (c (j + 1)) (l.getD j StepD.zero)) (fun i _ => l.length - (intOf i).toNat)
  case atStart => exact ⟨0, Nat.zero_le _, rfl, hkept, hrow, fun _ => w.heap.size + 1, Nat.lt_succ_self _, by simp, fun _ _ _ => Nat.le_refl _, fun j hj => absurd hj (Nat.not_lt_zero _)⟩
  case round =>
    obtain ⟨k, hk, rfl, hw, hr, c, hc0, hck, hmono, hf⟩ := hrel
    have HMono := hide hmono
    clear hmono
    clear hrow hkept
    by_cases hlt : k < l.length
    · obtain ⟨b, o, cs, rfl, hb, hc, aa, ca, ac, cc, rfl, hA, hC, hca⟩ := hS.kept hw k hlt
      have hsz := hs (l.getD k StepD.zero) (by simp [List.getD, hlt])
      have HF := hide hf
      clear hf
      generalize hs : l.getD k StepD.zero = s at *
      have HSs := hide hs
      clear hs
      have c0 := hc 0 _ rfl
      have c1 := hc 1 _ rfl
      have c2 := hc 2 _ rfl
      have c3 := hc 3 _ rfl
      have c4 := hc 4 _ rfl
      have c5 := hc 5 _ rfl
      have c6 := hc 6 _ rfl
      have c7 := hc 7 _ rfl
      simp only [Nat.add_zero] at c0
      clear hc
      go_wp2_with fail
      refine (toStep_in _ s aa ac ca cc hsz.1 hsz.2 hA hC).mono ?_
      rintro e w1 ⟨b1, b2, mid, hi, rfl, ⟨g1, g2, g3, g4, g5⟩, hw1⟩
      have hz1 := hw1.size
      have hrl := hr.lt
      have hw2 := hw.trans hw1
      have hr1 := hr.kept hw1
      generalize hcs : s.cells (some ⟨b1, 0, none⟩) s.asks.length (some ⟨b2, 0, none⟩) s.cases.length = cs
      have hlen : cs.length = 8 := by rw [← hcs]; rfl
      have hone : cs.toArray.all (·.oneCell') = true := by rw [← hcs]; exact StepD.one s _ _ _ _
      have hth : w1.there w.heap.size (k * 8) cs.toArray.size := by simpa [hlen] using hr1.there (o := k * 8) (m := 8) (by omega)
      have hsize : (Tryz.prog.info? 108).map (·.size) = some cs.toArray.size := by rw [Tryz.sizeStep]; simp [hlen]
      have HCS := hide hcs
      have HLEN := hide hlen
      have HSZ := hide hsize
      clear hcs hlen hsize
      have HR : Hid (Row w1 w.heap.size (l.length * 8)) := hr1
      have HF1 : Hid (∀ j, j < k → StepIn w1 w.heap.size j (c j) (c (j + 1)) (l.getD j StepD.zero)) := fun j hj => (HF.out j hj).kept hw1 hr.lt
      clear HF c0 c1 c2 c3 c4 c5 c6 c7 hw hw1 hr hr1 hA hC
      go_wp2_with (refine wpList_store_mid rfl 108 _ _ rfl w.heap.size (k * 8) cs.toArray rfl rfl hth (unhide HSZ) hone ?_)
      go_roundw
      case rel =>
        have hmono := HMono.out
        refine ⟨k + 1, by omega, by go_num, Kept.setCells (Nat.le_refl _) _ _ hw2, Row.setCells _ _ HR.out, cutAt c k w1.heap.size, by rw [cutAt_le (Nat.zero_le _)]; exact hc0, by rw [cutAt_gt (by omega), size_setCells]; exact Nat.le_refl _, cutAt_mono hmono (by omega), fun j hj => ?_⟩
        by_cases e : j = k
        · subst e
          rw [unhide HSs, cutAt_le (Nat.le_refl _), cutAt_gt (by omega)]
          have hcj : w.heap.size < c j := Nat.lt_of_lt_of_le hc0 (hmono 0 j (Nat.zero_le _))
          exact ⟨_, _, _, _, mid, by omega, by omega, by rw [HCS.out]; exact World.rangeAt_setCells_same _ _ _ _ (by simpa using hth), (g1.mono hck (Nat.le_refl _)).same (Same.setCells (.inl hcj) _ _ _), (g2.mono (Nat.le_refl _) g5).same (Same.setCells (.inl (by omega)) _ _ _), Nat.le_refl _⟩
        · rw [cutAt_le (by omega), cutAt_le (by omega)]
          exact (HF1.out j (by omega)).setCells (Nat.lt_of_lt_of_le hc0 (hmono 0 j (Nat.zero_le _))) (by rw [HLEN.out]; omega)
      case measure => simp [intOf]; omega
    · go_wp2
      go_ret
      have : k = l.length := by omega
      subst this
      exact ⟨w.heap.size, rfl, .inr ⟨w.heap.size, c, rfl, Nat.le_refl _, hc0, hck, hr, HMono.out, hf⟩, hw⟩

set_option maxHeartbeats 400000 in
theorem toAction_in (w : World) (cost : Int) (a : Option Addr) (cap : Nat) (l : List StepD) (hl : l.length ≤ 1048576) (hs : ∀ s ∈ l, s.asks.length ≤ 1048576 ∧ s.cases.length ≤ 1048576)
    (hS : Steps w a l) :
    Calls Tryz.prog 55 #[.agg #[.int .i64 cost, .slice a l.length cap]] w fun e w' => ∃ b, e = .returned (.agg #[.int .i64 cost, .slice (some ⟨b, 0, none⟩) l.length l.length]) ∧ StepsIn w' w.heap.size w'.heap.size (some ⟨b, 0, none⟩) l ∧ Kept w w' := by
  go_enter Tryz.func55, Tryz.ntmps55
  go_wp2_with fail
  refine (toStepS_in _ a cap l hl hs (hS.kept (by repeat (first | apply Kept.alloc | exact Kept.refl _)))).mono ?_
  rintro e w1 ⟨b, rfl, hN, k1⟩
  obtain ⟨hc1, hf1⟩ := k1.rules
  have hz1 := k1.size
  simp only [World.size_alloc] at hN hz1
  have K1 : Kept w w1 := Kept.trans (by repeat (first | apply Kept.alloc | exact Kept.refl _)) k1
  have hrow1 : Row w1 (w.heap.size + 1) 2 := Row.kept (Row.alloc (by have := Row.made (w.alloc (.cells #[.int .i64 cost, .slice a l.length cap] 64)) #[.int .i64 0, .slice none 0 0] 70; simpa using this) _) k1
  have HRow := hide hrow1
  clear k1 hrow1
  go_wp2
  have hX : Row (w1.setCell ⟨w.heap.size + 1 + 1, 1, none⟩ (.slice (some ⟨b, 0, none⟩) l.length l.length)) (w.heap.size + 1) 2 := Row.set HRow.out _ rfl _
  have hR := World.rangeAt_setCells_same _ (w.heap.size + 1) 0 [.int .i64 cost, .slice (some ⟨b, 0, none⟩) l.length l.length] (hX.there (o := 0) (m := 2) (Nat.le_refl _))
  refine bodyPost_ret_cell [.int .i64 cost, .slice (some ⟨b, 0, none⟩) l.length l.length] _ Tryz.results55 rfl hR Tryz.underlying70 rfl Tryz.sizeAction rfl ⟨b, rfl, StepsIn.mono (lo := w.heap.size + 1 + 1 + 1) (hi := w1.heap.size) ?_ (by omega) (by simp), ?_⟩
  · repeat (first | (refine StepsIn.setCell ?_ (by simp <;> omega) _) | exact hN)
  · repeat (first | (refine Kept.setCell ?_ (by simp <;> omega) _) | exact K1)

set_option maxHeartbeats 800000 in
theorem toNode_in (w : World) (d : NodeD) (a : Option Addr) (cap : Nat) (hl : d.steps.length ≤ 1048576) (hs : ∀ s ∈ d.steps, s.asks.length ≤ 1048576 ∧ s.cases.length ≤ 1048576) (hS : Steps w a d.steps) :
    Calls Tryz.prog 40 #[.agg #[.string d.name, .int .i64 d.cost, .slice a d.steps.length cap]] w fun e w' => ∃ b, e = .returned (.agg (d.cells (some ⟨b, 0, none⟩) d.steps.length).toArray) ∧ StepsIn w' w.heap.size w'.heap.size (some ⟨b, 0, none⟩) d.steps ∧ Kept w w' := by
  go_enter Tryz.func40, Tryz.ntmps40
  go_wp2_with fail
  refine (toAction_in _ d.cost a cap d.steps hl hs (hS.kept (by repeat (first | apply Kept.alloc | exact Kept.refl _)))).mono ?_
  rintro e w1 ⟨b, rfl, hN, k1⟩
  obtain ⟨hc1, hf1⟩ := k1.rules
  have hz1 := k1.size
  simp only [World.size_alloc] at hN hz1
  have K1 : Kept w w1 := Kept.trans (by repeat (first | apply Kept.alloc | exact Kept.refl _)) k1
  have hrow1 : Row w1 (w.heap.size + 1) 3 := Row.kept (Row.alloc (by have := Row.made (w.alloc (.cells #[.string d.name, .int .i64 d.cost, .slice a d.steps.length cap] 66)) #[.string ⟨#[]⟩, .int .i64 0, .slice none 0 0] 72; simpa using this) _) k1
  have HRow := hide hrow1
  clear k1 hrow1
  go_wp2
  have hX : Row ((w1.setCell ⟨w.heap.size + 1 + 1, 1, none⟩ (.int .i64 d.cost)).setCell ⟨w.heap.size + 1 + 1, 2, none⟩ (.slice (some ⟨b, 0, none⟩) d.steps.length d.steps.length)) (w.heap.size + 1) 3 := Row.set (Row.set HRow.out _ rfl _) _ rfl _
  have hR := World.rangeAt_setCells_same _ (w.heap.size + 1) 0 (d.cells (some ⟨b, 0, none⟩) d.steps.length) (hX.there (o := 0) (m := 3) (Nat.le_refl _))
  refine bodyPost_ret_cell (d.cells (some ⟨b, 0, none⟩) d.steps.length) _ Tryz.results40 rfl hR Tryz.underlying72 rfl Tryz.sizeNode rfl ⟨b, rfl, StepsIn.mono (lo := w.heap.size + 1 + 1 + 1) (hi := w1.heap.size) ?_ (by omega) (by simp), ?_⟩
  · repeat (first | (refine StepsIn.setCell ?_ (by simp <;> omega) _) | exact hN)
  · repeat (first | (refine Kept.setCell ?_ (by simp <;> omega) _) | exact K1)

set_option maxHeartbeats 800000 in
theorem toNodeS_in (w : World) (a : Option Addr) (cap : Nat) (l : List NodeD) (hl : l.length ≤ 1048576) (hs : ∀ s ∈ l, s.steps.length ≤ 1048576 ∧ ∀ x ∈ s.steps, x.asks.length ≤ 1048576 ∧ x.cases.length ≤ 1048576)
    (hS : Nodes w a l) :
    Calls Tryz.prog 22 #[.slice a l.length cap] w fun e w' => ∃ b, e = .returned (.slice (some ⟨b, 0, none⟩) l.length l.length) ∧ NodesIn w' w.heap.size w'.heap.size (some ⟨b, 0, none⟩) l ∧ Kept w w' := by
  have hmk := run_make_many (P := Tryz.prog) 32 72 _ _ _ Tryz.underlying32 Tryz.infoNode .i64 .i64 l.length (by omega) (by omega)
  go_enter Tryz.func22, Tryz.ntmps22
  go_wp2
  clear hmk
  have hrow := Row.made w (madeCells #[.string ⟨#[]⟩, .int .i64 0, .slice none 0 0] (l.length * 3)) 72
  rw [size_madeCells] at hrow
  have hkept : Kept w (w.alloc (.cells (madeCells #[.string ⟨#[]⟩, .int .i64 0, .slice none 0 0] (l.length * 3)) 72)) := (Kept.refl _).alloc _
  go_loopw [4] (fun i wr => ∃ k : Nat, k ≤ l.length ∧ i = .int .i64 k ∧ Kept w wr ∧ Row wr w.heap.size (l.length * 3) ∧ ∃ c : Nat → Nat, w.heap.size < c 0 ∧ c k ≤ wr.heap.size ∧ (∀ i j, i ≤ j → c i ≤ c j) ∧ ∀ j, j < k → NodeIn wr w.heap.size j (c j) (c (j + 1)) (l.getD j NodeD.zero)) (fun i _ => l.length - (intOf i).toNat)
  case atStart => exact ⟨0, Nat.zero_le _, rfl, hkept, hrow, fun _ => w.heap.size + 1, Nat.lt_succ_self _, by simp, fun _ _ _ => Nat.le_refl _, fun j hj => absurd hj (Nat.not_lt_zero _)⟩
  case round =>
    obtain ⟨k, hk, rfl, hw, hr, c, hc0, hck, hmono, hf⟩ := hrel
    have HMono := hide hmono
    clear hmono
    clear hrow hkept
    by_cases hlt : k < l.length
    · obtain ⟨b, o, cs, rfl, hb, hc, aa, ca, rfl, hA⟩ := hS.kept hw k hlt
      have hsz := hs (l.getD k NodeD.zero) (by simp [List.getD, hlt])
      have HF := hide hf
      clear hf
      generalize hs : l.getD k NodeD.zero = s at *
      have HSs := hide hs
      clear hs
      have c0 := hc 0 _ rfl
      have c1 := hc 1 _ rfl
      have c2 := hc 2 _ rfl
      simp only [Nat.add_zero] at c0
      clear hc
      go_wp2_with fail
      refine (toNode_in _ s aa ca hsz.1 hsz.2 hA).mono ?_
      rintro e w1 ⟨b1, rfl, g1, hw1⟩
      have hz1 := hw1.size
      have hrl := hr.lt
      have hw2 := hw.trans hw1
      have hr1 := hr.kept hw1
      generalize hcs : s.cells (some ⟨b1, 0, none⟩) s.steps.length = cs
      have hlen : cs.length = 3 := by rw [← hcs]; rfl
      have hone : cs.toArray.all (·.oneCell') = true := by rw [← hcs]; exact NodeD.one s _ _
      have hth : w1.there w.heap.size (k * 3) cs.toArray.size := by simpa [hlen] using hr1.there (o := k * 3) (m := 3) (by omega)
      have hsize : (Tryz.prog.info? 72).map (·.size) = some cs.toArray.size := by rw [Tryz.sizeNode]; simp [hlen]
      have HCS := hide hcs
      have HLEN := hide hlen
      have HSZ := hide hsize
      clear hcs hlen hsize
      have HR : Hid (Row w1 w.heap.size (l.length * 3)) := hr1
      have HF1 : Hid (∀ j, j < k → NodeIn w1 w.heap.size j (c j) (c (j + 1)) (l.getD j NodeD.zero)) := fun j hj => (HF.out j hj).kept hw1 hr.lt
      clear HF c0 c1 c2 hw hw1 hr hr1 hA
      go_wp2_with (refine wpList_store_mid rfl 72 _ _ rfl w.heap.size (k * 3) cs.toArray rfl rfl hth (unhide HSZ) hone ?_)
      go_roundw
      case rel =>
        have hmono := HMono.out
        refine ⟨k + 1, by omega, by go_num, Kept.setCells (Nat.le_refl _) _ _ hw2, Row.setCells _ _ HR.out, cutAt c k w1.heap.size, by rw [cutAt_le (Nat.zero_le _)]; exact hc0, by rw [cutAt_gt (by omega), size_setCells]; exact Nat.le_refl _, cutAt_mono hmono (by omega), fun j hj => ?_⟩
        by_cases e : j = k
        · subst e
          rw [unhide HSs, cutAt_le (Nat.le_refl _), cutAt_gt (by omega)]
          have hcj : w.heap.size < c j := Nat.lt_of_lt_of_le hc0 (hmono 0 j (Nat.zero_le _))
          exact ⟨_, _, by rw [HCS.out]; exact World.rangeAt_setCells_same _ _ _ _ (by simpa using hth), (g1.mono hck (Nat.le_refl _)).same (Same.setCells (.inl hcj) _ _ _)⟩
        · rw [cutAt_le (by omega), cutAt_le (by omega)]
          exact (HF1.out j (by omega)).setCells (Nat.lt_of_lt_of_le hc0 (hmono 0 j (Nat.zero_le _))) (by rw [HLEN.out]; omega)
      case measure => simp [intOf]; omega
    · go_wp2
      go_ret
      have : k = l.length := by omega
      subst this
      exact ⟨w.heap.size, rfl, .inr ⟨w.heap.size, c, rfl, Nat.le_refl _, hc0, hck, hr, HMono.out, hf⟩, hw⟩

set_option maxHeartbeats 400000 in
theorem toWeb_in (w : World) (a : Option Addr) (cap : Nat) (l : List NodeD) (hl : l.length ≤ 1048576) (hs : ∀ s ∈ l, s.steps.length ≤ 1048576 ∧ ∀ x ∈ s.steps, x.asks.length ≤ 1048576 ∧ x.cases.length ≤ 1048576) (hS : Nodes w a l) :
    Calls Tryz.prog 7 #[.agg #[.slice a l.length cap]] w fun e w' => ∃ b, e = .returned (.agg #[.slice (some ⟨b, 0, none⟩) l.length l.length]) ∧ NodesIn w' w.heap.size w'.heap.size (some ⟨b, 0, none⟩) l ∧ Kept w w' := by
  go_enter Tryz.func7, Tryz.ntmps7
  go_wp2_with fail
  refine (toNodeS_in _ a cap l hl hs (hS.kept (by repeat (first | apply Kept.alloc | exact Kept.refl _)))).mono ?_
  rintro e w1 ⟨b, rfl, hN, k1⟩
  obtain ⟨hc1, hf1⟩ := k1.rules
  have hz1 := k1.size
  simp only [World.size_alloc] at hN hz1
  have K1 : Kept w w1 := Kept.trans (by repeat (first | apply Kept.alloc | exact Kept.refl _)) k1
  have hrow1 : Row w1 (w.heap.size + 1) 1 := Row.kept (Row.alloc (by have := Row.made (w.alloc (.cells #[.slice a l.length cap] 24)) #[.slice none 0 0] 34; simpa using this) _) k1
  have HRow := hide hrow1
  clear k1 hrow1
  go_wp2
  have hX : Row (w1.setCell ⟨w.heap.size + 1 + 1, 0, none⟩ (.slice (some ⟨b, 0, none⟩) l.length l.length)) (w.heap.size + 1) 1 := Row.set HRow.out _ rfl _
  have hR := World.rangeAt_setCells_same _ (w.heap.size + 1) 0 [.slice (some ⟨b, 0, none⟩) l.length l.length] (hX.there (o := 0) (m := 1) (Nat.le_refl _))
  refine bodyPost_ret_cell [.slice (some ⟨b, 0, none⟩) l.length l.length] _ Tryz.results7 rfl hR Tryz.underlying34 rfl Tryz.sizeWeb rfl ⟨b, rfl, NodesIn.mono (lo := w.heap.size + 1 + 1 + 1) (hi := w1.heap.size) ?_ (by omega) (by simp), ?_⟩
  · repeat (first | (refine NodesIn.setCell ?_ (by simp <;> omega) _) | exact hN)
  · repeat (first | (refine Kept.setCell ?_ (by simp <;> omega) _) | exact K1)

end Go.Proofs.YtmdckapiljhfdaaGreat
