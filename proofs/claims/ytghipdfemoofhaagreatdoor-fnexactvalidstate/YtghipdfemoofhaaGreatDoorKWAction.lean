import Derived.Test.YtghipdfemoofhaaGreatDoorKWStep2

namespace Go.Proofs.YtghipdfemoofhaaGreatDoor
open Go.RowKit

def szSteps (l : List StepD) : Nat := l.length + (l.map szStepD).sum

set_option maxHeartbeats 800000 in
theorem szStepS_any (w : World) (a : Option Addr) (cap : Nat) (l : List StepD) (left : Int) (hl : l.length ≤ maxLen) (hs : ∀ s ∈ l, s.Fits)
    (hS : Steps w a l) (h0 : 0 ≤ left) (h1 : left ≤ 1048576) :
    Calls Tryz.prog 154 #[.slice a l.length cap, .int .i64 left] w fun e w' => e = .returned (.int .i64 (szL (szSteps l) left)) ∧ Kept w w' := by
  unfold maxLen at hl
  go_enter Tryz.func154, Tryz.ntmps154
  go_wp2
  · go_ret
    exact ⟨ret_int (szL_neg (by unfold szSteps; omega)).symm, Kept.refl _⟩
  · go_loopw [1, 5] (fun x i wr => ∃ k : Nat, k ≤ l.length ∧ i = .int .i64 k ∧ x = .int .i64 (left - l.length - sumTo szStepD l k) ∧ 0 ≤ left - l.length - sumTo szStepD l k ∧ Kept w wr) (fun _ i _ => l.length - (intOf i).toNat)
    case atStart => exact ⟨0, Nat.zero_le _, rfl, by simp [sumTo_zero], by simp [sumTo_zero]; omega, Kept.refl _⟩
    case round =>
      obtain ⟨k, hk, rfl, rfl, hge, hw⟩ := hrel
      by_cases hlt : k < l.length
      · obtain ⟨b, o, cs, rfl, hb, hc, aa, ca, ac, cc, rfl, hA, hC, hca⟩ := hS.kept hw k hlt
        have hsz : (l.getD k StepD.zero).Fits := hs _ (by simp [List.getD, hlt])
        have HS : Hid (sumTo szStepD l (k + 1) = sumTo szStepD l k + szStepD (l.getD k StepD.zero)) := sumTo_succ _ l _ k hlt
        have HT := sumTo_le szStepD l (k + 1)
        generalize l.getD k StepD.zero = s at *
        have c0 := hc 0 _ rfl
        have c1 := hc 1 _ rfl
        have c2 := hc 2 _ rfl
        have c3 := hc 3 _ rfl
        have c4 := hc 4 _ rfl
        have c5 := hc 5 _ rfl
        have c6 := hc 6 _ rfl
        have c7 := hc 7 _ rfl
        simp only [Nat.add_zero] at c0
        clear hc
        go_wp2_with fail
        refine (szStep_any _ s aa ac ca cc _ hsz hA hC (by omega) (by omega)).mono ?_
        rintro e w1 ⟨rfl, hw1⟩
        have hw2 := hw.trans hw1
        by_cases hle : (szStepD s : Int) ≤ left - l.length - sumTo szStepD l k
        · rw [szL_pos hle]
          clear c0 c1 c2 c3 c4 c5 c6 c7 hA hC hw hw1
          go_wp2
          go_roundw
          case rel => exact ⟨k + 1, by omega, by go_num, by rw [HS.out]; go_num, by rw [HS.out]; omega, hw2⟩
          case measure => simp [intOf]; omega
        · rw [szL_neg (by omega)]
          clear c0 c1 c2 c3 c4 c5 c6 c7 hA hC hw hw1
          go_wp2
          go_ret
          exact ⟨ret_int (szL_neg (by unfold szSteps; have := HS.out; omega)).symm, hw2⟩
      · go_wp2
        go_ret
        have : k = l.length := by omega
        subst this
        rw [sumTo_all] at hge ⊢
        exact ⟨ret_int (by rw [szL_pos (by unfold szSteps; omega)]; unfold szSteps; omega), hw⟩

end Go.Proofs.YtghipdfemoofhaaGreatDoor

namespace Go.Proofs.YtghipdfemoofhaaGreatDoor
open Go.RowKit

theorem Tryz.infoStep : (Tryz.prog.info? 99).map (fun i => (i.zero, i.size, i.bytes)) = some (some (.agg #[.slice none 0 0, .int .i64 0, .slice none 0 0, .int .i64 0, .int .i64 0, .bool false, .bool false, .string ⟨#[]⟩]), 8, 96) := by kernel_rfl

def StepNew (w : World) (B j : Nat) (s : StepD) : Prop :=
  ∃ b1 b2, B < b1 ∧ B < b2 ∧ w.rangeAt B (j * 8) (s.cells (some ⟨b1, 0, none⟩) s.asks.length (some ⟨b2, 0, none⟩) s.cases.length) ∧ Strs w (some ⟨b1, 0, none⟩) s.asks ∧ Cases w (some ⟨b2, 0, none⟩) s.cases

theorem StepNew.kept {w w' : World} {B j : Nat} {s : StepD} (h : StepNew w B j s) (k : Kept w w') (hB : B < w.heap.size) : StepNew w' B j s := by
  obtain ⟨b1, b2, h1, h2, h3, h4, h5⟩ := h
  exact ⟨b1, b2, h1, h2, k.range hB h3, h4.kept k, h5.kept k⟩

theorem StepNew.setCells {w : World} {B j o : Nat} {s : StepD} {vs : List Value} (h : StepNew w B j s) (ho : j * 8 + 8 ≤ o ∨ o + vs.length ≤ j * 8) : StepNew (w.setCells B o vs) B j s := by
  obtain ⟨b1, b2, h1, h2, h3, h4, h5⟩ := h
  exact ⟨b1, b2, h1, h2, World.rangeAt_setCells_apart h3 _ _ _ (by right; simpa [StepD.cells] using ho), Strs.setCells (by omega) _ _ h4, Cases.setCells (by omega) _ _ h5⟩

theorem StepNew.setCell {w : World} {B j : Nat} {s : StepD} (h : StepNew w B j s) {p : Addr} (hp : p.block < B) (v : Value) : StepNew (w.setCell p v) B j s := by
  obtain ⟨b1, b2, h1, h2, h3, h4, h5⟩ := h
  exact ⟨b1, b2, h1, h2, fun i u hu => by rw [World.cell?_setCell_other _ _ _ _ (fun e => by rw [e] at hp; simp at hp)]; exact h3 i u hu, Strs.setCell h4 (by omega) v, Cases.setCell h5 (by omega) v⟩

def StepsNew (w : World) (B : Nat) (l : List StepD) : Prop := B < w.heap.size ∧ ∀ j, j < l.length → StepNew w B j (l.getD j StepD.zero)

theorem StepsNew.setCell {w : World} {B : Nat} {l : List StepD} (h : StepsNew w B l) {p : Addr} (hp : p.block < B) (v : Value) : StepsNew (w.setCell p v) B l :=
  ⟨by rw [size_setCell]; exact h.1, fun j hj => (h.2 j hj).setCell hp v⟩
theorem StepsNew.kept {w w' : World} {B : Nat} {l : List StepD} (h : StepsNew w B l) (k : Kept w w') : StepsNew w' B l :=
  ⟨Nat.lt_of_lt_of_le h.1 k.size, fun j hj => (h.2 j hj).kept k h.1⟩
theorem StepsNew.steps {w : World} {B : Nat} {l : List StepD} (h : StepsNew w B l) : Steps w (some ⟨B, 0, none⟩) l := by
  intro j hj
  obtain ⟨b1, b2, _, _, g1, g2, g3⟩ := h.2 j hj
  exact ⟨B, 0, _, rfl, h.1, by rw [Nat.zero_add]; exact g1, _, _, _, _, rfl, g2, g3, Nat.le_refl _⟩

set_option maxHeartbeats 800000 in
theorem toStepS_any (w : World) (a : Option Addr) (cap : Nat) (l : List StepD) (hl : l.length ≤ 1048576) (hs : ∀ s ∈ l, s.asks.length ≤ 1048576 ∧ s.cases.length ≤ 1048576)
    (hS : Steps w a l) :
    Calls Tryz.prog 156 #[.slice a l.length cap] w fun e w' => ∃ b, e = .returned (.slice (some ⟨b, 0, none⟩) l.length l.length) ∧ StepsNew w' b l ∧ Kept w w' ∧ w.heap.size ≤ b := by
  have hmk := run_make_many (P := Tryz.prog) 73 99 _ _ _ Tryz.underlying73 Tryz.infoStep .i64 .i64 l.length (by omega) (by omega)
  go_enter Tryz.func156, Tryz.ntmps156
  go_wp2
  clear hmk
  have hrow := Row.made w (madeCells #[.slice none 0 0, .int .i64 0, .slice none 0 0, .int .i64 0, .int .i64 0, .bool false, .bool false, .string ⟨#[]⟩] (l.length * 8)) 99
  rw [size_madeCells] at hrow
  have hkept : Kept w (w.alloc (.cells (madeCells #[.slice none 0 0, .int .i64 0, .slice none 0 0, .int .i64 0, .int .i64 0, .bool false, .bool false, .string ⟨#[]⟩] (l.length * 8)) 99)) := (Kept.refl _).alloc _
  go_loopw [4] (fun i wr => ∃ k : Nat, k ≤ l.length ∧ i = .int .i64 k ∧ Kept w wr ∧ Row wr w.heap.size (l.length * 8) ∧ ∀ j, j < k → StepNew wr w.heap.size j (l.getD j StepD.zero)) (fun i _ => l.length - (intOf i).toNat)
  case atStart => exact ⟨0, Nat.zero_le _, rfl, hkept, hrow, fun j hj => absurd hj (Nat.not_lt_zero _)⟩
  case round =>
    obtain ⟨k, hk, rfl, hw, hr, hf⟩ := hrel
    clear hrow hkept
    by_cases hlt : k < l.length
    · obtain ⟨b, o, cs, rfl, hb, hc, aa, ca, ac, cc, rfl, hA, hC, hca⟩ := hS.kept hw k hlt
      have hsz := hs (l.getD k StepD.zero) (by simp [List.getD, hlt])
      have HF := hide hf
      clear hf
      generalize hs : l.getD k StepD.zero = s at *
      have HSs := hide hs
      clear hs
      have c0 := hc 0 _ rfl
      have c1 := hc 1 _ rfl
      have c2 := hc 2 _ rfl
      have c3 := hc 3 _ rfl
      have c4 := hc 4 _ rfl
      have c5 := hc 5 _ rfl
      have c6 := hc 6 _ rfl
      have c7 := hc 7 _ rfl
      simp only [Nat.add_zero] at c0
      clear hc
      go_wp2_with fail
      refine (toStep_any _ s aa ac ca cc hsz.1 hsz.2 hA hC).mono ?_
      rintro e w1 ⟨b1, b2, rfl, ⟨g1, g2, g3, g4⟩, hw1⟩
      have hrl := hr.lt
      have hw2 := hw.trans hw1
      have hr1 := hr.kept hw1
      generalize hcs : s.cells (some ⟨b1, 0, none⟩) s.asks.length (some ⟨b2, 0, none⟩) s.cases.length = cs
      have hlen : cs.length = 8 := by rw [← hcs]; rfl
      have hone : cs.toArray.all (·.oneCell') = true := by rw [← hcs]; exact StepD.one s _ _ _ _
      have hth : w1.there w.heap.size (k * 8) cs.toArray.size := by simpa [hlen] using hr1.there (o := k * 8) (m := 8) (by omega)
      have hsize : (Tryz.prog.info? 99).map (·.size) = some cs.toArray.size := by rw [Tryz.sizeStep]; simp [hlen]
      have HCS := hide hcs
      have HLEN := hide hlen
      have HSZ := hide hsize
      clear hcs hlen hsize
      have HR : Hid (Row w1 w.heap.size (l.length * 8)) := hr1
      have HF1 : Hid (∀ j, j < k → StepNew w1 w.heap.size j (l.getD j StepD.zero)) := fun j hj => (HF.out j hj).kept hw1 hr.lt
      clear HF c0 c1 c2 c3 c4 c5 c6 c7 hw hw1 hr hr1 hA hC
      go_wp2_with (refine wpList_store_mid rfl 99 _ _ rfl w.heap.size (k * 8) cs.toArray rfl rfl hth (unhide HSZ) hone ?_)
      go_roundw
      case rel =>
        refine ⟨k + 1, by omega, by go_num, Kept.setCells (Nat.le_refl _) _ _ hw2, Row.setCells _ _ HR.out, fun j hj => ?_⟩
        by_cases e : j = k
        · subst e
          rw [unhide HSs]
          exact ⟨b1, b2, by omega, by omega, by rw [HCS.out]; exact World.rangeAt_setCells_same _ _ _ _ (by simpa using hth), Strs.setCells (by omega) _ _ g1, Cases.setCells (by omega) _ _ g2⟩
        · exact (HF1.out j (by omega)).setCells (by rw [HLEN.out]; omega)
      case measure => simp [intOf]; omega
    · go_wp2
      go_ret
      have : k = l.length := by omega
      subst this
      exact ⟨w.heap.size, rfl, ⟨hr.lt, hf⟩, hw, Nat.le_refl _⟩

end Go.Proofs.YtghipdfemoofhaaGreatDoor

namespace Go.Proofs.YtghipdfemoofhaaGreatDoor
open Go.RowKit

set_option maxHeartbeats 1600000 in
theorem eqStepS_yes (w : World) (a a' : Option Addr) (cap cap' : Nat) (l : List StepD) (hl : l.length ≤ maxLen) (hs : ∀ s ∈ l, s.asks.length ≤ maxLen ∧ s.cases.length ≤ maxLen)
    (hS : Steps w a l) (hS' : Steps w a' l) :
    Calls Tryz.prog 160 #[.slice a l.length cap, .slice a' l.length cap'] w fun e w' => e = .returned (.bool true) ∧ Kept w w' := by
  unfold maxLen at hl
  go_enter Tryz.func160, Tryz.ntmps160
  go_wp2
  go_loopw [5] (fun i wr => ∃ k : Nat, k ≤ l.length ∧ i = .int .i64 k ∧ Kept w wr) (fun i _ => l.length - (intOf i).toNat)
  case atStart => exact ⟨0, Nat.zero_le _, rfl, Kept.refl _⟩
  case round =>
    obtain ⟨k, hk, rfl, hw⟩ := hrel
    by_cases hlt : k < l.length
    · obtain ⟨b, o, cs, rfl, hb, hc, aa, ca, ac, cc, rfl, hA, hC, hca⟩ := hS.kept hw k hlt
      obtain ⟨b', o', cs', rfl, hb', hc', ba, da, bc, dc, rfl, hA', hC', hca'⟩ := hS'.kept hw k hlt
      have hsz := hs (l.getD k StepD.zero) (by simp [List.getD, hlt])
      clear hs
      generalize l.getD k StepD.zero = s at *
      have c0 := hc 0 _ rfl
      have c1 := hc 1 _ rfl
      have c2 := hc 2 _ rfl
      have c3 := hc 3 _ rfl
      have c4 := hc 4 _ rfl
      have c5 := hc 5 _ rfl
      have c6 := hc 6 _ rfl
      have c7 := hc 7 _ rfl
      have d0 := hc' 0 _ rfl
      have d1 := hc' 1 _ rfl
      have d2 := hc' 2 _ rfl
      have d3 := hc' 3 _ rfl
      have d4 := hc' 4 _ rfl
      have d5 := hc' 5 _ rfl
      have d6 := hc' 6 _ rfl
      have d7 := hc' 7 _ rfl
      simp only [Nat.add_zero] at c0 d0
      clear hc hc'
      go_wp2
      go_region_with (go_at_call 191; refine (eqStep_yes _ s aa ac ba bc ca cc da dc hsz.1 hsz.2 (hA.kept (by repeat (first | apply Kept.drew | exact Kept.refl _))) (hC.kept (by repeat (first | apply Kept.drew | exact Kept.refl _))) (hA'.kept (by repeat (first | apply Kept.drew | exact Kept.refl _))) (hC'.kept (by repeat (first | apply Kept.drew | exact Kept.refl _)))).mono ?_; rintro e w1 ⟨rfl, hw1⟩)
      all_goals
        go_wp2
        go_roundw
        case rel => exact ⟨k + 1, by omega, by go_num, by repeat (first | assumption | apply Kept.drew | refine Kept.trans ?_ (by assumption))⟩
        case measure => simp [intOf]; omega
    · go_wp2
      go_ret
      exact ⟨rfl, hw⟩

end Go.Proofs.YtghipdfemoofhaaGreatDoor

namespace Go.Proofs.YtghipdfemoofhaaGreatDoor
open Go.RowKit

set_option maxHeartbeats 400000 in
theorem szAction_any (w : World) (cost : Int) (a : Option Addr) (cap : Nat) (l : List StepD) (left : Int) (hl : l.length ≤ maxLen) (hs : ∀ s ∈ l, s.Fits)
    (hS : Steps w a l) (h0 : 0 ≤ left) (h1 : left ≤ 1048576) :
    Calls Tryz.prog 116 #[.agg #[.int .i64 cost, .slice a l.length cap], .int .i64 left] w fun e w' => e = .returned (.int .i64 (szL (szSteps l) left)) ∧ Kept w w' := by
  have k0 : Kept w (w.alloc (.cells #[.int .i64 cost, .slice a l.length cap] 110)) := (Kept.refl _).alloc _
  go_enter Tryz.func116, Tryz.ntmps116
  go_wp2_with fail
  refine (szStepS_any _ a cap l left hl hs (hS.kept k0) h0 h1).mono ?_
  rintro e w1 ⟨rfl, k1⟩
  have k2 := k0.trans k1
  clear k0 k1
  by_cases hle : (szSteps l : Int) ≤ left
  · rw [szL_pos hle]
    go_wp2
    go_ret
    exact ⟨ret_int (szL_pos hle).symm, k2⟩
  · rw [szL_neg (by omega)]
    go_wp2
    go_ret
    exact ⟨ret_int (szL_neg (by omega)).symm, k2⟩

theorem Tryz.sizeAction : (Tryz.prog.info? 75).map (·.size) = some 2 := by kernel_rfl

set_option maxHeartbeats 400000 in
theorem toAction_any (w : World) (cost : Int) (a : Option Addr) (cap : Nat) (l : List StepD) (hl : l.length ≤ 1048576) (hs : ∀ s ∈ l, s.asks.length ≤ 1048576 ∧ s.cases.length ≤ 1048576)
    (hS : Steps w a l) :
    Calls Tryz.prog 119 #[.agg #[.int .i64 cost, .slice a l.length cap]] w fun e w' => ∃ b, e = .returned (.agg #[.int .i64 cost, .slice (some ⟨b, 0, none⟩) l.length l.length]) ∧ StepsNew w' b l ∧ Kept w w' ∧ w.heap.size ≤ b := by
  go_enter Tryz.func119, Tryz.ntmps119
  go_wp2_with fail
  refine (toStepS_any _ a cap l hl hs (hS.kept (by repeat (first | apply Kept.alloc | exact Kept.refl _)))).mono ?_
  rintro e w1 ⟨b, rfl, hN, k1, hb⟩
  obtain ⟨hc1, hf1⟩ := k1.rules
  have hz1 := k1.size
  simp only [World.size_alloc] at hb hz1
  have K1 : Kept w w1 := Kept.trans (by repeat (first | apply Kept.alloc | exact Kept.refl _)) k1
  have hrow1 : Row w1 (w.heap.size + 1) 2 := Row.kept (Row.alloc (by have := Row.made (w.alloc (.cells #[.int .i64 cost, .slice a l.length cap] 110)) #[.int .i64 0, .slice none 0 0] 75; simpa using this) _) k1
  have HRow := hide hrow1
  clear k1 hrow1
  go_wp2
  have hX : Row (w1.setCell ⟨w.heap.size + 1 + 1, 1, none⟩ (.slice (some ⟨b, 0, none⟩) l.length l.length)) (w.heap.size + 1) 2 := Row.set HRow.out _ rfl _
  have hR := World.rangeAt_setCells_same _ (w.heap.size + 1) 0 [.int .i64 cost, .slice (some ⟨b, 0, none⟩) l.length l.length] (hX.there (o := 0) (m := 2) (Nat.le_refl _))
  refine bodyPost_ret_cell [.int .i64 cost, .slice (some ⟨b, 0, none⟩) l.length l.length] _ Tryz.results119 rfl hR Tryz.underlying75 rfl Tryz.sizeAction rfl ⟨b, rfl, ?_, ?_, by omega⟩
  · repeat (first | (refine StepsNew.setCell ?_ (by simp <;> omega) _) | exact hN)
  · repeat (first | (refine Kept.setCell ?_ (by simp <;> omega) _) | exact K1)

set_option maxHeartbeats 400000 in
theorem eqAction_yes (w : World) (cost : Int) (a a' : Option Addr) (cap cap' : Nat) (l : List StepD) (hl : l.length ≤ maxLen) (hs : ∀ s ∈ l, s.asks.length ≤ maxLen ∧ s.cases.length ≤ maxLen)
    (hS : Steps w a l) (hS' : Steps w a' l) :
    Calls Tryz.prog 123 #[.agg #[.int .i64 cost, .slice a l.length cap], .agg #[.int .i64 cost, .slice a' l.length cap']] w fun e w' => e = .returned (.bool true) ∧ Kept w w' := by
  have k0 : Kept w ((w.alloc (.cells #[.int .i64 cost, .slice a l.length cap] 75)).alloc (.cells #[.int .i64 cost, .slice a' l.length cap'] 75)) := ((Kept.refl _).alloc _).alloc _
  go_enter Tryz.func123, Tryz.ntmps123
  go_wp2_with fail
  refine (eqStepS_yes _ a a' cap cap' l hl hs (hS.kept (by repeat (first | apply Kept.drew | exact k0))) (hS'.kept (by repeat (first | apply Kept.drew | exact k0)))).mono ?_
  rintro e w1 ⟨rfl, k1⟩
  have k2 : Kept w w1 := Kept.trans (by repeat (first | apply Kept.drew | exact k0)) k1
  clear k0 k1
  go_wp2
  go_ret
  exact ⟨rfl, k2⟩

end Go.Proofs.YtghipdfemoofhaaGreatDoor
