import Derived.Test.YtjhemildijapmaaGreatDoorKODataN
import Derived.Test.YtjhemildijapmaaGreatDoorKWSteps2
import Derived.Test.YtjhemildijapmaaGreatDoorKWGo5
namespace Go.Proofs.YtjhemildijapmaaGreatDoor
open Go.RowKit
theorem StrsIn.setCell {w : World} {lo hi : Nat} {a : Option Addr} {l : List ByteArray} (h : StrsIn w lo hi a l) {p : Addr} (hp : p.block < lo) (v : Value) : StrsIn (w.setCell p v) lo hi a l := h.same (Same.setCell _ (.inl hp) _)
theorem CasesIn.setCell {w : World} {lo hi : Nat} {a : Option Addr} {l : List CaseD} (h : CasesIn w lo hi a l) {p : Addr} (hp : p.block < lo) (v : Value) : CasesIn (w.setCell p v) lo hi a l := h.same (Same.setCell _ (.inl hp) _)
theorem StepsIn.setCell {w : World} {lo hi : Nat} {a : Option Addr} {l : List StepD} (h : StepsIn w lo hi a l) {p : Addr} (hp : p.block < lo) (v : Value) : StepsIn (w.setCell p v) lo hi a l := h.same (Same.setCell _ (.inl hp) _)
theorem NodesIn.setCell {w : World} {lo hi : Nat} {a : Option Addr} {l : List NodeD} (h : NodesIn w lo hi a l) {p : Addr} (hp : p.block < lo) (v : Value) : NodesIn (w.setCell p v) lo hi a l := h.same (Same.setCell _ (.inl hp) _)
theorem Same.setCells {lo hi g : Nat} (hg : g < lo ∨ hi ≤ g) : ∀ (vs : List Value) (o : Nat) (w : World), Same lo hi w (w.setCells g o vs)
  | [], _, _ => fun _ _ _ _ => rfl
  | v :: r, o, w => by
    rw [World.setCells]
    intro b h1 h2 h3
    have e := Same.setCells hg r (o + 1) (w.setCell ⟨g, o, none⟩ v) b h1 h2 (by rw [size_setCell]; exact h3)
    exact e.trans (Same.setCell w (p := ⟨g, o, none⟩) hg v b h1 h2 h3)
theorem toStringS_in (w : World) (a : Option Addr) (cap : Nat) (l : List ByteArray) (hl : l.length ≤ 1048576)
    (hS : Strs w a l) :
    Calls Tryz.prog 22 #[.slice a l.length cap] w fun e w' => ∃ b, e = .returned (.slice (some ⟨b, 0, none⟩) l.length l.length) ∧ StrsIn w' w.heap.size w'.heap.size (some ⟨b, 0, none⟩) l ∧ Kept w w' := by
  have hmk := run_make_row' (P := Tryz.prog) 25 9 _ _ Tryz.underlying25 Tryz.infoStr rfl .i64 .i64 l.length (by omega) (by omega)
  go_enter Tryz.func22, Tryz.ntmps22
  go_wp2
  clear hmk
  have hrow := World.rowIs_made w (.string ByteArray.empty) l.length 9
  have hkept : Kept w (w.alloc (.cells (madeCells #[.string ByteArray.empty] l.length) 9)) := Below.alloc (Below.refl _ _) (Nat.le_refl _) _
  go_loopw [4] (fun i wr => ∃ k : Nat, k ≤ l.length ∧ i = .int .i64 k ∧ Kept w wr ∧ (∃ f, wr.rowIs w.heap.size 9 l.length f) ∧ ∀ j, j < k → wr.cell? ⟨w.heap.size, j, none⟩ = some (.string (l.getD j ByteArray.empty))) (fun i _ => l.length - (intOf i).toNat)
  case atStart => exact ⟨0, Nat.zero_le _, rfl, hkept, ⟨_, hrow⟩, fun j hj => absurd hj (Nat.not_lt_zero _)⟩
  case round =>
    obtain ⟨k, hk, rfl, hw, ⟨f, hr⟩, hf⟩ := hrel
    clear hrow hkept
    by_cases hlt : k < l.length
    · obtain ⟨b, o, rfl, hb, hc⟩ := hS.kept hw k hlt
      have hfr := hr.frozen k
      have hold := hr.cell hlt
      have HR := hide hr
      have HF := hide hf
      clear hr hf
      generalize hs : l.getD k ByteArray.empty = s at *
      have HSs := hide hs
      clear hs
      go_wp2
      go_roundw
      case rel =>
        refine ⟨k + 1, by omega, by go_num, Below.setCell hw (Nat.le_refl _) _, ⟨_, (unhide HR).set k (.string s)⟩, fun j hj => ?_⟩
        by_cases e : j = k
        · subst e
          rw [World.cell?_setCell_same _ _ _ hold, unhide HSs]
        · rw [World.cell?_setCell_other _ _ _ _ (by simp <;> omega)]
          exact unhide HF j (by omega)
      case measure => simp [intOf]; omega
    · go_wp2
      go_ret
      have : k = l.length := by omega
      subst this
      exact ⟨w.heap.size, rfl, .inr ⟨w.heap.size, rfl, Nat.le_refl _, hr.lt, ⟨_, f, hr⟩, hf⟩, hw⟩
set_option maxHeartbeats 400000 in
theorem toCaseS_in (w : World) (a : Option Addr) (cap : Nat) (l : List CaseD) (hl : l.length ≤ 1048576)
    (hS : Cases w a l) :
    Calls Tryz.prog 154 #[.slice a l.length cap] w fun e w' => ∃ b, e = .returned (.slice (some ⟨b, 0, none⟩) l.length l.length) ∧ CasesIn w' w.heap.size w'.heap.size (some ⟨b, 0, none⟩) l ∧ Kept w w' := by
  have hmk := run_make_many (P := Tryz.prog) 118 171 _ _ _ Tryz.underlying118 Tryz.infoCase .i64 .i64 l.length (by omega) (by omega)
  go_enter Tryz.func154, Tryz.ntmps154
  go_wp2
  clear hmk
  have hrow := Row.made w (madeCells #[.string ByteArray.empty, .int .i64 0] (l.length * 2)) 171
  rw [size_madeCells] at hrow
  have hkept : Kept w (w.alloc (.cells (madeCells #[.string ByteArray.empty, .int .i64 0] (l.length * 2)) 171)) := (Kept.refl _).alloc _
  go_loopw [4] (fun i wr => ∃ k : Nat, k ≤ l.length ∧ i = .int .i64 k ∧ Kept w wr ∧ Row wr w.heap.size (l.length * 2) ∧ ∀ j, j < k → wr.rangeAt w.heap.size (j * 2) (l.getD j CaseD.zero).cells) (fun i _ => l.length - (intOf i).toNat)
  case atStart => exact ⟨0, Nat.zero_le _, rfl, hkept, hrow, fun j hj => absurd hj (Nat.not_lt_zero _)⟩
  case round =>
    obtain ⟨k, hk, rfl, hw, hr, hf⟩ := hrel
    clear hrow hkept
    by_cases hlt : k < l.length
    · obtain ⟨b, o, rfl, hb, hc⟩ := hS.kept hw k hlt
      have HF := hide hf
      clear hf
      generalize hs : l.getD k CaseD.zero = c at *
      have HSs := hide hs
      clear hs
      have c0 := hc 0 _ rfl
      have c1 := hc 1 _ rfl
      simp only [Nat.add_zero] at c0
      clear hc
      go_wp2_with fail
      refine (toCase_any _ c).mono ?_
      rintro e w1 ⟨rfl, hw1⟩
      have hw2 := hw.trans hw1
      have hr1 := hr.kept hw1
      have hth := hr1.there (o := k * 2) (m := 2) (by omega)
      have HR : Hid (Row w1 w.heap.size (l.length * 2)) := hr1
      have HF1 : Hid (∀ j, j < k → w1.rangeAt w.heap.size (j * 2) (l.getD j CaseD.zero).cells) := fun j hj => hw1.range hr.lt (HF.out j hj)
      clear HF c0 c1 hw hw1 hr hr1
      go_wp2_with (refine wpList_store_mid rfl 171 _ _ rfl w.heap.size (k * 2) #[.string c.text, .int .i64 c.goto] rfl rfl hth Tryz.sizeCase (CaseD.one c) ?_)
      go_roundw
      case rel =>
        refine ⟨k + 1, by omega, by go_num, Kept.setCells (Nat.le_refl _) _ _ hw2, Row.setCells _ _ HR.out, fun j hj => ?_⟩
        by_cases e : j = k
        · subst e
          rw [unhide HSs]
          exact World.rangeAt_setCells_same _ _ _ _ hth
        · exact World.rangeAt_setCells_apart (HF1.out j (by omega)) _ _ _ (by simp [CaseD.cells]; omega)
      case measure => simp [intOf]; omega
    · go_wp2
      go_ret
      have : k = l.length := by omega
      subst this
      exact ⟨w.heap.size, rfl, .inr ⟨w.heap.size, rfl, Nat.le_refl _, hr.lt, hr, hf⟩, hw⟩
set_option maxHeartbeats 800000 in
theorem toStep_in (w : World) (s : StepD) (aa ac : Option Addr) (ca cc : Nat) (h1 : s.asks.length ≤ 1048576) (h2 : s.cases.length ≤ 1048576) (hA : Strs w aa s.asks) (hC : Cases w ac s.cases) :
    Calls Tryz.prog 134 #[.agg #[.slice aa s.asks.length ca, .int .i64 s.on, .slice ac s.cases.length cc, .int .i64 s.els, .int .i64 s.fall, .bool s.fin, .bool s.bad, .string s.give]] w fun e w' => ∃ b1 b2 mid hi, e = .returned (.agg (s.cells (some ⟨b1, 0, none⟩) s.asks.length (some ⟨b2, 0, none⟩) s.cases.length).toArray) ∧ (StrsIn w' w.heap.size mid (some ⟨b1, 0, none⟩) s.asks ∧ CasesIn w' mid hi (some ⟨b2, 0, none⟩) s.cases ∧ w.heap.size ≤ mid ∧ mid ≤ hi ∧ hi ≤ w'.heap.size) ∧ Kept w w' := by
  go_enter Tryz.func134, Tryz.ntmps134
  go_wp2_with fail
  refine (toStringS_in _ _ _ _ h1 (hA.kept (by repeat (first | apply Kept.alloc | exact Kept.refl _)))).mono ?_
  rintro e w1 ⟨b1, rfl, hS1, k1⟩
  obtain ⟨hc1, hf1⟩ := k1.rules
  have hz1 := k1.size
  simp only [World.size_alloc] at hS1 hz1
  have hrow1 : Row w1 (w.heap.size + 1) 8 := Row.kept (Row.alloc (by have := Row.made (w.alloc (.cells #[.slice aa s.asks.length ca, .int .i64 s.on, .slice ac s.cases.length cc, .int .i64 s.els, .int .i64 s.fall, .bool s.fin, .bool s.bad, .string s.give] 203)) #[.slice none 0 0, .int .i64 0, .slice none 0 0, .int .i64 0, .int .i64 0, .bool false, .bool false, .string ⟨#[]⟩] 120; simpa using this) _) k1
  have K1 : Kept w w1 := Kept.trans (by repeat (first | apply Kept.alloc | exact Kept.refl _)) k1
  clear k1
  go_wp2_with fail
  refine (toCaseS_in _ _ _ _ h2 (hC.kept (by repeat (first | (refine Kept.setCell ?_ (by simp <;> omega) _) | exact K1)))).mono ?_
  rintro e w2 ⟨b2, rfl, hS2, k2⟩
  obtain ⟨hc2, hf2⟩ := k2.rules
  have hz2 := k2.size
  simp only [size_setCell] at hS2 hz2 hc2 hf2
  have K2 : Kept w w2 := Kept.trans (by repeat (first | (refine Kept.setCell ?_ (by simp <;> omega) _) | exact K1)) k2
  have hS1' := ((hS1.setCell (p := ⟨w.heap.size + 1 + 1, 0, none⟩) (by simp <;> omega) (.slice (some ⟨b1, 0, none⟩) s.asks.length s.asks.length)).setCell (p := ⟨w.heap.size + 1 + 1, 1, none⟩) (by simp <;> omega) (.int .i64 s.on)).same (k2.same _ _)
  have HRow : Hid (Row w2 (w.heap.size + 1) 8) := Row.kept (by repeat (first | refine Row.set ?_ _ rfl _ | exact hrow1)) k2
  clear k2 K1 hS1 hrow1
  have z0 : w.heap.size < w1.heap.size := by omega
  have z1 : w.heap.size + 1 < w1.heap.size := by omega
  have z2 : w.heap.size + 1 + 1 < w1.heap.size := by omega
  go_wp2
  have hX : Row ((((((w2.setCell ⟨w.heap.size + 1 + 1, 2, none⟩ (.slice (some ⟨b2, 0, none⟩) s.cases.length s.cases.length)).setCell ⟨w.heap.size + 1 + 1, 3, none⟩ (.int .i64 s.els)).setCell ⟨w.heap.size + 1 + 1, 4, none⟩ (.int .i64 s.fall)).setCell ⟨w.heap.size + 1 + 1, 5, none⟩ (.bool s.fin)).setCell ⟨w.heap.size + 1 + 1, 6, none⟩ (.bool s.bad)).setCell ⟨w.heap.size + 1 + 1, 7, none⟩ (.string s.give)) (w.heap.size + 1) 8 := by
    repeat (first | refine Row.set ?_ _ rfl _ | exact HRow.out)
  have hR := World.rangeAt_setCells_same _ (w.heap.size + 1) 0 (s.cells (some ⟨b1, 0, none⟩) s.asks.length (some ⟨b2, 0, none⟩) s.cases.length) (hX.there (o := 0) (m := 8) (Nat.le_refl _))
  refine bodyPost_ret_cell (s.cells (some ⟨b1, 0, none⟩) s.asks.length (some ⟨b2, 0, none⟩) s.cases.length) _ Tryz.results134 rfl hR Tryz.underlying120 rfl Tryz.sizeStep rfl ⟨b1, b2, w1.heap.size, w2.heap.size, rfl, ⟨StrsIn.mono (lo := w.heap.size + 1 + 1 + 1) ?_ (by omega) (Nat.le_refl _), ?_, by omega, by omega, by simp⟩, ?_⟩
  · repeat (first | (refine StrsIn.setCell ?_ (by simp <;> omega) _) | exact hS1')
  · repeat (first | (refine CasesIn.setCell ?_ (by simp <;> omega) _) | exact hS2)
  · repeat (first | (refine Kept.setCell ?_ (by simp <;> omega) _) | exact K2)
def cutAt (c : Nat → Nat) (k z t : Nat) : Nat := if t ≤ k then c t else z
theorem cutAt_le {c : Nat → Nat} {k z t : Nat} (h : t ≤ k) : cutAt c k z t = c t := by simp [cutAt, h]
theorem cutAt_gt {c : Nat → Nat} {k z t : Nat} (h : k < t) : cutAt c k z t = z := by simp [cutAt]; omega
theorem cutAt_mono {c : Nat → Nat} {k z : Nat} (h : ∀ i j, i ≤ j → c i ≤ c j) (hz : c k ≤ z) : ∀ i j, i ≤ j → cutAt c k z i ≤ cutAt c k z j := by
  intro i j hij
  by_cases h1 : i ≤ k
  · by_cases h2 : j ≤ k
    · rw [cutAt_le h1, cutAt_le h2]; exact h i j hij
    · rw [cutAt_le h1, cutAt_gt (by omega)]; exact Nat.le_trans (h i k h1) hz
  · rw [cutAt_gt (by omega), cutAt_gt (by omega)]; exact Nat.le_refl _
theorem StepIn.kept {w w' : World} {B j lo hi : Nat} {s : StepD} (h : StepIn w B j lo hi s) (k : Kept w w') (hB : B < w.heap.size) : StepIn w' B j lo hi s :=
  h.same (k.same _ _) (rangeAt_of_block (k.block B hB) _)
theorem StepIn.setCells {w : World} {B j lo hi o : Nat} {s : StepD} {vs : List Value} (h : StepIn w B j lo hi s) (hB : B < lo) (ho : j * 8 + 8 ≤ o ∨ o + vs.length ≤ j * 8) : StepIn (w.setCells B o vs) B j lo hi s := by
  obtain ⟨aa, ca, ac, cc, mid, h1, h2, h3, h4, h5, h6⟩ := h
  exact ⟨aa, ca, ac, cc, mid, h1, h2, World.rangeAt_setCells_apart h3 _ _ _ (by right; simpa [StepD.cells] using ho), h4.same (Same.setCells (.inl hB) _ _ _), h5.same (Same.setCells (.inl (by omega)) _ _ _), h6⟩
theorem NodeIn.kept {w w' : World} {B j lo hi : Nat} {d : NodeD} (h : NodeIn w B j lo hi d) (k : Kept w w') (hB : B < w.heap.size) : NodeIn w' B j lo hi d := by
  obtain ⟨a, cap, h1, h2⟩ := h
  exact ⟨a, cap, k.range hB h1, h2.same (k.same _ _)⟩
theorem NodeIn.setCells {w : World} {B j lo hi o : Nat} {d : NodeD} {vs : List Value} (h : NodeIn w B j lo hi d) (hB : B < lo) (ho : j * 3 + 3 ≤ o ∨ o + vs.length ≤ j * 3) : NodeIn (w.setCells B o vs) B j lo hi d := by
  obtain ⟨a, cap, h1, h2⟩ := h
  exact ⟨a, cap, World.rangeAt_setCells_apart h1 _ _ _ (by right; simpa [NodeD.cells] using ho), h2.same (Same.setCells (.inl hB) _ _ _)⟩
set_option maxHeartbeats 800000 in
theorem toStepS_in (w : World) (a : Option Addr) (cap : Nat) (l : List StepD) (hl : l.length ≤ 1048576) (hs : ∀ s ∈ l, s.asks.length ≤ 1048576 ∧ s.cases.length ≤ 1048576)
    (hS : Steps w a l) :
    Calls Tryz.prog 110 #[.slice a l.length cap] w fun e w' => ∃ b, e = .returned (.slice (some ⟨b, 0, none⟩) l.length l.length) ∧ StepsIn w' w.heap.size w'.heap.size (some ⟨b, 0, none⟩) l ∧ Kept w w' := by
  have hmk := run_make_many (P := Tryz.prog) 60 120 _ _ _ Tryz.underlying60 Tryz.infoStep .i64 .i64 l.length (by omega) (by omega)
  go_enter Tryz.func110, Tryz.ntmps110
  go_wp2
  clear hmk
  have hrow := Row.made w (madeCells #[.slice none 0 0, .int .i64 0, .slice none 0 0, .int .i64 0, .int .i64 0, .bool false, .bool false, .string ⟨#[]⟩] (l.length * 8)) 120
  rw [size_madeCells] at hrow
  have hkept : Kept w (w.alloc (.cells (madeCells #[.slice none 0 0, .int .i64 0, .slice none 0 0, .int .i64 0, .int .i64 0, .bool false, .bool false, .string ⟨#[]⟩] (l.length * 8)) 120)) := (Kept.refl _).alloc _
  go_loopw [4] (fun i wr => ∃ k : Nat, k ≤ l.length ∧ i = .int .i64 k ∧ Kept w wr ∧ Row wr w.heap.size (l.length * 8) ∧ ∃ c : Nat → Nat, w.heap.size < c 0 ∧ c k ≤ wr.heap.size ∧ (∀ i j, i ≤ j → c i ≤ c j) ∧ ∀ j, j < k → StepIn wr w.heap.size j (c j) (c (j + 1)) (l.getD j StepD.zero)) (fun i _ => l.length - (intOf i).toNat)
  case atStart => exact ⟨0, Nat.zero_le _, rfl, hkept, hrow, fun _ => w.heap.size + 1, Nat.lt_succ_self _, by simp, fun _ _ _ => Nat.le_refl _, fun j hj => absurd hj (Nat.not_lt_zero _)⟩
  case round =>
    obtain ⟨k, hk, rfl, hw, hr, c, hc0, hck, hmono, hf⟩ := hrel
    have HMono := hide hmono
    clear hmono
    clear hrow hkept
    by_cases hlt : k < l.length
    · obtain ⟨b, o, cs, rfl, hb, hc, aa, ca, ac, cc, rfl, hA, hC, hca⟩ := hS.kept hw k hlt
      have hsz := hs (l.getD k StepD.zero) (by simp [List.getD, hlt])
      have HF := hide hf
      clear hf
      generalize hs : l.getD k StepD.zero = s at *
      have HSs := hide hs
      clear hs
      have c0 := hc 0 _ rfl
      have c1 := hc 1 _ rfl
      have c2 := hc 2 _ rfl
      have c3 := hc 3 _ rfl
      have c4 := hc 4 _ rfl
      have c5 := hc 5 _ rfl
      have c6 := hc 6 _ rfl
      have c7 := hc 7 _ rfl
      simp only [Nat.add_zero] at c0
      clear hc
      go_wp2_with fail
      refine (toStep_in _ s aa ac ca cc hsz.1 hsz.2 hA hC).mono ?_
      rintro e w1 ⟨b1, b2, mid, hi, rfl, ⟨g1, g2, g3, g4, g5⟩, hw1⟩
      have hz1 := hw1.size
      have hrl := hr.lt
      have hw2 := hw.trans hw1
      have hr1 := hr.kept hw1
      generalize hcs : s.cells (some ⟨b1, 0, none⟩) s.asks.length (some ⟨b2, 0, none⟩) s.cases.length = cs
      have hlen : cs.length = 8 := by rw [← hcs]; rfl
      have hone : cs.toArray.all (·.oneCell') = true := by rw [← hcs]; exact StepD.one s _ _ _ _
      have hth : w1.there w.heap.size (k * 8) cs.toArray.size := by simpa [hlen] using hr1.there (o := k * 8) (m := 8) (by omega)
      have hsize : (Tryz.prog.info? 120).map (·.size) = some cs.toArray.size := by rw [Tryz.sizeStep]; simp [hlen]
      have HCS := hide hcs
      have HLEN := hide hlen
      have HSZ := hide hsize
      clear hcs hlen hsize
      have HR : Hid (Row w1 w.heap.size (l.length * 8)) := hr1
      have HF1 : Hid (∀ j, j < k → StepIn w1 w.heap.size j (c j) (c (j + 1)) (l.getD j StepD.zero)) := fun j hj => (HF.out j hj).kept hw1 hr.lt
      clear HF c0 c1 c2 c3 c4 c5 c6 c7 hw hw1 hr hr1 hA hC
      go_wp2_with (refine wpList_store_mid rfl 120 _ _ rfl w.heap.size (k * 8) cs.toArray rfl rfl hth (unhide HSZ) hone ?_)
      go_roundw
      case rel =>
        have hmono := HMono.out
        refine ⟨k + 1, by omega, by go_num, Kept.setCells (Nat.le_refl _) _ _ hw2, Row.setCells _ _ HR.out, cutAt c k w1.heap.size, by rw [cutAt_le (Nat.zero_le _)]; exact hc0, by rw [cutAt_gt (by omega), size_setCells]; exact Nat.le_refl _, cutAt_mono hmono (by omega), fun j hj => ?_⟩
        by_cases e : j = k
        · subst e
          rw [unhide HSs, cutAt_le (Nat.le_refl _), cutAt_gt (by omega)]
          have hcj : w.heap.size < c j := Nat.lt_of_lt_of_le hc0 (hmono 0 j (Nat.zero_le _))
          exact ⟨_, _, _, _, mid, by omega, by omega, by rw [HCS.out]; exact World.rangeAt_setCells_same _ _ _ _ (by simpa using hth), (g1.mono hck (Nat.le_refl _)).same (Same.setCells (.inl hcj) _ _ _), (g2.mono (Nat.le_refl _) g5).same (Same.setCells (.inl (by omega)) _ _ _), Nat.le_refl _⟩
        · rw [cutAt_le (by omega), cutAt_le (by omega)]
          exact (HF1.out j (by omega)).setCells (Nat.lt_of_lt_of_le hc0 (hmono 0 j (Nat.zero_le _))) (by rw [HLEN.out]; omega)
      case measure => simp [intOf]; omega
    · go_wp2
      go_ret
      have : k = l.length := by omega
      subst this
      exact ⟨w.heap.size, rfl, .inr ⟨w.heap.size, c, rfl, Nat.le_refl _, hc0, hck, hr, HMono.out, hf⟩, hw⟩
set_option maxHeartbeats 400000 in
theorem toAction_in (w : World) (cost : Int) (a : Option Addr) (cap : Nat) (l : List StepD) (hl : l.length ≤ 1048576) (hs : ∀ s ∈ l, s.asks.length ≤ 1048576 ∧ s.cases.length ≤ 1048576)
    (hS : Steps w a l) :
    Calls Tryz.prog 84 #[.agg #[.int .i64 cost, .slice a l.length cap]] w fun e w' => ∃ b, e = .returned (.agg #[.int .i64 cost, .slice (some ⟨b, 0, none⟩) l.length l.length]) ∧ StepsIn w' w.heap.size w'.heap.size (some ⟨b, 0, none⟩) l ∧ Kept w w' := by
  go_enter Tryz.func84, Tryz.ntmps84
  go_wp2_with fail
  refine (toStepS_in _ a cap l hl hs (hS.kept (by repeat (first | apply Kept.alloc | exact Kept.refl _)))).mono ?_
  rintro e w1 ⟨b, rfl, hN, k1⟩
  obtain ⟨hc1, hf1⟩ := k1.rules
  have hz1 := k1.size
  simp only [World.size_alloc] at hN hz1
  have K1 : Kept w w1 := Kept.trans (by repeat (first | apply Kept.alloc | exact Kept.refl _)) k1
  have hrow1 : Row w1 (w.heap.size + 1) 2 := Row.kept (Row.alloc (by have := Row.made (w.alloc (.cells #[.int .i64 cost, .slice a l.length cap] 75)) #[.int .i64 0, .slice none 0 0] 62; simpa using this) _) k1
  have HRow := hide hrow1
  clear k1 hrow1
  go_wp2
  have hX : Row (w1.setCell ⟨w.heap.size + 1 + 1, 1, none⟩ (.slice (some ⟨b, 0, none⟩) l.length l.length)) (w.heap.size + 1) 2 := Row.set HRow.out _ rfl _
  have hR := World.rangeAt_setCells_same _ (w.heap.size + 1) 0 [.int .i64 cost, .slice (some ⟨b, 0, none⟩) l.length l.length] (hX.there (o := 0) (m := 2) (Nat.le_refl _))
  refine bodyPost_ret_cell [.int .i64 cost, .slice (some ⟨b, 0, none⟩) l.length l.length] _ Tryz.results84 rfl hR Tryz.underlying62 rfl Tryz.sizeAction rfl ⟨b, rfl, StepsIn.mono (lo := w.heap.size + 1 + 1 + 1) (hi := w1.heap.size) ?_ (by omega) (by simp), ?_⟩
  · repeat (first | (refine StepsIn.setCell ?_ (by simp <;> omega) _) | exact hN)
  · repeat (first | (refine Kept.setCell ?_ (by simp <;> omega) _) | exact K1)
set_option maxHeartbeats 800000 in
theorem toNode_in (w : World) (d : NodeD) (a : Option Addr) (cap : Nat) (hl : d.steps.length ≤ 1048576) (hs : ∀ s ∈ d.steps, s.asks.length ≤ 1048576 ∧ s.cases.length ≤ 1048576) (hS : Steps w a d.steps) :
    Calls Tryz.prog 49 #[.agg #[.string d.name, .int .i64 d.cost, .slice a d.steps.length cap]] w fun e w' => ∃ b, e = .returned (.agg (d.cells (some ⟨b, 0, none⟩) d.steps.length).toArray) ∧ StepsIn w' w.heap.size w'.heap.size (some ⟨b, 0, none⟩) d.steps ∧ Kept w w' := by
  go_enter Tryz.func49, Tryz.ntmps49
  go_wp2_with fail
  refine (toAction_in _ d.cost a cap d.steps hl hs (hS.kept (by repeat (first | apply Kept.alloc | exact Kept.refl _)))).mono ?_
  rintro e w1 ⟨b, rfl, hN, k1⟩
  obtain ⟨hc1, hf1⟩ := k1.rules
  have hz1 := k1.size
  simp only [World.size_alloc] at hN hz1
  have K1 : Kept w w1 := Kept.trans (by repeat (first | apply Kept.alloc | exact Kept.refl _)) k1
  have hrow1 : Row w1 (w.heap.size + 1) 3 := Row.kept (Row.alloc (by have := Row.made (w.alloc (.cells #[.string d.name, .int .i64 d.cost, .slice a d.steps.length cap] 77)) #[.string ⟨#[]⟩, .int .i64 0, .slice none 0 0] 95; simpa using this) _) k1
  have HRow := hide hrow1
  clear k1 hrow1
  go_wp2
  have hX : Row ((w1.setCell ⟨w.heap.size + 1 + 1, 1, none⟩ (.int .i64 d.cost)).setCell ⟨w.heap.size + 1 + 1, 2, none⟩ (.slice (some ⟨b, 0, none⟩) d.steps.length d.steps.length)) (w.heap.size + 1) 3 := Row.set (Row.set HRow.out _ rfl _) _ rfl _
  have hR := World.rangeAt_setCells_same _ (w.heap.size + 1) 0 (d.cells (some ⟨b, 0, none⟩) d.steps.length) (hX.there (o := 0) (m := 3) (Nat.le_refl _))
  refine bodyPost_ret_cell (d.cells (some ⟨b, 0, none⟩) d.steps.length) _ Tryz.results49 rfl hR Tryz.underlying95 rfl Tryz.sizeNode rfl ⟨b, rfl, StepsIn.mono (lo := w.heap.size + 1 + 1 + 1) (hi := w1.heap.size) ?_ (by omega) (by simp), ?_⟩
  · repeat (first | (refine StepsIn.setCell ?_ (by simp <;> omega) _) | exact hN)
  · repeat (first | (refine Kept.setCell ?_ (by simp <;> omega) _) | exact K1)
set_option maxHeartbeats 800000 in
theorem toNodeS_in (w : World) (a : Option Addr) (cap : Nat) (l : List NodeD) (hl : l.length ≤ 1048576) (hs : ∀ s ∈ l, s.steps.length ≤ 1048576 ∧ ∀ x ∈ s.steps, x.asks.length ≤ 1048576 ∧ x.cases.length ≤ 1048576)
    (hS : Nodes w a l) :
    Calls Tryz.prog 21 #[.slice a l.length cap] w fun e w' => ∃ b, e = .returned (.slice (some ⟨b, 0, none⟩) l.length l.length) ∧ NodesIn w' w.heap.size w'.heap.size (some ⟨b, 0, none⟩) l ∧ Kept w w' := by
  have hmk := run_make_many (P := Tryz.prog) 35 95 _ _ _ Tryz.underlying35 Tryz.infoNode .i64 .i64 l.length (by omega) (by omega)
  go_enter Tryz.func21, Tryz.ntmps21
  go_wp2
  clear hmk
  have hrow := Row.made w (madeCells #[.string ⟨#[]⟩, .int .i64 0, .slice none 0 0] (l.length * 3)) 95
  rw [size_madeCells] at hrow
  have hkept : Kept w (w.alloc (.cells (madeCells #[.string ⟨#[]⟩, .int .i64 0, .slice none 0 0] (l.length * 3)) 95)) := (Kept.refl _).alloc _
  go_loopw [4] (fun i wr => ∃ k : Nat, k ≤ l.length ∧ i = .int .i64 k ∧ Kept w wr ∧ Row wr w.heap.size (l.length * 3) ∧ ∃ c : Nat → Nat, w.heap.size < c 0 ∧ c k ≤ wr.heap.size ∧ (∀ i j, i ≤ j → c i ≤ c j) ∧ ∀ j, j < k → NodeIn wr w.heap.size j (c j) (c (j + 1)) (l.getD j NodeD.zero)) (fun i _ => l.length - (intOf i).toNat)
  case atStart => exact ⟨0, Nat.zero_le _, rfl, hkept, hrow, fun _ => w.heap.size + 1, Nat.lt_succ_self _, by simp, fun _ _ _ => Nat.le_refl _, fun j hj => absurd hj (Nat.not_lt_zero _)⟩
  case round =>
    obtain ⟨k, hk, rfl, hw, hr, c, hc0, hck, hmono, hf⟩ := hrel
    have HMono := hide hmono
    clear hmono
    clear hrow hkept
    by_cases hlt : k < l.length
    · obtain ⟨b, o, cs, rfl, hb, hc, aa, ca, rfl, hA⟩ := hS.kept hw k hlt
      have hsz := hs (l.getD k NodeD.zero) (by simp [List.getD, hlt])
      have HF := hide hf
      clear hf
      generalize hs : l.getD k NodeD.zero = s at *
      have HSs := hide hs
      clear hs
      have c0 := hc 0 _ rfl
      have c1 := hc 1 _ rfl
      have c2 := hc 2 _ rfl
      simp only [Nat.add_zero] at c0
      clear hc
      go_wp2_with fail
      refine (toNode_in _ s aa ca hsz.1 hsz.2 hA).mono ?_
      rintro e w1 ⟨b1, rfl, g1, hw1⟩
      have hz1 := hw1.size
      have hrl := hr.lt
      have hw2 := hw.trans hw1
      have hr1 := hr.kept hw1
      generalize hcs : s.cells (some ⟨b1, 0, none⟩) s.steps.length = cs
      have hlen : cs.length = 3 := by rw [← hcs]; rfl
      have hone : cs.toArray.all (·.oneCell') = true := by rw [← hcs]; exact NodeD.one s _ _
      have hth : w1.there w.heap.size (k * 3) cs.toArray.size := by simpa [hlen] using hr1.there (o := k * 3) (m := 3) (by omega)
      have hsize : (Tryz.prog.info? 95).map (·.size) = some cs.toArray.size := by rw [Tryz.sizeNode]; simp [hlen]
      have HCS := hide hcs
      have HLEN := hide hlen
      have HSZ := hide hsize
      clear hcs hlen hsize
      have HR : Hid (Row w1 w.heap.size (l.length * 3)) := hr1
      have HF1 : Hid (∀ j, j < k → NodeIn w1 w.heap.size j (c j) (c (j + 1)) (l.getD j NodeD.zero)) := fun j hj => (HF.out j hj).kept hw1 hr.lt
      clear HF c0 c1 c2 hw hw1 hr hr1 hA
      go_wp2_with (refine wpList_store_mid rfl 95 _ _ rfl w.heap.size (k * 3) cs.toArray rfl rfl hth (unhide HSZ) hone ?_)
      go_roundw
      case rel =>
        have hmono := HMono.out
        refine ⟨k + 1, by omega, by go_num, Kept.setCells (Nat.le_refl _) _ _ hw2, Row.setCells _ _ HR.out, cutAt c k w1.heap.size, by rw [cutAt_le (Nat.zero_le _)]; exact hc0, by rw [cutAt_gt (by omega), size_setCells]; exact Nat.le_refl _, cutAt_mono hmono (by omega), fun j hj => ?_⟩
        by_cases e : j = k
        · subst e
          rw [unhide HSs, cutAt_le (Nat.le_refl _), cutAt_gt (by omega)]
          have hcj : w.heap.size < c j := Nat.lt_of_lt_of_le hc0 (hmono 0 j (Nat.zero_le _))
          exact ⟨_, _, by rw [HCS.out]; exact World.rangeAt_setCells_same _ _ _ _ (by simpa using hth), (g1.mono hck (Nat.le_refl _)).same (Same.setCells (.inl hcj) _ _ _)⟩
        · rw [cutAt_le (by omega), cutAt_le (by omega)]
          exact (HF1.out j (by omega)).setCells (Nat.lt_of_lt_of_le hc0 (hmono 0 j (Nat.zero_le _))) (by rw [HLEN.out]; omega)
      case measure => simp [intOf]; omega
    · go_wp2
      go_ret
      have : k = l.length := by omega
      subst this
      exact ⟨w.heap.size, rfl, .inr ⟨w.heap.size, c, rfl, Nat.le_refl _, hc0, hck, hr, HMono.out, hf⟩, hw⟩
set_option maxHeartbeats 400000 in
theorem toWeb_in (w : World) (a : Option Addr) (cap : Nat) (l : List NodeD) (hl : l.length ≤ 1048576) (hs : ∀ s ∈ l, s.steps.length ≤ 1048576 ∧ ∀ x ∈ s.steps, x.asks.length ≤ 1048576 ∧ x.cases.length ≤ 1048576) (hS : Nodes w a l) :
    Calls Tryz.prog 7 #[.agg #[.slice a l.length cap]] w fun e w' => ∃ b, e = .returned (.agg #[.slice (some ⟨b, 0, none⟩) l.length l.length]) ∧ NodesIn w' w.heap.size w'.heap.size (some ⟨b, 0, none⟩) l ∧ Kept w w' := by
  go_enter Tryz.func7, Tryz.ntmps7
  go_wp2_with fail
  refine (toNodeS_in _ a cap l hl hs (hS.kept (by repeat (first | apply Kept.alloc | exact Kept.refl _)))).mono ?_
  rintro e w1 ⟨b, rfl, hN, k1⟩
  obtain ⟨hc1, hf1⟩ := k1.rules
  have hz1 := k1.size
  simp only [World.size_alloc] at hN hz1
  have K1 : Kept w w1 := Kept.trans (by repeat (first | apply Kept.alloc | exact Kept.refl _)) k1
  have hrow1 : Row w1 (w.heap.size + 1) 1 := Row.kept (Row.alloc (by have := Row.made (w.alloc (.cells #[.slice a l.length cap] 24)) #[.slice none 0 0] 37; simpa using this) _) k1
  have HRow := hide hrow1
  clear k1 hrow1
  go_wp2
  have hX : Row (w1.setCell ⟨w.heap.size + 1 + 1, 0, none⟩ (.slice (some ⟨b, 0, none⟩) l.length l.length)) (w.heap.size + 1) 1 := Row.set HRow.out _ rfl _
  have hR := World.rangeAt_setCells_same _ (w.heap.size + 1) 0 [.slice (some ⟨b, 0, none⟩) l.length l.length] (hX.there (o := 0) (m := 1) (Nat.le_refl _))
  refine bodyPost_ret_cell [.slice (some ⟨b, 0, none⟩) l.length l.length] _ Tryz.results7 rfl hR Tryz.underlying37 rfl Tryz.sizeWeb rfl ⟨b, rfl, NodesIn.mono (lo := w.heap.size + 1 + 1 + 1) (hi := w1.heap.size) ?_ (by omega) (by simp), ?_⟩
  · repeat (first | (refine NodesIn.setCell ?_ (by simp <;> omega) _) | exact hN)
  · repeat (first | (refine Kept.setCell ?_ (by simp <;> omega) _) | exact K1)
set_option maxRecDepth 100000 in
set_option maxHeartbeats 3200000 in
theorem markNodeS_any (w : World) (lo hi : Nat) (a : Option Addr) (cap : Nat) (l : List NodeD) (k : Nat) (h0 : 0 < k) (h1 : k + (l.map cntNode).sum ≤ 4611686018427387904) (hS : NodesIn w lo hi a l) :
    Calls Tryz.prog 31 #[.slice a l.length cap, .int .i64 k] w fun e w' => e = .returned (.int .i64 ((k + (l.map cntNode).sum : Nat) : Int)) ∧ NodesIn w' lo hi a (markNodes l k) ∧ KeptBut lo hi w w' := by
  have hlen := len_le_cntN l
  rcases hS with rfl | ⟨B, c, rfl, hlo, hBc, hhi, hr, hmono, hf⟩
  · go_enter Tryz.func31, Tryz.ntmps31
    go_wp2
    go_loopw [1, 5] (fun x i wr => x = .int .i64 k ∧ i = .int .i64 0 ∧ wr = w) (fun _ _ _ => 0)
    case atStart => exact ⟨rfl, rfl, rfl⟩
    case round =>
      obtain ⟨rfl, rfl, rfl⟩ := hrel
      go_wp2
      go_ret
      exact ⟨by simp, .inl rfl, KeptBut.refl _ _ _⟩
  · have HMono := hide hmono
    clear hmono
    go_enter Tryz.func31, Tryz.ntmps31
    go_wp2
    go_loopw [1, 5] (fun x i wr => ∃ j m : Nat, j ≤ l.length ∧ i = .int .i64 j ∧ x = .int .i64 m ∧ m = k + sumTo cntNode l j ∧ KeptBut lo hi w wr ∧ Row wr B (l.length * 3) ∧ ∀ t, t < l.length → NodeIn wr B t (c t) (c (t + 1)) (nodeMix l k j t)) (fun _ i _ => l.length - (intOf i).toNat)
    case atStart => exact ⟨0, k, Nat.zero_le _, rfl, rfl, by rw [sumTo_zero]; omega, KeptBut.refl _ _ _, hr, fun t ht => by simpa [nodeMix] using hf t ht⟩
    case round =>
      obtain ⟨j, m, hj, rfl, rfl, hm, hw, hr', hf'⟩ := hrel
      clear hr hf
      have HMn := hide hm
      have HF := hide hf'
      by_cases hlt : j < l.length
      · have hst := hf' j hlt
        have hmix : nodeMix l k j j = l.getD j NodeD.zero := by simp [nodeMix]
        rw [hmix] at hst
        have hsum := sumTo_succ cntNode l NodeD.zero j hlt
        have hsl := sumTo_le cntNode l (j + 1)
        obtain ⟨aa, ca, g3, g4⟩ := hst
        obtain ⟨s, hsd⟩ : ∃ s, s = l.getD j NodeD.zero := ⟨_, rfl⟩
        rw [← hsd] at g3 g4 hsum
        have hcnt : m + cntNode s ≤ 4611686018427387904 := by omega
        have hm0 : 0 < m := by omega
        have hcs : cntNode s = (s.steps.map cntStep).sum + 2 := rfl
        have HSd := hide hsd
        have HSum := hide hsum
        clear hf' hmix hsd hm hsum hsl
        have hBj : B < c j := Nat.lt_of_lt_of_le hBc (HMono.out 0 j (Nat.zero_le _))
        have hBs := hr'.lt
        have c2 := g3 2 _ rfl
        have HG4 := hide g4
        obtain ⟨txt, htx, hmt⟩ := markM m hm0 (by omega)
        have HTX := hide htx
        have HMT := hide hmt
        clear htx hmt g4 g3
        go_wp2_with fail
        refine (HMT.out _).mono ?_
        rintro e w1 ⟨rfl, k1⟩
        have hr1 := hr'.kept k1
        have d2 := (k1.cell hBs).trans c2
        have hB1 := hr1.lt
        obtain ⟨⟨_, f0c⟩, f0⟩ := hr1.at (i := j * 3) (by omega)
        obtain ⟨⟨_, f1c⟩, f1⟩ := hr1.at (i := j * 3 + 1) (by omega)
        have HG5 := hide (HG4.out.same (k1.same _ _))
        have t1 := (Turn.refl B (j * 3) (j * 3 + 3) (c j) (c (j + 1)) wr).kept k1 hBs
        have hms : ∀ W, StepsIn W (c j) (c (j + 1)) aa s.steps → Calls Tryz.prog 69 #[.slice aa s.steps.length ca, .int .i64 ((m : Int) + 1 + 1)] W fun e w' => e = .returned (.int .i64 ((m + 2 + (s.steps.map cntStep).sum : Nat) : Int)) ∧ StepsIn w' (c j) (c (j + 1)) aa (markSteps s.steps (m + 2)) ∧ KeptBut (c j) (c (j + 1)) W w' := by
          intro W hW
          have := markStepS_any W (c j) (c (j + 1)) aa ca s.steps (m + 2) (by omega) (by omega) hW
          rw [show ((m + 2 : Nat) : Int) = (m : Int) + 1 + 1 by omega] at this
          exact this
        have HMS := hide hms
        have HR1 := hide hr1
        have HT1 := hide t1
        clear hms c2 hr' HG4 k1 HMT hr1 t1
        go_wp2_with fail
        have hB' : B < c j := hBj
        refine (HMS.out _ ((HG5.out.same (Same.setCell _ (.inl hB') _)).same (Same.setCell _ (.inl hB') _))).mono ?_
        rintro e w2 ⟨rfl, hC2, kb2⟩
        obtain ⟨m2, hm2⟩ : ∃ m2, m2 = m + 2 + (s.steps.map cntStep).sum := ⟨_, rfl⟩
        rw [← hm2]
        have hb2 : m2 ≤ 4611686018427387904 := by omega
        have HM2 := hide hm2
        clear hm2 hcnt hcs
        have hrA : Row (w1.setCell ⟨B, j * 3, none⟩ (.string txt)) B (l.length * 3) := HR1.out.set _ rfl _
        have hrB : Row ((w1.setCell ⟨B, j * 3, none⟩ (.string txt)).setCell ⟨B, j * 3 + 1, none⟩ (.int .i64 ((m : Int) + 1))) B (l.length * 3) := hrA.set _ rfl _
        have s2 := kb2.same (l2 := B) (h2 := B + 1) (by omega)
        have hr2 : Row w2 B (l.length * 3) := s2.row (Nat.le_refl _) (by omega) hrB
        have e0 : w2.cell? ⟨B, j * 3, none⟩ = some (.string txt) := by rw [s2.cell (Nat.le_refl _) (by omega) hrB.lt, set_miss (by omega)]; exact set_hit HR1.out (by omega) _
        have e1 : w2.cell? ⟨B, j * 3 + 1, none⟩ = some (.int .i64 ((m : Int) + 1)) := by rw [s2.cell (Nat.le_refl _) (by omega) hrB.lt]; exact set_hit hrA (by omega) _
        have e2 : w2.cell? ⟨B, j * 3 + 2, none⟩ = some (.slice aa s.steps.length ca) := by rw [s2.cell (Nat.le_refl _) (by omega) hrB.lt, set_miss (by omega), set_miss (by omega)]; exact d2
        have tF := ((HT1.out.setCell (o := j * 3) (by omega) (by omega) (.string txt)).setCell (o := j * 3 + 1) (by omega) (by omega) (.int .i64 ((m : Int) + 1))).but kb2 (Nat.le_refl _) (Nat.le_refl _) (.inl hBj) hrB.lt
        have HE := hide (And.intro e0 (And.intro e1 e2))
        have HTF := hide tF
        have HC2 := hide hC2
        have HR2 := hide hr2
        clear e0 e1 e2 tF hC2 hr2 kb2 s2 hrA hrB f0 f0c f1 f1c d2 HR1 HT1 HG5 HMS
        go_wp2
        go_roundw
        case rel =>
          obtain ⟨e0, e1, e2⟩ := HE.out
          have tF := HTF.out
          refine ⟨j + 1, m2, by omega, by go_num, by go_num, by have q1 := HMn.out; have q2 := HSum.out; have q4 := HM2.out; have q5 : cntNode s = (s.steps.map cntStep).sum + 2 := rfl; omega, hw.trans (tF.keptBut (by omega) (by have := HMono.out (j + 1) l.length (by omega); omega) hlo (by have := HMono.out 0 l.length (by omega); omega)), HR2.out, fun t ht => ?_⟩
          by_cases e : t = j
          · subst e
            have em : nodeMix l k (t + 1) t = markNode s m := by
              unfold nodeMix
              rw [if_pos (by omega), ← HSd.out, ← HMn.out]
            rw [em]
            refine ⟨aa, ca, ?_, HC2.out⟩
            rw [markNode_cells, ← HTX.out]
            exact range3 e0 (by rw [e1]; simp) e2
          · have em : nodeMix l k (j + 1) t = nodeMix l k j t := by
              unfold nodeMix
              by_cases h : t < j
              · rw [if_pos h, if_pos (by omega)]
              · rw [if_neg h, if_neg (by omega)]
            rw [em]
            have hBt : B < c t := Nat.lt_of_lt_of_le hBc (HMono.out 0 t (Nat.zero_le _))
            obtain ⟨aa', ca', z3, z4⟩ := HF.out t ht
            have hd : c (t + 1) ≤ c j ∨ c (j + 1) ≤ c t := by
              by_cases h : t < j
              · exact .inl (HMono.out _ _ (by omega))
              · exact .inr (HMono.out _ _ (by omega))
            exact ⟨aa', ca', tF.range (by simp [NodeD.cells]; omega) z3, z4.same (tF.same (by omega) (.inl hBt))⟩
        case measure => simp [intOf]; omega
      · have : j = l.length := by omega
        subst this
        go_wp2
        go_ret
        refine ⟨ret_int (by have := HMn.out; rw [sumTo_all] at this; omega), .inr ⟨B, c, rfl, hlo, hBc, by rw [markNodes_length]; exact hhi, by rw [markNodes_length]; exact hr', HMono.out, fun i hi' => ?_⟩, hw⟩
        rw [markNodes_length] at hi'
        have := HF.out i hi'
        rw [markNodes_getD _ _ _ hi']
        unfold nodeMix at this
        rw [if_pos hi'] at this
        exact this
set_option maxHeartbeats 800000 in
theorem markWeb_any (w : World) (lo hi : Nat) (a : Option Addr) (cap : Nat) (l : List NodeD) (k : Nat) (h0 : 0 < k) (h1 : k + (l.map cntNode).sum ≤ 4611686018427387904) (hS : NodesIn w lo hi a l) :
    Calls Tryz.prog 12 #[.agg #[.slice a l.length cap], .int .i64 k] w fun e w' => e = .returned (.int .i64 ((k + (l.map cntNode).sum : Nat) : Int)) ∧ NodesIn w' lo hi a (markNodes l k) ∧ KeptBut lo hi w w' := by
  have k0 : Kept w (w.alloc (.cells #[.slice a l.length cap] 37)) := (Kept.refl _).alloc _
  go_enter Tryz.func12, Tryz.ntmps12
  go_wp2_with fail
  refine (markNodeS_any _ lo hi a cap l k h0 h1 (hS.same (k0.same _ _))).mono ?_
  rintro e w1 ⟨rfl, hN, kb⟩
  obtain ⟨m2, hm2⟩ : ∃ m2, m2 = k + (l.map cntNode).sum := ⟨_, rfl⟩
  rw [← hm2]
  have HM2 := hide hm2
  clear hm2
  go_wp2
  go_ret
  exact ⟨ret_int (by rw [HM2.out]), hN, (KeptBut.of_kept k0).trans kb⟩
end Go.Proofs.YtjhemildijapmaaGreatDoor
