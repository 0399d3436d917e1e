import Derived.Test.YtjhemildijapmaaGreatDoorKWSteps2
import Derived.Test.YtjhemildijapmaaGreatDoorKSRoots
import Derived.Deep.RegionWith
import Derived.Test.YtjhemildijapmaaGreatDoorKWImpl
namespace Go.Proofs.YtjhemildijapmaaGreatDoor
open Go.RowKit
set_option maxHeartbeats 1600000 in
theorem eqStepS_yes (w : World) (a a' : Option Addr) (cap cap' : Nat) (l : List StepD) (hl : l.length ≤ maxLen) (hs : ∀ s ∈ l, s.asks.length ≤ maxLen ∧ s.cases.length ≤ maxLen)
    (hS : Steps w a l) (hS' : Steps w a' l) :
    Calls Tryz.prog 132 #[.slice a l.length cap, .slice a' l.length cap'] w fun e w' => e = .returned (.bool true) ∧ Kept w w' := by
  unfold maxLen at hl
  go_enter Tryz.func132, Tryz.ntmps132
  go_wp2
  go_loopw [5] (fun i wr => ∃ k : Nat, k ≤ l.length ∧ i = .int .i64 k ∧ Kept w wr) (fun i _ => l.length - (intOf i).toNat)
  case atStart => exact ⟨0, Nat.zero_le _, rfl, Kept.refl _⟩
  case round =>
    obtain ⟨k, hk, rfl, hw⟩ := hrel
    by_cases hlt : k < l.length
    · obtain ⟨b, o, cs, rfl, hb, hc, aa, ca, ac, cc, rfl, hA, hC, hca⟩ := hS.kept hw k hlt
      obtain ⟨b', o', cs', rfl, hb', hc', ba, da, bc, dc, rfl, hA', hC', hca'⟩ := hS'.kept hw k hlt
      have hsz := hs (l.getD k StepD.zero) (by simp [List.getD, hlt])
      clear hs
      generalize l.getD k StepD.zero = s at *
      have c0 := hc 0 _ rfl
      have c1 := hc 1 _ rfl
      have c2 := hc 2 _ rfl
      have c3 := hc 3 _ rfl
      have c4 := hc 4 _ rfl
      have c5 := hc 5 _ rfl
      have c6 := hc 6 _ rfl
      have c7 := hc 7 _ rfl
      have d0 := hc' 0 _ rfl
      have d1 := hc' 1 _ rfl
      have d2 := hc' 2 _ rfl
      have d3 := hc' 3 _ rfl
      have d4 := hc' 4 _ rfl
      have d5 := hc' 5 _ rfl
      have d6 := hc' 6 _ rfl
      have d7 := hc' 7 _ rfl
      simp only [Nat.add_zero] at c0 d0
      clear hc hc'
      go_wp2
      go_region_with (go_at_call 152; refine (eqStep_yes _ s aa ac ba bc ca cc da dc hsz.1 hsz.2 (hA.kept (by repeat (first | apply Kept.drew | exact Kept.refl _))) (hC.kept (by repeat (first | apply Kept.drew | exact Kept.refl _))) (hA'.kept (by repeat (first | apply Kept.drew | exact Kept.refl _))) (hC'.kept (by repeat (first | apply Kept.drew | exact Kept.refl _)))).mono ?_; rintro e w1 ⟨rfl, hw1⟩)
      all_goals
        go_wp2
        go_roundw
        case rel => exact ⟨k + 1, by omega, by go_num, by repeat (first | assumption | apply Kept.drew | refine Kept.trans ?_ (by assumption))⟩
        case measure => simp [intOf]; omega
    · go_wp2
      go_ret
      exact ⟨rfl, hw⟩
set_option maxHeartbeats 400000 in
theorem szAction_any (w : World) (cost : Int) (a : Option Addr) (cap : Nat) (l : List StepD) (left : Int) (hl : l.length ≤ maxLen) (hs : ∀ s ∈ l, s.Fits)
    (hS : Steps w a l) (h0 : 0 ≤ left) (h1 : left ≤ 1048576) :
    Calls Tryz.prog 70 #[.agg #[.int .i64 cost, .slice a l.length cap], .int .i64 left] w fun e w' => e = .returned (.int .i64 (szL (szSteps l) left)) ∧ Kept w w' := by
  have k0 : Kept w (w.alloc (.cells #[.int .i64 cost, .slice a l.length cap] 75)) := (Kept.refl _).alloc _
  go_enter Tryz.func70, Tryz.ntmps70
  go_wp2_with fail
  refine (szStepS_any _ a cap l left hl hs (hS.kept k0) h0 h1).mono ?_
  rintro e w1 ⟨rfl, k1⟩
  have k2 := k0.trans k1
  clear k0 k1
  by_cases hle : (szSteps l : Int) ≤ left
  · rw [szL_pos hle]
    go_wp2
    go_ret
    exact ⟨ret_int (szL_pos hle).symm, k2⟩
  · rw [szL_neg (by omega)]
    go_wp2
    go_ret
    exact ⟨ret_int (szL_neg (by omega)).symm, k2⟩
theorem Tryz.sizeAction : (Tryz.prog.info? 62).map (·.size) = some 2 := by kernel_rfl
set_option maxHeartbeats 400000 in
theorem toAction_any (w : World) (cost : Int) (a : Option Addr) (cap : Nat) (l : List StepD) (hl : l.length ≤ 1048576) (hs : ∀ s ∈ l, s.asks.length ≤ 1048576 ∧ s.cases.length ≤ 1048576)
    (hS : Steps w a l) :
    Calls Tryz.prog 84 #[.agg #[.int .i64 cost, .slice a l.length cap]] w fun e w' => ∃ b, e = .returned (.agg #[.int .i64 cost, .slice (some ⟨b, 0, none⟩) l.length l.length]) ∧ StepsNew w' b l ∧ Kept w w' ∧ w.heap.size ≤ b := by
  go_enter Tryz.func84, Tryz.ntmps84
  go_wp2_with fail
  refine (toStepS_any _ a cap l hl hs (hS.kept (by repeat (first | apply Kept.alloc | exact Kept.refl _)))).mono ?_
  rintro e w1 ⟨b, rfl, hN, k1, hb⟩
  obtain ⟨hc1, hf1⟩ := k1.rules
  have hz1 := k1.size
  simp only [World.size_alloc] at hb hz1
  have K1 : Kept w w1 := Kept.trans (by repeat (first | apply Kept.alloc | exact Kept.refl _)) k1
  have hrow1 : Row w1 (w.heap.size + 1) 2 := Row.kept (Row.alloc (by have := Row.made (w.alloc (.cells #[.int .i64 cost, .slice a l.length cap] 75)) #[.int .i64 0, .slice none 0 0] 62; simpa using this) _) k1
  have HRow := hide hrow1
  clear k1 hrow1
  go_wp2
  have hX : Row (w1.setCell ⟨w.heap.size + 1 + 1, 1, none⟩ (.slice (some ⟨b, 0, none⟩) l.length l.length)) (w.heap.size + 1) 2 := Row.set HRow.out _ rfl _
  have hR := World.rangeAt_setCells_same _ (w.heap.size + 1) 0 [.int .i64 cost, .slice (some ⟨b, 0, none⟩) l.length l.length] (hX.there (o := 0) (m := 2) (Nat.le_refl _))
  refine bodyPost_ret_cell [.int .i64 cost, .slice (some ⟨b, 0, none⟩) l.length l.length] _ Tryz.results84 rfl hR Tryz.underlying62 rfl Tryz.sizeAction rfl ⟨b, rfl, ?_, ?_, by omega⟩
  · repeat (first | (refine StepsNew.setCell ?_ (by simp <;> omega) _) | exact hN)
  · repeat (first | (refine Kept.setCell ?_ (by simp <;> omega) _) | exact K1)
set_option maxHeartbeats 400000 in
theorem eqAction_yes (w : World) (cost : Int) (a a' : Option Addr) (cap cap' : Nat) (l : List StepD) (hl : l.length ≤ maxLen) (hs : ∀ s ∈ l, s.asks.length ≤ maxLen ∧ s.cases.length ≤ maxLen)
    (hS : Steps w a l) (hS' : Steps w a' l) :
    Calls Tryz.prog 105 #[.agg #[.int .i64 cost, .slice a l.length cap], .agg #[.int .i64 cost, .slice a' l.length cap']] w fun e w' => e = .returned (.bool true) ∧ Kept w w' := by
  have k0 : Kept w ((w.alloc (.cells #[.int .i64 cost, .slice a l.length cap] 62)).alloc (.cells #[.int .i64 cost, .slice a' l.length cap'] 62)) := ((Kept.refl _).alloc _).alloc _
  go_enter Tryz.func105, Tryz.ntmps105
  go_wp2_with fail
  refine (eqStepS_yes _ a a' cap cap' l hl hs (hS.kept (by repeat (first | apply Kept.drew | exact k0))) (hS'.kept (by repeat (first | apply Kept.drew | exact k0)))).mono ?_
  rintro e w1 ⟨rfl, k1⟩
  have k2 : Kept w w1 := Kept.trans (by repeat (first | apply Kept.drew | exact k0)) k1
  clear k0 k1
  go_wp2
  go_ret
  exact ⟨rfl, k2⟩
structure NodeD where
  name : ByteArray
  cost : Int
  steps : List StepD
def NodeD.zero : NodeD := ⟨ByteArray.empty, 0, []⟩
def NodeD.cells (d : NodeD) (a : Option Addr) (cap : Nat) : List Value := [.string d.name, .int .i64 d.cost, .slice a d.steps.length cap]
theorem NodeD.one (d : NodeD) (a : Option Addr) (cap : Nat) : (d.cells a cap).toArray.all (·.oneCell') = true :=
  all_oneCell_toArray (by simp [NodeD.cells, Value.oneCell'])
def NodeIs (w : World) (cs : List Value) (d : NodeD) : Prop := ∃ a cap, cs = d.cells a cap ∧ Steps w a d.steps
theorem NodeIs.kept {w w' : World} {cs : List Value} {d : NodeD} (h : NodeIs w cs d) (k : Kept w w') : NodeIs w' cs d := by
  obtain ⟨a, cap, e, h1⟩ := h
  exact ⟨a, cap, e, h1.kept k⟩
def Nodes (w : World) (a : Option Addr) (l : List NodeD) : Prop :=
  ∀ i, i < l.length → ∃ b o cs, a = some ⟨b, o, none⟩ ∧ b < w.heap.size ∧ w.rangeAt b (o + i * 3) cs ∧ NodeIs w cs (l.getD i NodeD.zero)
theorem Nodes.kept {w w' : World} {a : Option Addr} {l : List NodeD} (h : Nodes w a l) (k : Kept w w') : Nodes w' a l := by
  intro i hi
  obtain ⟨b, o, cs, ha, hb, hc, hs⟩ := h i hi
  exact ⟨b, o, cs, ha, Nat.lt_of_lt_of_le hb k.size, k.range hb hc, hs.kept k⟩
structure NodeD.Fits (d : NodeD) : Prop where
  name : d.name.size ≤ maxLen
  cost : In64 d.cost
  steps : d.steps.length ≤ maxLen
  each : ∀ s ∈ d.steps, s.Fits
theorem StepNew.setCellsBelow {w : World} {B j g o : Nat} {s : StepD} {vs : List Value} (h : StepNew w B j s) (hg : g < B) : StepNew (w.setCells g o vs) B j s := by
  obtain ⟨b1, b2, h1, h2, h3, h4, h5⟩ := h
  exact ⟨b1, b2, h1, h2, World.rangeAt_setCells_apart h3 _ _ _ (by omega), Strs.setCells (by omega) _ _ h4, Cases.setCells (by omega) _ _ h5⟩
theorem size_setCells (g : Nat) : ∀ (vs : List Value) (o : Nat) (w : World), (w.setCells g o vs).heap.size = w.heap.size
  | [], _, _ => rfl
  | v :: r, o, w => by rw [World.setCells, size_setCells g r (o + 1), size_setCell]
theorem StepsNew.setCellsBelow {w : World} {B g o : Nat} {l : List StepD} {vs : List Value} (h : StepsNew w B l) (hg : g < B) : StepsNew (w.setCells g o vs) B l :=
  ⟨by rw [size_setCells]; exact h.1, fun j hj => (h.2 j hj).setCellsBelow hg⟩
def NodeNew (w : World) (B j : Nat) (d : NodeD) : Prop :=
  ∃ b1, B < b1 ∧ w.rangeAt B (j * 3) (d.cells (some ⟨b1, 0, none⟩) d.steps.length) ∧ StepsNew w b1 d.steps
theorem NodeNew.kept {w w' : World} {B j : Nat} {d : NodeD} (h : NodeNew w B j d) (k : Kept w w') (hB : B < w.heap.size) : NodeNew w' B j d := by
  obtain ⟨b1, h1, h2, h3⟩ := h
  exact ⟨b1, h1, k.range hB h2, h3.kept k⟩
theorem NodeNew.setCells {w : World} {B j o : Nat} {d : NodeD} {vs : List Value} (h : NodeNew w B j d) (ho : j * 3 + 3 ≤ o ∨ o + vs.length ≤ j * 3) : NodeNew (w.setCells B o vs) B j d := by
  obtain ⟨b1, h1, h2, h3⟩ := h
  exact ⟨b1, h1, World.rangeAt_setCells_apart h2 _ _ _ (by right; simpa [NodeD.cells] using ho), h3.setCellsBelow h1⟩
theorem NodeNew.setCell {w : World} {B j : Nat} {d : NodeD} (h : NodeNew w B j d) {p : Addr} (hp : p.block < B) (v : Value) : NodeNew (w.setCell p v) B j d := by
  obtain ⟨b1, h1, h2, h3⟩ := h
  exact ⟨b1, h1, fun i u hu => by rw [World.cell?_setCell_other _ _ _ _ (fun e => by rw [e] at hp; simp at hp)]; exact h2 i u hu, h3.setCell (by omega) v⟩
def NodesNew (w : World) (B : Nat) (l : List NodeD) : Prop := B < w.heap.size ∧ ∀ j, j < l.length → NodeNew w B j (l.getD j NodeD.zero)
theorem NodesNew.setCell {w : World} {B : Nat} {l : List NodeD} (h : NodesNew w B l) {p : Addr} (hp : p.block < B) (v : Value) : NodesNew (w.setCell p v) B l :=
  ⟨by rw [size_setCell]; exact h.1, fun j hj => (h.2 j hj).setCell hp v⟩
theorem NodesNew.kept {w w' : World} {B : Nat} {l : List NodeD} (h : NodesNew w B l) (k : Kept w w') : NodesNew w' B l :=
  ⟨Nat.lt_of_lt_of_le h.1 k.size, fun j hj => (h.2 j hj).kept k h.1⟩
theorem NodesNew.nodes {w : World} {B : Nat} {l : List NodeD} (h : NodesNew w B l) : Nodes w (some ⟨B, 0, none⟩) l := by
  intro j hj
  obtain ⟨b1, _, g1, g2⟩ := h.2 j hj
  exact ⟨B, 0, _, rfl, h.1, by rw [Nat.zero_add]; exact g1, _, _, rfl, g2.steps⟩
theorem meth_ask (vs : Array Value) (W : World) : (method 367 183 (.agg vs) "loop.example/kilnweb/impl.sound").run Tryz.prog W = .ok (197, .agg vs) W := by kernel_rfl
theorem meth_bad (vs : Array Value) (W : World) : (method 367 186 (.agg vs) "loop.example/kilnweb/impl.sound").run Tryz.prog W = .ok (203, .agg vs) W := by kernel_rfl
theorem meth_good (vs : Array Value) (W : World) : (method 367 185 (.agg vs) "loop.example/kilnweb/impl.sound").run Tryz.prog W = .ok (201, .agg vs) W := by kernel_rfl
set_option maxRecDepth 100000 in
set_option maxHeartbeats 6400000 in
theorem implValidAction_any (w : World) (cost : Int) (a : Option Addr) (cap : Nat) (l : List StepD) (hl : l.length ≤ maxLen) (hs : ∀ s ∈ l, s.Fits) (hS : Steps w a l) :
    Calls Tryz.prog 136 #[.agg #[.int .i64 cost, .slice a l.length cap]] w fun e w' => Says e (ActionOk ⟨cost, l⟩) ∧ Kept w w' := by
  unfold maxLen at hl
  have k0 : Kept w (w.alloc (.cells #[.int .i64 cost, .slice a l.length cap] 62)) := (Kept.refl _).alloc _
  by_cases a1 : 1 ≤ cost
  · by_cases a2 : cost ≤ 20
    · by_cases a3 : (1 : Int) ≤ l.length
      · by_cases a4 : (l.length : Int) ≤ 20
        · have e1 : decide (cost < 1) = false := by simp; omega
          have e2 : decide (20 < cost) = false := by simp; omega
          have e3 : decide ((l.length : Int) < 1) = false := by simp; omega
          have e4 : decide (20 < (l.length : Int)) = false := by simp; omega
          go_enter Tryz.func136, Tryz.ntmps136
          go_wp2
          clear e1 e2 e3 e4
          go_loopw [28] (fun i wr => ∃ k : Nat, k ≤ l.length ∧ i = .int .i64 k ∧ Kept (w.alloc (.cells #[.int .i64 cost, .slice a l.length cap] 62)) wr ∧ ∀ j, j < k → StepOk (l.getD j StepD.zero) l.length) (fun i _ => l.length - (intOf i).toNat)
          case atStart => exact ⟨0, Nat.zero_le _, rfl, Kept.refl _, fun j hj => absurd hj (Nat.not_lt_zero _)⟩
          case round =>
            obtain ⟨k, hk, rfl, hw, hg⟩ := hrel
            have HG := hide hg
            clear hg
            have hz1 := hw.size
            simp only [World.size_alloc] at hz1
            by_cases hlt : k < l.length
            · obtain ⟨b, o, cs, rfl, hb, hc, aa, ca, ac, cc, rfl, hA, hC, hca⟩ := (hS.kept k0).kept hw k hlt
              have hsz := hs (l.getD k StepD.zero) (by simp [List.getD, hlt])
              obtain ⟨s, hsk⟩ : ∃ s, s = l.getD k StepD.zero := ⟨_, rfl⟩
              rw [← hsk] at hc hsz hA hC hca
              have HSK := hide hsk
              clear hsk
              have c0 := hc 0 _ rfl
              have c1 := hc 1 _ rfl
              have c2 := hc 2 _ rfl
              have c3 := hc 3 _ rfl
              have c4 := hc 4 _ rfl
              have c5 := hc 5 _ rfl
              have c6 := hc 6 _ rfl
              have c7 := hc 7 _ rfl
              simp only [Nat.add_zero] at c0
              clear hc
              obtain ⟨hc1, hf1⟩ := hw.rules
              have z0 : w.heap.size < wr.heap.size := by omega
              have z1 : w.heap.size < wr.heap.size + 1 := by omega
              cases hfin : s.fin
              · rw [hfin] at c5
                have hq : ∀ W, Kept wr W → Calls Tryz.prog 197 #[.agg #[.slice aa s.asks.length ca, .int .i64 s.on, .slice ac s.cases.length cc, .int .i64 s.els, .int .i64 s.fall, .bool false, .bool s.bad, .string s.give], .int .i64 l.length] W fun e w' => Says e (AskOk s l.length) ∧ Kept W w' := fun W hW => by
                  have h := questionSound_any W s aa ac ca cc l.length hsz ⟨a3, a4⟩ (hA.kept hW) (hC.kept hW) hca
                  rw [hfin] at h
                  exact h
                have HQ := hide hq
                clear hq
                have hm := meth_ask
                go_wp2
                go_region_with (first | (go_at_call 95; refine (kindOf_ask _ s aa ac ca cc).mono ?_; rintro e w1 ⟨rfl, hw1⟩; obtain ⟨hc2, hf2⟩ := hw1.rules; have hk1 : Kept wr w1 := Kept.trans (by repeat (first | apply Kept.drew | apply Kept.alloc | exact Kept.refl _)) hw1) | (go_at_call 197; refine (unhide HQ _ (by repeat (first | apply Kept.drew | assumption))).mono ?_; rintro e w2 ⟨⟨r, rfl, hr⟩, hw2⟩; have hk2 : Kept wr w2 := Kept.trans (by repeat (first | apply Kept.drew | assumption)) hw2; have HR := hide hr; clear hr))
                all_goals
                  clear hc1 hf1 hc2 hf2 hm c0 c1 c2 c3 c4 c5 c6 c7 hA hC
                  cases r
                  · go_wp2
                    go_ret
                    exact ⟨Says.no fun h => (by have h2 := h.2.2 k hlt; rw [← HSK.out] at h2; have := HR.out.2 (h2.2 hfin); cases this), k0.trans (by repeat (first | apply Kept.drew | exact hw.trans hk2))⟩
                  · go_wp2
                    go_roundw
                    case rel =>
                      refine ⟨k + 1, by omega, by go_num, by repeat (first | apply Kept.drew | exact hw.trans hk2), fun j hj => ?_⟩
                      by_cases e : j = k
                      · subst e
                        rw [← HSK.out]
                        exact ⟨fun e => (by rw [hfin] at e; cases e), fun _ => HR.out.1 rfl⟩
                      · exact unhide HG j (by omega)
                    case measure => simp [intOf]; omega
              · cases hbad : s.bad
                · rw [hfin] at c5
                  rw [hbad] at c6
                  have hq : ∀ W, Kept wr W → Calls Tryz.prog 201 #[.agg #[.slice aa s.asks.length ca, .int .i64 s.on, .slice ac s.cases.length cc, .int .i64 s.els, .int .i64 s.fall, .bool true, .bool false, .string s.give], .int .i64 l.length] W fun e w' => Says e (EndOk s) ∧ Kept W w' := fun W hW => by
                    have h := goodSound_any W s aa ac ca cc l.length hsz
                    rw [hfin, hbad] at h
                    exact h
                  have HQ := hide hq
                  clear hq
                  have hm := meth_good
                  go_wp2
                  go_region_with (first | (go_at_call 95; refine (kindOf_good _ s aa ac ca cc).mono ?_; rintro e w1 ⟨rfl, hw1⟩; obtain ⟨hc2, hf2⟩ := hw1.rules; have hk1 : Kept wr w1 := Kept.trans (by repeat (first | apply Kept.drew | apply Kept.alloc | exact Kept.refl _)) hw1) | (go_at_call 201; refine (unhide HQ _ (by repeat (first | apply Kept.drew | assumption))).mono ?_; rintro e w2 ⟨⟨r, rfl, hr⟩, hw2⟩; have hk2 : Kept wr w2 := Kept.trans (by repeat (first | apply Kept.drew | assumption)) hw2; have HR := hide hr; clear hr))
                  all_goals
                    clear hc1 hf1 hc2 hf2 hm c0 c1 c2 c3 c4 c5 c6 c7 hA hC
                    cases r
                    · go_wp2
                      go_ret
                      exact ⟨Says.no fun h => (by have h2 := h.2.2 k hlt; rw [← HSK.out] at h2; have := HR.out.2 (h2.1 hfin); cases this), k0.trans (by repeat (first | apply Kept.drew | exact hw.trans hk2))⟩
                    · go_wp2
                      go_roundw
                      case rel =>
                        refine ⟨k + 1, by omega, by go_num, by repeat (first | apply Kept.drew | exact hw.trans hk2), fun j hj => ?_⟩
                        by_cases e : j = k
                        · subst e
                          rw [← HSK.out]
                          exact ⟨fun _ => HR.out.1 rfl, fun e => (by rw [hfin] at e; cases e)⟩
                        · exact unhide HG j (by omega)
                      case measure => simp [intOf]; omega
                · rw [hfin] at c5
                  rw [hbad] at c6
                  have hq : ∀ W, Kept wr W → Calls Tryz.prog 203 #[.agg #[.slice aa s.asks.length ca, .int .i64 s.on, .slice ac s.cases.length cc, .int .i64 s.els, .int .i64 s.fall, .bool true, .bool true, .string s.give], .int .i64 l.length] W fun e w' => Says e (EndOk s) ∧ Kept W w' := fun W hW => by
                    have h := badSound_any W s aa ac ca cc l.length hsz
                    rw [hfin, hbad] at h
                    exact h
                  have HQ := hide hq
                  clear hq
                  have hm := meth_bad
                  go_wp2
                  go_region_with (first | (go_at_call 95; refine (kindOf_bad _ s aa ac ca cc).mono ?_; rintro e w1 ⟨rfl, hw1⟩; obtain ⟨hc2, hf2⟩ := hw1.rules; have hk1 : Kept wr w1 := Kept.trans (by repeat (first | apply Kept.drew | apply Kept.alloc | exact Kept.refl _)) hw1) | (go_at_call 203; refine (unhide HQ _ (by repeat (first | apply Kept.drew | assumption))).mono ?_; rintro e w2 ⟨⟨r, rfl, hr⟩, hw2⟩; have hk2 : Kept wr w2 := Kept.trans (by repeat (first | apply Kept.drew | assumption)) hw2; have HR := hide hr; clear hr))
                  all_goals
                    clear hc1 hf1 hc2 hf2 hm c0 c1 c2 c3 c4 c5 c6 c7 hA hC
                    cases r
                    · go_wp2
                      go_ret
                      exact ⟨Says.no fun h => (by have h2 := h.2.2 k hlt; rw [← HSK.out] at h2; have := HR.out.2 (h2.1 hfin); cases this), k0.trans (by repeat (first | apply Kept.drew | exact hw.trans hk2))⟩
                    · go_wp2
                      go_roundw
                      case rel =>
                        refine ⟨k + 1, by omega, by go_num, by repeat (first | apply Kept.drew | exact hw.trans hk2), fun j hj => ?_⟩
                        by_cases e : j = k
                        · subst e
                          rw [← HSK.out]
                          exact ⟨fun _ => HR.out.1 rfl, fun e => (by rw [hfin] at e; cases e)⟩
                        · exact unhide HG j (by omega)
                      case measure => simp [intOf]; omega
            · go_wp2
              go_ret
              exact ⟨Says.yes ⟨⟨a1, a2⟩, ⟨by show 1 ≤ l.length; omega, by show l.length ≤ 20; omega⟩, fun j (hj : j < l.length) => unhide HG j (by omega)⟩, k0.trans hw⟩
        · go_enter Tryz.func136, Tryz.ntmps136
          go_wp2
          go_ret
          exact ⟨Says.no fun h => by have := h.2.1.2; simp at this; omega, k0⟩
      · go_enter Tryz.func136, Tryz.ntmps136
        go_wp2
        go_ret
        exact ⟨Says.no fun h => by have := h.2.1.1; simp at this; omega, k0⟩
    · go_enter Tryz.func136, Tryz.ntmps136
      go_wp2
      go_ret
      exact ⟨Says.no fun h => by have := h.1.2; simp at this; omega, k0⟩
  · go_enter Tryz.func136, Tryz.ntmps136
    go_wp2
    go_ret
    exact ⟨Says.no fun h => by have := h.1.1; simp at this; omega, k0⟩
theorem le_sum {α : Type} (f : α → Nat) {l : List α} {x : α} (h : x ∈ l) : f x ≤ (l.map f).sum := by
  induction l with
  | nil => cases h
  | cons y r ih =>
    rcases List.mem_cons.1 h with rfl | h
    · simp
    · have := ih h
      simp; omega
theorem small_of_sz {l : List StepD} {n : Nat} (h : szSteps l ≤ n) : l.length ≤ n ∧ ∀ s ∈ l, s.asks.length ≤ n ∧ s.cases.length ≤ n := by
  unfold szSteps at h
  refine ⟨by omega, fun s hs => ?_⟩
  have h1 := le_sum szStepD hs
  have h2 : szStepD s = (s.asks.length + (s.asks.map (·.size)).sum) + (s.cases.length + (s.cases.map (·.text.size)).sum) + s.give.size := rfl
  omega
def szNodeD (d : NodeD) : Nat := d.name.size + szSteps d.steps
set_option maxHeartbeats 800000 in
theorem szNode_any (w : World) (d : NodeD) (a : Option Addr) (cap : Nat) (left : Int) (hd : d.Fits) (hS : Steps w a d.steps) (h0 : 0 ≤ left) (h1 : left ≤ 1048576) :
    Calls Tryz.prog 36 #[.agg #[.string d.name, .int .i64 d.cost, .slice a d.steps.length cap], .int .i64 left] w fun e w' => e = .returned (.int .i64 (szL (szNodeD d) left)) ∧ Kept w w' := by
  have hn := hd.name
  unfold maxLen at hn
  have k0 : Kept w (w.alloc (.cells #[.string d.name, .int .i64 d.cost, .slice a d.steps.length cap] 77)) := (Kept.refl _).alloc _
  by_cases hle : (d.name.size : Int) ≤ left
  · go_enter Tryz.func36, Tryz.ntmps36
    go_wp2_with fail
    refine (szAction_any _ d.cost a cap d.steps _ hd.steps hd.each (hS.kept k0) (by omega) (by omega)).mono ?_
    rintro e w1 ⟨rfl, k1⟩
    have k2 := k0.trans k1
    clear k0 k1
    by_cases hle2 : (szSteps d.steps : Int) ≤ left - d.name.size
    · rw [szL_pos hle2]
      go_wp2
      go_ret
      exact ⟨ret_int (by rw [szL_pos (by unfold szNodeD; omega)]; unfold szNodeD; omega), k2⟩
    · rw [szL_neg (by omega)]
      go_wp2
      go_ret
      exact ⟨ret_int (szL_neg (by unfold szNodeD; omega)).symm, k2⟩
  · go_enter Tryz.func36, Tryz.ntmps36
    go_wp2
    go_ret
    exact ⟨ret_int (szL_neg (by unfold szNodeD; omega)).symm, k0⟩
set_option maxHeartbeats 800000 in
theorem eqNode_yes (w : World) (d : NodeD) (a a' : Option Addr) (cap cap' : Nat) (hd : d.Fits) (hS : Steps w a d.steps) (hS' : Steps w a' d.steps) :
    Calls Tryz.prog 67 #[.agg #[.string d.name, .int .i64 d.cost, .slice a d.steps.length cap], .agg #[.string d.name, .int .i64 d.cost, .slice a' d.steps.length cap']] w fun e w' => e = .returned (.bool true) ∧ Kept w w' := by
  have k0 : Kept w ((w.alloc (.cells #[.string d.name, .int .i64 d.cost, .slice a d.steps.length cap] 95)).alloc (.cells #[.string d.name, .int .i64 d.cost, .slice a' d.steps.length cap'] 95)) := ((Kept.refl _).alloc _).alloc _
  go_enter Tryz.func67, Tryz.ntmps67
  go_wp2_with fail
  refine (eqAction_yes _ d.cost a a' cap cap' d.steps hd.steps (fun s hs => ⟨(hd.each s hs).asks, (hd.each s hs).cases⟩) (hS.kept (by repeat (first | apply Kept.drew | exact k0))) (hS'.kept (by repeat (first | apply Kept.drew | exact k0)))).mono ?_
  rintro e w1 ⟨rfl, k1⟩
  have k2 : Kept w w1 := Kept.trans (by repeat (first | apply Kept.drew | exact k0)) k1
  clear k0 k1
  go_wp2
  go_ret
  exact ⟨rfl, k2⟩
theorem Tryz.sizeNode : (Tryz.prog.info? 95).map (·.size) = some 3 := by kernel_rfl
set_option maxHeartbeats 800000 in
theorem toNode_any (w : World) (d : NodeD) (a : Option Addr) (cap : Nat) (hl : d.steps.length ≤ 1048576) (hs : ∀ s ∈ d.steps, s.asks.length ≤ 1048576 ∧ s.cases.length ≤ 1048576) (hS : Steps w a d.steps) :
    Calls Tryz.prog 49 #[.agg #[.string d.name, .int .i64 d.cost, .slice a d.steps.length cap]] w fun e w' => ∃ b, e = .returned (.agg (d.cells (some ⟨b, 0, none⟩) d.steps.length).toArray) ∧ StepsNew w' b d.steps ∧ Kept w w' ∧ w.heap.size ≤ b := by
  go_enter Tryz.func49, Tryz.ntmps49
  go_wp2_with fail
  refine (toAction_any _ d.cost a cap d.steps hl hs (hS.kept (by repeat (first | apply Kept.alloc | exact Kept.refl _)))).mono ?_
  rintro e w1 ⟨b, rfl, hN, k1, hb⟩
  obtain ⟨hc1, hf1⟩ := k1.rules
  have hz1 := k1.size
  simp only [World.size_alloc] at hb hz1
  have K1 : Kept w w1 := Kept.trans (by repeat (first | apply Kept.alloc | exact Kept.refl _)) k1
  have hrow1 : Row w1 (w.heap.size + 1) 3 := Row.kept (Row.alloc (by have := Row.made (w.alloc (.cells #[.string d.name, .int .i64 d.cost, .slice a d.steps.length cap] 77)) #[.string ⟨#[]⟩, .int .i64 0, .slice none 0 0] 95; simpa using this) _) k1
  have HRow := hide hrow1
  clear k1 hrow1
  go_wp2
  have hX : Row ((w1.setCell ⟨w.heap.size + 1 + 1, 1, none⟩ (.int .i64 d.cost)).setCell ⟨w.heap.size + 1 + 1, 2, none⟩ (.slice (some ⟨b, 0, none⟩) d.steps.length d.steps.length)) (w.heap.size + 1) 3 := Row.set (Row.set HRow.out _ rfl _) _ rfl _
  have hR := World.rangeAt_setCells_same _ (w.heap.size + 1) 0 (d.cells (some ⟨b, 0, none⟩) d.steps.length) (hX.there (o := 0) (m := 3) (Nat.le_refl _))
  refine bodyPost_ret_cell (d.cells (some ⟨b, 0, none⟩) d.steps.length) _ Tryz.results49 rfl hR Tryz.underlying95 rfl Tryz.sizeNode rfl ⟨b, rfl, ?_, ?_, by omega⟩
  · repeat (first | (refine StepsNew.setCell ?_ (by simp <;> omega) _) | exact hN)
  · repeat (first | (refine Kept.setCell ?_ (by simp <;> omega) _) | exact K1)
end Go.Proofs.YtjhemildijapmaaGreatDoor
