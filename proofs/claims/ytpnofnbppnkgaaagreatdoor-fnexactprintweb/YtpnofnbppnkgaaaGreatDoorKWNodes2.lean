import Derived.Test.YtpnofnbppnkgaaaGreatDoorKWSteps3

namespace Go.Proofs.YtpnofnbppnkgaaaGreatDoor
open Go.RowKit

set_option maxHeartbeats 400000 in
theorem szAction_any (w : World) (cost : Int) (a : Option Addr) (cap : Nat) (l : List StepD) (left : Int) (hl : l.length ≤ maxLen) (hs : ∀ s ∈ l, s.Fits)
    (hS : Steps w a l) (h0 : 0 ≤ left) (h1 : left ≤ 1048576) :
    Calls Tryz.prog 35 #[.agg #[.int .i64 cost, .slice a l.length cap], .int .i64 left] w fun e w' => e = .returned (.int .i64 (szL (szSteps l) left)) ∧ Kept w w' := by
  have k0 : Kept w (w.alloc (.cells #[.int .i64 cost, .slice a l.length cap] 60)) := (Kept.refl _).alloc _
  go_enter Tryz.func35, Tryz.ntmps35
  go_wp2_with fail
  refine (szStepS_any _ a cap l left hl hs (hS.kept k0) h0 h1).mono ?_
  rintro e w1 ⟨rfl, k1⟩
  have k2 := k0.trans k1
  clear k0 k1
  by_cases hle : (szSteps l : Int) ≤ left
  · rw [szL_pos hle]
    go_wp2
    go_ret
    exact ⟨ret_int (szL_pos hle).symm, k2⟩
  · rw [szL_neg (by omega)]
    go_wp2
    go_ret
    exact ⟨ret_int (szL_neg (by omega)).symm, k2⟩

theorem Tryz.sizeAction : (Tryz.prog.info? 38).map (·.size) = some 2 := by kernel_rfl

set_option maxHeartbeats 400000 in
theorem toAction_any (w : World) (cost : Int) (a : Option Addr) (cap : Nat) (l : List StepD) (hl : l.length ≤ 1048576) (hs : ∀ s ∈ l, s.asks.length ≤ 1048576 ∧ s.cases.length ≤ 1048576)
    (hS : Steps w a l) :
    Calls Tryz.prog 38 #[.agg #[.int .i64 cost, .slice a l.length cap]] w fun e w' => ∃ b, e = .returned (.agg #[.int .i64 cost, .slice (some ⟨b, 0, none⟩) l.length l.length]) ∧ StepsNew w' b l ∧ Kept w w' ∧ w.heap.size ≤ b := by
  go_enter Tryz.func38, Tryz.ntmps38
  go_wp2_with fail
  refine (toStepS_any _ a cap l hl hs (hS.kept (by repeat (first | apply Kept.alloc | exact Kept.refl _)))).mono ?_
  rintro e w1 ⟨b, rfl, hN, k1, hb⟩
  obtain ⟨hc1, hf1⟩ := k1.rules
  have hz1 := k1.size
  simp only [World.size_alloc] at hb hz1
  have K1 : Kept w w1 := Kept.trans (by repeat (first | apply Kept.alloc | exact Kept.refl _)) k1
  have hrow1 : Row w1 (w.heap.size + 1) 2 := Row.kept (Row.alloc (by have := Row.made (w.alloc (.cells #[.int .i64 cost, .slice a l.length cap] 60)) #[.int .i64 0, .slice none 0 0] 38; simpa using this) _) k1
  have HRow := hide hrow1
  clear k1 hrow1
  go_wp2
  have hX : Row (w1.setCell ⟨w.heap.size + 1 + 1, 1, none⟩ (.slice (some ⟨b, 0, none⟩) l.length l.length)) (w.heap.size + 1) 2 := Row.set HRow.out _ rfl _
  have hR := World.rangeAt_setCells_same _ (w.heap.size + 1) 0 [.int .i64 cost, .slice (some ⟨b, 0, none⟩) l.length l.length] (hX.there (o := 0) (m := 2) (Nat.le_refl _))
  refine bodyPost_ret_cell [.int .i64 cost, .slice (some ⟨b, 0, none⟩) l.length l.length] _ Tryz.results38 rfl hR Tryz.underlying38 rfl Tryz.sizeAction rfl ⟨b, rfl, ?_, ?_, by omega⟩
  · repeat (first | (refine StepsNew.setCell ?_ (by simp <;> omega) _) | exact hN)
  · repeat (first | (refine Kept.setCell ?_ (by simp <;> omega) _) | exact K1)

set_option maxHeartbeats 400000 in
theorem eqAction_yes (w : World) (cost : Int) (a a' : Option Addr) (cap cap' : Nat) (l : List StepD) (hl : l.length ≤ maxLen) (hs : ∀ s ∈ l, s.asks.length ≤ maxLen ∧ s.cases.length ≤ maxLen)
    (hS : Steps w a l) (hS' : Steps w a' l) :
    Calls Tryz.prog 49 #[.agg #[.int .i64 cost, .slice a l.length cap], .agg #[.int .i64 cost, .slice a' l.length cap']] w fun e w' => e = .returned (.bool true) ∧ Kept w w' := by
  have k0 : Kept w ((w.alloc (.cells #[.int .i64 cost, .slice a l.length cap] 38)).alloc (.cells #[.int .i64 cost, .slice a' l.length cap'] 38)) := ((Kept.refl _).alloc _).alloc _
  go_enter Tryz.func49, Tryz.ntmps49
  go_wp2_with fail
  refine (eqStepS_yes _ a a' cap cap' l hl hs (hS.kept (by repeat (first | apply Kept.drew | exact k0))) (hS'.kept (by repeat (first | apply Kept.drew | exact k0)))).mono ?_
  rintro e w1 ⟨rfl, k1⟩
  have k2 : Kept w w1 := Kept.trans (by repeat (first | apply Kept.drew | exact k0)) k1
  clear k0 k1
  go_wp2
  go_ret
  exact ⟨rfl, k2⟩

end Go.Proofs.YtpnofnbppnkgaaaGreatDoor

namespace Go.Proofs.YtpnofnbppnkgaaaGreatDoor
open Go.RowKit

structure NodeD where
  name : ByteArray
  cost : Int
  steps : List StepD

def NodeD.zero : NodeD := ⟨ByteArray.empty, 0, []⟩
def NodeD.cells (d : NodeD) (a : Option Addr) (cap : Nat) : List Value := [.string d.name, .int .i64 d.cost, .slice a d.steps.length cap]

theorem NodeD.one (d : NodeD) (a : Option Addr) (cap : Nat) : (d.cells a cap).toArray.all (·.oneCell') = true :=
  all_oneCell_toArray (by simp [NodeD.cells, Value.oneCell'])

def NodeIs (w : World) (cs : List Value) (d : NodeD) : Prop := ∃ a cap, cs = d.cells a cap ∧ Steps w a d.steps

theorem NodeIs.kept {w w' : World} {cs : List Value} {d : NodeD} (h : NodeIs w cs d) (k : Kept w w') : NodeIs w' cs d := by
  obtain ⟨a, cap, e, h1⟩ := h
  exact ⟨a, cap, e, h1.kept k⟩

def Nodes (w : World) (a : Option Addr) (l : List NodeD) : Prop :=
  ∀ i, i < l.length → ∃ b o cs, a = some ⟨b, o, none⟩ ∧ b < w.heap.size ∧ w.rangeAt b (o + i * 3) cs ∧ NodeIs w cs (l.getD i NodeD.zero)

theorem Nodes.kept {w w' : World} {a : Option Addr} {l : List NodeD} (h : Nodes w a l) (k : Kept w w') : Nodes w' a l := by
  intro i hi
  obtain ⟨b, o, cs, ha, hb, hc, hs⟩ := h i hi
  exact ⟨b, o, cs, ha, Nat.lt_of_lt_of_le hb k.size, k.range hb hc, hs.kept k⟩

structure NodeD.Fits (d : NodeD) : Prop where
  name : d.name.size ≤ maxLen
  cost : In64 d.cost
  steps : d.steps.length ≤ maxLen
  each : ∀ s ∈ d.steps, s.Fits

theorem StepNew.setCellsBelow {w : World} {B j g o : Nat} {s : StepD} {vs : List Value} (h : StepNew w B j s) (hg : g < B) : StepNew (w.setCells g o vs) B j s := by
  obtain ⟨b1, b2, h1, h2, h3, h4, h5⟩ := h
  exact ⟨b1, b2, h1, h2, World.rangeAt_setCells_apart h3 _ _ _ (by omega), Strs.setCells (by omega) _ _ h4, Cases.setCells (by omega) _ _ h5⟩

theorem size_setCells (g : Nat) : ∀ (vs : List Value) (o : Nat) (w : World), (w.setCells g o vs).heap.size = w.heap.size
  | [], _, _ => rfl
  | v :: r, o, w => by rw [World.setCells, size_setCells g r (o + 1), size_setCell]

theorem StepsNew.setCellsBelow {w : World} {B g o : Nat} {l : List StepD} {vs : List Value} (h : StepsNew w B l) (hg : g < B) : StepsNew (w.setCells g o vs) B l :=
  ⟨by rw [size_setCells]; exact h.1, fun j hj => (h.2 j hj).setCellsBelow hg⟩

def NodeNew (w : World) (B j : Nat) (d : NodeD) : Prop :=
  ∃ b1, B < b1 ∧ w.rangeAt B (j * 3) (d.cells (some ⟨b1, 0, none⟩) d.steps.length) ∧ StepsNew w b1 d.steps

theorem NodeNew.kept {w w' : World} {B j : Nat} {d : NodeD} (h : NodeNew w B j d) (k : Kept w w') (hB : B < w.heap.size) : NodeNew w' B j d := by
  obtain ⟨b1, h1, h2, h3⟩ := h
  exact ⟨b1, h1, k.range hB h2, h3.kept k⟩

theorem NodeNew.setCells {w : World} {B j o : Nat} {d : NodeD} {vs : List Value} (h : NodeNew w B j d) (ho : j * 3 + 3 ≤ o ∨ o + vs.length ≤ j * 3) : NodeNew (w.setCells B o vs) B j d := by
  obtain ⟨b1, h1, h2, h3⟩ := h
  exact ⟨b1, h1, World.rangeAt_setCells_apart h2 _ _ _ (by right; simpa [NodeD.cells] using ho), h3.setCellsBelow h1⟩

theorem NodeNew.setCell {w : World} {B j : Nat} {d : NodeD} (h : NodeNew w B j d) {p : Addr} (hp : p.block < B) (v : Value) : NodeNew (w.setCell p v) B j d := by
  obtain ⟨b1, h1, h2, h3⟩ := h
  exact ⟨b1, h1, fun i u hu => by rw [World.cell?_setCell_other _ _ _ _ (fun e => by rw [e] at hp; simp at hp)]; exact h2 i u hu, h3.setCell (by omega) v⟩

def NodesNew (w : World) (B : Nat) (l : List NodeD) : Prop := B < w.heap.size ∧ ∀ j, j < l.length → NodeNew w B j (l.getD j NodeD.zero)

theorem NodesNew.setCell {w : World} {B : Nat} {l : List NodeD} (h : NodesNew w B l) {p : Addr} (hp : p.block < B) (v : Value) : NodesNew (w.setCell p v) B l :=
  ⟨by rw [size_setCell]; exact h.1, fun j hj => (h.2 j hj).setCell hp v⟩
theorem NodesNew.kept {w w' : World} {B : Nat} {l : List NodeD} (h : NodesNew w B l) (k : Kept w w') : NodesNew w' B l :=
  ⟨Nat.lt_of_lt_of_le h.1 k.size, fun j hj => (h.2 j hj).kept k h.1⟩
theorem NodesNew.nodes {w : World} {B : Nat} {l : List NodeD} (h : NodesNew w B l) : Nodes w (some ⟨B, 0, none⟩) l := by
  intro j hj
  obtain ⟨b1, _, g1, g2⟩ := h.2 j hj
  exact ⟨B, 0, _, rfl, h.1, by rw [Nat.zero_add]; exact g1, _, _, rfl, g2.steps⟩

end Go.Proofs.YtpnofnbppnkgaaaGreatDoor

namespace Go.Proofs.YtpnofnbppnkgaaaGreatDoor
open Go.RowKit

def szNodeD (d : NodeD) : Nat := d.name.size + szSteps d.steps

set_option maxHeartbeats 800000 in
theorem szNode_any (w : World) (d : NodeD) (a : Option Addr) (cap : Nat) (left : Int) (hd : d.Fits) (hS : Steps w a d.steps) (h0 : 0 ≤ left) (h1 : left ≤ 1048576) :
    Calls Tryz.prog 19 #[.agg #[.string d.name, .int .i64 d.cost, .slice a d.steps.length cap], .int .i64 left] w fun e w' => e = .returned (.int .i64 (szL (szNodeD d) left)) ∧ Kept w w' := by
  have hn := hd.name
  unfold maxLen at hn
  have k0 : Kept w (w.alloc (.cells #[.string d.name, .int .i64 d.cost, .slice a d.steps.length cap] 62)) := (Kept.refl _).alloc _
  by_cases hle : (d.name.size : Int) ≤ left
  · go_enter Tryz.func19, Tryz.ntmps19
    go_wp2_with fail
    refine (szAction_any _ d.cost a cap d.steps _ hd.steps hd.each (hS.kept k0) (by omega) (by omega)).mono ?_
    rintro e w1 ⟨rfl, k1⟩
    have k2 := k0.trans k1
    clear k0 k1
    by_cases hle2 : (szSteps d.steps : Int) ≤ left - d.name.size
    · rw [szL_pos hle2]
      go_wp2
      go_ret
      exact ⟨ret_int (by rw [szL_pos (by unfold szNodeD; omega)]; unfold szNodeD; omega), k2⟩
    · rw [szL_neg (by omega)]
      go_wp2
      go_ret
      exact ⟨ret_int (szL_neg (by unfold szNodeD; omega)).symm, k2⟩
  · go_enter Tryz.func19, Tryz.ntmps19
    go_wp2
    go_ret
    exact ⟨ret_int (szL_neg (by unfold szNodeD; omega)).symm, k0⟩

set_option maxHeartbeats 800000 in
theorem eqNode_yes (w : World) (d : NodeD) (a a' : Option Addr) (cap cap' : Nat) (hd : d.Fits) (hS : Steps w a d.steps) (hS' : Steps w a' d.steps) :
    Calls Tryz.prog 34 #[.agg #[.string d.name, .int .i64 d.cost, .slice a d.steps.length cap], .agg #[.string d.name, .int .i64 d.cost, .slice a' d.steps.length cap']] w fun e w' => e = .returned (.bool true) ∧ Kept w w' := by
  have k0 : Kept w ((w.alloc (.cells #[.string d.name, .int .i64 d.cost, .slice a d.steps.length cap] 40)).alloc (.cells #[.string d.name, .int .i64 d.cost, .slice a' d.steps.length cap'] 40)) := ((Kept.refl _).alloc _).alloc _
  go_enter Tryz.func34, Tryz.ntmps34
  go_wp2_with fail
  refine (eqAction_yes _ d.cost a a' cap cap' d.steps hd.steps (fun s hs => ⟨(hd.each s hs).asks, (hd.each s hs).cases⟩) (hS.kept (by repeat (first | apply Kept.drew | exact k0))) (hS'.kept (by repeat (first | apply Kept.drew | exact k0)))).mono ?_
  rintro e w1 ⟨rfl, k1⟩
  have k2 : Kept w w1 := Kept.trans (by repeat (first | apply Kept.drew | exact k0)) k1
  clear k0 k1
  go_wp2
  go_ret
  exact ⟨rfl, k2⟩

theorem Tryz.sizeNode : (Tryz.prog.info? 40).map (·.size) = some 3 := by kernel_rfl

set_option maxHeartbeats 800000 in
theorem toNode_any (w : World) (d : NodeD) (a : Option Addr) (cap : Nat) (hl : d.steps.length ≤ 1048576) (hs : ∀ s ∈ d.steps, s.asks.length ≤ 1048576 ∧ s.cases.length ≤ 1048576) (hS : Steps w a d.steps) :
    Calls Tryz.prog 24 #[.agg #[.string d.name, .int .i64 d.cost, .slice a d.steps.length cap]] w fun e w' => ∃ b, e = .returned (.agg (d.cells (some ⟨b, 0, none⟩) d.steps.length).toArray) ∧ StepsNew w' b d.steps ∧ Kept w w' ∧ w.heap.size ≤ b := by
  go_enter Tryz.func24, Tryz.ntmps24
  go_wp2_with fail
  refine (toAction_any _ d.cost a cap d.steps hl hs (hS.kept (by repeat (first | apply Kept.alloc | exact Kept.refl _)))).mono ?_
  rintro e w1 ⟨b, rfl, hN, k1, hb⟩
  obtain ⟨hc1, hf1⟩ := k1.rules
  have hz1 := k1.size
  simp only [World.size_alloc] at hb hz1
  have K1 : Kept w w1 := Kept.trans (by repeat (first | apply Kept.alloc | exact Kept.refl _)) k1
  have hrow1 : Row w1 (w.heap.size + 1) 3 := Row.kept (Row.alloc (by have := Row.made (w.alloc (.cells #[.string d.name, .int .i64 d.cost, .slice a d.steps.length cap] 62)) #[.string ⟨#[]⟩, .int .i64 0, .slice none 0 0] 40; simpa using this) _) k1
  have HRow := hide hrow1
  clear k1 hrow1
  go_wp2
  have hX : Row ((w1.setCell ⟨w.heap.size + 1 + 1, 1, none⟩ (.int .i64 d.cost)).setCell ⟨w.heap.size + 1 + 1, 2, none⟩ (.slice (some ⟨b, 0, none⟩) d.steps.length d.steps.length)) (w.heap.size + 1) 3 := Row.set (Row.set HRow.out _ rfl _) _ rfl _
  have hR := World.rangeAt_setCells_same _ (w.heap.size + 1) 0 (d.cells (some ⟨b, 0, none⟩) d.steps.length) (hX.there (o := 0) (m := 3) (Nat.le_refl _))
  refine bodyPost_ret_cell (d.cells (some ⟨b, 0, none⟩) d.steps.length) _ Tryz.results24 rfl hR Tryz.underlying40 rfl Tryz.sizeNode rfl ⟨b, rfl, ?_, ?_, by omega⟩
  · repeat (first | (refine StepsNew.setCell ?_ (by simp <;> omega) _) | exact hN)
  · repeat (first | (refine Kept.setCell ?_ (by simp <;> omega) _) | exact K1)

end Go.Proofs.YtpnofnbppnkgaaaGreatDoor

namespace Go.Proofs.YtpnofnbppnkgaaaGreatDoor
open Go.RowKit

def szNodesD (l : List NodeD) : Nat := l.length + (l.map szNodeD).sum

set_option maxHeartbeats 800000 in
theorem szNodeS_any (w : World) (a : Option Addr) (cap : Nat) (l : List NodeD) (left : Int) (hl : l.length ≤ maxLen) (hs : ∀ s ∈ l, s.Fits)
    (hS : Nodes w a l) (h0 : 0 ≤ left) (h1 : left ≤ 1048576) :
    Calls Tryz.prog 9 #[.slice a l.length cap, .int .i64 left] w fun e w' => e = .returned (.int .i64 (szL (szNodesD l) left)) ∧ Kept w w' := by
  unfold maxLen at hl
  go_enter Tryz.func9, Tryz.ntmps9
  go_wp2
  · go_ret
    exact ⟨ret_int (szL_neg (by unfold szNodesD; omega)).symm, Kept.refl _⟩
  · go_loopw [1, 5] (fun x i wr => ∃ k : Nat, k ≤ l.length ∧ i = .int .i64 k ∧ x = .int .i64 (left - l.length - sumTo szNodeD l k) ∧ 0 ≤ left - l.length - sumTo szNodeD l k ∧ Kept w wr) (fun _ i _ => l.length - (intOf i).toNat)
    case atStart => exact ⟨0, Nat.zero_le _, rfl, by simp [sumTo_zero], by simp [sumTo_zero]; omega, Kept.refl _⟩
    case round =>
      obtain ⟨k, hk, rfl, rfl, hge, hw⟩ := hrel
      by_cases hlt : k < l.length
      · obtain ⟨b, o, cs, rfl, hb, hc, aa, ca, rfl, hA⟩ := hS.kept hw k hlt
        have hsz : (l.getD k NodeD.zero).Fits := hs _ (by simp [List.getD, hlt])
        have HS : Hid (sumTo szNodeD l (k + 1) = sumTo szNodeD l k + szNodeD (l.getD k NodeD.zero)) := sumTo_succ _ l _ k hlt
        have HT := sumTo_le szNodeD l (k + 1)
        generalize l.getD k NodeD.zero = s at *
        have c0 := hc 0 _ rfl
        have c1 := hc 1 _ rfl
        have c2 := hc 2 _ rfl
        simp only [Nat.add_zero] at c0
        clear hc
        go_wp2_with fail
        refine (szNode_any _ s aa ca _ hsz hA (by omega) (by omega)).mono ?_
        rintro e w1 ⟨rfl, hw1⟩
        have hw2 := hw.trans hw1
        by_cases hle : (szNodeD s : Int) ≤ left - l.length - sumTo szNodeD l k
        · rw [szL_pos hle]
          clear c0 c1 c2 hA hw hw1
          go_wp2
          go_roundw
          case rel => exact ⟨k + 1, by omega, by go_num, by rw [HS.out]; go_num, by rw [HS.out]; omega, hw2⟩
          case measure => simp [intOf]; omega
        · rw [szL_neg (by omega)]
          clear c0 c1 c2 hA hw hw1
          go_wp2
          go_ret
          exact ⟨ret_int (szL_neg (by unfold szNodesD; have := HS.out; omega)).symm, hw2⟩
      · go_wp2
        go_ret
        have : k = l.length := by omega
        subst this
        rw [sumTo_all] at hge ⊢
        exact ⟨ret_int (by rw [szL_pos (by unfold szNodesD; omega)]; unfold szNodesD; omega), hw⟩

end Go.Proofs.YtpnofnbppnkgaaaGreatDoor

namespace Go.Proofs.YtpnofnbppnkgaaaGreatDoor
open Go.RowKit

theorem Tryz.infoNode : (Tryz.prog.info? 40).map (fun i => (i.zero, i.size, i.bytes)) = some (some (.agg #[.string ⟨#[]⟩, .int .i64 0, .slice none 0 0]), 3, 48) := by kernel_rfl

set_option maxHeartbeats 800000 in
theorem toNodeS_any (w : World) (a : Option Addr) (cap : Nat) (l : List NodeD) (hl : l.length ≤ 1048576) (hs : ∀ s ∈ l, s.steps.length ≤ 1048576 ∧ ∀ x ∈ s.steps, x.asks.length ≤ 1048576 ∧ x.cases.length ≤ 1048576)
    (hS : Nodes w a l) :
    Calls Tryz.prog 13 #[.slice a l.length cap] w fun e w' => ∃ b, e = .returned (.slice (some ⟨b, 0, none⟩) l.length l.length) ∧ NodesNew w' b l ∧ Kept w w' ∧ w.heap.size ≤ b := by
  have hmk := run_make_many (P := Tryz.prog) 27 40 _ _ _ Tryz.underlying27 Tryz.infoNode .i64 .i64 l.length (by omega) (by omega)
  go_enter Tryz.func13, Tryz.ntmps13
  go_wp2
  clear hmk
  have hrow := Row.made w (madeCells #[.string ⟨#[]⟩, .int .i64 0, .slice none 0 0] (l.length * 3)) 40
  rw [size_madeCells] at hrow
  have hkept : Kept w (w.alloc (.cells (madeCells #[.string ⟨#[]⟩, .int .i64 0, .slice none 0 0] (l.length * 3)) 40)) := (Kept.refl _).alloc _
  go_loopw [4] (fun i wr => ∃ k : Nat, k ≤ l.length ∧ i = .int .i64 k ∧ Kept w wr ∧ Row wr w.heap.size (l.length * 3) ∧ ∀ j, j < k → NodeNew wr w.heap.size j (l.getD j NodeD.zero)) (fun i _ => l.length - (intOf i).toNat)
  case atStart => exact ⟨0, Nat.zero_le _, rfl, hkept, hrow, fun j hj => absurd hj (Nat.not_lt_zero _)⟩
  case round =>
    obtain ⟨k, hk, rfl, hw, hr, hf⟩ := hrel
    clear hrow hkept
    by_cases hlt : k < l.length
    · obtain ⟨b, o, cs, rfl, hb, hc, aa, ca, rfl, hA⟩ := hS.kept hw k hlt
      have hsz := hs (l.getD k NodeD.zero) (by simp [List.getD, hlt])
      have HF := hide hf
      clear hf
      generalize hs : l.getD k NodeD.zero = s at *
      have HSs := hide hs
      clear hs
      have c0 := hc 0 _ rfl
      have c1 := hc 1 _ rfl
      have c2 := hc 2 _ rfl
      simp only [Nat.add_zero] at c0
      clear hc
      go_wp2_with fail
      refine (toNode_any _ s aa ca hsz.1 hsz.2 hA).mono ?_
      rintro e w1 ⟨b1, rfl, g1, hw1, g3⟩
      have hrl := hr.lt
      have hw2 := hw.trans hw1
      have hr1 := hr.kept hw1
      generalize hcs : s.cells (some ⟨b1, 0, none⟩) s.steps.length = cs
      have hlen : cs.length = 3 := by rw [← hcs]; rfl
      have hone : cs.toArray.all (·.oneCell') = true := by rw [← hcs]; exact NodeD.one s _ _
      have hth : w1.there w.heap.size (k * 3) cs.toArray.size := by simpa [hlen] using hr1.there (o := k * 3) (m := 3) (by omega)
      have hsize : (Tryz.prog.info? 40).map (·.size) = some cs.toArray.size := by rw [Tryz.sizeNode]; simp [hlen]
      have HCS := hide hcs
      have HLEN := hide hlen
      have HSZ := hide hsize
      clear hcs hlen hsize
      have HR : Hid (Row w1 w.heap.size (l.length * 3)) := hr1
      have HF1 : Hid (∀ j, j < k → NodeNew w1 w.heap.size j (l.getD j NodeD.zero)) := fun j hj => (HF.out j hj).kept hw1 hr.lt
      clear HF c0 c1 c2 hw hw1 hr hr1 hA
      go_wp2_with (refine wpList_store_mid rfl 40 _ _ rfl w.heap.size (k * 3) cs.toArray rfl rfl hth (unhide HSZ) hone ?_)
      go_roundw
      case rel =>
        refine ⟨k + 1, by omega, by go_num, Kept.setCells (Nat.le_refl _) _ _ hw2, Row.setCells _ _ HR.out, fun j hj => ?_⟩
        by_cases e : j = k
        · subst e
          rw [unhide HSs]
          exact ⟨b1, by omega, by rw [HCS.out]; exact World.rangeAt_setCells_same _ _ _ _ (by simpa using hth), StepsNew.setCellsBelow g1 (by omega)⟩
        · exact (HF1.out j (by omega)).setCells (by rw [HLEN.out]; omega)
      case measure => simp [intOf]; omega
    · go_wp2
      go_ret
      have : k = l.length := by omega
      subst this
      exact ⟨w.heap.size, rfl, ⟨hr.lt, hf⟩, hw, Nat.le_refl _⟩

end Go.Proofs.YtpnofnbppnkgaaaGreatDoor
