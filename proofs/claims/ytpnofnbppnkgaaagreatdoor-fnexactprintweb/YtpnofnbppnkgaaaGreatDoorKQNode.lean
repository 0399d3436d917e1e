import Derived.Test.YtpnofnbppnkgaaaGreatDoorKQAsk
import Derived.Test.YtpnofnbppnkgaaaGreatDoorKWSpec

namespace Go.Proofs.YtpnofnbppnkgaaaGreatDoor
open Go.RowKit

theorem line_two (x y z : UInt8) (a : List UInt8) : lineL [⟨#[x, y, z]⟩, ⟨a.toArray⟩] = [x, y, z, 32] ++ a ++ [10] := by
  simp [lineL, texts, Lib.join]

theorem taw_gg (vs : Array Value) (W : World) : (Instr.typeAssert (.iface 97 (.agg vs)) 81 97 true).run Tryz.prog W = .ok (.tuple #[.agg vs, .bool true]) W := by kernel_rfl
theorem taw_bg (vs : Array Value) (W : World) : (Instr.typeAssert (.iface 98 (.agg vs)) 81 97 true).run Tryz.prog W = .ok (.tuple #[.agg #[.slice none 0 0, .int .i64 0, .slice none 0 0, .int .i64 0, .int .i64 0, .bool false, .bool false, .string ⟨#[]⟩], .bool false]) W := by kernel_rfl
theorem taw_bb (vs : Array Value) (W : World) : (Instr.typeAssert (.iface 98 (.agg vs)) 81 98 true).run Tryz.prog W = .ok (.tuple #[.agg vs, .bool true]) W := by kernel_rfl
theorem taw_qg (vs : Array Value) (W : World) : (Instr.typeAssert (.iface 99 (.agg vs)) 81 97 true).run Tryz.prog W = .ok (.tuple #[.agg #[.slice none 0 0, .int .i64 0, .slice none 0 0, .int .i64 0, .int .i64 0, .bool false, .bool false, .string ⟨#[]⟩], .bool false]) W := by kernel_rfl
theorem taw_qb (vs : Array Value) (W : World) : (Instr.typeAssert (.iface 99 (.agg vs)) 81 98 true).run Tryz.prog W = .ok (.tuple #[.agg #[.slice none 0 0, .int .i64 0, .slice none 0 0, .int .i64 0, .int .i64 0, .bool false, .bool false, .string ⟨#[]⟩], .bool false]) W := by kernel_rfl
theorem taw_qq (vs : Array Value) (W : World) : (Instr.typeAssert (.iface 99 (.agg vs)) 81 99 true).run Tryz.prog W = .ok (.tuple #[.agg vs, .bool true]) W := by kernel_rfl

set_option maxRecDepth 100000 in
set_option maxHeartbeats 3200000 in
theorem stepGood_any (wz w : World) (b : Nat) (l : List UInt8) (s : StepD) (aa ac : Option Addr) (ca cc : Nat) (hg : s.give.size ≤ 30) (hl : l.length ≤ 10000000)
    (hW : WrM wz.heap.size b b l w) (KZ : Kept wz w) (hT : TabOk wz) :
    Calls Tryz.prog 32 #[.pointer (some ⟨b, 0, none⟩), .iface 97 (.agg #[.slice aa s.asks.length ca, .int .i64 s.on, .slice ac s.cases.length cc, .int .i64 s.els, .int .i64 s.fall, .bool true, .bool false, .string s.give])] w fun e w' => e = .returned (.tuple #[]) ∧ WrM wz.heap.size b b (l ++ ([101, 110, 100, 32] ++ quoteL s.give.data.toList ++ [10])) w' ∧ Kept wz w' := by
  have hblt := hW.lt
  have hKz := KZ.size
  have HW := hide hW
  clear hW
  obtain ⟨W0, hW0⟩ : ∃ W0, W0 = w.alloc (.cells #[.slice aa s.asks.length ca, .int .i64 s.on, .slice ac s.cases.length cc, .int .i64 s.els, .int .i64 s.fall, .bool true, .bool false, .string s.give] 97) := ⟨_, rfl⟩
  have K0 : Hid (Kept w W0) := by rw [hW0]; exact (Kept.refl _).alloc _
  have hz0 : W0.heap.size = w.heap.size + 1 := by rw [hW0]; simp
  have t1 := taw_gg
  go_enter Tryz.func32, Tryz.ntmps32
  go_wp2_with fail
  rw [← hW0]
  clear hW0
  refine (quote_any W0 s.give (by omega) (hT.kept (Kept.trans KZ K0.out))).mono ?_
  rintro e W1 ⟨rfl, k1⟩
  have K1 := hide (Kept.trans K0.out k1)
  have hz1 := k1.size
  clear k1 K0
  have HL : Hid (lineL [⟨#[101, 110, 100]⟩, ⟨(quoteL s.give.data.toList).toArray⟩] = [101, 110, 100, 32] ++ quoteL s.give.data.toList ++ [10]) := line_two _ _ _ _
  have hq := quoteL_len s.give.data.toList
  have hgl : s.give.data.toList.length = s.give.size := by simp
  have hjl : (Lib.join (texts [⟨#[101, 110, 100]⟩, ⟨(quoteL s.give.data.toList).toArray⟩]) [32]).length ≤ 1000000 := by
    have h1 := congrArg List.length HL.out
    unfold lineL at h1
    simp only [List.length_append, List.length_cons, List.length_nil] at h1
    omega
  have HS2 : Hid (Strs (W1.alloc (.cells #[.string ⟨#[101, 110, 100]⟩, .string ⟨(quoteL s.give.data.toList).toArray⟩] 9)) (some ⟨W1.heap.size, 0, none⟩) [⟨#[101, 110, 100]⟩, ⟨(quoteL s.give.data.toList).toArray⟩]) := strs_made W1 9 [⟨#[101, 110, 100]⟩, ⟨(quoteL s.give.data.toList).toArray⟩]
  obtain ⟨W2, hW2⟩ : ∃ W2, W2 = W1.alloc (.cells #[.string ⟨#[101, 110, 100]⟩, .string ⟨(quoteL s.give.data.toList).toArray⟩] 9) := ⟨_, rfl⟩
  have K2 : Hid (Kept w W2) := by rw [hW2]; exact K1.out.alloc _
  have hz2 : W2.heap.size = W1.heap.size + 1 := by rw [hW2]; simp
  rw [← hW2] at HS2
  clear hq hgl K1
  go_wp2_with fail
  rw [← hW2]
  clear hW2
  refine (line_any W2 wz.heap.size b b l (some ⟨W1.heap.size, 0, none⟩) 2 [⟨#[101, 110, 100]⟩, ⟨(quoteL s.give.data.toList).toArray⟩] (Nat.le_refl _) (by show 2 ≤ 100; omega) hjl (by omega) HS2.out (HW.out.kept K2.out) (by omega) (by omega)).mono ?_
  rintro e W3 ⟨rfl, hW3, hb3, _⟩
  rw [HL.out] at hW3
  have H3 := hide hW3
  have K3 : Hid (Kept wz W3) := Below.trans (Kept.trans KZ K2.out) hb3
  clear hW3 hb3 HL hjl HS2 K2
  go_wp2
  go_end0
  exact ⟨rfl, H3.out, K3.out⟩

set_option maxRecDepth 100000 in
set_option maxHeartbeats 3200000 in
theorem stepBad_any (wz w : World) (b : Nat) (l : List UInt8) (s : StepD) (aa ac : Option Addr) (ca cc : Nat) (hg : s.give.size ≤ 30) (hl : l.length ≤ 10000000)
    (hW : WrM wz.heap.size b b l w) (KZ : Kept wz w) (hT : TabOk wz) :
    Calls Tryz.prog 32 #[.pointer (some ⟨b, 0, none⟩), .iface 98 (.agg #[.slice aa s.asks.length ca, .int .i64 s.on, .slice ac s.cases.length cc, .int .i64 s.els, .int .i64 s.fall, .bool true, .bool true, .string s.give])] w fun e w' => e = .returned (.tuple #[]) ∧ WrM wz.heap.size b b (l ++ ([98, 97, 100, 32] ++ quoteL s.give.data.toList ++ [10])) w' ∧ Kept wz w' := by
  have hblt := hW.lt
  have hKz := KZ.size
  have HW := hide hW
  clear hW
  obtain ⟨W0, hW0⟩ : ∃ W0, W0 = w.alloc (.cells #[.slice aa s.asks.length ca, .int .i64 s.on, .slice ac s.cases.length cc, .int .i64 s.els, .int .i64 s.fall, .bool true, .bool true, .string s.give] 98) := ⟨_, rfl⟩
  have K0 : Hid (Kept w W0) := by rw [hW0]; exact (Kept.refl _).alloc _
  have hz0 : W0.heap.size = w.heap.size + 1 := by rw [hW0]; simp
  have t1 := taw_bg
  have t2 := taw_bb
  go_enter Tryz.func32, Tryz.ntmps32
  go_wp2_with fail
  rw [← hW0]
  clear hW0
  refine (quote_any W0 s.give (by omega) (hT.kept (Kept.trans KZ K0.out))).mono ?_
  rintro e W1 ⟨rfl, k1⟩
  have K1 := hide (Kept.trans K0.out k1)
  have hz1 := k1.size
  clear k1 K0
  have HL : Hid (lineL [⟨#[98, 97, 100]⟩, ⟨(quoteL s.give.data.toList).toArray⟩] = [98, 97, 100, 32] ++ quoteL s.give.data.toList ++ [10]) := line_two _ _ _ _
  have hq := quoteL_len s.give.data.toList
  have hgl : s.give.data.toList.length = s.give.size := by simp
  have hjl : (Lib.join (texts [⟨#[98, 97, 100]⟩, ⟨(quoteL s.give.data.toList).toArray⟩]) [32]).length ≤ 1000000 := by
    have h1 := congrArg List.length HL.out
    unfold lineL at h1
    simp only [List.length_append, List.length_cons, List.length_nil] at h1
    omega
  have HS2 : Hid (Strs (W1.alloc (.cells #[.string ⟨#[98, 97, 100]⟩, .string ⟨(quoteL s.give.data.toList).toArray⟩] 9)) (some ⟨W1.heap.size, 0, none⟩) [⟨#[98, 97, 100]⟩, ⟨(quoteL s.give.data.toList).toArray⟩]) := strs_made W1 9 [⟨#[98, 97, 100]⟩, ⟨(quoteL s.give.data.toList).toArray⟩]
  obtain ⟨W2, hW2⟩ : ∃ W2, W2 = W1.alloc (.cells #[.string ⟨#[98, 97, 100]⟩, .string ⟨(quoteL s.give.data.toList).toArray⟩] 9) := ⟨_, rfl⟩
  have K2 : Hid (Kept w W2) := by rw [hW2]; exact K1.out.alloc _
  have hz2 : W2.heap.size = W1.heap.size + 1 := by rw [hW2]; simp
  rw [← hW2] at HS2
  clear hq hgl K1
  go_wp2_with fail
  rw [← hW2]
  clear hW2
  refine (line_any W2 wz.heap.size b b l (some ⟨W1.heap.size, 0, none⟩) 2 [⟨#[98, 97, 100]⟩, ⟨(quoteL s.give.data.toList).toArray⟩] (Nat.le_refl _) (by show 2 ≤ 100; omega) hjl (by omega) HS2.out (HW.out.kept K2.out) (by omega) (by omega)).mono ?_
  rintro e W3 ⟨rfl, hW3, hb3, _⟩
  rw [HL.out] at hW3
  have H3 := hide hW3
  have K3 : Hid (Kept wz W3) := Below.trans (Kept.trans KZ K2.out) hb3
  clear hW3 hb3 HL hjl HS2 K2
  go_wp2
  go_end0
  exact ⟨rfl, H3.out, K3.out⟩

set_option maxRecDepth 100000 in
set_option maxHeartbeats 3200000 in
theorem stepAsk_any (wz w : World) (b : Nat) (l : List UInt8) (s : StepD) (aa ac : Option Addr) (ca cc : Nat) (n : Int) (hn : n ≤ 20) (hF : FrontOk s n) (hCs : CasesOk s n) (hl : l.length ≤ 10000000) (hA : Strs wz aa s.asks) (hC : Cases wz ac s.cases) (hca : s.asks.length ≤ ca)
    (hW : WrM wz.heap.size b b l w) (KZ : Kept wz w) (hT : TabOk wz) (hP : PowOk wz) :
    Calls Tryz.prog 32 #[.pointer (some ⟨b, 0, none⟩), .iface 99 (.agg #[.slice aa s.asks.length ca, .int .i64 s.on, .slice ac s.cases.length cc, .int .i64 s.els, .int .i64 s.fall, .bool false, .bool s.bad, .string s.give])] w fun e w' => e = .returned (.tuple #[]) ∧ WrM wz.heap.size b b (l ++ (askL s ++ casesL s.cases)) w' ∧ Kept wz w' := by
  have HW := hide hW
  clear hW
  obtain ⟨W0, hW0⟩ : ∃ W0, W0 = w.alloc (.cells #[.slice aa s.asks.length ca, .int .i64 s.on, .slice ac s.cases.length cc, .int .i64 s.els, .int .i64 s.fall, .bool false, .bool s.bad, .string s.give] 99) := ⟨_, rfl⟩
  have K0 : Hid (Kept w W0) := by rw [hW0]; exact (Kept.refl _).alloc _
  have t1 := taw_qg
  have t2 := taw_qb
  have t3 := taw_qq
  go_enter Tryz.func32, Tryz.ntmps32
  go_wp2_with fail
  rw [← hW0]
  clear hW0
  refine (ask_any wz W0 b l s aa ac ca cc n hn hF hCs hl hA hC hca (HW.out.kept K0.out) (Kept.trans KZ K0.out) hT hP).mono ?_
  rintro e W1 ⟨rfl, h1, k1⟩
  have H1 := hide h1
  have K1 := hide k1
  clear h1 k1
  go_wp2
  go_end0
  exact ⟨rfl, H1.out, K1.out⟩

end Go.Proofs.YtpnofnbppnkgaaaGreatDoor

namespace Go.Proofs.YtpnofnbppnkgaaaGreatDoor
open Go.RowKit

theorem line_node (a : ByteArray) (b : List UInt8) : lineL [⟨#[110, 111, 100, 101]⟩, a, ⟨b.toArray⟩] = [110, 111, 100, 101, 32] ++ a.data.toList ++ [32] ++ b ++ [10] := by
  simp [lineL, texts, Lib.join]

set_option maxRecDepth 100000 in
set_option maxHeartbeats 6400000 in
theorem node_any (wz w : World) (b : Nat) (l : List UInt8) (d : NodeD) (a : Option Addr) (cap : Nat) (hok : NodeOk d) (hl : l.length ≤ 5000000) (hS : Steps wz a d.steps)
    (hW : WrM wz.heap.size b b l w) (KZ : Kept wz w) (hT : TabOk wz) (hP : PowOk wz) :
    Calls Tryz.prog 15 #[.pointer (some ⟨b, 0, none⟩), .agg #[.string d.name, .int .i64 d.cost, .slice a d.steps.length cap]] w fun e w' => e = .returned (.tuple #[]) ∧ WrM wz.heap.size b b (l ++ nodeL d) w' ∧ Kept wz w' := by
  have hcost := hok.2.1
  have h20 := hok.2.2.1
  simp only at hcost h20
  have hblt := hW.lt
  obtain ⟨W0, hW0⟩ : ∃ W0, W0 = w.alloc (.cells #[.string d.name, .int .i64 d.cost, .slice a d.steps.length cap] 40) := ⟨_, rfl⟩
  have K0 : Hid (Kept w W0) := by rw [hW0]; exact (Kept.refl _).alloc _
  have q0 : W0.cell? ⟨w.heap.size, 0, none⟩ = some (.string d.name) := by rw [hW0]; exact range_made w #[.string d.name, .int .i64 d.cost, .slice a d.steps.length cap] 40 0 _ rfl
  have q1 : W0.cell? ⟨w.heap.size, 1, none⟩ = some (.int .i64 d.cost) := by rw [hW0]; exact range_made w #[.string d.name, .int .i64 d.cost, .slice a d.steps.length cap] 40 1 _ rfl
  have q2 : W0.cell? ⟨w.heap.size, 2, none⟩ = some (.slice a d.steps.length cap) := by rw [hW0]; exact range_made w #[.string d.name, .int .i64 d.cost, .slice a d.steps.length cap] 40 2 _ rfl
  have qz : w.heap.size < W0.heap.size := by rw [hW0]; simp
  have Q2 := hide q2
  have HB0 : Hid (WrM wz.heap.size b w.heap.size l W0) := (Buil.other hW (Nat.le_refl _)).kept K0.out
  have hKz := KZ.size
  unfold nodeL
  go_enter Tryz.func15, Tryz.ntmps15
  go_wp2
  rw [← hW0]
  clear hW0
  have HC4 : Hid (W0.cell? ⟨w.heap.size, 0, none⟩ = some (.string d.name) ∧ W0.cell? ⟨w.heap.size, 1, none⟩ = some (.int .i64 d.cost)) := ⟨q0, q1⟩
  have HH : Hid (∀ u, Kept W0 u → (u.cell? ⟨w.heap.size, 0, none⟩ = some (.string d.name) ∧ u.cell? ⟨w.heap.size, 1, none⟩ = some (.int .i64 d.cost))) := fun u k => ⟨(k.cell qz).trans HC4.out.1, (k.cell qz).trans HC4.out.2⟩
  clear q0 q1 q2 HC4
  refine UpTo.region (by kernel_rfl) (fun u => u.cell? ⟨w.heap.size, 0, none⟩ = some (.string d.name) ∧ u.cell? ⟨w.heap.size, 1, none⟩ = some (.int .i64 d.cost)) 8 (HH.out _ (Kept.refl W0).drew) (fun hHeld => ?_)
  have KD : Hid (Kept W0 W0.drew) := (Kept.refl W0).drew
  generalize hwd : W0.drew = wd at KD hHeld ⊢
  clear hwd
  refine UpTo.take 0 [8] (v := ?_) (by (simp only [List.getElem?_toArray, List.getElem?_cons_zero]; rfl)) (by kernel_rfl) (by kernel_rfl) (by kernel_rfl) (by kernel_rfl) (by exact fun _ _ _ h => h) (Or.inl ⟨by rfl, ?_⟩) hHeld ?_
  rotate_left
  · intro u hu
    try dsimp only at hu
    go_simp
    try with_reducible rfl
  try simp only [Act.put, List.setIfInBounds_toArray, List.set_cons_zero, List.set_cons_succ]
  refine UpTo.take 1 [2, 7, 8] (v := ?_) (by (simp only [List.getElem?_toArray, List.getElem?_cons_succ, List.getElem?_cons_zero]; rfl)) (by kernel_rfl) (by kernel_rfl) (by kernel_rfl) (by kernel_rfl) (by exact fun _ _ _ h => h) (Or.inl ⟨by rfl, ?_⟩) hHeld ?_
  rotate_left
  · intro u hu
    try dsimp only at hu
    go_simp
    try with_reducible rfl
  try simp only [Act.put, List.setIfInBounds_toArray, List.set_cons_zero, List.set_cons_succ]
  refine UpTo.take 2 [7, 8] (v := ?_) (by (simp only [List.getElem?_toArray, List.getElem?_cons_succ, List.getElem?_cons_zero]; rfl)) (by kernel_rfl) (by kernel_rfl) (by kernel_rfl) (by kernel_rfl) (by exact fun _ _ _ h => h) (Or.inl ⟨by rfl, ?_⟩) hHeld ?_
  rotate_left
  · intro u hu
    try dsimp only at hu
    go_simp
    try with_reducible rfl
  try simp only [Act.put, List.setIfInBounds_toArray, List.set_cons_zero, List.set_cons_succ]
  refine UpTo.take 3 [4, 5, 6, 7, 8] (v := ?_) (by (simp only [List.getElem?_toArray, List.getElem?_cons_succ, List.getElem?_cons_zero]; rfl)) (by kernel_rfl) (by kernel_rfl) (by kernel_rfl) (by kernel_rfl) (by exact fun _ _ _ h => h) (Or.inl ⟨by rfl, ?_⟩) hHeld ?_
  rotate_left
  · intro u hu
    try dsimp only at hu
    go_simp
    try with_reducible rfl
  try simp only [Act.put, List.setIfInBounds_toArray, List.set_cons_zero, List.set_cons_succ]
  refine UpTo.take 4 [5, 6, 7, 8] (v := ?_) (by (simp only [List.getElem?_toArray, List.getElem?_cons_succ, List.getElem?_cons_zero]; rfl)) (by kernel_rfl) (by kernel_rfl) (by kernel_rfl) (by kernel_rfl) (by exact fun _ _ _ h => h) (Or.inl ⟨by rfl, ?_⟩) hHeld ?_
  rotate_left
  · intro u hu
    try dsimp only at hu
    go_simp
    try with_reducible rfl
  try simp only [Act.put, List.setIfInBounds_toArray, List.set_cons_zero, List.set_cons_succ]
  refine UpTo.take 5 [6, 7, 8] (v := ?_) (by (simp only [List.getElem?_toArray, List.getElem?_cons_succ, List.getElem?_cons_zero]; rfl)) (by kernel_rfl) (by kernel_rfl) (by kernel_rfl) (by kernel_rfl) (by exact fun _ _ _ h => h) (Or.inl ⟨by rfl, ?_⟩) hHeld ?_
  rotate_left
  · intro u hu
    try dsimp only at hu
    go_simp
    try with_reducible rfl
  try simp only [Act.put, List.setIfInBounds_toArray, List.set_cons_zero, List.set_cons_succ]
  refine UpTo.next 6 (by kernel_rfl) (by (simp only [List.getElem?_toArray, List.getElem?_cons_succ, List.getElem?_cons_zero]; rfl)) (fun K hK => ?_)
  rw [if_pos (by rfl)]
  go_simp
  go_at_call 31
  refine (itoa_any _ d.cost (by omega) (by omega) (hP.kept (Kept.trans KZ (K0.out.trans KD.out)))).mono ?_
  rintro e w6 ⟨rfl, k6⟩
  dsimp only
  have K6 := hide (Kept.trans KD.out k6)
  clear k6 KD
  refine hK.out _ _ (fun _ => HH.out _ K6.out) ?_
  clear hK K hHeld
  have hHeld := HH.out _ K6.out
  try simp only [Act.put, List.setIfInBounds_toArray, List.set_cons_zero, List.set_cons_succ]
  have HL : Hid (lineL [⟨#[110, 111, 100, 101]⟩, d.name, ⟨(decL d.cost).toArray⟩] = headL d) := line_node _ _
  have hjl : (Lib.join (texts [⟨#[110, 111, 100, 101]⟩, d.name, ⟨(decL d.cost).toArray⟩]) [32]).length ≤ 1000000 := by
    have h1 := headL_le hok
    rw [← HL.out] at h1
    unfold lineL at h1
    rw [List.length_append] at h1
    omega
  refine UpTo.next 7 (by kernel_rfl) (by (simp only [List.getElem?_toArray, List.getElem?_cons_succ, List.getElem?_cons_zero]; rfl)) (fun K hK => ?_)
  rw [if_pos (by rfl)]
  go_simp
  have K7 : Kept w6 (w6.alloc (.cells #[.string ⟨#[110, 111, 100, 101]⟩, .string d.name, .string ⟨(decL d.cost).toArray⟩] 9)) := (Kept.refl _).alloc _
  have HS7 : Hid (Strs (w6.alloc (.cells #[.string ⟨#[110, 111, 100, 101]⟩, .string d.name, .string ⟨(decL d.cost).toArray⟩] 9)) (some ⟨w6.heap.size, 0, none⟩) [⟨#[110, 111, 100, 101]⟩, d.name, ⟨(decL d.cost).toArray⟩]) := strs_made w6 9 [⟨#[110, 111, 100, 101]⟩, d.name, ⟨(decL d.cost).toArray⟩]
  have KA := hide (Kept.trans K6.out K7)
  have hHeld2 := HH.out _ KA.out
  refine hK.out _ _ (fun _ => hHeld2) ?_
  clear hK K hHeld hHeld2 K7
  try simp only [Act.put, List.setIfInBounds_toArray, List.set_cons_zero, List.set_cons_succ]
  have HWA := hide (HB0.out.kept KA.out)
  have hzA := KA.out.size
  generalize hwa : w6.alloc (.cells #[.string ⟨#[110, 111, 100, 101]⟩, .string d.name, .string ⟨(decL d.cost).toArray⟩] 9) = wa at KA HS7 HWA hzA ⊢
  clear hwa
  refine UpTo.next 8 (by kernel_rfl) (by (simp only [List.getElem?_toArray, List.getElem?_cons_succ, List.getElem?_cons_zero]; rfl)) (fun K hK => ?_)
  rw [if_pos (by rfl)]
  go_simp
  go_at_call 30
  refine (line_any _ wz.heap.size b w.heap.size l (some ⟨w6.heap.size, 0, none⟩) 3 [⟨#[110, 111, 100, 101]⟩, d.name, ⟨(decL d.cost).toArray⟩] (Nat.le_refl _) (by show 3 ≤ 100; omega) hjl (by omega) HS7.out HWA.out (by omega) (by omega)).mono ?_
  rintro e wb ⟨rfl, hWb, hbb, hsb⟩
  dsimp only
  have HWb : Hid (WrM wz.heap.size b w.heap.size (l ++ headL d) wb) := by
    have := hWb
    rw [HL.out] at this
    exact this
  have Kb : Hid (Kept wz wb) := Below.trans (Kept.trans KZ (Kept.trans K0.out KA.out)) hbb
  have qb : wb.cell? ⟨w.heap.size, 2, none⟩ = some (.slice a d.steps.length cap) := (World.cell?_of_block (a := ⟨w.heap.size, 2, none⟩) (hsb (by omega) (by omega))).trans ((KA.out.cell qz).trans Q2.out)
  have hzb := hbb.size
  clear hWb hbb hsb
  refine hK.out _ _ (fun h => absurd rfl h) ?_
  clear hK K
  try simp only [Act.put, List.setIfInBounds_toArray, List.set_cons_zero, List.set_cons_succ]
  refine UpTo.done (by kernel_rfl) ?_
  clear HL hjl HS7 HWA KA K6 HH
  go_wp2
  clear qb
  go_loopw [19] (fun i wr => ∃ k : Nat, k ≤ d.steps.length ∧ i = .int .i64 k ∧ Hid (WrM wz.heap.size b b (l ++ (headL d ++ stepsL (d.steps.take k))) wr) ∧ Hid (Kept wz wr)) (fun i _ => d.steps.length - (intOf i).toNat)
  case atStart => exact ⟨0, Nat.zero_le _, rfl, hide (by rw [List.take_zero, show stepsL [] = [] from rfl, List.append_nil]; exact HWb.out.self), Kb⟩
  case round =>
    obtain ⟨k, hk, rfl, HR, HK⟩ := hrel
    clear HWb Kb
    have hsl := stepsL_le hok.2.2.2 hok.2.2.1.2 k
    have hhl := headL_le hok
    have hzr : wz.heap.size ≤ wr.heap.size := HK.out.size
    by_cases hlt : (k : Int) < (d.steps.length : Int)
    · have hkl : k < d.steps.length := by omega
      obtain ⟨sb, so, cs, rfl, hsb, hsc, aa, ca, ac, cc, rfl, hA, hC, hca⟩ := hS k hkl
      have hsok := hok.2.2.2 k hkl
      have HTk := hide (stepsL_take_succ d.steps k hkl)
      have hrg := HK.out.range hsb hsc
      obtain ⟨s, hsk⟩ : ∃ s, s = d.steps.getD k StepD.zero := ⟨_, rfl⟩
      rw [← hsk] at hrg hsok HTk hA hC hca
      have c0 := hrg 0 _ rfl
      have c1 := hrg 1 _ rfl
      have c2 := hrg 2 _ rfl
      have c3 := hrg 3 _ rfl
      have c4 := hrg 4 _ rfl
      have c5 := hrg 5 _ rfl
      have c6 := hrg 6 _ rfl
      have c7 := hrg 7 _ rfl
      rw [Nat.add_zero] at c0
      clear hrg hsc hsk
      obtain ⟨ss, hss⟩ : ∃ ss, ss = stepsL (d.steps.take k) := ⟨_, rfl⟩
      rw [← hss] at HR HTk hsl
      clear hss
      have hll : (l ++ (headL d ++ ss)).length ≤ 10000000 := by rw [List.length_append, List.length_append]; omega
      cases hfin : s.fin
      · rw [hfin] at c5
        have hAO := hsok.2 hfin
        obtain ⟨W2, hW2⟩ : ∃ W2, W2 = wr.alloc (.cells #[.slice aa s.asks.length ca, .int .i64 s.on, .slice ac s.cases.length cc, .int .i64 s.els, .int .i64 s.fall, .bool false, .bool s.bad, .string s.give] 46) := ⟨_, rfl⟩
        have K2 : Hid (Kept wr W2) := by rw [hW2]; exact (Kept.refl _).alloc _
        go_wp2_with fail
        rw [← hW2]
        clear hW2
        refine (kindOf_ask W2 s aa ac ca cc).mono ?_
        rintro e W3 ⟨rfl, k3⟩
        have K3 := hide (Kept.trans K2.out k3)
        clear k3 K2 c0 c1 c2 c3 c4 c5 c6 c7
        go_wp2_with fail
        refine (stepAsk_any wz W3 b (l ++ (headL d ++ ss)) s aa ac ca cc d.steps.length (by omega) hAO.1 hAO.2 hll hA hC hca (HR.out.kept K3.out) (Kept.trans HK.out K3.out) hT hP).mono ?_
        rintro e W4 ⟨rfl, h4, k4⟩
        have H4 : Hid (WrM wz.heap.size b b (l ++ (headL d ++ (ss ++ stepL s))) W4) := by
          have h := h4
          have e1 : stepL s = askL s ++ casesL s.cases := by unfold stepL; simp [hfin]
          rw [List.append_assoc, List.append_assoc, ← e1] at h
          exact h
        have K4 := hide k4
        clear h4 k4 K3
        go_wp2
        go_roundw
        case rel => exact ⟨k + 1, by omega, by go_num, by rw [HTk.out]; exact H4, K4⟩
        case measure => simp [intOf]; omega
      · have hEO := (hsok.1 hfin).2.2.2.2.2
        rw [hfin] at c5
        cases hbad : s.bad
        · rw [hbad] at c6
          obtain ⟨W2, hW2⟩ : ∃ W2, W2 = wr.alloc (.cells #[.slice aa s.asks.length ca, .int .i64 s.on, .slice ac s.cases.length cc, .int .i64 s.els, .int .i64 s.fall, .bool true, .bool false, .string s.give] 46) := ⟨_, rfl⟩
          have K2 : Hid (Kept wr W2) := by rw [hW2]; exact (Kept.refl _).alloc _
          go_wp2_with fail
          rw [← hW2]
          clear hW2
          refine (kindOf_good W2 s aa ac ca cc).mono ?_
          rintro e W3 ⟨rfl, k3⟩
          have K3 := hide (Kept.trans K2.out k3)
          clear k3 K2 c0 c1 c2 c3 c4 c5 c6 c7
          go_wp2_with fail
          refine (stepGood_any wz W3 b (l ++ (headL d ++ ss)) s aa ac ca cc hEO hll (HR.out.kept K3.out) (Kept.trans HK.out K3.out) hT).mono ?_
          rintro e W4 ⟨rfl, h4, k4⟩
          have H4 : Hid (WrM wz.heap.size b b (l ++ (headL d ++ (ss ++ stepL s))) W4) := by
            have h := h4
            have e1 : stepL s = [101, 110, 100, 32] ++ quoteL s.give.data.toList ++ [10] := by unfold stepL; simp [hfin, hbad]
            rw [List.append_assoc, List.append_assoc, ← e1] at h
            exact h
          have K4 := hide k4
          clear h4 k4 K3
          go_wp2
          go_roundw
          case rel => exact ⟨k + 1, by omega, by go_num, by rw [HTk.out]; exact H4, K4⟩
          case measure => simp [intOf]; omega
        · rw [hbad] at c6
          obtain ⟨W2, hW2⟩ : ∃ W2, W2 = wr.alloc (.cells #[.slice aa s.asks.length ca, .int .i64 s.on, .slice ac s.cases.length cc, .int .i64 s.els, .int .i64 s.fall, .bool true, .bool true, .string s.give] 46) := ⟨_, rfl⟩
          have K2 : Hid (Kept wr W2) := by rw [hW2]; exact (Kept.refl _).alloc _
          go_wp2_with fail
          rw [← hW2]
          clear hW2
          refine (kindOf_bad W2 s aa ac ca cc).mono ?_
          rintro e W3 ⟨rfl, k3⟩
          have K3 := hide (Kept.trans K2.out k3)
          clear k3 K2 c0 c1 c2 c3 c4 c5 c6 c7
          go_wp2_with fail
          refine (stepBad_any wz W3 b (l ++ (headL d ++ ss)) s aa ac ca cc hEO hll (HR.out.kept K3.out) (Kept.trans HK.out K3.out) hT).mono ?_
          rintro e W4 ⟨rfl, h4, k4⟩
          have H4 : Hid (WrM wz.heap.size b b (l ++ (headL d ++ (ss ++ stepL s))) W4) := by
            have h := h4
            have e1 : stepL s = [98, 97, 100, 32] ++ quoteL s.give.data.toList ++ [10] := by unfold stepL; simp [hfin, hbad]
            rw [List.append_assoc, List.append_assoc, ← e1] at h
            exact h
          have K4 := hide k4
          clear h4 k4 K3
          go_wp2
          go_roundw
          case rel => exact ⟨k + 1, by omega, by go_num, by rw [HTk.out]; exact H4, K4⟩
          case measure => simp [intOf]; omega
    · obtain rfl : k = d.steps.length := by omega
      rw [List.take_length] at HR
      go_wp2
      go_end0
      exact ⟨rfl, HR.out, HK.out⟩

end Go.Proofs.YtpnofnbppnkgaaaGreatDoor
