import Derived.Test.YtpnofnbppnkgaaaGreatDoorKQSpecQ

namespace Go.Proofs.YtpnofnbppnkgaaaGreatDoor
open Go.RowKit

set_option maxRecDepth 100000 in
set_option maxHeartbeats 3200000 in
theorem l8StepBad_any (w : World) (s : StepD) (aa ac : Option Addr) (ca cc : Nat) (hg : s.give.size ≤ 30) :
    Calls Tryz.prog 12 #[.agg #[.slice aa s.asks.length ca, .int .i64 s.on, .slice ac s.cases.length cc, .int .i64 s.els, .int .i64 s.fall, .bool true, .bool true, .string s.give]] w fun e w' => (∃ d : ByteArray, e = .returned (.string d) ∧ d.data.toList = [98, 97, 100, 32] ++ quoteL s.give.data.toList ++ [10]) ∧ Kept w w' := by
  obtain ⟨W0, hW0⟩ : ∃ W0, W0 = w.alloc (.cells #[.slice aa s.asks.length ca, .int .i64 s.on, .slice ac s.cases.length cc, .int .i64 s.els, .int .i64 s.fall, .bool true, .bool true, .string s.give] 46) := ⟨_, rfl⟩
  have K0 : Kept w W0 := by rw [hW0]; exact (Kept.refl _).alloc _
  go_enter Tryz.func12, Tryz.ntmps12
  go_wp2_with fail
  rw [← hW0]
  clear hW0
  refine (specQuote_any W0 s.give (by omega)).mono ?_
  rintro e w1 ⟨⟨d, rfl, hd⟩, k1⟩
  have hds : d.size ≤ 92 := by
    have h1 := congrArg List.length hd
    have h2 := quoteL_len s.give.data.toList
    rw [show d.data.toList.length = d.size by simp] at h1
    rw [show s.give.data.toList.length = s.give.size by simp] at h2
    omega
  have HD := hide hd
  have K1 := hide (Kept.trans K0 k1)
  clear hd k1 K0
  go_wp2
  go_ret
  exact ⟨⟨_, rfl, by rw [ba_append, ba_append, HD.out]; rfl⟩, K1.out⟩

set_option maxRecDepth 100000 in
set_option maxHeartbeats 3200000 in
theorem l8StepGood_any (w : World) (s : StepD) (aa ac : Option Addr) (ca cc : Nat) (hg : s.give.size ≤ 30) :
    Calls Tryz.prog 12 #[.agg #[.slice aa s.asks.length ca, .int .i64 s.on, .slice ac s.cases.length cc, .int .i64 s.els, .int .i64 s.fall, .bool true, .bool false, .string s.give]] w fun e w' => (∃ d : ByteArray, e = .returned (.string d) ∧ d.data.toList = [101, 110, 100, 32] ++ quoteL s.give.data.toList ++ [10]) ∧ Kept w w' := by
  obtain ⟨W0, hW0⟩ : ∃ W0, W0 = w.alloc (.cells #[.slice aa s.asks.length ca, .int .i64 s.on, .slice ac s.cases.length cc, .int .i64 s.els, .int .i64 s.fall, .bool true, .bool false, .string s.give] 46) := ⟨_, rfl⟩
  have K0 : Kept w W0 := by rw [hW0]; exact (Kept.refl _).alloc _
  go_enter Tryz.func12, Tryz.ntmps12
  go_wp2_with fail
  rw [← hW0]
  clear hW0
  refine (specQuote_any W0 s.give (by omega)).mono ?_
  rintro e w1 ⟨⟨d, rfl, hd⟩, k1⟩
  have hds : d.size ≤ 92 := by
    have h1 := congrArg List.length hd
    have h2 := quoteL_len s.give.data.toList
    rw [show d.data.toList.length = d.size by simp] at h1
    rw [show s.give.data.toList.length = s.give.size by simp] at h2
    omega
  have HD := hide hd
  have K1 := hide (Kept.trans K0 k1)
  clear hd k1 K0
  go_wp2
  go_ret
  exact ⟨⟨_, rfl, by rw [ba_append, ba_append, HD.out]; rfl⟩, K1.out⟩

set_option maxRecDepth 100000 in
set_option maxHeartbeats 6400000 in
theorem l8StepAsk_any (w : World) (s : StepD) (aa ac : Option Addr) (ca cc : Nat) (n : Int) (hn : n ≤ 20) (hF : FrontOk s n) (hCs : CasesOk s n) (hA : Strs w aa s.asks) (hC : Cases w ac s.cases) :
    Calls Tryz.prog 12 #[.agg #[.slice aa s.asks.length ca, .int .i64 s.on, .slice ac s.cases.length cc, .int .i64 s.els, .int .i64 s.fall, .bool false, .bool s.bad, .string s.give]] w fun e w' => (∃ d : ByteArray, e = .returned (.string d) ∧ d.data.toList = askL s ++ casesL s.cases) ∧ Kept w w' := by
  have h5 := hF.2.2.1
  have h20 : ∀ i, i < s.asks.length → (s.asks.getD i ByteArray.empty).size ≤ 20 := fun i hi => (hF.2.2.2.1 i hi).1.2.1
  have hc5 := hF.2.2.2.2.1
  have hon : -1 ≤ s.on ∧ s.on < 100 := by rcases hF.2.2.2.2.2.2.2 with h | h <;> omega
  have hels : -1 ≤ s.els ∧ s.els < 100 := by have := hF.2.2.2.2.2.1; omega
  have hfall : -1 ≤ s.fall ∧ s.fall < 100 := by have := hF.2.2.2.2.2.2.1; omega
  obtain ⟨W0, hW0⟩ : ∃ W0, W0 = w.alloc (.cells #[.slice aa s.asks.length ca, .int .i64 s.on, .slice ac s.cases.length cc, .int .i64 s.els, .int .i64 s.fall, .bool false, .bool s.bad, .string s.give] 46) := ⟨_, rfl⟩
  have K0 : Kept w W0 := by rw [hW0]; exact (Kept.refl _).alloc _
  have q0 : W0.cell? ⟨w.heap.size, 0, none⟩ = some (.slice aa s.asks.length ca) := by rw [hW0]; exact range_made w #[.slice aa s.asks.length ca, .int .i64 s.on, .slice ac s.cases.length cc, .int .i64 s.els, .int .i64 s.fall, .bool false, .bool s.bad, .string s.give] 46 0 _ rfl
  have q1 : W0.cell? ⟨w.heap.size, 1, none⟩ = some (.int .i64 s.on) := by rw [hW0]; exact range_made w #[.slice aa s.asks.length ca, .int .i64 s.on, .slice ac s.cases.length cc, .int .i64 s.els, .int .i64 s.fall, .bool false, .bool s.bad, .string s.give] 46 1 _ rfl
  have q2 : W0.cell? ⟨w.heap.size, 2, none⟩ = some (.slice ac s.cases.length cc) := by rw [hW0]; exact range_made w #[.slice aa s.asks.length ca, .int .i64 s.on, .slice ac s.cases.length cc, .int .i64 s.els, .int .i64 s.fall, .bool false, .bool s.bad, .string s.give] 46 2 _ rfl
  have q3 : W0.cell? ⟨w.heap.size, 3, none⟩ = some (.int .i64 s.els) := by rw [hW0]; exact range_made w #[.slice aa s.asks.length ca, .int .i64 s.on, .slice ac s.cases.length cc, .int .i64 s.els, .int .i64 s.fall, .bool false, .bool s.bad, .string s.give] 46 3 _ rfl
  have q4 : W0.cell? ⟨w.heap.size, 4, none⟩ = some (.int .i64 s.fall) := by rw [hW0]; exact range_made w #[.slice aa s.asks.length ca, .int .i64 s.on, .slice ac s.cases.length cc, .int .i64 s.els, .int .i64 s.fall, .bool false, .bool s.bad, .string s.give] 46 4 _ rfl
  have qz : w.heap.size < W0.heap.size := by rw [hW0]; simp
  have Q2 := hide q2
  clear q2
  go_enter Tryz.func12, Tryz.ntmps12
  go_wp2
  rw [← hW0]
  clear hW0
  have HH : Hid (∀ u, Kept W0 u → (u.cell? ⟨w.heap.size, 0, none⟩ = some (.slice aa s.asks.length ca) ∧ u.cell? ⟨w.heap.size, 1, none⟩ = some (.int .i64 s.on) ∧ u.cell? ⟨w.heap.size, 3, none⟩ = some (.int .i64 s.els) ∧ u.cell? ⟨w.heap.size, 4, none⟩ = some (.int .i64 s.fall))) := fun u k => ⟨(k.cell qz).trans q0, (k.cell qz).trans q1, (k.cell qz).trans q3, (k.cell qz).trans q4⟩
  clear q0 q1 q3 q4
  refine UpTo.region (by kernel_rfl) (fun u => u.cell? ⟨w.heap.size, 0, none⟩ = some (.slice aa s.asks.length ca) ∧ u.cell? ⟨w.heap.size, 1, none⟩ = some (.int .i64 s.on) ∧ u.cell? ⟨w.heap.size, 3, none⟩ = some (.int .i64 s.els) ∧ u.cell? ⟨w.heap.size, 4, none⟩ = some (.int .i64 s.fall)) 20 (HH.out _ (Kept.refl W0).drew) (fun hHeld => ?_)
  have KD : Hid (Kept W0 W0.drew) := (Kept.refl W0).drew
  generalize hwd : W0.drew = wd at KD hHeld ⊢
  clear hwd
  refine UpTo.take 0 [1, 2, 3, 4, 7, 8, 9, 12, 13, 14, 17, 18, 19, 20] (v := ?_) (by (simp only [List.getElem?_toArray, List.getElem?_cons_zero]; rfl)) (by kernel_rfl) (by kernel_rfl) (by kernel_rfl) (by kernel_rfl) (by exact fun _ _ _ h => h) (Or.inl ⟨by rfl, ?_⟩) hHeld ?_
  rotate_left
  · intro u hu
    try dsimp only at hu
    go_simp
    try with_reducible rfl
  try simp only [Act.put, List.setIfInBounds_toArray, List.set_cons_zero, List.set_cons_succ]
  refine UpTo.take 1 [2, 3, 4, 7, 8, 9, 12, 13, 14, 17, 18, 19, 20] (v := ?_) (by (simp only [List.getElem?_toArray, List.getElem?_cons_succ, List.getElem?_cons_zero]; rfl)) (by kernel_rfl) (by kernel_rfl) (by kernel_rfl) (by kernel_rfl) (by exact fun _ _ _ h => h) (Or.inl ⟨by rfl, ?_⟩) hHeld ?_
  rotate_left
  · intro u hu
    try dsimp only at hu
    go_simp
    try with_reducible rfl
  try simp only [Act.put, List.setIfInBounds_toArray, List.set_cons_zero, List.set_cons_succ]
  refine UpTo.take 5 [6, 7, 8, 9, 12, 13, 14, 17, 18, 19, 20] (v := ?_) (by (simp only [List.getElem?_toArray, List.getElem?_cons_succ, List.getElem?_cons_zero]; rfl)) (by kernel_rfl) (by kernel_rfl) (by kernel_rfl) (by kernel_rfl) (by exact fun _ _ _ h => h) (Or.inl ⟨by rfl, ?_⟩) hHeld ?_
  rotate_left
  · intro u hu
    try dsimp only at hu
    go_simp
    try with_reducible rfl
  try simp only [Act.put, List.setIfInBounds_toArray, List.set_cons_zero, List.set_cons_succ]
  refine UpTo.take 6 [7, 8, 9, 12, 13, 14, 17, 18, 19, 20] (v := ?_) (by (simp only [List.getElem?_toArray, List.getElem?_cons_succ, List.getElem?_cons_zero]; rfl)) (by kernel_rfl) (by kernel_rfl) (by kernel_rfl) (by kernel_rfl) (by exact fun _ _ _ h => h) (Or.inl ⟨by rfl, ?_⟩) hHeld ?_
  rotate_left
  · intro u hu
    try dsimp only at hu
    go_simp
    try with_reducible rfl
  try simp only [Act.put, List.setIfInBounds_toArray, List.set_cons_zero, List.set_cons_succ]
  refine UpTo.take 10 [11, 12, 13, 14, 17, 18, 19, 20] (v := ?_) (by (simp only [List.getElem?_toArray, List.getElem?_cons_succ, List.getElem?_cons_zero]; rfl)) (by kernel_rfl) (by kernel_rfl) (by kernel_rfl) (by kernel_rfl) (by exact fun _ _ _ h => h) (Or.inl ⟨by rfl, ?_⟩) hHeld ?_
  rotate_left
  · intro u hu
    try dsimp only at hu
    go_simp
    try with_reducible rfl
  try simp only [Act.put, List.setIfInBounds_toArray, List.set_cons_zero, List.set_cons_succ]
  refine UpTo.take 11 [12, 13, 14, 17, 18, 19, 20] (v := ?_) (by (simp only [List.getElem?_toArray, List.getElem?_cons_succ, List.getElem?_cons_zero]; rfl)) (by kernel_rfl) (by kernel_rfl) (by kernel_rfl) (by kernel_rfl) (by exact fun _ _ _ h => h) (Or.inl ⟨by rfl, ?_⟩) hHeld ?_
  rotate_left
  · intro u hu
    try dsimp only at hu
    go_simp
    try with_reducible rfl
  try simp only [Act.put, List.setIfInBounds_toArray, List.set_cons_zero, List.set_cons_succ]
  refine UpTo.take 15 [16, 17, 18, 19, 20] (v := ?_) (by (simp only [List.getElem?_toArray, List.getElem?_cons_succ, List.getElem?_cons_zero]; rfl)) (by kernel_rfl) (by kernel_rfl) (by kernel_rfl) (by kernel_rfl) (by exact fun _ _ _ h => h) (Or.inl ⟨by rfl, ?_⟩) hHeld ?_
  rotate_left
  · intro u hu
    try dsimp only at hu
    go_simp
    try with_reducible rfl
  try simp only [Act.put, List.setIfInBounds_toArray, List.set_cons_zero, List.set_cons_succ]
  refine UpTo.take 16 [17, 18, 19, 20] (v := ?_) (by (simp only [List.getElem?_toArray, List.getElem?_cons_succ, List.getElem?_cons_zero]; rfl)) (by kernel_rfl) (by kernel_rfl) (by kernel_rfl) (by kernel_rfl) (by exact fun _ _ _ h => h) (Or.inl ⟨by rfl, ?_⟩) hHeld ?_
  rotate_left
  · intro u hu
    try dsimp only at hu
    go_simp
    try with_reducible rfl
  try simp only [Act.put, List.setIfInBounds_toArray, List.set_cons_zero, List.set_cons_succ]
  refine UpTo.next 2 (by kernel_rfl) (by (simp only [List.getElem?_toArray, List.getElem?_cons_succ, List.getElem?_cons_zero]; rfl)) (fun K hK => ?_)
  rw [if_pos (by rfl)]
  go_simp
  go_at_call 23
  refine (names_any _ aa ca s.asks h5 h20 (hA.kept (Kept.trans K0 KD.out))).mono ?_
  rintro e w2 ⟨⟨d2, rfl, hd2, hs2⟩, rfl⟩
  dsimp only
  have HD2 := hide hd2
  clear hd2
  refine hK.out _ _ (fun _ => HH.out _ KD.out) ?_
  clear hK K hHeld
  have hHeld := HH.out _ KD.out
  try simp only [Act.put, List.setIfInBounds_toArray, List.set_cons_zero, List.set_cons_succ]
  refine UpTo.take 3 [4, 8, 9, 13, 14, 18, 19, 20] (v := ?_) (by (simp only [List.getElem?_toArray, List.getElem?_cons_succ, List.getElem?_cons_zero]; rfl)) (by kernel_rfl) (by kernel_rfl) (by kernel_rfl) (by kernel_rfl) (by exact fun _ _ _ h => h) (Or.inl ⟨by rfl, ?_⟩) hHeld ?_
  rotate_left
  · intro u hu
    try dsimp only at hu
    go_simp
    rw [if_neg (by omega)]
    try with_reducible rfl
  try simp only [Act.put, List.setIfInBounds_toArray, List.set_cons_zero, List.set_cons_succ]
  refine UpTo.take 4 [8, 9, 13, 14, 18, 19, 20] (v := ?_) (by (simp only [List.getElem?_toArray, List.getElem?_cons_succ, List.getElem?_cons_zero]; rfl)) (by kernel_rfl) (by kernel_rfl) (by kernel_rfl) (by kernel_rfl) (by exact fun _ _ _ h => h) (Or.inl ⟨by rfl, ?_⟩) hHeld ?_
  rotate_left
  · intro u hu
    try dsimp only at hu
    go_simp
    rw [if_neg (by omega)]
    try with_reducible rfl
  try simp only [Act.put, List.setIfInBounds_toArray, List.set_cons_zero, List.set_cons_succ]
  generalize ha1 : (⟨#[97, 115, 107, 32]⟩ ++ d2 ++ ⟨#[32, 111, 110, 32]⟩ : ByteArray) = a1
  have hs_a1 : a1.size ≤ 113 := by rw [← ha1]; simp only [ByteArray.size_append]; show 4 + d2.size + 4 ≤ 113; omega
  have HL_a1 : Hid (a1.data.toList = [97, 115, 107, 32] ++ namesL s.asks ++ [32, 111, 110, 32]) := by show _ = _; rw [← ha1]; simp only [ba_append]; rw [HD2.out]
  clear ha1
  refine UpTo.next 7 (by kernel_rfl) (by (simp only [List.getElem?_toArray, List.getElem?_cons_succ, List.getElem?_cons_zero]; rfl)) (fun K hK => ?_)
  rw [if_pos (by rfl)]
  go_simp
  go_at_call 11
  refine (dec_any _ s.on hon.1 hon.2).mono ?_
  rintro e w7 ⟨⟨d7, rfl, hd7, hs7⟩, k7⟩
  dsimp only
  have HD7 := hide hd7
  have K7 := hide (Kept.trans KD.out k7)
  clear hd7 k7
  refine hK.out _ _ (fun _ => HH.out _ K7.out) ?_
  clear hK K hHeld
  have hHeld := HH.out _ K7.out
  try simp only [Act.put, List.setIfInBounds_toArray, List.set_cons_zero, List.set_cons_succ]
  refine UpTo.take 8 [9, 13, 14, 18, 19, 20] (v := ?_) (by (simp only [List.getElem?_toArray, List.getElem?_cons_succ, List.getElem?_cons_zero]; rfl)) (by kernel_rfl) (by kernel_rfl) (by kernel_rfl) (by kernel_rfl) (by exact fun _ _ _ h => h) (Or.inl ⟨by rfl, ?_⟩) hHeld ?_
  rotate_left
  · intro u hu
    try dsimp only at hu
    go_simp
    rw [if_neg (by omega)]
    try with_reducible rfl
  try simp only [Act.put, List.setIfInBounds_toArray, List.set_cons_zero, List.set_cons_succ]
  refine UpTo.take 9 [13, 14, 18, 19, 20] (v := ?_) (by (simp only [List.getElem?_toArray, List.getElem?_cons_succ, List.getElem?_cons_zero]; rfl)) (by kernel_rfl) (by kernel_rfl) (by kernel_rfl) (by kernel_rfl) (by exact fun _ _ _ h => h) (Or.inl ⟨by rfl, ?_⟩) hHeld ?_
  rotate_left
  · intro u hu
    try dsimp only at hu
    go_simp
    rw [if_neg (by omega)]
    try with_reducible rfl
  try simp only [Act.put, List.setIfInBounds_toArray, List.set_cons_zero, List.set_cons_succ]
  generalize ha2 : (a1 ++ d7 ++ ⟨#[32, 101, 108, 115, 101, 32]⟩ : ByteArray) = a2
  have hs_a2 : a2.size ≤ 121 := by rw [← ha2]; simp only [ByteArray.size_append]; show a1.size + d7.size + 6 ≤ 121; omega
  have HL_a2 : Hid (a2.data.toList = [97, 115, 107, 32] ++ namesL s.asks ++ [32, 111, 110, 32] ++ decL s.on ++ [32, 101, 108, 115, 101, 32]) := by show _ = _; rw [← ha2]; simp only [ba_append]; rw [HL_a1.out, HD7.out]
  clear ha2
  refine UpTo.next 12 (by kernel_rfl) (by (simp only [List.getElem?_toArray, List.getElem?_cons_succ, List.getElem?_cons_zero]; rfl)) (fun K hK => ?_)
  rw [if_pos (by rfl)]
  go_simp
  go_at_call 11
  refine (dec_any _ s.els hels.1 hels.2).mono ?_
  rintro e w12 ⟨⟨d12, rfl, hd12, hs12⟩, k12⟩
  dsimp only
  have HD12 := hide hd12
  have K12 := hide (Kept.trans K7.out k12)
  clear hd12 k12
  refine hK.out _ _ (fun _ => HH.out _ K12.out) ?_
  clear hK K hHeld
  have hHeld := HH.out _ K12.out
  try simp only [Act.put, List.setIfInBounds_toArray, List.set_cons_zero, List.set_cons_succ]
  refine UpTo.take 13 [14, 18, 19, 20] (v := ?_) (by (simp only [List.getElem?_toArray, List.getElem?_cons_succ, List.getElem?_cons_zero]; rfl)) (by kernel_rfl) (by kernel_rfl) (by kernel_rfl) (by kernel_rfl) (by exact fun _ _ _ h => h) (Or.inl ⟨by rfl, ?_⟩) hHeld ?_
  rotate_left
  · intro u hu
    try dsimp only at hu
    go_simp
    rw [if_neg (by omega)]
    try with_reducible rfl
  try simp only [Act.put, List.setIfInBounds_toArray, List.set_cons_zero, List.set_cons_succ]
  refine UpTo.take 14 [18, 19, 20] (v := ?_) (by (simp only [List.getElem?_toArray, List.getElem?_cons_succ, List.getElem?_cons_zero]; rfl)) (by kernel_rfl) (by kernel_rfl) (by kernel_rfl) (by kernel_rfl) (by exact fun _ _ _ h => h) (Or.inl ⟨by rfl, ?_⟩) hHeld ?_
  rotate_left
  · intro u hu
    try dsimp only at hu
    go_simp
    rw [if_neg (by omega)]
    try with_reducible rfl
  try simp only [Act.put, List.setIfInBounds_toArray, List.set_cons_zero, List.set_cons_succ]
  generalize ha3 : (a2 ++ d12 ++ ⟨#[32, 102, 97, 108, 108, 32]⟩ : ByteArray) = a3
  have hs_a3 : a3.size ≤ 129 := by rw [← ha3]; simp only [ByteArray.size_append]; show a2.size + d12.size + 6 ≤ 129; omega
  have HL_a3 : Hid (a3.data.toList = [97, 115, 107, 32] ++ namesL s.asks ++ [32, 111, 110, 32] ++ decL s.on ++ [32, 101, 108, 115, 101, 32] ++ decL s.els ++ [32, 102, 97, 108, 108, 32]) := by show _ = _; rw [← ha3]; simp only [ba_append]; rw [HL_a2.out, HD12.out]
  clear ha3
  refine UpTo.next 17 (by kernel_rfl) (by (simp only [List.getElem?_toArray, List.getElem?_cons_succ, List.getElem?_cons_zero]; rfl)) (fun K hK => ?_)
  rw [if_pos (by rfl)]
  go_simp
  go_at_call 11
  refine (dec_any _ s.fall hfall.1 hfall.2).mono ?_
  rintro e w17 ⟨⟨d17, rfl, hd17, hs17⟩, k17⟩
  dsimp only
  have HD17 := hide hd17
  have K17 := hide (Kept.trans K12.out k17)
  clear hd17 k17
  refine hK.out _ _ (fun _ => HH.out _ K17.out) ?_
  clear hK K hHeld
  have hHeld := HH.out _ K17.out
  try simp only [Act.put, List.setIfInBounds_toArray, List.set_cons_zero, List.set_cons_succ]
  refine UpTo.next 18 (by kernel_rfl) (by (simp only [List.getElem?_toArray, List.getElem?_cons_succ, List.getElem?_cons_zero]; rfl)) (fun K hK => ?_)
  rw [if_pos (by rfl)]
  go_simp
  rw [if_neg (by omega), Oper.upon_value]
  refine hK.out _ _ (fun _ => HH.out _ K17.out) ?_
  clear hK K hHeld
  have hHeld := HH.out _ K17.out
  try simp only [Act.put, List.setIfInBounds_toArray, List.set_cons_zero, List.set_cons_succ]
  refine UpTo.next 19 (by kernel_rfl) (by (simp only [List.getElem?_toArray, List.getElem?_cons_succ, List.getElem?_cons_zero]; rfl)) (fun K hK => ?_)
  rw [if_pos (by rfl)]
  go_simp
  rw [if_neg (by have e1 : (a3 ++ d17).size = a3.size + d17.size := ByteArray.size_append; have e2 : (⟨#[10]⟩ : ByteArray).size = 1 := rfl; omega), Oper.upon_value]
  refine hK.out _ _ (fun _ => HH.out _ K17.out) ?_
  clear hK K hHeld
  have hHeld := HH.out _ K17.out
  try simp only [Act.put, List.setIfInBounds_toArray, List.set_cons_zero, List.set_cons_succ]
  generalize ha4 : (a3 ++ d17 ++ ⟨#[10]⟩ : ByteArray) = a4
  have hs_a4 : a4.size ≤ 140 := by rw [← ha4]; simp only [ByteArray.size_append]; show a3.size + d17.size + 1 ≤ 140; omega
  have HL_a4 : Hid (a4.data.toList = askL s) := by show _ = _; rw [← ha4]; simp only [ba_append]; rw [HL_a3.out, HD17.out]; rfl
  clear ha4
  refine UpTo.next 20 (by kernel_rfl) (by (simp only [List.getElem?_toArray, List.getElem?_cons_succ, List.getElem?_cons_zero]; rfl)) (fun K hK => ?_)
  go_simp
  refine hK.out _ _ (fun h => absurd rfl h) ?_
  clear hK K
  try simp only [Act.put, List.setIfInBounds_toArray, List.set_cons_zero, List.set_cons_succ]
  refine UpTo.done (by kernel_rfl) ?_
  clear HH hHeld
  have hq2 : w17.cell? ⟨w.heap.size, 2, none⟩ = some (.slice ac s.cases.length cc) := (K17.out.cell qz).trans Q2.out
  have KW := hide (Kept.trans K0 K17.out)
  clear KD K7 K12 HL_a1 HL_a2 HL_a3 HD2 HD7 HD12 HD17
  go_wp2
  clear hq2
  go_loopw [3, 4] (fun x i wr => ∃ (k : Nat) (o : ByteArray), k ≤ s.cases.length ∧ i = .int .i64 k ∧ x = .string o ∧ Hid (o.data.toList = askL s ++ casesL (s.cases.take k)) ∧ Hid (Kept W0 wr)) (fun _ i _ => s.cases.length - (intOf i).toNat)
  case atStart => exact ⟨0, a4, Nat.zero_le _, rfl, rfl, hide (by rw [List.take_zero, show casesL [] = [] from rfl, List.append_nil]; exact HL_a4.out), K17⟩
  case round =>
    obtain ⟨k, o, hk, rfl, rfl, HO, HK⟩ := hrel
    clear HL_a4 K17 KW
    have hcl := casesL_le hCs k (by omega)
    have hal := askL_le hF
    have hos : o.size ≤ 4000 := by have h1 := congrArg List.length HO.out; rw [List.length_append] at h1; rw [show o.data.toList.length = o.size by simp] at h1; omega
    have hq2 : wr.cell? ⟨w.heap.size, 2, none⟩ = some (.slice ac s.cases.length cc) := (HK.out.cell qz).trans Q2.out
    by_cases hlt : (k : Int) < (s.cases.length : Int)
    · have hkl : k < s.cases.length := by omega
      obtain ⟨cb, co, rfl, hcb, hcc⟩ := (hC.kept (Kept.trans K0 HK.out)) k hkl
      have hck := hCs k hkl
      unfold CaseOkAt CaseOk at hck
      have HTk := hide (casesL_take_succ s.cases k hkl)
      obtain ⟨x, hx⟩ : ∃ x, x = s.cases.getD k CaseD.zero := ⟨_, rfl⟩
      rw [← hx] at hcc hck HTk
      have t0 := hcc 0 _ rfl
      have t1 := hcc 1 _ rfl
      rw [Nat.add_zero] at t0
      clear hcc hx
      go_wp2
      have HH : Hid (∀ u, Kept wr u → (u.cell? ⟨w.heap.size, 2, none⟩ = some (.slice (some ⟨cb, co, none⟩) s.cases.length cc) ∧ u.cell? ⟨cb, co + k * 2, none⟩ = some (.string x.text) ∧ u.cell? ⟨cb, co + k * 2 + 1, none⟩ = some (.int .i64 x.goto))) := fun u k => ⟨(k.cell (Nat.lt_of_lt_of_le qz HK.out.size)).trans hq2, (k.cell hcb).trans t0, (k.cell hcb).trans t1⟩
      clear hq2 t0 t1
      refine UpTo.region (by kernel_rfl) (fun u => u.cell? ⟨w.heap.size, 2, none⟩ = some (.slice (some ⟨cb, co, none⟩) s.cases.length cc) ∧ u.cell? ⟨cb, co + k * 2, none⟩ = some (.string x.text) ∧ u.cell? ⟨cb, co + k * 2 + 1, none⟩ = some (.int .i64 x.goto)) 20 (HH.out _ (Kept.refl wr).drew) (fun hHeld => ?_)
      have KD : Hid (Kept wr wr.drew) := (Kept.refl wr).drew
      generalize hwd : wr.drew = wd at KD hHeld ⊢
      clear hwd
      refine UpTo.take 0 [1, 9, 10, 18, 19, 20] (v := ?_) (by (simp only [List.getElem?_toArray, List.getElem?_cons_zero]; rfl)) (by kernel_rfl) (by kernel_rfl) (by kernel_rfl) (by kernel_rfl) (by exact fun _ _ _ h => h) (Or.inl ⟨by rfl, ?_⟩) hHeld ?_
      rotate_left
      · intro u hu
        try dsimp only at hu
        go_simp
        try with_reducible rfl
      try simp only [Act.put, List.setIfInBounds_toArray, List.set_cons_zero, List.set_cons_succ]
      refine UpTo.take 1 [9, 10, 18, 19, 20] (v := ?_) (by (simp only [List.getElem?_toArray, List.getElem?_cons_succ, List.getElem?_cons_zero]; rfl)) (by kernel_rfl) (by kernel_rfl) (by kernel_rfl) (by kernel_rfl) (by exact fun _ _ _ h => h) (Or.inl ⟨by rfl, ?_⟩) hHeld ?_
      rotate_left
      · intro u hu
        try dsimp only at hu
        go_simp
        rw [if_neg (by omega)]
        try with_reducible rfl
      try simp only [Act.put, List.setIfInBounds_toArray, List.set_cons_zero, List.set_cons_succ]
      refine UpTo.take 2 [3, 5, 6, 7, 8, 9, 10, 17, 18, 19, 20] (v := ?_) (by (simp only [List.getElem?_toArray, List.getElem?_cons_succ, List.getElem?_cons_zero]; rfl)) (by kernel_rfl) (by kernel_rfl) (by kernel_rfl) (by kernel_rfl) (by exact fun _ _ _ h => h) (Or.inl ⟨by rfl, ?_⟩) hHeld ?_
      rotate_left
      · intro u hu
        try dsimp only at hu
        go_simp
        try with_reducible rfl
      try simp only [Act.put, List.setIfInBounds_toArray, List.set_cons_zero, List.set_cons_succ]
      refine UpTo.take 3 [5, 6, 7, 8, 9, 10, 17, 18, 19, 20] (v := ?_) (by (simp only [List.getElem?_toArray, List.getElem?_cons_succ, List.getElem?_cons_zero]; rfl)) (by kernel_rfl) (by kernel_rfl) (by kernel_rfl) (by kernel_rfl) (by exact fun _ _ _ h => h) (Or.inl ⟨by rfl, ?_⟩) hHeld ?_
      rotate_left
      · intro u hu
        try dsimp only at hu
        go_simp
        try with_reducible rfl
      try simp only [Act.put, List.setIfInBounds_toArray, List.set_cons_zero, List.set_cons_succ]
      refine UpTo.take 4 [5, 6, 7, 8, 9, 10, 17, 18, 19, 20] (v := ?_) (by (simp only [List.getElem?_toArray, List.getElem?_cons_succ, List.getElem?_cons_zero]; rfl)) (by kernel_rfl) (by kernel_rfl) (by kernel_rfl) (by kernel_rfl) (by exact fun _ _ _ h => h) (Or.inl ⟨by rfl, ?_⟩) hHeld ?_
      rotate_left
      · intro u hu
        try dsimp only at hu
        go_simp
        try with_reducible rfl
      try simp only [Act.put, List.setIfInBounds_toArray, List.set_cons_zero, List.set_cons_succ]
      refine UpTo.take 5 [6, 7, 8, 9, 10, 17, 18, 19, 20] (v := ?_) (by (simp only [List.getElem?_toArray, List.getElem?_cons_succ, List.getElem?_cons_zero]; rfl)) (by kernel_rfl) (by kernel_rfl) (by kernel_rfl) (by kernel_rfl) (by exact fun _ _ _ h => h) (Or.inl ⟨by rfl, ?_⟩) hHeld ?_
      rotate_left
      · intro u hu
        try dsimp only at hu
        go_simp
        try with_reducible rfl
      try simp only [Act.put, List.setIfInBounds_toArray, List.set_cons_zero, List.set_cons_succ]
      refine UpTo.take 6 [7, 8, 9, 10, 17, 18, 19, 20] (v := ?_) (by (simp only [List.getElem?_toArray, List.getElem?_cons_succ, List.getElem?_cons_zero]; rfl)) (by kernel_rfl) (by kernel_rfl) (by kernel_rfl) (by kernel_rfl) (by exact fun _ _ _ h => h) (Or.inl ⟨by rfl, ?_⟩) hHeld ?_
      rotate_left
      · intro u hu
        try dsimp only at hu
        go_simp
        try with_reducible rfl
      try simp only [Act.put, List.setIfInBounds_toArray, List.set_cons_zero, List.set_cons_succ]
      refine UpTo.take 7 [8, 9, 10, 17, 18, 19, 20] (v := ?_) (by (simp only [List.getElem?_toArray, List.getElem?_cons_succ, List.getElem?_cons_zero]; rfl)) (by kernel_rfl) (by kernel_rfl) (by kernel_rfl) (by kernel_rfl) (by exact fun _ _ _ h => h) (Or.inl ⟨by rfl, ?_⟩) hHeld ?_
      rotate_left
      · intro u hu
        try dsimp only at hu
        go_simp
        try with_reducible rfl
      try simp only [Act.put, List.setIfInBounds_toArray, List.set_cons_zero, List.set_cons_succ]
      refine UpTo.take 11 [12, 14, 15, 16, 17, 18, 19, 20] (v := ?_) (by (simp only [List.getElem?_toArray, List.getElem?_cons_succ, List.getElem?_cons_zero]; rfl)) (by kernel_rfl) (by kernel_rfl) (by kernel_rfl) (by kernel_rfl) (by exact fun _ _ _ h => h) (Or.inl ⟨by rfl, ?_⟩) hHeld ?_
      rotate_left
      · intro u hu
        try dsimp only at hu
        go_simp
        try with_reducible rfl
      try simp only [Act.put, List.setIfInBounds_toArray, List.set_cons_zero, List.set_cons_succ]
      refine UpTo.take 12 [14, 15, 16, 17, 18, 19, 20] (v := ?_) (by (simp only [List.getElem?_toArray, List.getElem?_cons_succ, List.getElem?_cons_zero]; rfl)) (by kernel_rfl) (by kernel_rfl) (by kernel_rfl) (by kernel_rfl) (by exact fun _ _ _ h => h) (Or.inl ⟨by rfl, ?_⟩) hHeld ?_
      rotate_left
      · intro u hu
        try dsimp only at hu
        go_simp
        try with_reducible rfl
      try simp only [Act.put, List.setIfInBounds_toArray, List.set_cons_zero, List.set_cons_succ]
      refine UpTo.take 13 [14, 15, 16, 17, 18, 19, 20] (v := ?_) (by (simp only [List.getElem?_toArray, List.getElem?_cons_succ, List.getElem?_cons_zero]; rfl)) (by kernel_rfl) (by kernel_rfl) (by kernel_rfl) (by kernel_rfl) (by exact fun _ _ _ h => h) (Or.inl ⟨by rfl, ?_⟩) hHeld ?_
      rotate_left
      · intro u hu
        try dsimp only at hu
        go_simp
        try with_reducible rfl
      try simp only [Act.put, List.setIfInBounds_toArray, List.set_cons_zero, List.set_cons_succ]
      refine UpTo.take 14 [15, 16, 17, 18, 19, 20] (v := ?_) (by (simp only [List.getElem?_toArray, List.getElem?_cons_succ, List.getElem?_cons_zero]; rfl)) (by kernel_rfl) (by kernel_rfl) (by kernel_rfl) (by kernel_rfl) (by exact fun _ _ _ h => h) (Or.inl ⟨by rfl, ?_⟩) hHeld ?_
      rotate_left
      · intro u hu
        try dsimp only at hu
        go_simp
        try with_reducible rfl
      try simp only [Act.put, List.setIfInBounds_toArray, List.set_cons_zero, List.set_cons_succ]
      refine UpTo.take 15 [16, 17, 18, 19, 20] (v := ?_) (by (simp only [List.getElem?_toArray, List.getElem?_cons_succ, List.getElem?_cons_zero]; rfl)) (by kernel_rfl) (by kernel_rfl) (by kernel_rfl) (by kernel_rfl) (by exact fun _ _ _ h => h) (Or.inl ⟨by rfl, ?_⟩) hHeld ?_
      rotate_left
      · intro u hu
        try dsimp only at hu
        go_simp
        try with_reducible rfl
      try simp only [Act.put, List.setIfInBounds_toArray, List.set_cons_zero, List.set_cons_succ]
      refine UpTo.take 16 [17, 18, 19, 20] (v := ?_) (by (simp only [List.getElem?_toArray, List.getElem?_cons_succ, List.getElem?_cons_zero]; rfl)) (by kernel_rfl) (by kernel_rfl) (by kernel_rfl) (by kernel_rfl) (by exact fun _ _ _ h => h) (Or.inl ⟨by rfl, ?_⟩) hHeld ?_
      rotate_left
      · intro u hu
        try dsimp only at hu
        go_simp
        try with_reducible rfl
      try simp only [Act.put, List.setIfInBounds_toArray, List.set_cons_zero, List.set_cons_succ]
      refine UpTo.next 8 (by kernel_rfl) (by (simp only [List.getElem?_toArray, List.getElem?_cons_succ, List.getElem?_cons_zero]; rfl)) (fun K hK => ?_)
      rw [if_pos (by rfl)]
      go_simp
      go_at_call 11
      refine (dec_any _ x.goto (by omega) (by omega)).mono ?_
      rintro e w8 ⟨⟨d8, rfl, hd8, hs8⟩, k8⟩
      dsimp only
      have HD8 := hide hd8
      have K8 := hide (Kept.trans KD.out k8)
      clear hd8 k8
      refine hK.out _ _ (fun _ => HH.out _ K8.out) ?_
      clear hK K hHeld
      have hHeld := HH.out _ K8.out
      try simp only [Act.put, List.setIfInBounds_toArray, List.set_cons_zero, List.set_cons_succ]
      generalize hb1 : (o ++ ⟨#[99, 97, 115, 101, 32]⟩ : ByteArray) = b1
      have hs_b1 : b1.size ≤ 4005 := by rw [← hb1]; simp only [ByteArray.size_append]; show o.size + 5 ≤ 4005; omega
      have HL_b1 : Hid (b1.data.toList = o.data.toList ++ [99, 97, 115, 101, 32]) := by show _ = _; rw [← hb1]; simp only [ba_append]; skip
      clear hb1
      refine UpTo.take 9 [10, 18, 19, 20] (v := ?_) (by (simp only [List.getElem?_toArray, List.getElem?_cons_succ, List.getElem?_cons_zero]; rfl)) (by kernel_rfl) (by kernel_rfl) (by kernel_rfl) (by kernel_rfl) (by exact fun _ _ _ h => h) (Or.inl ⟨by rfl, ?_⟩) hHeld ?_
      rotate_left
      · intro u hu
        try dsimp only at hu
        go_simp
        rw [if_neg (by omega)]
        try with_reducible rfl
      try simp only [Act.put, List.setIfInBounds_toArray, List.set_cons_zero, List.set_cons_succ]
      refine UpTo.take 10 [18, 19, 20] (v := ?_) (by (simp only [List.getElem?_toArray, List.getElem?_cons_succ, List.getElem?_cons_zero]; rfl)) (by kernel_rfl) (by kernel_rfl) (by kernel_rfl) (by kernel_rfl) (by exact fun _ _ _ h => h) (Or.inl ⟨by rfl, ?_⟩) hHeld ?_
      rotate_left
      · intro u hu
        try dsimp only at hu
        go_simp
        rw [if_neg (by omega)]
        try with_reducible rfl
      try simp only [Act.put, List.setIfInBounds_toArray, List.set_cons_zero, List.set_cons_succ]
      generalize hb2 : (b1 ++ d8 ++ ⟨#[32]⟩ : ByteArray) = b2
      have hs_b2 : b2.size ≤ 4010 := by rw [← hb2]; simp only [ByteArray.size_append]; show b1.size + d8.size + 1 ≤ 4010; omega
      have HL_b2 : Hid (b2.data.toList = o.data.toList ++ [99, 97, 115, 101, 32] ++ decL x.goto ++ [32]) := by show _ = _; rw [← hb2]; simp only [ba_append]; rw [HL_b1.out, HD8.out]
      clear hb2
      refine UpTo.next 17 (by kernel_rfl) (by (simp only [List.getElem?_toArray, List.getElem?_cons_succ, List.getElem?_cons_zero]; rfl)) (fun K hK => ?_)
      rw [if_pos (by rfl)]
      go_simp
      go_at_call 22
      refine (specQuote_any _ x.text (by omega)).mono ?_
      rintro e w17 ⟨⟨d17, rfl, hd17⟩, k17⟩
      dsimp only
      have hs17 : d17.size ≤ 700 := by have h1 := congrArg List.length hd17; have h2 := quoteL_len x.text.data.toList; rw [show d17.data.toList.length = d17.size by simp] at h1; rw [show x.text.data.toList.length = x.text.size by simp] at h2; omega
      have HD17 := hide hd17
      have K17 := hide (Kept.trans K8.out k17)
      clear hd17 k17
      refine hK.out _ _ (fun _ => HH.out _ K17.out) ?_
      clear hK K hHeld
      have hHeld := HH.out _ K17.out
      try simp only [Act.put, List.setIfInBounds_toArray, List.set_cons_zero, List.set_cons_succ]
      refine UpTo.next 18 (by kernel_rfl) (by (simp only [List.getElem?_toArray, List.getElem?_cons_succ, List.getElem?_cons_zero]; rfl)) (fun K hK => ?_)
      rw [if_pos (by rfl)]
      go_simp
      rw [if_neg (by omega), Oper.upon_value]
      refine hK.out _ _ (fun _ => HH.out _ K17.out) ?_
      clear hK K hHeld
      have hHeld := HH.out _ K17.out
      try simp only [Act.put, List.setIfInBounds_toArray, List.set_cons_zero, List.set_cons_succ]
      refine UpTo.next 19 (by kernel_rfl) (by (simp only [List.getElem?_toArray, List.getElem?_cons_succ, List.getElem?_cons_zero]; rfl)) (fun K hK => ?_)
      rw [if_pos (by rfl)]
      go_simp
      rw [if_neg (by have e1 : (b2 ++ d17).size = b2.size + d17.size := ByteArray.size_append; have e2 : (⟨#[10]⟩ : ByteArray).size = 1 := rfl; omega), Oper.upon_value]
      refine hK.out _ _ (fun _ => HH.out _ K17.out) ?_
      clear hK K hHeld
      have hHeld := HH.out _ K17.out
      try simp only [Act.put, List.setIfInBounds_toArray, List.set_cons_zero, List.set_cons_succ]
      generalize hb3 : (b2 ++ d17 ++ ⟨#[10]⟩ : ByteArray) = b3
      have hs_b3 : b3.size ≤ 5000 := by rw [← hb3]; simp only [ByteArray.size_append]; show b2.size + d17.size + 1 ≤ 5000; omega
      have HL_b3 : Hid (b3.data.toList = o.data.toList ++ caseL x) := by show _ = _; rw [← hb3]; simp only [ba_append]; rw [HL_b2.out, HD17.out]; simp [caseL]
      clear hb3
      refine UpTo.next 20 (by kernel_rfl) (by (simp only [List.getElem?_toArray, List.getElem?_cons_succ, List.getElem?_cons_zero]; rfl)) (fun K hK => ?_)
      go_simp
      refine hK.out _ _ (fun h => absurd rfl h) ?_
      clear hK K
      try simp only [Act.put, List.setIfInBounds_toArray, List.set_cons_zero, List.set_cons_succ]
      refine UpTo.done (by kernel_rfl) ?_
      clear HH hHeld KD K8 HL_b1 HL_b2 HD8 HD17
      go_wp2
      go_roundw
      case rel => exact ⟨k + 1, b3, by omega, by go_num, rfl, hide (by rw [HTk.out, HL_b3.out, HO.out, List.append_assoc]), hide (Kept.trans HK.out K17.out)⟩
      case measure => simp [intOf]; omega
    · obtain rfl : k = s.cases.length := by omega
      rw [List.take_length] at HO
      go_wp2
      go_ret
      exact ⟨⟨o, rfl, HO.out⟩, Kept.trans K0 HK.out⟩

end Go.Proofs.YtpnofnbppnkgaaaGreatDoor
