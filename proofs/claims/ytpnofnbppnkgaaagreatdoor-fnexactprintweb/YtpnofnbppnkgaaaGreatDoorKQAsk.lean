import Derived.Test.YtpnofnbppnkgaaaGreatDoorKQLine
import Derived.Test.YtpnofnbppnkgaaaGreatDoorKOOrder
import Derived.Test.YtpnofnbppnkgaaaGreatDoorKWCheck4

namespace Go.Proofs.YtpnofnbppnkgaaaGreatDoor
open Go.RowKit

theorem strs_made (w : World) (t : TypeId) (ws : List ByteArray) : Strs (w.alloc (.cells (ws.map Value.string).toArray t)) (some ⟨w.heap.size, 0, none⟩) ws := fun i hi => by
  refine ⟨w.heap.size, 0, rfl, by simp, ?_⟩
  rw [Nat.zero_add, World.cell?_alloc_mark]
  simp [List.getD, hi]

theorem line_ask (nm a b c : ByteArray) : lineL [⟨#[97, 115, 107]⟩, nm, ⟨#[111, 110]⟩, a, ⟨#[101, 108, 115, 101]⟩, b, ⟨#[102, 97, 108, 108]⟩, c] =
    [97, 115, 107, 32] ++ nm.data.toList ++ [32, 111, 110, 32] ++ a.data.toList ++ [32, 101, 108, 115, 101, 32] ++ b.data.toList ++ [32, 102, 97, 108, 108, 32] ++ c.data.toList ++ [10] := by
  simp [lineL, texts, Lib.join]
theorem line_case (a b : List UInt8) : lineL [⟨#[99, 97, 115, 101]⟩, ⟨a.toArray⟩, ⟨b.toArray⟩] = [99, 97, 115, 101, 32] ++ a ++ [32] ++ b ++ [10] := by
  simp [lineL, texts, Lib.join]

set_option maxRecDepth 100000 in
set_option maxHeartbeats 6400000 in
theorem ask_any (wz w : World) (b : Nat) (l : List UInt8) (s : StepD) (aa ac : Option Addr) (ca cc : Nat) (n : Int) (hn : n ≤ 20) (hF : FrontOk s n) (hCs : CasesOk s n) (hl : l.length ≤ 10000000) (hA : Strs wz aa s.asks) (hC : Cases wz ac s.cases) (hca : s.asks.length ≤ ca)
    (hW : WrM wz.heap.size b b l w) (KZ : Kept wz w) (hT : TabOk wz) (hP : PowOk wz) :
    Calls Tryz.prog 48 #[.pointer (some ⟨b, 0, none⟩), .agg #[.slice aa s.asks.length ca, .int .i64 s.on, .slice ac s.cases.length cc, .int .i64 s.els, .int .i64 s.fall, .bool false, .bool s.bad, .string s.give]] w fun e w' => e = .returned (.tuple #[]) ∧ WrM wz.heap.size b b (l ++ (askL s ++ casesL s.cases)) w' ∧ Kept wz w' := by
  have h5 := hF.2.2.1
  have hc5 := hF.2.2.2.2.1
  have hon : -1 ≤ s.on ∧ s.on < 100 := by rcases hF.2.2.2.2.2.2.2 with h | h <;> omega
  have hels : -1 ≤ s.els ∧ s.els < 100 := by have := hF.2.2.2.2.2.1; omega
  have hfall : -1 ≤ s.fall ∧ s.fall < 100 := by have := hF.2.2.2.2.2.2.1; omega
  have hblt := hW.lt
  obtain ⟨W0, hW0⟩ : ∃ W0, W0 = w.alloc (.cells #[.slice aa s.asks.length ca, .int .i64 s.on, .slice ac s.cases.length cc, .int .i64 s.els, .int .i64 s.fall, .bool false, .bool s.bad, .string s.give] 99) := ⟨_, rfl⟩
  have K0 : Kept w W0 := by rw [hW0]; exact (Kept.refl _).alloc _
  have q0 : W0.cell? ⟨w.heap.size, 0, none⟩ = some (.slice aa s.asks.length ca) := by rw [hW0]; exact range_made w #[.slice aa s.asks.length ca, .int .i64 s.on, .slice ac s.cases.length cc, .int .i64 s.els, .int .i64 s.fall, .bool false, .bool s.bad, .string s.give] 99 0 _ rfl
  have q1 : W0.cell? ⟨w.heap.size, 1, none⟩ = some (.int .i64 s.on) := by rw [hW0]; exact range_made w #[.slice aa s.asks.length ca, .int .i64 s.on, .slice ac s.cases.length cc, .int .i64 s.els, .int .i64 s.fall, .bool false, .bool s.bad, .string s.give] 99 1 _ rfl
  have q2 : W0.cell? ⟨w.heap.size, 2, none⟩ = some (.slice ac s.cases.length cc) := by rw [hW0]; exact range_made w #[.slice aa s.asks.length ca, .int .i64 s.on, .slice ac s.cases.length cc, .int .i64 s.els, .int .i64 s.fall, .bool false, .bool s.bad, .string s.give] 99 2 _ rfl
  have q3 : W0.cell? ⟨w.heap.size, 3, none⟩ = some (.int .i64 s.els) := by rw [hW0]; exact range_made w #[.slice aa s.asks.length ca, .int .i64 s.on, .slice ac s.cases.length cc, .int .i64 s.els, .int .i64 s.fall, .bool false, .bool s.bad, .string s.give] 99 3 _ rfl
  have q4 : W0.cell? ⟨w.heap.size, 4, none⟩ = some (.int .i64 s.fall) := by rw [hW0]; exact range_made w #[.slice aa s.asks.length ca, .int .i64 s.on, .slice ac s.cases.length cc, .int .i64 s.els, .int .i64 s.fall, .bool false, .bool s.bad, .string s.give] 99 4 _ rfl
  have qz : w.heap.size < W0.heap.size := by rw [hW0]; simp
  have Q2 := hide q2
  have HB0 : Hid (WrM wz.heap.size b w.heap.size l W0) := (Buil.other hW (Nat.le_refl _)).kept K0
  have hKz := KZ.size
  by_cases hz : (0 : Int) < (s.asks.length : Int)
  · have hz' : decide ((0 : Int) < (s.asks.length : Int)) = true := by simpa using hz
    have hjl : (Lib.join (texts s.asks) [44]).length ≤ 1000000 := by
      have := namesL_le h5 (fun i hi => (hF.2.2.2.1 i hi).1.2.1)
      unfold namesL at this
      rw [if_neg (by omega)] at this
      omega
    have HNm : Hid ((⟨(Lib.join (texts s.asks) [44]).toArray⟩ : ByteArray).data.toList = namesL s.asks) := by
      show _ = _
      unfold namesL
      rw [if_neg (by omega)]
    obtain ⟨nm, hnm⟩ : ∃ nm : ByteArray, nm = ⟨(Lib.join (texts s.asks) [44]).toArray⟩ := ⟨_, rfl⟩
    have HJc : Hid (Calls Tryz.prog 44 #[.slice aa s.asks.length ca, .string ⟨#[44]⟩] W0 fun e w' => e = .returned (.string nm) ∧ Kept W0 w') := by rw [hnm]; exact joinS_any W0 aa ca s.asks 44 hca (by omega) hjl (hA.kept (Kept.trans KZ K0))
    rw [← hnm] at HNm
    clear hnm hjl
    go_enter Tryz.func48, Tryz.ntmps48
    go_wp2_with fail
    rw [← hW0]
    clear hW0
    refine HJc.out.mono ?_
    rintro e W1 ⟨rfl, k1⟩
    have K1 := hide k1
    clear k1 HJc hz' hz
    go_wp2
    have HC4 : Hid (W0.cell? ⟨w.heap.size, 1, none⟩ = some (.int .i64 s.on) ∧ W0.cell? ⟨w.heap.size, 3, none⟩ = some (.int .i64 s.els) ∧ W0.cell? ⟨w.heap.size, 4, none⟩ = some (.int .i64 s.fall)) := ⟨q1, q3, q4⟩
    have HH : Hid (∀ u, Kept W0 u → (u.cell? ⟨w.heap.size, 1, none⟩ = some (.int .i64 s.on) ∧ u.cell? ⟨w.heap.size, 3, none⟩ = some (.int .i64 s.els) ∧ u.cell? ⟨w.heap.size, 4, none⟩ = some (.int .i64 s.fall))) := fun u k => ⟨(k.cell qz).trans HC4.out.1, (k.cell qz).trans HC4.out.2.1, (k.cell qz).trans HC4.out.2.2⟩
    have KX : Hid (Kept W0 W1) := K1.out
    clear q0 q1 q2 q3 q4 HC4
    refine UpTo.region (by kernel_rfl) (fun u => u.cell? ⟨w.heap.size, 1, none⟩ = some (.int .i64 s.on) ∧ u.cell? ⟨w.heap.size, 3, none⟩ = some (.int .i64 s.els) ∧ u.cell? ⟨w.heap.size, 4, none⟩ = some (.int .i64 s.fall)) 15 (HH.out _ KX.out.drew) (fun hHeld => ?_)
    have KD : Hid (Kept W0 (W1).drew) := KX.out.drew
    generalize hwd : (W1).drew = wd at KD hHeld ⊢
    clear hwd KX
    refine UpTo.take 0 [15] (v := ?_) (by (simp only [List.getElem?_toArray, List.getElem?_cons_zero]; rfl)) (by kernel_rfl) (by kernel_rfl) (by kernel_rfl) (by kernel_rfl) (by exact fun _ _ _ h => h) (Or.inl ⟨by rfl, ?_⟩) hHeld ?_
    rotate_left
    · intro u hu
      try dsimp only at hu
      go_simp
      try with_reducible rfl
    try simp only [Act.put, List.setIfInBounds_toArray, List.set_cons_zero, List.set_cons_succ]
    refine UpTo.take 1 [14, 15] (v := ?_) (by (simp only [List.getElem?_toArray, List.getElem?_cons_succ, List.getElem?_cons_zero]; rfl)) (by kernel_rfl) (by kernel_rfl) (by kernel_rfl) (by kernel_rfl) (by exact fun _ _ _ h => h) (Or.inl ⟨by rfl, ?_⟩) hHeld ?_
    rotate_left
    · intro u hu
      try dsimp only at hu
      go_simp
      try with_reducible rfl
    try simp only [Act.put, List.setIfInBounds_toArray, List.set_cons_zero, List.set_cons_succ]
    refine UpTo.take 2 [3, 4, 5, 9, 13, 14, 15] (v := ?_) (by (simp only [List.getElem?_toArray, List.getElem?_cons_succ, List.getElem?_cons_zero]; rfl)) (by kernel_rfl) (by kernel_rfl) (by kernel_rfl) (by kernel_rfl) (by exact fun _ _ _ h => h) (Or.inl ⟨by rfl, ?_⟩) hHeld ?_
    rotate_left
    · intro u hu
      try dsimp only at hu
      go_simp
      try with_reducible rfl
    try simp only [Act.put, List.setIfInBounds_toArray, List.set_cons_zero, List.set_cons_succ]
    refine UpTo.take 3 [4, 5, 9, 13, 14, 15] (v := ?_) (by (simp only [List.getElem?_toArray, List.getElem?_cons_succ, List.getElem?_cons_zero]; rfl)) (by kernel_rfl) (by kernel_rfl) (by kernel_rfl) (by kernel_rfl) (by exact fun _ _ _ h => h) (Or.inl ⟨by rfl, ?_⟩) hHeld ?_
    rotate_left
    · intro u hu
      try dsimp only at hu
      go_simp
      try with_reducible rfl
    try simp only [Act.put, List.setIfInBounds_toArray, List.set_cons_zero, List.set_cons_succ]
    refine UpTo.take 4 [5, 9, 13, 14, 15] (v := ?_) (by (simp only [List.getElem?_toArray, List.getElem?_cons_succ, List.getElem?_cons_zero]; rfl)) (by kernel_rfl) (by kernel_rfl) (by kernel_rfl) (by kernel_rfl) (by exact fun _ _ _ h => h) (Or.inl ⟨by rfl, ?_⟩) hHeld ?_
    rotate_left
    · intro u hu
      try dsimp only at hu
      go_simp
      try with_reducible rfl
    try simp only [Act.put, List.setIfInBounds_toArray, List.set_cons_zero, List.set_cons_succ]
    refine UpTo.take 6 [7, 8, 9, 13, 14, 15] (v := ?_) (by (simp only [List.getElem?_toArray, List.getElem?_cons_succ, List.getElem?_cons_zero]; rfl)) (by kernel_rfl) (by kernel_rfl) (by kernel_rfl) (by kernel_rfl) (by exact fun _ _ _ h => h) (Or.inl ⟨by rfl, ?_⟩) hHeld ?_
    rotate_left
    · intro u hu
      try dsimp only at hu
      go_simp
      try with_reducible rfl
    try simp only [Act.put, List.setIfInBounds_toArray, List.set_cons_zero, List.set_cons_succ]
    refine UpTo.take 7 [8, 9, 13, 14, 15] (v := ?_) (by (simp only [List.getElem?_toArray, List.getElem?_cons_succ, List.getElem?_cons_zero]; rfl)) (by kernel_rfl) (by kernel_rfl) (by kernel_rfl) (by kernel_rfl) (by exact fun _ _ _ h => h) (Or.inl ⟨by rfl, ?_⟩) hHeld ?_
    rotate_left
    · intro u hu
      try dsimp only at hu
      go_simp
      try with_reducible rfl
    try simp only [Act.put, List.setIfInBounds_toArray, List.set_cons_zero, List.set_cons_succ]
    refine UpTo.take 8 [9, 13, 14, 15] (v := ?_) (by (simp only [List.getElem?_toArray, List.getElem?_cons_succ, List.getElem?_cons_zero]; rfl)) (by kernel_rfl) (by kernel_rfl) (by kernel_rfl) (by kernel_rfl) (by exact fun _ _ _ h => h) (Or.inl ⟨by rfl, ?_⟩) hHeld ?_
    rotate_left
    · intro u hu
      try dsimp only at hu
      go_simp
      try with_reducible rfl
    try simp only [Act.put, List.setIfInBounds_toArray, List.set_cons_zero, List.set_cons_succ]
    refine UpTo.take 10 [11, 12, 13, 14, 15] (v := ?_) (by (simp only [List.getElem?_toArray, List.getElem?_cons_succ, List.getElem?_cons_zero]; rfl)) (by kernel_rfl) (by kernel_rfl) (by kernel_rfl) (by kernel_rfl) (by exact fun _ _ _ h => h) (Or.inl ⟨by rfl, ?_⟩) hHeld ?_
    rotate_left
    · intro u hu
      try dsimp only at hu
      go_simp
      try with_reducible rfl
    try simp only [Act.put, List.setIfInBounds_toArray, List.set_cons_zero, List.set_cons_succ]
    refine UpTo.take 11 [12, 13, 14, 15] (v := ?_) (by (simp only [List.getElem?_toArray, List.getElem?_cons_succ, List.getElem?_cons_zero]; rfl)) (by kernel_rfl) (by kernel_rfl) (by kernel_rfl) (by kernel_rfl) (by exact fun _ _ _ h => h) (Or.inl ⟨by rfl, ?_⟩) hHeld ?_
    rotate_left
    · intro u hu
      try dsimp only at hu
      go_simp
      try with_reducible rfl
    try simp only [Act.put, List.setIfInBounds_toArray, List.set_cons_zero, List.set_cons_succ]
    refine UpTo.take 12 [13, 14, 15] (v := ?_) (by (simp only [List.getElem?_toArray, List.getElem?_cons_succ, List.getElem?_cons_zero]; rfl)) (by kernel_rfl) (by kernel_rfl) (by kernel_rfl) (by kernel_rfl) (by exact fun _ _ _ h => h) (Or.inl ⟨by rfl, ?_⟩) hHeld ?_
    rotate_left
    · intro u hu
      try dsimp only at hu
      go_simp
      try with_reducible rfl
    try simp only [Act.put, List.setIfInBounds_toArray, List.set_cons_zero, List.set_cons_succ]
    refine UpTo.next 5 (by kernel_rfl) (by (simp only [List.getElem?_toArray, List.getElem?_cons_succ, List.getElem?_cons_zero]; rfl)) (fun K hK => ?_)
    rw [if_pos (by rfl)]
    go_simp
    go_at_call 31
    refine (itoa_any _ s.on hon.1 hon.2 (hP.kept (Kept.trans KZ (K0.trans KD.out)))).mono ?_
    rintro e w5 ⟨rfl, k5⟩
    dsimp only
    have K5 := hide (Kept.trans KD.out k5)
    clear k5
    refine hK.out _ _ (fun _ => HH.out _ K5.out) ?_
    clear hK K hHeld
    have hHeld := HH.out _ K5.out
    try simp only [Act.put, List.setIfInBounds_toArray, List.set_cons_zero, List.set_cons_succ]
    refine UpTo.next 9 (by kernel_rfl) (by (simp only [List.getElem?_toArray, List.getElem?_cons_succ, List.getElem?_cons_zero]; rfl)) (fun K hK => ?_)
    rw [if_pos (by rfl)]
    go_simp
    go_at_call 31
    refine (itoa_any _ s.els hels.1 hels.2 (hP.kept (Kept.trans KZ (K0.trans K5.out)))).mono ?_
    rintro e w9 ⟨rfl, k9⟩
    dsimp only
    have K9 := hide (Kept.trans K5.out k9)
    clear k9 K5
    refine hK.out _ _ (fun _ => HH.out _ K9.out) ?_
    clear hK K hHeld
    have hHeld := HH.out _ K9.out
    try simp only [Act.put, List.setIfInBounds_toArray, List.set_cons_zero, List.set_cons_succ]
    refine UpTo.next 13 (by kernel_rfl) (by (simp only [List.getElem?_toArray, List.getElem?_cons_succ, List.getElem?_cons_zero]; rfl)) (fun K hK => ?_)
    rw [if_pos (by rfl)]
    go_simp
    go_at_call 31
    refine (itoa_any _ s.fall hfall.1 hfall.2 (hP.kept (Kept.trans KZ (K0.trans K9.out)))).mono ?_
    rintro e w13 ⟨rfl, k13⟩
    dsimp only
    have K13 := hide (Kept.trans K9.out k13)
    clear k13 K9
    refine hK.out _ _ (fun _ => HH.out _ K13.out) ?_
    clear hK K hHeld
    have hHeld := HH.out _ K13.out
    try simp only [Act.put, List.setIfInBounds_toArray, List.set_cons_zero, List.set_cons_succ]
    have HL : Hid (lineL [⟨#[97, 115, 107]⟩, nm, ⟨#[111, 110]⟩, ⟨(decL s.on).toArray⟩, ⟨#[101, 108, 115, 101]⟩, ⟨(decL s.els).toArray⟩, ⟨#[102, 97, 108, 108]⟩, ⟨(decL s.fall).toArray⟩] = askL s) := by
      show _ = _
      rw [line_ask, HNm.out]
      rfl
    have hjl : (Lib.join (texts [⟨#[97, 115, 107]⟩, nm, ⟨#[111, 110]⟩, ⟨(decL s.on).toArray⟩, ⟨#[101, 108, 115, 101]⟩, ⟨(decL s.els).toArray⟩, ⟨#[102, 97, 108, 108]⟩, ⟨(decL s.fall).toArray⟩]) [32]).length ≤ 1000000 := by
      have h1 := askL_le hF
      rw [← HL.out] at h1
      unfold lineL at h1
      rw [List.length_append] at h1
      omega
    refine UpTo.next 14 (by kernel_rfl) (by (simp only [List.getElem?_toArray, List.getElem?_cons_succ, List.getElem?_cons_zero]; rfl)) (fun K hK => ?_)
    rw [if_pos (by rfl)]
    go_simp
    have K14 : Kept w13 (w13.alloc (.cells #[.string ⟨#[97, 115, 107]⟩, .string nm, .string ⟨#[111, 110]⟩, .string ⟨(decL s.on).toArray⟩, .string ⟨#[101, 108, 115, 101]⟩, .string ⟨(decL s.els).toArray⟩, .string ⟨#[102, 97, 108, 108]⟩, .string ⟨(decL s.fall).toArray⟩] 9)) := (Kept.refl _).alloc _
    have HS14 : Hid (Strs (w13.alloc (.cells #[.string ⟨#[97, 115, 107]⟩, .string nm, .string ⟨#[111, 110]⟩, .string ⟨(decL s.on).toArray⟩, .string ⟨#[101, 108, 115, 101]⟩, .string ⟨(decL s.els).toArray⟩, .string ⟨#[102, 97, 108, 108]⟩, .string ⟨(decL s.fall).toArray⟩] 9)) (some ⟨w13.heap.size, 0, none⟩) [⟨#[97, 115, 107]⟩, nm, ⟨#[111, 110]⟩, ⟨(decL s.on).toArray⟩, ⟨#[101, 108, 115, 101]⟩, ⟨(decL s.els).toArray⟩, ⟨#[102, 97, 108, 108]⟩, ⟨(decL s.fall).toArray⟩]) := strs_made w13 9 [⟨#[97, 115, 107]⟩, nm, ⟨#[111, 110]⟩, ⟨(decL s.on).toArray⟩, ⟨#[101, 108, 115, 101]⟩, ⟨(decL s.els).toArray⟩, ⟨#[102, 97, 108, 108]⟩, ⟨(decL s.fall).toArray⟩]
    have KA := hide (Kept.trans K13.out K14)
    have hHeld2 := HH.out _ KA.out
    refine hK.out _ _ (fun _ => hHeld2) ?_
    clear hK K hHeld hHeld2 K14
    try simp only [Act.put, List.setIfInBounds_toArray, List.set_cons_zero, List.set_cons_succ]
    have HWA := hide (HB0.out.kept KA.out)
    have hzA := KA.out.size
    generalize hwa : w13.alloc (.cells #[.string ⟨#[97, 115, 107]⟩, .string nm, .string ⟨#[111, 110]⟩, .string ⟨(decL s.on).toArray⟩, .string ⟨#[101, 108, 115, 101]⟩, .string ⟨(decL s.els).toArray⟩, .string ⟨#[102, 97, 108, 108]⟩, .string ⟨(decL s.fall).toArray⟩] 9) = wa at KA HS14 HWA hzA ⊢
    clear hwa
    refine UpTo.next 15 (by kernel_rfl) (by (simp only [List.getElem?_toArray, List.getElem?_cons_succ, List.getElem?_cons_zero]; rfl)) (fun K hK => ?_)
    rw [if_pos (by rfl)]
    go_simp
    go_at_call 30
    refine (line_any _ wz.heap.size b w.heap.size l (some ⟨w13.heap.size, 0, none⟩) 8 [⟨#[97, 115, 107]⟩, nm, ⟨#[111, 110]⟩, ⟨(decL s.on).toArray⟩, ⟨#[101, 108, 115, 101]⟩, ⟨(decL s.els).toArray⟩, ⟨#[102, 97, 108, 108]⟩, ⟨(decL s.fall).toArray⟩] (Nat.le_refl _) (by show 8 ≤ 100; omega) hjl (by omega) HS14.out HWA.out (by omega) (by omega)).mono ?_
    rintro e wb ⟨rfl, hWb, hbb, hsb⟩
    dsimp only
    have HWb : Hid (WrM wz.heap.size b w.heap.size (l ++ askL s) wb) := by
      have := hWb
      rw [HL.out] at this
      exact this
    have Kb : Hid (Kept wz wb) := Below.trans (Kept.trans KZ (Kept.trans K0 KA.out)) hbb
    have qb : wb.cell? ⟨w.heap.size, 2, none⟩ = some (.slice ac s.cases.length cc) := (World.cell?_of_block (a := ⟨w.heap.size, 2, none⟩) (hsb (by omega) (by omega))).trans ((KA.out.cell qz).trans Q2.out)
    have hzb := hbb.size
    clear hWb hbb hsb
    refine hK.out _ _ (fun h => absurd rfl h) ?_
    clear hK K
    try simp only [Act.put, List.setIfInBounds_toArray, List.set_cons_zero, List.set_cons_succ]
    refine UpTo.done (by kernel_rfl) ?_
    clear HL hjl HS14 HWA KA K13 HNm HH
    go_wp2
    clear qb
    go_loopw [36] (fun i wr => ∃ k : Nat, k ≤ s.cases.length ∧ i = .int .i64 k ∧ Hid (WrM wz.heap.size b b (l ++ (askL s ++ casesL (s.cases.take k))) wr) ∧ Hid (Kept wz wr)) (fun i _ => s.cases.length - (intOf i).toNat)
    case atStart => exact ⟨0, Nat.zero_le _, rfl, hide (by rw [List.take_zero, show casesL [] = [] from rfl, List.append_nil]; exact HWb.out.self), Kb⟩
    case round =>
      obtain ⟨k, hk, rfl, HR, HK⟩ := hrel
      clear HWb Kb
      have hcl := casesL_le hCs k (by omega)
      have hal := askL_le hF
      have hzr : wz.heap.size ≤ wr.heap.size := HK.out.size
      by_cases hlt : (k : Int) < (s.cases.length : Int)
      · have hkl : k < s.cases.length := by omega
        obtain ⟨cb, co, rfl, hcb, hcc⟩ := (hC.kept HK.out) k hkl
        have hck := hCs k hkl
        unfold CaseOkAt CaseOk at hck
        have HTk := hide (casesL_take_succ s.cases k hkl)
        obtain ⟨x, hx⟩ : ∃ x, x = s.cases.getD k CaseD.zero := ⟨_, rfl⟩
        rw [← hx] at hcc hck HTk
        have t0 := hcc 0 _ rfl
        have t1 := hcc 1 _ rfl
        rw [Nat.add_zero] at t0
        clear hcc hx
        obtain ⟨cs, hcs⟩ : ∃ cs, cs = casesL (s.cases.take k) := ⟨_, rfl⟩
        rw [← hcs] at HR HTk hcl
        clear hcs
        obtain ⟨W2, hW2⟩ : ∃ W2, W2 = wr.alloc (.cells #[.string x.text, .int .i64 x.goto] 68) := ⟨_, rfl⟩
        have K2 : Hid (Kept wr W2) := by rw [hW2]; exact (Kept.refl _).alloc _
        have p0 : W2.cell? ⟨wr.heap.size, 0, none⟩ = some (.string x.text) := by rw [hW2]; exact range_made wr #[.string x.text, .int .i64 x.goto] 68 0 _ rfl
        have p1 : W2.cell? ⟨wr.heap.size, 1, none⟩ = some (.int .i64 x.goto) := by rw [hW2]; exact range_made wr #[.string x.text, .int .i64 x.goto] 68 1 _ rfl
        have pz : wr.heap.size < W2.heap.size := by rw [hW2]; simp
        go_wp2
        rw [← hW2]
        clear hW2
        have HP2 : Hid (W2.cell? ⟨wr.heap.size, 0, none⟩ = some (.string x.text) ∧ W2.cell? ⟨wr.heap.size, 1, none⟩ = some (.int .i64 x.goto)) := ⟨p0, p1⟩
        have HH : Hid (∀ u, Kept W2 u → (u.cell? ⟨wr.heap.size, 0, none⟩ = some (.string x.text) ∧ u.cell? ⟨wr.heap.size, 1, none⟩ = some (.int .i64 x.goto))) := fun u k => ⟨(k.cell pz).trans HP2.out.1, (k.cell pz).trans HP2.out.2⟩
        clear p0 p1 t0 t1
        refine UpTo.region (by kernel_rfl) (fun u => u.cell? ⟨wr.heap.size, 0, none⟩ = some (.string x.text) ∧ u.cell? ⟨wr.heap.size, 1, none⟩ = some (.int .i64 x.goto)) 8 (HH.out _ ((Kept.refl W2).drew)) (fun hHeld => ?_)
        have KD : Hid (Kept W2 W2.drew) := (Kept.refl W2).drew
        generalize hwd : W2.drew = wd at KD hHeld ⊢
        clear hwd
        refine UpTo.take 0 [8] (v := ?_) (by (simp only [List.getElem?_toArray, List.getElem?_cons_zero]; rfl)) (by kernel_rfl) (by kernel_rfl) (by kernel_rfl) (by kernel_rfl) (by exact fun _ _ _ h => h) (Or.inl ⟨by rfl, ?_⟩) hHeld ?_
        rotate_left
        · intro u hu
          try dsimp only at hu
          go_simp
          try with_reducible rfl
        try simp only [Act.put, List.setIfInBounds_toArray, List.set_cons_zero, List.set_cons_succ]
        refine UpTo.take 1 [2, 3, 6, 7, 8] (v := ?_) (by (simp only [List.getElem?_toArray, List.getElem?_cons_succ, List.getElem?_cons_zero]; rfl)) (by kernel_rfl) (by kernel_rfl) (by kernel_rfl) (by kernel_rfl) (by exact fun _ _ _ h => h) (Or.inl ⟨by rfl, ?_⟩) hHeld ?_
        rotate_left
        · intro u hu
          try dsimp only at hu
          go_simp
          try with_reducible rfl
        try simp only [Act.put, List.setIfInBounds_toArray, List.set_cons_zero, List.set_cons_succ]
        refine UpTo.take 2 [3, 6, 7, 8] (v := ?_) (by (simp only [List.getElem?_toArray, List.getElem?_cons_succ, List.getElem?_cons_zero]; rfl)) (by kernel_rfl) (by kernel_rfl) (by kernel_rfl) (by kernel_rfl) (by exact fun _ _ _ h => h) (Or.inl ⟨by rfl, ?_⟩) hHeld ?_
        rotate_left
        · intro u hu
          try dsimp only at hu
          go_simp
          try with_reducible rfl
        try simp only [Act.put, List.setIfInBounds_toArray, List.set_cons_zero, List.set_cons_succ]
        refine UpTo.take 4 [5, 6, 7, 8] (v := ?_) (by (simp only [List.getElem?_toArray, List.getElem?_cons_succ, List.getElem?_cons_zero]; rfl)) (by kernel_rfl) (by kernel_rfl) (by kernel_rfl) (by kernel_rfl) (by exact fun _ _ _ h => h) (Or.inl ⟨by rfl, ?_⟩) hHeld ?_
        rotate_left
        · intro u hu
          try dsimp only at hu
          go_simp
          try with_reducible rfl
        try simp only [Act.put, List.setIfInBounds_toArray, List.set_cons_zero, List.set_cons_succ]
        refine UpTo.take 5 [6, 7, 8] (v := ?_) (by (simp only [List.getElem?_toArray, List.getElem?_cons_succ, List.getElem?_cons_zero]; rfl)) (by kernel_rfl) (by kernel_rfl) (by kernel_rfl) (by kernel_rfl) (by exact fun _ _ _ h => h) (Or.inl ⟨by rfl, ?_⟩) hHeld ?_
        rotate_left
        · intro u hu
          try dsimp only at hu
          go_simp
          try with_reducible rfl
        try simp only [Act.put, List.setIfInBounds_toArray, List.set_cons_zero, List.set_cons_succ]
        refine UpTo.next 3 (by kernel_rfl) (by (simp only [List.getElem?_toArray, List.getElem?_cons_succ, List.getElem?_cons_zero]; rfl)) (fun K hK => ?_)
        rw [if_pos (by rfl)]
        go_simp
        go_at_call 31
        refine (itoa_any _ x.goto (by omega) (by omega) (hP.kept (Kept.trans HK.out (Kept.trans K2.out KD.out)))).mono ?_
        rintro e w3 ⟨rfl, k3⟩
        dsimp only
        have K3 := hide (Kept.trans KD.out k3)
        clear k3 KD
        refine hK.out _ _ (fun _ => HH.out _ K3.out) ?_
        clear hK K hHeld
        have hHeld := HH.out _ K3.out
        try simp only [Act.put, List.setIfInBounds_toArray, List.set_cons_zero, List.set_cons_succ]
        refine UpTo.next 6 (by kernel_rfl) (by (simp only [List.getElem?_toArray, List.getElem?_cons_succ, List.getElem?_cons_zero]; rfl)) (fun K hK => ?_)
        rw [if_pos (by rfl)]
        go_simp
        go_at_call 47
        refine (quote_any _ x.text (by omega) (hT.kept (Kept.trans HK.out (Kept.trans K2.out K3.out)))).mono ?_
        rintro e w6 ⟨rfl, k6⟩
        dsimp only
        have K6 := hide (Kept.trans K3.out k6)
        clear k6 K3
        refine hK.out _ _ (fun _ => HH.out _ K6.out) ?_
        clear hK K hHeld
        have hHeld := HH.out _ K6.out
        try simp only [Act.put, List.setIfInBounds_toArray, List.set_cons_zero, List.set_cons_succ]
        have HL : Hid (lineL [⟨#[99, 97, 115, 101]⟩, ⟨(decL x.goto).toArray⟩, ⟨(quoteL x.text.data.toList).toArray⟩] = caseL x) := line_case _ _
        have hjl : (Lib.join (texts [⟨#[99, 97, 115, 101]⟩, ⟨(decL x.goto).toArray⟩, ⟨(quoteL x.text.data.toList).toArray⟩]) [32]).length ≤ 1000000 := by
          have h1 := caseL_le hck.1
          rw [← HL.out] at h1
          unfold lineL at h1
          rw [List.length_append] at h1
          omega
        refine UpTo.next 7 (by kernel_rfl) (by (simp only [List.getElem?_toArray, List.getElem?_cons_succ, List.getElem?_cons_zero]; rfl)) (fun K hK => ?_)
        rw [if_pos (by rfl)]
        go_simp
        have K7 : Kept w6 (w6.alloc (.cells #[.string ⟨#[99, 97, 115, 101]⟩, .string ⟨(decL x.goto).toArray⟩, .string ⟨(quoteL x.text.data.toList).toArray⟩] 9)) := (Kept.refl _).alloc _
        have HS7 : Hid (Strs (w6.alloc (.cells #[.string ⟨#[99, 97, 115, 101]⟩, .string ⟨(decL x.goto).toArray⟩, .string ⟨(quoteL x.text.data.toList).toArray⟩] 9)) (some ⟨w6.heap.size, 0, none⟩) [⟨#[99, 97, 115, 101]⟩, ⟨(decL x.goto).toArray⟩, ⟨(quoteL x.text.data.toList).toArray⟩]) := strs_made w6 9 [⟨#[99, 97, 115, 101]⟩, ⟨(decL x.goto).toArray⟩, ⟨(quoteL x.text.data.toList).toArray⟩]
        have KA := hide (Kept.trans K6.out K7)
        have hHeld2 := HH.out _ KA.out
        refine hK.out _ _ (fun _ => hHeld2) ?_
        clear hK K hHeld hHeld2 K7
        try simp only [Act.put, List.setIfInBounds_toArray, List.set_cons_zero, List.set_cons_succ]
        have HWA := hide (HR.out.kept (Kept.trans K2.out KA.out))
        have hzA := KA.out.size
        have hbA := HWA.out.lt
        generalize hwa : w6.alloc (.cells #[.string ⟨#[99, 97, 115, 101]⟩, .string ⟨(decL x.goto).toArray⟩, .string ⟨(quoteL x.text.data.toList).toArray⟩] 9) = wa at KA HS7 HWA hzA hbA ⊢
        clear hwa
        have hll : (l ++ (askL s ++ cs)).length ≤ 100000000 := by rw [List.length_append, List.length_append]; omega
        refine UpTo.next 8 (by kernel_rfl) (by (simp only [List.getElem?_toArray, List.getElem?_cons_succ, List.getElem?_cons_zero]; rfl)) (fun K hK => ?_)
        rw [if_pos (by rfl)]
        go_simp
        go_at_call 30
        refine (line_any _ wz.heap.size b b (l ++ (askL s ++ cs)) (some ⟨w6.heap.size, 0, none⟩) 3 [⟨#[99, 97, 115, 101]⟩, ⟨(decL x.goto).toArray⟩, ⟨(quoteL x.text.data.toList).toArray⟩] (Nat.le_refl _) (by show 3 ≤ 100; omega) hjl hll HS7.out HWA.out (by omega) (by omega)).mono ?_
        rintro e wb ⟨rfl, hWb, hbb, _⟩
        dsimp only
        have HWb : Hid (WrM wz.heap.size b b (l ++ (askL s ++ (cs ++ caseL x))) wb) := by
          have h := hWb
          rw [HL.out, List.append_assoc, List.append_assoc] at h
          exact h
        have Kb : Hid (Kept wz wb) := Below.trans (Kept.trans HK.out (Kept.trans K2.out KA.out)) hbb
        clear hWb hbb
        refine hK.out _ _ (fun h => absurd rfl h) ?_
        clear hK K
        try simp only [Act.put, List.setIfInBounds_toArray, List.set_cons_zero, List.set_cons_succ]
        refine UpTo.done (by kernel_rfl) ?_
        clear HL hjl HS7 HWA KA K6 HH HP2
        go_wp2
        go_roundw
        case rel => exact ⟨k + 1, by omega, by go_num, by rw [HTk.out]; exact HWb, Kb⟩
        case measure => simp [intOf]; omega
      · obtain rfl : k = s.cases.length := by omega
        rw [List.take_length] at HR
        go_wp2
        go_end0
        exact ⟨rfl, HR.out, HK.out⟩
  · have hz' : decide ((0 : Int) < (s.asks.length : Int)) = false := by simpa using hz
    have HNm : Hid ((⟨#[45]⟩ : ByteArray).data.toList = namesL s.asks) := by
      show _ = _
      unfold namesL
      rw [if_pos (by omega)]
    go_enter Tryz.func48, Tryz.ntmps48
    go_wp2
    rw [← hW0]
    clear hW0 hz' hz
    have HC4 : Hid (W0.cell? ⟨w.heap.size, 1, none⟩ = some (.int .i64 s.on) ∧ W0.cell? ⟨w.heap.size, 3, none⟩ = some (.int .i64 s.els) ∧ W0.cell? ⟨w.heap.size, 4, none⟩ = some (.int .i64 s.fall)) := ⟨q1, q3, q4⟩
    have HH : Hid (∀ u, Kept W0 u → (u.cell? ⟨w.heap.size, 1, none⟩ = some (.int .i64 s.on) ∧ u.cell? ⟨w.heap.size, 3, none⟩ = some (.int .i64 s.els) ∧ u.cell? ⟨w.heap.size, 4, none⟩ = some (.int .i64 s.fall))) := fun u k => ⟨(k.cell qz).trans HC4.out.1, (k.cell qz).trans HC4.out.2.1, (k.cell qz).trans HC4.out.2.2⟩
    have KX : Hid (Kept W0 W0) := Kept.refl _
    clear q0 q1 q2 q3 q4 HC4
    refine UpTo.region (by kernel_rfl) (fun u => u.cell? ⟨w.heap.size, 1, none⟩ = some (.int .i64 s.on) ∧ u.cell? ⟨w.heap.size, 3, none⟩ = some (.int .i64 s.els) ∧ u.cell? ⟨w.heap.size, 4, none⟩ = some (.int .i64 s.fall)) 15 (HH.out _ KX.out.drew) (fun hHeld => ?_)
    have KD : Hid (Kept W0 (W0).drew) := KX.out.drew
    generalize hwd : (W0).drew = wd at KD hHeld ⊢
    clear hwd KX
    refine UpTo.take 0 [15] (v := ?_) (by (simp only [List.getElem?_toArray, List.getElem?_cons_zero]; rfl)) (by kernel_rfl) (by kernel_rfl) (by kernel_rfl) (by kernel_rfl) (by exact fun _ _ _ h => h) (Or.inl ⟨by rfl, ?_⟩) hHeld ?_
    rotate_left
    · intro u hu
      try dsimp only at hu
      go_simp
      try with_reducible rfl
    try simp only [Act.put, List.setIfInBounds_toArray, List.set_cons_zero, List.set_cons_succ]
    refine UpTo.take 1 [14, 15] (v := ?_) (by (simp only [List.getElem?_toArray, List.getElem?_cons_succ, List.getElem?_cons_zero]; rfl)) (by kernel_rfl) (by kernel_rfl) (by kernel_rfl) (by kernel_rfl) (by exact fun _ _ _ h => h) (Or.inl ⟨by rfl, ?_⟩) hHeld ?_
    rotate_left
    · intro u hu
      try dsimp only at hu
      go_simp
      try with_reducible rfl
    try simp only [Act.put, List.setIfInBounds_toArray, List.set_cons_zero, List.set_cons_succ]
    refine UpTo.take 2 [3, 4, 5, 9, 13, 14, 15] (v := ?_) (by (simp only [List.getElem?_toArray, List.getElem?_cons_succ, List.getElem?_cons_zero]; rfl)) (by kernel_rfl) (by kernel_rfl) (by kernel_rfl) (by kernel_rfl) (by exact fun _ _ _ h => h) (Or.inl ⟨by rfl, ?_⟩) hHeld ?_
    rotate_left
    · intro u hu
      try dsimp only at hu
      go_simp
      try with_reducible rfl
    try simp only [Act.put, List.setIfInBounds_toArray, List.set_cons_zero, List.set_cons_succ]
    refine UpTo.take 3 [4, 5, 9, 13, 14, 15] (v := ?_) (by (simp only [List.getElem?_toArray, List.getElem?_cons_succ, List.getElem?_cons_zero]; rfl)) (by kernel_rfl) (by kernel_rfl) (by kernel_rfl) (by kernel_rfl) (by exact fun _ _ _ h => h) (Or.inl ⟨by rfl, ?_⟩) hHeld ?_
    rotate_left
    · intro u hu
      try dsimp only at hu
      go_simp
      try with_reducible rfl
    try simp only [Act.put, List.setIfInBounds_toArray, List.set_cons_zero, List.set_cons_succ]
    refine UpTo.take 4 [5, 9, 13, 14, 15] (v := ?_) (by (simp only [List.getElem?_toArray, List.getElem?_cons_succ, List.getElem?_cons_zero]; rfl)) (by kernel_rfl) (by kernel_rfl) (by kernel_rfl) (by kernel_rfl) (by exact fun _ _ _ h => h) (Or.inl ⟨by rfl, ?_⟩) hHeld ?_
    rotate_left
    · intro u hu
      try dsimp only at hu
      go_simp
      try with_reducible rfl
    try simp only [Act.put, List.setIfInBounds_toArray, List.set_cons_zero, List.set_cons_succ]
    refine UpTo.take 6 [7, 8, 9, 13, 14, 15] (v := ?_) (by (simp only [List.getElem?_toArray, List.getElem?_cons_succ, List.getElem?_cons_zero]; rfl)) (by kernel_rfl) (by kernel_rfl) (by kernel_rfl) (by kernel_rfl) (by exact fun _ _ _ h => h) (Or.inl ⟨by rfl, ?_⟩) hHeld ?_
    rotate_left
    · intro u hu
      try dsimp only at hu
      go_simp
      try with_reducible rfl
    try simp only [Act.put, List.setIfInBounds_toArray, List.set_cons_zero, List.set_cons_succ]
    refine UpTo.take 7 [8, 9, 13, 14, 15] (v := ?_) (by (simp only [List.getElem?_toArray, List.getElem?_cons_succ, List.getElem?_cons_zero]; rfl)) (by kernel_rfl) (by kernel_rfl) (by kernel_rfl) (by kernel_rfl) (by exact fun _ _ _ h => h) (Or.inl ⟨by rfl, ?_⟩) hHeld ?_
    rotate_left
    · intro u hu
      try dsimp only at hu
      go_simp
      try with_reducible rfl
    try simp only [Act.put, List.setIfInBounds_toArray, List.set_cons_zero, List.set_cons_succ]
    refine UpTo.take 8 [9, 13, 14, 15] (v := ?_) (by (simp only [List.getElem?_toArray, List.getElem?_cons_succ, List.getElem?_cons_zero]; rfl)) (by kernel_rfl) (by kernel_rfl) (by kernel_rfl) (by kernel_rfl) (by exact fun _ _ _ h => h) (Or.inl ⟨by rfl, ?_⟩) hHeld ?_
    rotate_left
    · intro u hu
      try dsimp only at hu
      go_simp
      try with_reducible rfl
    try simp only [Act.put, List.setIfInBounds_toArray, List.set_cons_zero, List.set_cons_succ]
    refine UpTo.take 10 [11, 12, 13, 14, 15] (v := ?_) (by (simp only [List.getElem?_toArray, List.getElem?_cons_succ, List.getElem?_cons_zero]; rfl)) (by kernel_rfl) (by kernel_rfl) (by kernel_rfl) (by kernel_rfl) (by exact fun _ _ _ h => h) (Or.inl ⟨by rfl, ?_⟩) hHeld ?_
    rotate_left
    · intro u hu
      try dsimp only at hu
      go_simp
      try with_reducible rfl
    try simp only [Act.put, List.setIfInBounds_toArray, List.set_cons_zero, List.set_cons_succ]
    refine UpTo.take 11 [12, 13, 14, 15] (v := ?_) (by (simp only [List.getElem?_toArray, List.getElem?_cons_succ, List.getElem?_cons_zero]; rfl)) (by kernel_rfl) (by kernel_rfl) (by kernel_rfl) (by kernel_rfl) (by exact fun _ _ _ h => h) (Or.inl ⟨by rfl, ?_⟩) hHeld ?_
    rotate_left
    · intro u hu
      try dsimp only at hu
      go_simp
      try with_reducible rfl
    try simp only [Act.put, List.setIfInBounds_toArray, List.set_cons_zero, List.set_cons_succ]
    refine UpTo.take 12 [13, 14, 15] (v := ?_) (by (simp only [List.getElem?_toArray, List.getElem?_cons_succ, List.getElem?_cons_zero]; rfl)) (by kernel_rfl) (by kernel_rfl) (by kernel_rfl) (by kernel_rfl) (by exact fun _ _ _ h => h) (Or.inl ⟨by rfl, ?_⟩) hHeld ?_
    rotate_left
    · intro u hu
      try dsimp only at hu
      go_simp
      try with_reducible rfl
    try simp only [Act.put, List.setIfInBounds_toArray, List.set_cons_zero, List.set_cons_succ]
    refine UpTo.next 5 (by kernel_rfl) (by (simp only [List.getElem?_toArray, List.getElem?_cons_succ, List.getElem?_cons_zero]; rfl)) (fun K hK => ?_)
    rw [if_pos (by rfl)]
    go_simp
    go_at_call 31
    refine (itoa_any _ s.on hon.1 hon.2 (hP.kept (Kept.trans KZ (K0.trans KD.out)))).mono ?_
    rintro e w5 ⟨rfl, k5⟩
    dsimp only
    have K5 := hide (Kept.trans KD.out k5)
    clear k5
    refine hK.out _ _ (fun _ => HH.out _ K5.out) ?_
    clear hK K hHeld
    have hHeld := HH.out _ K5.out
    try simp only [Act.put, List.setIfInBounds_toArray, List.set_cons_zero, List.set_cons_succ]
    refine UpTo.next 9 (by kernel_rfl) (by (simp only [List.getElem?_toArray, List.getElem?_cons_succ, List.getElem?_cons_zero]; rfl)) (fun K hK => ?_)
    rw [if_pos (by rfl)]
    go_simp
    go_at_call 31
    refine (itoa_any _ s.els hels.1 hels.2 (hP.kept (Kept.trans KZ (K0.trans K5.out)))).mono ?_
    rintro e w9 ⟨rfl, k9⟩
    dsimp only
    have K9 := hide (Kept.trans K5.out k9)
    clear k9 K5
    refine hK.out _ _ (fun _ => HH.out _ K9.out) ?_
    clear hK K hHeld
    have hHeld := HH.out _ K9.out
    try simp only [Act.put, List.setIfInBounds_toArray, List.set_cons_zero, List.set_cons_succ]
    refine UpTo.next 13 (by kernel_rfl) (by (simp only [List.getElem?_toArray, List.getElem?_cons_succ, List.getElem?_cons_zero]; rfl)) (fun K hK => ?_)
    rw [if_pos (by rfl)]
    go_simp
    go_at_call 31
    refine (itoa_any _ s.fall hfall.1 hfall.2 (hP.kept (Kept.trans KZ (K0.trans K9.out)))).mono ?_
    rintro e w13 ⟨rfl, k13⟩
    dsimp only
    have K13 := hide (Kept.trans K9.out k13)
    clear k13 K9
    refine hK.out _ _ (fun _ => HH.out _ K13.out) ?_
    clear hK K hHeld
    have hHeld := HH.out _ K13.out
    try simp only [Act.put, List.setIfInBounds_toArray, List.set_cons_zero, List.set_cons_succ]
    have HL : Hid (lineL [⟨#[97, 115, 107]⟩, (⟨#[45]⟩ : ByteArray), ⟨#[111, 110]⟩, ⟨(decL s.on).toArray⟩, ⟨#[101, 108, 115, 101]⟩, ⟨(decL s.els).toArray⟩, ⟨#[102, 97, 108, 108]⟩, ⟨(decL s.fall).toArray⟩] = askL s) := by
      show _ = _
      rw [line_ask, HNm.out]
      rfl
    have hjl : (Lib.join (texts [⟨#[97, 115, 107]⟩, (⟨#[45]⟩ : ByteArray), ⟨#[111, 110]⟩, ⟨(decL s.on).toArray⟩, ⟨#[101, 108, 115, 101]⟩, ⟨(decL s.els).toArray⟩, ⟨#[102, 97, 108, 108]⟩, ⟨(decL s.fall).toArray⟩]) [32]).length ≤ 1000000 := by
      have h1 := askL_le hF
      rw [← HL.out] at h1
      unfold lineL at h1
      rw [List.length_append] at h1
      omega
    refine UpTo.next 14 (by kernel_rfl) (by (simp only [List.getElem?_toArray, List.getElem?_cons_succ, List.getElem?_cons_zero]; rfl)) (fun K hK => ?_)
    rw [if_pos (by rfl)]
    go_simp
    have K14 : Kept w13 (w13.alloc (.cells #[.string ⟨#[97, 115, 107]⟩, .string (⟨#[45]⟩ : ByteArray), .string ⟨#[111, 110]⟩, .string ⟨(decL s.on).toArray⟩, .string ⟨#[101, 108, 115, 101]⟩, .string ⟨(decL s.els).toArray⟩, .string ⟨#[102, 97, 108, 108]⟩, .string ⟨(decL s.fall).toArray⟩] 9)) := (Kept.refl _).alloc _
    have HS14 : Hid (Strs (w13.alloc (.cells #[.string ⟨#[97, 115, 107]⟩, .string (⟨#[45]⟩ : ByteArray), .string ⟨#[111, 110]⟩, .string ⟨(decL s.on).toArray⟩, .string ⟨#[101, 108, 115, 101]⟩, .string ⟨(decL s.els).toArray⟩, .string ⟨#[102, 97, 108, 108]⟩, .string ⟨(decL s.fall).toArray⟩] 9)) (some ⟨w13.heap.size, 0, none⟩) [⟨#[97, 115, 107]⟩, (⟨#[45]⟩ : ByteArray), ⟨#[111, 110]⟩, ⟨(decL s.on).toArray⟩, ⟨#[101, 108, 115, 101]⟩, ⟨(decL s.els).toArray⟩, ⟨#[102, 97, 108, 108]⟩, ⟨(decL s.fall).toArray⟩]) := strs_made w13 9 [⟨#[97, 115, 107]⟩, (⟨#[45]⟩ : ByteArray), ⟨#[111, 110]⟩, ⟨(decL s.on).toArray⟩, ⟨#[101, 108, 115, 101]⟩, ⟨(decL s.els).toArray⟩, ⟨#[102, 97, 108, 108]⟩, ⟨(decL s.fall).toArray⟩]
    have KA := hide (Kept.trans K13.out K14)
    have hHeld2 := HH.out _ KA.out
    refine hK.out _ _ (fun _ => hHeld2) ?_
    clear hK K hHeld hHeld2 K14
    try simp only [Act.put, List.setIfInBounds_toArray, List.set_cons_zero, List.set_cons_succ]
    have HWA := hide (HB0.out.kept KA.out)
    have hzA := KA.out.size
    generalize hwa : w13.alloc (.cells #[.string ⟨#[97, 115, 107]⟩, .string (⟨#[45]⟩ : ByteArray), .string ⟨#[111, 110]⟩, .string ⟨(decL s.on).toArray⟩, .string ⟨#[101, 108, 115, 101]⟩, .string ⟨(decL s.els).toArray⟩, .string ⟨#[102, 97, 108, 108]⟩, .string ⟨(decL s.fall).toArray⟩] 9) = wa at KA HS14 HWA hzA ⊢
    clear hwa
    refine UpTo.next 15 (by kernel_rfl) (by (simp only [List.getElem?_toArray, List.getElem?_cons_succ, List.getElem?_cons_zero]; rfl)) (fun K hK => ?_)
    rw [if_pos (by rfl)]
    go_simp
    go_at_call 30
    refine (line_any _ wz.heap.size b w.heap.size l (some ⟨w13.heap.size, 0, none⟩) 8 [⟨#[97, 115, 107]⟩, (⟨#[45]⟩ : ByteArray), ⟨#[111, 110]⟩, ⟨(decL s.on).toArray⟩, ⟨#[101, 108, 115, 101]⟩, ⟨(decL s.els).toArray⟩, ⟨#[102, 97, 108, 108]⟩, ⟨(decL s.fall).toArray⟩] (Nat.le_refl _) (by show 8 ≤ 100; omega) hjl (by omega) HS14.out HWA.out (by omega) (by omega)).mono ?_
    rintro e wb ⟨rfl, hWb, hbb, hsb⟩
    dsimp only
    have HWb : Hid (WrM wz.heap.size b w.heap.size (l ++ askL s) wb) := by
      have := hWb
      rw [HL.out] at this
      exact this
    have Kb : Hid (Kept wz wb) := Below.trans (Kept.trans KZ (Kept.trans K0 KA.out)) hbb
    have qb : wb.cell? ⟨w.heap.size, 2, none⟩ = some (.slice ac s.cases.length cc) := (World.cell?_of_block (a := ⟨w.heap.size, 2, none⟩) (hsb (by omega) (by omega))).trans ((KA.out.cell qz).trans Q2.out)
    have hzb := hbb.size
    clear hWb hbb hsb
    refine hK.out _ _ (fun h => absurd rfl h) ?_
    clear hK K
    try simp only [Act.put, List.setIfInBounds_toArray, List.set_cons_zero, List.set_cons_succ]
    refine UpTo.done (by kernel_rfl) ?_
    clear HL hjl HS14 HWA KA K13 HNm HH
    go_wp2
    clear qb
    go_loopw [36] (fun i wr => ∃ k : Nat, k ≤ s.cases.length ∧ i = .int .i64 k ∧ Hid (WrM wz.heap.size b b (l ++ (askL s ++ casesL (s.cases.take k))) wr) ∧ Hid (Kept wz wr)) (fun i _ => s.cases.length - (intOf i).toNat)
    case atStart => exact ⟨0, Nat.zero_le _, rfl, hide (by rw [List.take_zero, show casesL [] = [] from rfl, List.append_nil]; exact HWb.out.self), Kb⟩
    case round =>
      obtain ⟨k, hk, rfl, HR, HK⟩ := hrel
      clear HWb Kb
      have hcl := casesL_le hCs k (by omega)
      have hal := askL_le hF
      have hzr : wz.heap.size ≤ wr.heap.size := HK.out.size
      by_cases hlt : (k : Int) < (s.cases.length : Int)
      · have hkl : k < s.cases.length := by omega
        obtain ⟨cb, co, rfl, hcb, hcc⟩ := (hC.kept HK.out) k hkl
        have hck := hCs k hkl
        unfold CaseOkAt CaseOk at hck
        have HTk := hide (casesL_take_succ s.cases k hkl)
        obtain ⟨x, hx⟩ : ∃ x, x = s.cases.getD k CaseD.zero := ⟨_, rfl⟩
        rw [← hx] at hcc hck HTk
        have t0 := hcc 0 _ rfl
        have t1 := hcc 1 _ rfl
        rw [Nat.add_zero] at t0
        clear hcc hx
        obtain ⟨cs, hcs⟩ : ∃ cs, cs = casesL (s.cases.take k) := ⟨_, rfl⟩
        rw [← hcs] at HR HTk hcl
        clear hcs
        obtain ⟨W2, hW2⟩ : ∃ W2, W2 = wr.alloc (.cells #[.string x.text, .int .i64 x.goto] 68) := ⟨_, rfl⟩
        have K2 : Hid (Kept wr W2) := by rw [hW2]; exact (Kept.refl _).alloc _
        have p0 : W2.cell? ⟨wr.heap.size, 0, none⟩ = some (.string x.text) := by rw [hW2]; exact range_made wr #[.string x.text, .int .i64 x.goto] 68 0 _ rfl
        have p1 : W2.cell? ⟨wr.heap.size, 1, none⟩ = some (.int .i64 x.goto) := by rw [hW2]; exact range_made wr #[.string x.text, .int .i64 x.goto] 68 1 _ rfl
        have pz : wr.heap.size < W2.heap.size := by rw [hW2]; simp
        go_wp2
        rw [← hW2]
        clear hW2
        have HP2 : Hid (W2.cell? ⟨wr.heap.size, 0, none⟩ = some (.string x.text) ∧ W2.cell? ⟨wr.heap.size, 1, none⟩ = some (.int .i64 x.goto)) := ⟨p0, p1⟩
        have HH : Hid (∀ u, Kept W2 u → (u.cell? ⟨wr.heap.size, 0, none⟩ = some (.string x.text) ∧ u.cell? ⟨wr.heap.size, 1, none⟩ = some (.int .i64 x.goto))) := fun u k => ⟨(k.cell pz).trans HP2.out.1, (k.cell pz).trans HP2.out.2⟩
        clear p0 p1 t0 t1
        refine UpTo.region (by kernel_rfl) (fun u => u.cell? ⟨wr.heap.size, 0, none⟩ = some (.string x.text) ∧ u.cell? ⟨wr.heap.size, 1, none⟩ = some (.int .i64 x.goto)) 8 (HH.out _ ((Kept.refl W2).drew)) (fun hHeld => ?_)
        have KD : Hid (Kept W2 W2.drew) := (Kept.refl W2).drew
        generalize hwd : W2.drew = wd at KD hHeld ⊢
        clear hwd
        refine UpTo.take 0 [8] (v := ?_) (by (simp only [List.getElem?_toArray, List.getElem?_cons_zero]; rfl)) (by kernel_rfl) (by kernel_rfl) (by kernel_rfl) (by kernel_rfl) (by exact fun _ _ _ h => h) (Or.inl ⟨by rfl, ?_⟩) hHeld ?_
        rotate_left
        · intro u hu
          try dsimp only at hu
          go_simp
          try with_reducible rfl
        try simp only [Act.put, List.setIfInBounds_toArray, List.set_cons_zero, List.set_cons_succ]
        refine UpTo.take 1 [2, 3, 6, 7, 8] (v := ?_) (by (simp only [List.getElem?_toArray, List.getElem?_cons_succ, List.getElem?_cons_zero]; rfl)) (by kernel_rfl) (by kernel_rfl) (by kernel_rfl) (by kernel_rfl) (by exact fun _ _ _ h => h) (Or.inl ⟨by rfl, ?_⟩) hHeld ?_
        rotate_left
        · intro u hu
          try dsimp only at hu
          go_simp
          try with_reducible rfl
        try simp only [Act.put, List.setIfInBounds_toArray, List.set_cons_zero, List.set_cons_succ]
        refine UpTo.take 2 [3, 6, 7, 8] (v := ?_) (by (simp only [List.getElem?_toArray, List.getElem?_cons_succ, List.getElem?_cons_zero]; rfl)) (by kernel_rfl) (by kernel_rfl) (by kernel_rfl) (by kernel_rfl) (by exact fun _ _ _ h => h) (Or.inl ⟨by rfl, ?_⟩) hHeld ?_
        rotate_left
        · intro u hu
          try dsimp only at hu
          go_simp
          try with_reducible rfl
        try simp only [Act.put, List.setIfInBounds_toArray, List.set_cons_zero, List.set_cons_succ]
        refine UpTo.take 4 [5, 6, 7, 8] (v := ?_) (by (simp only [List.getElem?_toArray, List.getElem?_cons_succ, List.getElem?_cons_zero]; rfl)) (by kernel_rfl) (by kernel_rfl) (by kernel_rfl) (by kernel_rfl) (by exact fun _ _ _ h => h) (Or.inl ⟨by rfl, ?_⟩) hHeld ?_
        rotate_left
        · intro u hu
          try dsimp only at hu
          go_simp
          try with_reducible rfl
        try simp only [Act.put, List.setIfInBounds_toArray, List.set_cons_zero, List.set_cons_succ]
        refine UpTo.take 5 [6, 7, 8] (v := ?_) (by (simp only [List.getElem?_toArray, List.getElem?_cons_succ, List.getElem?_cons_zero]; rfl)) (by kernel_rfl) (by kernel_rfl) (by kernel_rfl) (by kernel_rfl) (by exact fun _ _ _ h => h) (Or.inl ⟨by rfl, ?_⟩) hHeld ?_
        rotate_left
        · intro u hu
          try dsimp only at hu
          go_simp
          try with_reducible rfl
        try simp only [Act.put, List.setIfInBounds_toArray, List.set_cons_zero, List.set_cons_succ]
        refine UpTo.next 3 (by kernel_rfl) (by (simp only [List.getElem?_toArray, List.getElem?_cons_succ, List.getElem?_cons_zero]; rfl)) (fun K hK => ?_)
        rw [if_pos (by rfl)]
        go_simp
        go_at_call 31
        refine (itoa_any _ x.goto (by omega) (by omega) (hP.kept (Kept.trans HK.out (Kept.trans K2.out KD.out)))).mono ?_
        rintro e w3 ⟨rfl, k3⟩
        dsimp only
        have K3 := hide (Kept.trans KD.out k3)
        clear k3 KD
        refine hK.out _ _ (fun _ => HH.out _ K3.out) ?_
        clear hK K hHeld
        have hHeld := HH.out _ K3.out
        try simp only [Act.put, List.setIfInBounds_toArray, List.set_cons_zero, List.set_cons_succ]
        refine UpTo.next 6 (by kernel_rfl) (by (simp only [List.getElem?_toArray, List.getElem?_cons_succ, List.getElem?_cons_zero]; rfl)) (fun K hK => ?_)
        rw [if_pos (by rfl)]
        go_simp
        go_at_call 47
        refine (quote_any _ x.text (by omega) (hT.kept (Kept.trans HK.out (Kept.trans K2.out K3.out)))).mono ?_
        rintro e w6 ⟨rfl, k6⟩
        dsimp only
        have K6 := hide (Kept.trans K3.out k6)
        clear k6 K3
        refine hK.out _ _ (fun _ => HH.out _ K6.out) ?_
        clear hK K hHeld
        have hHeld := HH.out _ K6.out
        try simp only [Act.put, List.setIfInBounds_toArray, List.set_cons_zero, List.set_cons_succ]
        have HL : Hid (lineL [⟨#[99, 97, 115, 101]⟩, ⟨(decL x.goto).toArray⟩, ⟨(quoteL x.text.data.toList).toArray⟩] = caseL x) := line_case _ _
        have hjl : (Lib.join (texts [⟨#[99, 97, 115, 101]⟩, ⟨(decL x.goto).toArray⟩, ⟨(quoteL x.text.data.toList).toArray⟩]) [32]).length ≤ 1000000 := by
          have h1 := caseL_le hck.1
          rw [← HL.out] at h1
          unfold lineL at h1
          rw [List.length_append] at h1
          omega
        refine UpTo.next 7 (by kernel_rfl) (by (simp only [List.getElem?_toArray, List.getElem?_cons_succ, List.getElem?_cons_zero]; rfl)) (fun K hK => ?_)
        rw [if_pos (by rfl)]
        go_simp
        have K7 : Kept w6 (w6.alloc (.cells #[.string ⟨#[99, 97, 115, 101]⟩, .string ⟨(decL x.goto).toArray⟩, .string ⟨(quoteL x.text.data.toList).toArray⟩] 9)) := (Kept.refl _).alloc _
        have HS7 : Hid (Strs (w6.alloc (.cells #[.string ⟨#[99, 97, 115, 101]⟩, .string ⟨(decL x.goto).toArray⟩, .string ⟨(quoteL x.text.data.toList).toArray⟩] 9)) (some ⟨w6.heap.size, 0, none⟩) [⟨#[99, 97, 115, 101]⟩, ⟨(decL x.goto).toArray⟩, ⟨(quoteL x.text.data.toList).toArray⟩]) := strs_made w6 9 [⟨#[99, 97, 115, 101]⟩, ⟨(decL x.goto).toArray⟩, ⟨(quoteL x.text.data.toList).toArray⟩]
        have KA := hide (Kept.trans K6.out K7)
        have hHeld2 := HH.out _ KA.out
        refine hK.out _ _ (fun _ => hHeld2) ?_
        clear hK K hHeld hHeld2 K7
        try simp only [Act.put, List.setIfInBounds_toArray, List.set_cons_zero, List.set_cons_succ]
        have HWA := hide (HR.out.kept (Kept.trans K2.out KA.out))
        have hzA := KA.out.size
        have hbA := HWA.out.lt
        generalize hwa : w6.alloc (.cells #[.string ⟨#[99, 97, 115, 101]⟩, .string ⟨(decL x.goto).toArray⟩, .string ⟨(quoteL x.text.data.toList).toArray⟩] 9) = wa at KA HS7 HWA hzA hbA ⊢
        clear hwa
        have hll : (l ++ (askL s ++ cs)).length ≤ 100000000 := by rw [List.length_append, List.length_append]; omega
        refine UpTo.next 8 (by kernel_rfl) (by (simp only [List.getElem?_toArray, List.getElem?_cons_succ, List.getElem?_cons_zero]; rfl)) (fun K hK => ?_)
        rw [if_pos (by rfl)]
        go_simp
        go_at_call 30
        refine (line_any _ wz.heap.size b b (l ++ (askL s ++ cs)) (some ⟨w6.heap.size, 0, none⟩) 3 [⟨#[99, 97, 115, 101]⟩, ⟨(decL x.goto).toArray⟩, ⟨(quoteL x.text.data.toList).toArray⟩] (Nat.le_refl _) (by show 3 ≤ 100; omega) hjl hll HS7.out HWA.out (by omega) (by omega)).mono ?_
        rintro e wb ⟨rfl, hWb, hbb, _⟩
        dsimp only
        have HWb : Hid (WrM wz.heap.size b b (l ++ (askL s ++ (cs ++ caseL x))) wb) := by
          have h := hWb
          rw [HL.out, List.append_assoc, List.append_assoc] at h
          exact h
        have Kb : Hid (Kept wz wb) := Below.trans (Kept.trans HK.out (Kept.trans K2.out KA.out)) hbb
        clear hWb hbb
        refine hK.out _ _ (fun h => absurd rfl h) ?_
        clear hK K
        try simp only [Act.put, List.setIfInBounds_toArray, List.set_cons_zero, List.set_cons_succ]
        refine UpTo.done (by kernel_rfl) ?_
        clear HL hjl HS7 HWA KA K6 HH HP2
        go_wp2
        go_roundw
        case rel => exact ⟨k + 1, by omega, by go_num, by rw [HTk.out]; exact HWb, Kb⟩
        case measure => simp [intOf]; omega
      · obtain rfl : k = s.cases.length := by omega
        rw [List.take_length] at HR
        go_wp2
        go_end0
        exact ⟨rfl, HR.out, HK.out⟩

end Go.Proofs.YtpnofnbppnkgaaaGreatDoor
