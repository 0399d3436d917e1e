import Derived.Test.YtjhemildijapmaaGreatDoorKWName
import Derived.Test.YtjhemildijapmaaGreatDoorKDBase
import Derived.Test.YtjhemildijapmaaGreatDoorKOMarkD
import Derived.Deep.RegionWith
import Derived.Test.YtjhemildijapmaaGreatDoorKWNode
namespace Go.Proofs.YtjhemildijapmaaGreatDoor
open Go.RowKit
theorem conv1 (W : World) (c : UInt8) (cap : Nat) : (convert 166 9 (.slice (some ⟨W.heap.size, 0, none⟩) 1 cap)).run Tryz.prog (W.alloc (.cells #[.int .u8 (c.toNat : Int)] 5)) = .ok (.string ⟨#[c]⟩) (W.alloc (.cells #[.int .u8 (c.toNat : Int)] 5)) :=
  run_convert_bytes_back (P := Tryz.prog) _ 166 9 5 ⟨W.heap.size, 0, none⟩ cap [c] Tryz.underlying166 Tryz.underlying5 Tryz.underlying9 (fun i hi => by
    obtain rfl : i = 0 := by simpa using hi
    simp [Addr.add])
theorem cons_ba (c : UInt8) (l : List UInt8) : (⟨#[c]⟩ : ByteArray) ++ ⟨l.toArray⟩ = ⟨(c :: l).toArray⟩ := by
  have := ByteArray.mk_append_mk [c] l
  simpa using this
theorem digit_u8 (m : Nat) : ((UInt8.ofNat (48 + m % 10)).toNat : Int) = 48 + (m : Int) % 10 := by
  have : (UInt8.ofNat (48 + m % 10)).toNat = 48 + m % 10 := by
    rw [UInt8.toNat_ofNat']
    omega
  rw [this]; omega
set_option maxRecDepth 100000 in
set_option maxHeartbeats 800000 in
theorem markText_any (w : World) (k : Nat) (h0 : 0 < k) (h1 : k ≤ 4611686018427387904) :
    Calls Tryz.prog 68 #[.int .i64 k] w fun e w' => e = .returned (.string (mtext k)) ∧ Kept w w' := by
  go_enter Tryz.func68, Tryz.ntmps68
  go_wp2
  go_loopw [0, 3] (fun x y wr => ∃ (m : Nat) (l : List UInt8), m ≤ k ∧ x = .int .i64 m ∧ y = .string ⟨l.toArray⟩ ∧ mdig m l = mdig k [] ∧ l.length + m ≤ 4611686018427387904 ∧ Kept w wr) (fun x _ _ => (intOf x).toNat)
  case atStart => exact ⟨k, [], Nat.le_refl _, rfl, rfl, rfl, by simpa using h1, Kept.refl _⟩
  case round =>
    obtain ⟨m, l, hm, rfl, rfl, hd, hlen, hw⟩ := hrel
    have HD := hide hd
    clear hd
    have hls : (⟨l.toArray⟩ : ByteArray).size = l.length := rfl
    by_cases hp : (0 : Int) < m
    · obtain ⟨c, hcd⟩ : ∃ c : UInt8, c = UInt8.ofNat (48 + m % 10) := ⟨_, rfl⟩
      have hc := conv1 wr c 1
      have hcn : (c.toNat : Int) = 48 + (m : Int) % 10 := by rw [hcd]; exact digit_u8 m
      rw [hcn] at hc
      have HC := hide hcd
      clear hcd hcn
      go_wp2
      go_roundw
      case rel =>
        refine ⟨m / 10, c :: l, by omega, by go_num, by rw [cons_ba], ?_, by simp; omega, hw.alloc _⟩
        rw [← HD.out, mdig_pos (by omega : 0 < m), HC.out]
      case measure => simp [intOf]; omega
    · have hm0 : m = 0 := by omega
      subst hm0
      rw [mdig_zero] at HD
      go_wp2
      go_ret
      refine ⟨?_, hw⟩
      unfold mtext
      rw [← HD.out, ← cons_ba]
      rfl
theorem markAt (k j : Nat) (h0 : 0 < k) (h1 : k + j ≤ 4611686018427387904) : ∃ s, s = mtext (k + j) ∧ ∀ W, Calls Tryz.prog 68 #[.int .i64 ((k : Int) + (j : Int))] W fun e w' => e = .returned (.string s) ∧ Kept W w' :=
  ⟨_, rfl, fun W => by
    have e0 : (k : Int) + (j : Int) = ((k + j : Nat) : Int) := by omega
    rw [e0]
    exact markText_any W (k + j) (by omega) h1⟩
set_option maxHeartbeats 800000 in
theorem markStringS_any (w : World) (lo hi : Nat) (a : Option Addr) (cap : Nat) (l : List ByteArray) (k : Nat) (h0 : 0 < k) (h1 : k + l.length ≤ 4611686018427387904) (hS : StrsIn w lo hi a l) :
    Calls Tryz.prog 32 #[.slice a l.length cap, .int .i64 k] w fun e w' => e = .returned (.int .i64 ((k + l.length : Nat) : Int)) ∧ StrsIn w' lo hi a (markStrs l k) ∧ KeptBut lo hi w w' := by
  rcases hS with rfl | ⟨B, rfl, hlo, hhi, hr, hf⟩
  · go_enter Tryz.func32, Tryz.ntmps32
    go_wp2
    go_loopw [1, 5] (fun x i wr => x = .int .i64 k ∧ i = .int .i64 0 ∧ wr = w) (fun _ _ _ => 0)
    case atStart => exact ⟨rfl, rfl, rfl⟩
    case round =>
      obtain ⟨rfl, rfl, rfl⟩ := hrel
      go_wp2
      go_ret
      exact ⟨by simp, .inl rfl, KeptBut.refl _ _ _⟩
  · go_enter Tryz.func32, Tryz.ntmps32
    go_wp2
    go_loopw [1, 5] (fun x i wr => ∃ j : Nat, j ≤ l.length ∧ i = .int .i64 j ∧ x = .int .i64 ((k : Int) + j) ∧ KeptBut lo hi w wr ∧ Row wr B l.length ∧ ∀ t, t < j → wr.cell? ⟨B, t, none⟩ = some (.string (mtext (k + t)))) (fun _ i _ => l.length - (intOf i).toNat)
    case atStart => exact ⟨0, Nat.zero_le _, rfl, by simp, KeptBut.refl _ _ _, hr, fun t ht => absurd ht (Nat.not_lt_zero _)⟩
    case round =>
      obtain ⟨j, hj, rfl, rfl, hw, hr', hf'⟩ := hrel
      clear hr hf
      have HR := hide hr'
      have HF := hide hf'
      clear hf'
      by_cases hlt : j < l.length
      · have hrl := hr'.lt
        have HM : Hid (∃ s, s = mtext (k + j) ∧ ∀ W, Calls Tryz.prog 68 #[.int .i64 ((k : Int) + (j : Int))] W fun e w' => e = .returned (.string s) ∧ Kept W w') := markAt k j h0 (by omega)
        obtain ⟨s, hs, hm⟩ := HM.out
        have HS := hide hs
        have HM1 := hide hm
        clear hs hm HM
        go_wp2_with fail
        refine (HM1.out _).mono ?_
        rintro e w1 ⟨rfl, k1⟩
        have hr1 := HR.out.kept k1
        have HR1 := hide hr1
        have HF1 : Hid (∀ t, t < j → w1.cell? ⟨B, t, none⟩ = some (.string (mtext (k + t)))) := fun t ht => by rw [k1.cell hrl]; exact HF.out t ht
        obtain ⟨⟨old, hcell⟩, hfroz⟩ := hr1.at hlt
        have hw1 := hw.trans (.of_kept k1)
        clear HR HF hr' hr1 hw
        go_wp2
        go_roundw
        case rel =>
          refine ⟨j + 1, by omega, by go_num, by go_num, hw1.setCell hlo hhi _, HR1.out.set _ rfl _, fun t ht => ?_⟩
          by_cases e : t = j
          · subst e
            rw [World.cell?_setCell_same _ _ _ hcell, HS.out]
          · rw [World.cell?_setCell_other _ _ _ _ (by simp <;> omega)]
            exact HF1.out t (by omega)
        case measure => simp [intOf]; omega
      · have : j = l.length := by omega
        subst this
        go_wp2
        go_ret
        refine ⟨ret_int (by omega), .inr ⟨B, rfl, hlo, hhi, by rw [markStrs_length]; exact HR.out, fun i hi' => ?_⟩, hw⟩
        rw [markStrs_length] at hi'
        rw [markStrs_getD _ _ _ hi']
        exact HF.out i hi'
set_option maxHeartbeats 800000 in
theorem heldStringS_yes (w : World) (a : Option Addr) (cap : Nat) (l : List ByteArray) (k : Nat) (h0 : 0 < k) (h1 : k + l.length ≤ 4611686018427387904) (hS : Strs w a (markStrs l k)) :
    Calls Tryz.prog 34 #[.slice a l.length cap, .int .i64 k] w fun e w' => e = .returned (.int .i64 ((k + l.length : Nat) : Int)) ∧ Kept w w' := by
  go_enter Tryz.func34, Tryz.ntmps34
  go_wp2
  go_loopw [1, 5] (fun x i wr => ∃ j : Nat, j ≤ l.length ∧ i = .int .i64 j ∧ x = .int .i64 ((k : Int) + j) ∧ Kept w wr) (fun _ i _ => l.length - (intOf i).toNat)
  case atStart => exact ⟨0, Nat.zero_le _, rfl, by simp, Kept.refl _⟩
  case round =>
    obtain ⟨j, hj, rfl, rfl, hw⟩ := hrel
    by_cases hlt : j < l.length
    · obtain ⟨b, o, rfl, hb, hc⟩ := hS j (by rw [markStrs_length]; exact hlt)
      rw [markStrs_getD _ _ _ hlt] at hc
      have hbr : b < wr.heap.size := Nat.lt_of_lt_of_le hb hw.size
      have hcr : wr.cell? ⟨b, o + j, none⟩ = some (.string (mtext (k + j))) := by rw [hw.cell hb]; exact hc
      clear hc
      obtain ⟨s, hs, hm⟩ := markAt k j h0 (by omega)
      rw [← hs] at hcr
      have HM1 := hide hm
      clear hs hm
      go_wp2
      go_region_with (go_at_call 68; refine (HM1.out _).mono ?_; rintro e w1 ⟨rfl, k1⟩; have kk : Kept wr w1 := Kept.trans (by repeat (first | apply Kept.drew | exact Kept.refl _)) k1; have hc1 := (kk.cell hbr).trans hcr)
      all_goals
        go_wp2
        go_roundw
        case rel => exact ⟨j + 1, by omega, by go_num, by go_num, by repeat (first | exact hw.trans kk | apply Kept.drew)⟩
        case measure => simp [intOf]; omega
    · have : j = l.length := by omega
      subst this
      go_wp2
      go_ret
      exact ⟨ret_int (by omega), hw⟩
theorem markM (m : Nat) (h0 : 0 < m) (h1 : m ≤ 4611686018427387904) : ∃ s, s = mtext m ∧ ∀ W, Calls Tryz.prog 68 #[.int .i64 (m : Int)] W fun e w' => e = .returned (.string s) ∧ Kept W w' :=
  ⟨_, rfl, fun W => markText_any W m h0 h1⟩
theorem range2 {w : World} {b o : Nat} {x y : Value} (h0 : w.cell? ⟨b, o, none⟩ = some x) (h1 : w.cell? ⟨b, o + 1, none⟩ = some y) : w.rangeAt b o [x, y] := by
  intro i v hv
  match i, hv with
  | 0, hv => simp at hv; subst hv; exact h0
  | 1, hv => simp at hv; subst hv; exact h1
  | i + 2, hv => simp at hv
theorem two_set {w : World} {b o : Nat} {x y old old1 : Value} (h0 : w.cell? ⟨b, o, none⟩ = some old) (h1 : w.cell? ⟨b, o + 1, none⟩ = some old1) : ((w.setCell ⟨b, o, none⟩ x).setCell ⟨b, o + 1, none⟩ y).rangeAt b o [x, y] := by
  have h2 : (w.setCell ⟨b, o, none⟩ x).cell? ⟨b, o + 1, none⟩ = some old1 := by rw [World.cell?_setCell_other _ _ _ _ (by simp)]; exact h1
  refine range2 ?_ ?_
  · rw [World.cell?_setCell_other _ _ _ _ (by simp), World.cell?_setCell_same _ _ _ h0]
  · rw [World.cell?_setCell_same _ _ _ h2]
set_option maxHeartbeats 800000 in
theorem markCaseS_any (w : World) (lo hi : Nat) (a : Option Addr) (cap : Nat) (l : List CaseD) (k : Nat) (h0 : 0 < k) (h1 : k + l.length * 2 ≤ 4611686018427387904) (hS : CasesIn w lo hi a l) :
    Calls Tryz.prog 106 #[.slice a l.length cap, .int .i64 k] w fun e w' => e = .returned (.int .i64 ((k + l.length * 2 : Nat) : Int)) ∧ CasesIn w' lo hi a (markCases l k) ∧ KeptBut lo hi w w' := by
  rcases hS with rfl | ⟨B, rfl, hlo, hhi, hr, hf⟩
  · go_enter Tryz.func106, Tryz.ntmps106
    go_wp2
    go_loopw [1, 5] (fun x i wr => x = .int .i64 k ∧ i = .int .i64 0 ∧ wr = w) (fun _ _ _ => 0)
    case atStart => exact ⟨rfl, rfl, rfl⟩
    case round =>
      obtain ⟨rfl, rfl, rfl⟩ := hrel
      go_wp2
      go_ret
      exact ⟨by simp, .inl rfl, KeptBut.refl _ _ _⟩
  · go_enter Tryz.func106, Tryz.ntmps106
    go_wp2
    go_loopw [1, 5] (fun x i wr => ∃ j m : Nat, j ≤ l.length ∧ i = .int .i64 j ∧ x = .int .i64 m ∧ m = k + j * 2 ∧ KeptBut lo hi w wr ∧ Row wr B (l.length * 2) ∧ ∀ t, t < j → wr.rangeAt B (t * 2) (markCase (k + t * 2)).cells) (fun _ i _ => l.length - (intOf i).toNat)
    case atStart => exact ⟨0, k, Nat.zero_le _, rfl, rfl, by omega, KeptBut.refl _ _ _, hr, fun t ht => absurd ht (Nat.not_lt_zero _)⟩
    case round =>
      obtain ⟨j, m, hj, rfl, rfl, hm, hw, hr', hf'⟩ := hrel
      clear hr hf
      have HR := hide hr'
      have HF := hide hf'
      have HMn := hide hm
      by_cases hlt : j < l.length
      · have hrl := hr'.lt
        have hm2 : m + 2 ≤ 4611686018427387904 := by omega
        obtain ⟨s, hs, hmt⟩ := markM m (by omega) (by omega)
        have HS := hide hs
        have HM1 := hide hmt
        clear hs hmt hf' hm
        go_wp2_with fail
        refine (HM1.out _).mono ?_
        rintro e w1 ⟨rfl, k1⟩
        have hr1 := HR.out.kept k1
        have HR1 := hide hr1
        have HF1 : Hid (∀ t, t < j → w1.rangeAt B (t * 2) (markCase (k + t * 2)).cells) := fun t ht => k1.range hrl (HF.out t ht)
        obtain ⟨⟨old, hcell⟩, hfroz⟩ := hr1.at (i := j * 2) (by omega)
        obtain ⟨⟨old1, hcell1⟩, hfroz1⟩ := hr1.at (i := j * 2 + 1) (by omega)
        have hw1 := hw.trans (.of_kept k1)
        clear HR HF hr' hr1 hw
        go_wp2
        go_roundw
        case rel =>
          refine ⟨j + 1, m + 2, by omega, by go_num, by go_num, by have := HMn.out; omega, (hw1.setCell hlo hhi _).setCell hlo hhi _, (HR1.out.set _ rfl _).set _ rfl _, fun t ht => ?_⟩
          by_cases e : t = j
          · subst e
            have e1 : markCase (k + t * 2) = ⟨s, ((m + 1 : Nat) : Int)⟩ := by unfold markCase; rw [← HMn.out, HS.out]
            rw [e1]
            exact two_set hcell hcell1
          · intro i v hv
            have hi2 : i < 2 := by have := (List.getElem?_eq_some_iff.1 hv).1; simpa [CaseD.cells] using this
            rw [World.cell?_setCell_other _ _ _ _ (by simp <;> omega), World.cell?_setCell_other _ _ _ _ (by simp <;> omega)]
            exact HF1.out t (by omega) i v hv
        case measure => simp [intOf]; omega
      · have : j = l.length := by omega
        subst this
        go_wp2
        go_ret
        refine ⟨ret_int (by have := HMn.out; omega), .inr ⟨B, rfl, hlo, hhi, by rw [markCases_length]; exact HR.out, fun i hi' => ?_⟩, hw⟩
        rw [markCases_length] at hi'
        rw [markCases_getD _ _ _ hi']
        exact HF.out i hi'
structure Turn (B p q lo hi : Nat) (w w' : World) : Prop where
  os : w'.os = w.os
  tape : w'.tape = w.tape
  output : w'.output = w.output
  size : w.heap.size ≤ w'.heap.size
  block : ∀ k, k < w.heap.size → k ≠ B → (k < lo ∨ hi ≤ k) → w'.heap[k]? = w.heap[k]?
  cell : ∀ o, (o < p ∨ q ≤ o) → w'.cell? ⟨B, o, none⟩ = w.cell? ⟨B, o, none⟩
theorem Turn.refl (B p q lo hi : Nat) (w : World) : Turn B p q lo hi w w := ⟨rfl, rfl, rfl, Nat.le_refl _, fun _ _ _ _ => rfl, fun _ _ => rfl⟩
theorem Turn.but {B p q lo hi l2 h2 : Nat} {a b c : World} (h : Turn B p q lo hi a b) (k : KeptBut l2 h2 b c) (h1 : lo ≤ l2) (h3 : h2 ≤ hi) (hB : B < l2 ∨ h2 ≤ B) (hs : B < b.heap.size) : Turn B p q lo hi a c :=
  ⟨k.os.trans h.os, k.tape.trans h.tape, k.output.trans h.output, Nat.le_trans h.size k.size,
    fun i hi' hn ho => (k.block i (Nat.lt_of_lt_of_le hi' h.size) (by omega)).trans (h.block i hi' hn ho),
    fun o ho => (World.cell?_of_block (w := b) (k.block B hs hB)).trans (h.cell o ho)⟩
theorem Turn.kept {B p q lo hi : Nat} {a b c : World} (h : Turn B p q lo hi a b) (k : Kept b c) (hs : B < b.heap.size) : Turn B p q lo hi a c :=
  ⟨k.os.trans h.os, k.tape.trans h.tape, k.output.trans h.output, Nat.le_trans h.size k.size,
    fun i hi' hn ho => (k.block i (Nat.lt_of_lt_of_le hi' h.size)).trans (h.block i hi' hn ho),
    fun o ho => (k.cell hs).trans (h.cell o ho)⟩
theorem Turn.drew {B p q lo hi : Nat} {a b : World} (h : Turn B p q lo hi a b) : Turn B p q lo hi a b.drew := ⟨h.os, h.tape, h.output, h.size, h.block, h.cell⟩
theorem Turn.setCell {B p q lo hi o : Nat} {a b : World} (h : Turn B p q lo hi a b) (h1 : p ≤ o) (h2 : o < q) (v : Value) : Turn B p q lo hi a (b.setCell ⟨B, o, none⟩ v) :=
  ⟨h.os, h.tape, h.output, by rw [size_setCell]; exact h.size, fun k hk hn ho => by rw [Below.heap_setCell _ _ _ _ hn]; exact h.block k hk hn ho,
    fun t ht => by rw [World.cell?_setCell_other _ _ _ _ (by simp <;> omega)]; exact h.cell t ht⟩
theorem Turn.same {B p q lo hi l2 h2 : Nat} {w w' : World} (h : Turn B p q lo hi w w') (hd : h2 ≤ lo ∨ hi ≤ l2) (hB : B < l2 ∨ h2 ≤ B) : Same l2 h2 w w' :=
  fun b h1 h2' hs => h.block b hs (by omega) (by omega)
theorem Turn.keptBut {B p q lo hi l2 h2 : Nat} {w w' : World} (h : Turn B p q lo hi w w') (h1 : l2 ≤ lo) (h3 : hi ≤ h2) (hB : l2 ≤ B) (hB2 : B < h2) : KeptBut l2 h2 w w' :=
  ⟨h.os, h.tape, h.output, h.size, fun k hk ho => h.block k hk (by omega) (by omega)⟩
theorem Turn.range {B p q lo hi o : Nat} {w w' : World} {cs : List Value} (h : Turn B p q lo hi w w') (ho : o + cs.length ≤ p ∨ q ≤ o) (hr : w.rangeAt B o cs) : w'.rangeAt B o cs := by
  intro i v hv
  have hi' := (List.getElem?_eq_some_iff.1 hv).1
  rw [h.cell (o + i) (by omega)]
  exact hr i v hv
theorem range8 {w : World} {b o : Nat} {x0 x1 x2 x3 x4 x5 x6 x7 : Value} (h0 : w.cell? ⟨b, o, none⟩ = some x0) (h1 : w.cell? ⟨b, o + 1, none⟩ = some x1) (h2 : w.cell? ⟨b, o + 2, none⟩ = some x2) (h3 : w.cell? ⟨b, o + 3, none⟩ = some x3)
    (h4 : w.cell? ⟨b, o + 4, none⟩ = some x4) (h5 : w.cell? ⟨b, o + 5, none⟩ = some x5) (h6 : w.cell? ⟨b, o + 6, none⟩ = some x6) (h7 : w.cell? ⟨b, o + 7, none⟩ = some x7) : w.rangeAt b o [x0, x1, x2, x3, x4, x5, x6, x7] := by
  intro i v hv
  match i, hv with
  | 0, hv => simp at hv; subst hv; exact h0
  | 1, hv => simp at hv; subst hv; exact h1
  | 2, hv => simp at hv; subst hv; exact h2
  | 3, hv => simp at hv; subst hv; exact h3
  | 4, hv => simp at hv; subst hv; exact h4
  | 5, hv => simp at hv; subst hv; exact h5
  | 6, hv => simp at hv; subst hv; exact h6
  | 7, hv => simp at hv; subst hv; exact h7
  | i + 8, hv => simp at hv
theorem range3 {w : World} {b o : Nat} {x0 x1 x2 : Value} (h0 : w.cell? ⟨b, o, none⟩ = some x0) (h1 : w.cell? ⟨b, o + 1, none⟩ = some x1) (h2 : w.cell? ⟨b, o + 2, none⟩ = some x2) : w.rangeAt b o [x0, x1, x2] := by
  intro i v hv
  match i, hv with
  | 0, hv => simp at hv; subst hv; exact h0
  | 1, hv => simp at hv; subst hv; exact h1
  | 2, hv => simp at hv; subst hv; exact h2
  | i + 3, hv => simp at hv
theorem four_set {w : World} {b n o : Nat} (h : Row w b n) (ho : o + 7 < n) (v3 v4 v5 v6 : Value) : ∃ W, W = (((w.setCell ⟨b, o + 3, none⟩ v3).setCell ⟨b, o + 4, none⟩ v4).setCell ⟨b, o + 5, none⟩ v5).setCell ⟨b, o + 6, none⟩ v6 ∧ Row W b n ∧
    W.cell? ⟨b, o, none⟩ = w.cell? ⟨b, o, none⟩ ∧ W.cell? ⟨b, o + 1, none⟩ = w.cell? ⟨b, o + 1, none⟩ ∧ W.cell? ⟨b, o + 2, none⟩ = w.cell? ⟨b, o + 2, none⟩ ∧ W.cell? ⟨b, o + 3, none⟩ = some v3 ∧ W.cell? ⟨b, o + 4, none⟩ = some v4 ∧ W.cell? ⟨b, o + 5, none⟩ = some v5 ∧ W.cell? ⟨b, o + 6, none⟩ = some v6 := by
  have r1 := h.set ⟨b, o + 3, none⟩ rfl v3
  have r2 := r1.set ⟨b, o + 4, none⟩ rfl v4
  have r3 := r2.set ⟨b, o + 5, none⟩ rfl v5
  refine ⟨_, rfl, r3.set _ rfl _, ?_, ?_, ?_, ?_, ?_, ?_, ?_⟩
  · rw [set_miss (by omega), set_miss (by omega), set_miss (by omega), set_miss (by omega)]
  · rw [set_miss (by omega), set_miss (by omega), set_miss (by omega), set_miss (by omega)]
  · rw [set_miss (by omega), set_miss (by omega), set_miss (by omega), set_miss (by omega)]
  · rw [set_miss (by omega), set_miss (by omega), set_miss (by omega)]; exact set_hit h (by omega) _
  · rw [set_miss (by omega), set_miss (by omega)]; exact set_hit r1 (by omega) _
  · rw [set_miss (by omega)]; exact set_hit r2 (by omega) _
  · exact set_hit r3 (by omega) _
theorem mod3 (m d : Nat) (z : Int) (h : z = ((m + d : Nat) : Int)) : (z % 3 == 0) = decide ((m + d) % 3 = 0) := by
  subst h
  rw [Bool.eq_iff_iff]
  simp
  omega
def stepMix (l : List StepD) (k j t : Nat) : StepD := if t < j then markStep (l.getD t StepD.zero) (k + sumTo cntStep l t) else l.getD t StepD.zero
theorem len_le_cnt (l : List StepD) : l.length ≤ (l.map cntStep).sum := by
  induction l with
  | nil => simp
  | cons s r ih =>
    simp only [List.length_cons, List.map_cons, List.sum_cons]
    have : 6 ≤ cntStep s := by unfold cntStep; omega
    omega
theorem markStep_cells (s : StepD) (k : Nat) (aa : Option Addr) (ca : Nat) (ac : Option Addr) (cc : Nat) : (markStep s k).cells aa ca ac cc =
    [.slice aa s.asks.length ca, .int .i64 ((k + s.asks.length : Nat) : Int), .slice ac s.cases.length cc, .int .i64 ((k + s.asks.length + 1 + s.cases.length * 2 : Nat) : Int), .int .i64 ((k + s.asks.length + 1 + s.cases.length * 2 + 1 : Nat) : Int),
      .bool (decide ((k + s.asks.length + 1 + s.cases.length * 2 + 2) % 3 = 0)), .bool (decide ((k + s.asks.length + 1 + s.cases.length * 2 + 3) % 3 = 0)), .string (mtext (k + s.asks.length + 1 + s.cases.length * 2 + 4))] := by
  simp [markStep, StepD.cells, markStrs_length, markCases_length]
set_option maxRecDepth 100000 in
set_option maxHeartbeats 3200000 in
theorem markStepS_any (w : World) (lo hi : Nat) (a : Option Addr) (cap : Nat) (l : List StepD) (k : Nat) (h0 : 0 < k) (h1 : k + (l.map cntStep).sum ≤ 4611686018427387904) (hS : StepsIn w lo hi a l) :
    Calls Tryz.prog 69 #[.slice a l.length cap, .int .i64 k] w fun e w' => e = .returned (.int .i64 ((k + (l.map cntStep).sum : Nat) : Int)) ∧ StepsIn w' lo hi a (markSteps l k) ∧ KeptBut lo hi w w' := by
  have hlen := len_le_cnt l
  rcases hS with rfl | ⟨B, c, rfl, hlo, hBc, hhi, hr, hmono, hf⟩
  · go_enter Tryz.func69, Tryz.ntmps69
    go_wp2
    go_loopw [1, 5] (fun x i wr => x = .int .i64 k ∧ i = .int .i64 0 ∧ wr = w) (fun _ _ _ => 0)
    case atStart => exact ⟨rfl, rfl, rfl⟩
    case round =>
      obtain ⟨rfl, rfl, rfl⟩ := hrel
      go_wp2
      go_ret
      exact ⟨by simp, .inl rfl, KeptBut.refl _ _ _⟩
  · have HMono := hide hmono
    clear hmono
    go_enter Tryz.func69, Tryz.ntmps69
    go_wp2
    go_loopw [1, 5] (fun x i wr => ∃ j m : Nat, j ≤ l.length ∧ i = .int .i64 j ∧ x = .int .i64 m ∧ m = k + sumTo cntStep l j ∧ KeptBut lo hi w wr ∧ Row wr B (l.length * 8) ∧ ∀ t, t < l.length → StepIn wr B t (c t) (c (t + 1)) (stepMix l k j t)) (fun _ i _ => l.length - (intOf i).toNat)
    case atStart => exact ⟨0, k, Nat.zero_le _, rfl, rfl, by rw [sumTo_zero]; omega, KeptBut.refl _ _ _, hr, fun t ht => by simpa [stepMix] using hf t ht⟩
    case round =>
      obtain ⟨j, m, hj, rfl, rfl, hm, hw, hr', hf'⟩ := hrel
      clear hr hf
      have HMn := hide hm
      have HF := hide hf'
      by_cases hlt : j < l.length
      · have hst := hf' j hlt
        have hmix : stepMix l k j j = l.getD j StepD.zero := by simp [stepMix]
        rw [hmix] at hst
        have hsum := sumTo_succ cntStep l StepD.zero j hlt
        have hsl := sumTo_le cntStep l (j + 1)
        obtain ⟨aa, ca, ac, cc, mid, g1, g2, g3, g4, g5, g6⟩ := hst
        obtain ⟨s, hsd⟩ : ∃ s, s = l.getD j StepD.zero := ⟨_, rfl⟩
        rw [← hsd] at g3 g4 g5 g6 hsum
        have hcnt : m + cntStep s ≤ 4611686018427387904 := by omega
        have hm0 : 0 < m := by omega
        have hcs : cntStep s = s.asks.length + s.cases.length * 2 + 6 := rfl
        have HSd := hide hsd
        have HSum := hide hsum
        clear hf' hmix hsd hm hsum hsl
        have hBj : B < c j := Nat.lt_of_lt_of_le hBc (HMono.out 0 j (Nat.zero_le _))
        have hBs := hr'.lt
        have c0 := g3 0 _ rfl
        have c2 := g3 2 _ rfl
        rw [Nat.add_zero] at c0
        have HG5 := hide g5
        go_wp2_with fail
        refine (markStringS_any _ (c j) mid aa ca s.asks m (by omega) (by omega) g4).mono ?_
        rintro e w1 ⟨rfl, hA1, kb1⟩
        obtain ⟨m1, hm1⟩ : ∃ m1, m1 = m + s.asks.length := ⟨_, rfl⟩
        rw [← hm1]
        have hb1 : m1 + s.cases.length * 2 + 6 ≤ 4611686018427387904 := by omega
        have HM1 := hide hm1
        clear hm1 hcnt hcs
        have t1 := (Turn.refl B (j * 8) (j * 8 + 8) (c j) (c (j + 1)) wr).but kb1 (Nat.le_refl _) g2 (.inl hBj) hBs
        have hr1 : Row w1 B (l.length * 8) := (kb1.same (l2 := B) (h2 := B + 1) (by omega)).row (Nat.le_refl _) (by omega) hr'
        have s1 := kb1.same (l2 := B) (h2 := B + 1) (by omega)
        have d0 := (s1.cell (o := j * 8) (Nat.le_refl _) (by omega) hBs).trans c0
        have d2 := (s1.cell (o := j * 8 + 2) (Nat.le_refl _) (by omega) hBs).trans c2
        obtain ⟨⟨_, f1c⟩, f1⟩ := hr1.at (i := j * 8 + 1) (by omega)
        have HA1 := hide hA1
        have HC1 := hide (HG5.out.same (kb1.same (l2 := mid) (h2 := c (j + 1)) (by omega)))
        have hmc : ∀ W, CasesIn W mid (c (j + 1)) ac s.cases → Calls Tryz.prog 106 #[.slice ac s.cases.length cc, .int .i64 ((m1 : Int) + 1)] W fun e w' => e = .returned (.int .i64 ((m1 + 1 + s.cases.length * 2 : Nat) : Int)) ∧ CasesIn w' mid (c (j + 1)) ac (markCases s.cases (m1 + 1)) ∧ KeptBut mid (c (j + 1)) W w' := by
          intro W hW
          have := markCaseS_any W mid (c (j + 1)) ac cc s.cases (m1 + 1) (by omega) (by omega) hW
          rw [show ((m1 + 1 : Nat) : Int) = (m1 : Int) + 1 by omega] at this
          exact this
        have HMC := hide hmc
        clear c0 c2 hr' g4 g5 hA1 hmc kb1 s1
        go_wp2_with fail
        refine (HMC.out _ (HC1.out.same (Same.setCell _ (.inl (by show B < mid; omega)) _))).mono ?_
        rintro e w2 ⟨rfl, hC2, kb2⟩
        obtain ⟨m2, hm2⟩ : ∃ m2, m2 = m1 + 1 + s.cases.length * 2 := ⟨_, rfl⟩
        rw [← hm2]
        have hb2 : m2 + 5 ≤ 4611686018427387904 := by omega
        have HM2 := hide hm2
        clear hm2 hb1
        have hBs1 : B < w1.heap.size := hr1.lt
        have t2 := (t1.setCell (o := j * 8 + 1) (by omega) (by omega) (.int .i64 (m1 : Int))).but kb2 g1 (Nat.le_refl _) (.inl (by omega)) (by rw [size_setCell]; exact hBs1)
        have hr1' : Row (w1.setCell ⟨B, j * 8 + 1, none⟩ (.int .i64 (m1 : Int))) B (l.length * 8) := hr1.set _ rfl _
        have s2 := kb2.same (l2 := B) (h2 := B + 1) (by omega)
        have hr2 : Row w2 B (l.length * 8) := s2.row (Nat.le_refl _) (by omega) hr1'
        have e0 : w2.cell? ⟨B, j * 8, none⟩ = some (.slice aa s.asks.length ca) := by rw [s2.cell (Nat.le_refl _) (by omega) hr1'.lt, set_miss (by omega)]; exact d0
        have e1 : w2.cell? ⟨B, j * 8 + 1, none⟩ = some (.int .i64 (m1 : Int)) := by rw [s2.cell (Nat.le_refl _) (by omega) hr1'.lt]; exact set_hit hr1 (by omega) _
        have e2 : w2.cell? ⟨B, j * 8 + 2, none⟩ = some (.slice ac s.cases.length cc) := by rw [s2.cell (Nat.le_refl _) (by omega) hr1'.lt, set_miss (by omega)]; exact d2
        have HA2 := hide ((HA1.out.same (Same.setCell _ (.inl (by show B < c j; omega)) _)).same (kb2.same (l2 := c j) (h2 := mid) (by omega)))
        have HC2 := hide hC2
        obtain ⟨⟨_, f3c⟩, f3⟩ := hr2.at (i := j * 8 + 3) (by omega)
        obtain ⟨⟨_, f4c⟩, f4⟩ := hr2.at (i := j * 8 + 4) (by omega)
        obtain ⟨⟨_, f5c⟩, f5⟩ := hr2.at (i := j * 8 + 5) (by omega)
        obtain ⟨⟨_, f6c⟩, f6⟩ := hr2.at (i := j * 8 + 6) (by omega)
        have HT2 := hide t2
        have HR2 := hide hr2
        obtain ⟨txt, htx, hmt⟩ : ∃ txt, txt = mtext (m2 + 4) ∧ ∀ z : Int, z = ((m2 + 4 : Nat) : Int) → ∀ W, Calls Tryz.prog 68 #[.int .i64 z] W fun e w' => e = .returned (.string txt) ∧ Kept W w' := ⟨_, rfl, fun z hz W => by rw [hz]; exact markText_any W _ (by omega) (by omega)⟩
        have HTX := hide htx
        have HMT := hide hmt
        clear htx
        have HE0 := hide e0
        have HE1 := hide e1
        have HE2 := hide e2
        clear HC1 HMC hC2 kb2 hr1 hr1' t1 t2 s2 d0 d2 f1 f1c hmt e0 e1 e2 hr2 HA1
        go_wp2_with fail
        obtain ⟨W3, hW3, hR3, q0, q1, q2, q3, q4, q5, q6⟩ := four_set (o := j * 8) HR2.out (by omega) (.int .i64 (m2 : Int)) (.int .i64 ((m2 : Int) + 1)) (.bool (((m2 : Int) + 1 + 1) % 3 == 0)) (.bool (((m2 : Int) + 1 + 1 + 1) % 3 == 0))
        have t3 : Turn B (j * 8) (j * 8 + 8) (c j) (c (j + 1)) wr W3 := by
          rw [hW3]
          exact (((HT2.out.setCell (by omega) (by omega) _).setCell (by omega) (by omega) _).setCell (by omega) (by omega) _).setCell (by omega) (by omega) _
        have HA3 : Hid (StrsIn W3 (c j) mid aa (markStrs s.asks m)) := by
          have hB' : B < c j := hBj
          rw [hW3]
          exact (((HA2.out.same (Same.setCell _ (.inl hB') _)).same (Same.setCell _ (.inl hB') _)).same (Same.setCell _ (.inl hB') _)).same (Same.setCell _ (.inl hB') _)
        have HC3 : Hid (CasesIn W3 mid (c (j + 1)) ac (markCases s.cases (m1 + 1))) := by
          have hB' : B < mid := by omega
          rw [hW3]
          exact (((HC2.out.same (Same.setCell _ (.inl hB') _)).same (Same.setCell _ (.inl hB') _)).same (Same.setCell _ (.inl hB') _)).same (Same.setCell _ (.inl hB') _)
        rw [← hW3]
        rw [HE0.out] at q0
        rw [HE1.out] at q1
        rw [HE2.out] at q2
        rw [mod3 m2 2 _ (by omega)] at q5
        rw [mod3 m2 3 _ (by omega)] at q6
        clear hW3 HE0 HE1 HE2 HT2 HR2 HA2 HC2 f3 f3c f4 f4c f5 f5c f6 f6c
        refine (HMT.out _ (by omega) _).mono ?_
        rintro e w3 ⟨rfl, k3⟩
        have hB3 := hR3.lt
        have hR4 := hR3.kept k3
        have y0 := (k3.cell hB3).trans q0
        have y1 := (k3.cell hB3).trans q1
        have y2 := (k3.cell hB3).trans q2
        have y3 := (k3.cell hB3).trans q3
        have y4 := (k3.cell hB3).trans q4
        have y5 := (k3.cell hB3).trans q5
        have y6 := (k3.cell hB3).trans q6
        have t4 := t3.kept k3 hB3
        have HA4 := hide (HA3.out.same (k3.same _ _))
        have HC4 := hide (HC3.out.same (k3.same _ _))
        obtain ⟨⟨_, f7c⟩, f7⟩ := hR4.at (i := j * 8 + 7) (by omega)
        have HR4 := hide hR4
        have HT4 := hide t4
        have HY := hide (And.intro y0 (And.intro y1 (And.intro y2 (And.intro y3 (And.intro y4 (And.intro y5 y6))))))
        clear q0 q1 q2 q3 q4 q5 q6 y0 y1 y2 y3 y4 y5 y6 hR3 hR4 t3 t4 HA3 HC3 k3 HMT
        go_wp2
        go_roundw
        case rel =>
          obtain ⟨y0, y1, y2, y3, y4, y5, y6⟩ := HY.out
          have tF := HT4.out.setCell (o := j * 8 + 7) (by omega) (by omega) (.string txt)
          refine ⟨j + 1, m2 + 5, by omega, by go_num, by go_num, by have e1 := HMn.out; have e2 := HSum.out; have e3 := HM1.out; have e4 := HM2.out; have e5 : cntStep s = s.asks.length + s.cases.length * 2 + 6 := rfl; omega, hw.trans (tF.keptBut (by omega) (by have := HMono.out (j + 1) l.length (by omega); omega) hlo (by have := HMono.out 0 l.length (by omega); omega)), HR4.out.set _ rfl _, fun t ht => ?_⟩
          by_cases e : t = j
          · subst e
            have em : stepMix l k (t + 1) t = markStep s m := by
              unfold stepMix
              rw [if_pos (by omega), ← HSd.out, ← HMn.out]
            rw [em]
            have hB' : B < c t := hBj
            have hB2 : B < mid := by omega
            refine ⟨aa, ca, ac, cc, mid, g1, g2, ?_, HA4.out.same (Same.setCell _ (.inl hB') _), ?_, by rw [show (markStep s m).asks = markStrs s.asks m from rfl, markStrs_length]; exact g6⟩
            · rw [markStep_cells, ← HM1.out, ← HM2.out, ← HTX.out]
              refine range8 ?_ ?_ ?_ ?_ ?_ ?_ ?_ (set_hit HR4.out (by omega) _)
              · rw [set_miss (by omega)]; exact y0
              · rw [set_miss (by omega)]; exact y1
              · rw [set_miss (by omega)]; exact y2
              · rw [set_miss (by omega)]; exact y3
              · rw [set_miss (by omega)]; exact y4
              · rw [set_miss (by omega)]; exact y5
              · rw [set_miss (by omega)]; exact y6
            · rw [show (markStep s m).cases = markCases s.cases (m + s.asks.length + 1) from rfl, ← HM1.out]
              exact HC4.out.same (Same.setCell _ (.inl hB2) _)
          · have em : stepMix l k (j + 1) t = stepMix l k j t := by
              unfold stepMix
              by_cases h : t < j
              · rw [if_pos h, if_pos (by omega)]
              · rw [if_neg h, if_neg (by omega)]
            rw [em]
            have hBt : B < c t := Nat.lt_of_lt_of_le hBc (HMono.out 0 t (Nat.zero_le _))
            obtain ⟨aa', ca', ac', cc', mid', z1, z2, z3, z4, z5, z6⟩ := HF.out t ht
            have hd : c (t + 1) ≤ c j ∨ c (j + 1) ≤ c t := by
              by_cases h : t < j
              · exact .inl (HMono.out _ _ (by omega))
              · exact .inr (HMono.out _ _ (by omega))
            exact ⟨aa', ca', ac', cc', mid', z1, z2, tF.range (by simp [StepD.cells]; omega) z3, z4.same (tF.same (by omega) (.inl hBt)), z5.same (tF.same (by omega) (.inl (by omega))), z6⟩
        case measure => simp [intOf]; omega
      · have : j = l.length := by omega
        subst this
        go_wp2
        go_ret
        refine ⟨ret_int (by have := HMn.out; rw [sumTo_all] at this; omega), .inr ⟨B, c, rfl, hlo, hBc, by rw [markSteps_length]; exact hhi, by rw [markSteps_length]; exact hr', HMono.out, fun i hi' => ?_⟩, hw⟩
        rw [markSteps_length] at hi'
        have := HF.out i hi'
        rw [markSteps_getD _ _ _ hi']
        unfold stepMix at this
        rw [if_pos hi'] at this
        exact this
def NodeIn (w : World) (B j lo hi : Nat) (d : NodeD) : Prop := ∃ a cap, w.rangeAt B (j * 3) (d.cells a cap) ∧ StepsIn w lo hi a d.steps
def NodesIn (w : World) (lo hi : Nat) (a : Option Addr) (l : List NodeD) : Prop :=
  l = [] ∨ ∃ (b : Nat) (c : Nat → Nat), a = some ⟨b, 0, none⟩ ∧ lo ≤ b ∧ b < c 0 ∧ c l.length ≤ hi ∧ Row w b (l.length * 3) ∧ (∀ i j, i ≤ j → c i ≤ c j) ∧ ∀ i, i < l.length → NodeIn w b i (c i) (c (i + 1)) (l.getD i NodeD.zero)
theorem NodesIn.same {w w' : World} {lo hi : Nat} {a : Option Addr} {l : List NodeD} (h : NodesIn w lo hi a l) (k : Same lo hi w w') : NodesIn w' lo hi a l := by
  rcases h with h | ⟨b, c, ha, h1, h2, h3, hr, hm, hc⟩
  · exact .inl h
  · have hbh : b < hi := Nat.lt_of_lt_of_le h2 (Nat.le_trans (hm 0 _ (Nat.zero_le _)) h3)
    refine .inr ⟨b, c, ha, h1, h2, h3, k.row h1 hbh hr, hm, fun i hi' => ?_⟩
    obtain ⟨a', cap, g1, g2⟩ := hc i hi'
    refine ⟨a', cap, k.range h1 hbh hr.lt g1, g2.same (k.mono ?_ ?_)⟩
    · have := hm 0 i (Nat.zero_le _); omega
    · have := hm (i + 1) l.length (by omega); omega
theorem NodesIn.mono {w : World} {lo hi lo' hi' : Nat} {a : Option Addr} {l : List NodeD} (h : NodesIn w lo hi a l) (h1 : lo' ≤ lo) (h2 : hi ≤ hi') : NodesIn w lo' hi' a l := by
  rcases h with h | ⟨b, c, ha, g1, g2, g3, hr, hm, hc⟩
  · exact .inl h
  · exact .inr ⟨b, c, ha, by omega, g2, by omega, hr, hm, hc⟩
theorem NodesIn.nodes {w : World} {lo hi : Nat} {a : Option Addr} {l : List NodeD} (h : NodesIn w lo hi a l) : Nodes w a l := by
  rcases h with rfl | ⟨b, c, ha, h1, h2, h3, hr, hm, hc⟩
  · intro i hi
    simp at hi
  · intro i hi
    obtain ⟨a', cap, g1, g2⟩ := hc i hi
    exact ⟨b, 0, _, ha, hr.lt, by rw [Nat.zero_add]; exact g1, a', cap, rfl, g2.steps⟩
def cntNode (d : NodeD) : Nat := (d.steps.map cntStep).sum + 2
def markNode (d : NodeD) (k : Nat) : NodeD := { name := mtext k, cost := ((k + 1 : Nat) : Int), steps := markSteps d.steps (k + 2) }
def markNodes (l : List NodeD) (k : Nat) : List NodeD := l.mapIdx fun i d => markNode d (k + sumTo cntNode l i)
theorem markNodes_length (l : List NodeD) (k : Nat) : (markNodes l k).length = l.length := by simp [markNodes]
theorem markNodes_getD (l : List NodeD) (k i : Nat) (h : i < l.length) : (markNodes l k).getD i NodeD.zero = markNode (l.getD i NodeD.zero) (k + sumTo cntNode l i) := by simp [markNodes, List.getD, h]
theorem markNode_cells (d : NodeD) (k : Nat) (a : Option Addr) (cap : Nat) : (markNode d k).cells a cap = [.string (mtext k), .int .i64 ((k + 1 : Nat) : Int), .slice a d.steps.length cap] := by
  simp [markNode, NodeD.cells, markSteps_length]
def nodeMix (l : List NodeD) (k j t : Nat) : NodeD := if t < j then markNode (l.getD t NodeD.zero) (k + sumTo cntNode l t) else l.getD t NodeD.zero
theorem len_le_cntN (l : List NodeD) : l.length ≤ (l.map cntNode).sum := by
  induction l with
  | nil => simp
  | cons s r ih =>
    simp only [List.length_cons, List.map_cons, List.sum_cons]
    have : 2 ≤ cntNode s := by unfold cntNode; omega
    omega
end Go.Proofs.YtjhemildijapmaaGreatDoor
