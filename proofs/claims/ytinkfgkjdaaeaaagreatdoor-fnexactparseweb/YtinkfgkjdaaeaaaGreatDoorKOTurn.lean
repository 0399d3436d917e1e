import Derived.Test.YtinkfgkjdaaeaaaGreatDoorKWImpl2
import Derived.Test.YtinkfgkjdaaeaaaGreatDoorKOMarkD
import Derived.Deep.RegionWith

namespace Go.Proofs.YtinkfgkjdaaeaaaGreatDoor
open Go.RowKit

theorem conv1 (W : World) (c : UInt8) (cap : Nat) : (convert 63 9 (.slice (some ⟨W.heap.size, 0, none⟩) 1 cap)).run Tryz.prog (W.alloc (.cells #[.int .u8 (c.toNat : Int)] 5)) = .ok (.string ⟨#[c]⟩) (W.alloc (.cells #[.int .u8 (c.toNat : Int)] 5)) :=
  run_convert_bytes_back (P := Tryz.prog) _ 63 9 5 ⟨W.heap.size, 0, none⟩ cap [c] Tryz.underlying63 Tryz.underlying5 Tryz.underlying9 (fun i hi => by
    obtain rfl : i = 0 := by simpa using hi
    simp [Addr.add])

theorem cons_ba (c : UInt8) (l : List UInt8) : (⟨#[c]⟩ : ByteArray) ++ ⟨l.toArray⟩ = ⟨(c :: l).toArray⟩ := by
  have := ByteArray.mk_append_mk [c] l
  simpa using this

theorem digit_u8 (m : Nat) : ((UInt8.ofNat (48 + m % 10)).toNat : Int) = 48 + (m : Int) % 10 := by
  have : (UInt8.ofNat (48 + m % 10)).toNat = 48 + m % 10 := by
    rw [UInt8.toNat_ofNat']
    omega
  rw [this]; omega

set_option maxRecDepth 100000 in
set_option maxHeartbeats 800000 in
theorem markText_any (w : World) (k : Nat) (h0 : 0 < k) (h1 : k ≤ 4611686018427387904) :
    Calls Tryz.prog 39 #[.int .i64 k] w fun e w' => e = .returned (.string (mtext k)) ∧ Kept w w' := by
  go_enter Tryz.func39, Tryz.ntmps39
  go_wp2
  go_loopw [0, 3] (fun x y wr => ∃ (m : Nat) (l : List UInt8), m ≤ k ∧ x = .int .i64 m ∧ y = .string ⟨l.toArray⟩ ∧ mdig m l = mdig k [] ∧ l.length + m ≤ 4611686018427387904 ∧ Kept w wr) (fun x _ _ => (intOf x).toNat)
  case atStart => exact ⟨k, [], Nat.le_refl _, rfl, rfl, rfl, by simpa using h1, Kept.refl _⟩
  case round =>
    obtain ⟨m, l, hm, rfl, rfl, hd, hlen, hw⟩ := hrel
    have HD := hide hd
    clear hd
    have hls : (⟨l.toArray⟩ : ByteArray).size = l.length := rfl
    by_cases hp : (0 : Int) < m
    · obtain ⟨c, hcd⟩ : ∃ c : UInt8, c = UInt8.ofNat (48 + m % 10) := ⟨_, rfl⟩
      have hc := conv1 wr c 1
      have hcn : (c.toNat : Int) = 48 + (m : Int) % 10 := by rw [hcd]; exact digit_u8 m
      rw [hcn] at hc
      have HC := hide hcd
      clear hcd hcn
      go_wp2
      go_roundw
      case rel =>
        refine ⟨m / 10, c :: l, by omega, by go_num, by rw [cons_ba], ?_, by simp; omega, hw.alloc _⟩
        rw [← HD.out, mdig_pos (by omega : 0 < m), HC.out]
      case measure => simp [intOf]; omega
    · have hm0 : m = 0 := by omega
      subst hm0
      rw [mdig_zero] at HD
      go_wp2
      go_ret
      refine ⟨?_, hw⟩
      unfold mtext
      rw [← HD.out, ← cons_ba]
      rfl

theorem markAt (k j : Nat) (h0 : 0 < k) (h1 : k + j ≤ 4611686018427387904) : ∃ s, s = mtext (k + j) ∧ ∀ W, Calls Tryz.prog 39 #[.int .i64 ((k : Int) + (j : Int))] W fun e w' => e = .returned (.string s) ∧ Kept W w' :=
  ⟨_, rfl, fun W => by
    have e0 : (k : Int) + (j : Int) = ((k + j : Nat) : Int) := by omega
    rw [e0]
    exact markText_any W (k + j) (by omega) h1⟩

set_option maxHeartbeats 800000 in
theorem markStringS_any (w : World) (lo hi : Nat) (a : Option Addr) (cap : Nat) (l : List ByteArray) (k : Nat) (h0 : 0 < k) (h1 : k + l.length ≤ 4611686018427387904) (hS : StrsIn w lo hi a l) :
    Calls Tryz.prog 61 #[.slice a l.length cap, .int .i64 k] w fun e w' => e = .returned (.int .i64 ((k + l.length : Nat) : Int)) ∧ StrsIn w' lo hi a (markStrs l k) ∧ KeptBut lo hi w w' := by
  rcases hS with rfl | ⟨B, rfl, hlo, hhi, hr, hf⟩
  · go_enter Tryz.func61, Tryz.ntmps61
    go_wp2
    go_loopw [1, 5] (fun x i wr => x = .int .i64 k ∧ i = .int .i64 0 ∧ wr = w) (fun _ _ _ => 0)
    case atStart => exact ⟨rfl, rfl, rfl⟩
    case round =>
      obtain ⟨rfl, rfl, rfl⟩ := hrel
      go_wp2
      go_ret
      exact ⟨by simp, .inl rfl, KeptBut.refl _ _ _⟩
  · go_enter Tryz.func61, Tryz.ntmps61
    go_wp2
    go_loopw [1, 5] (fun x i wr => ∃ j : Nat, j ≤ l.length ∧ i = .int .i64 j ∧ x = .int .i64 ((k : Int) + j) ∧ KeptBut lo hi w wr ∧ Row wr B l.length ∧ ∀ t, t < j → wr.cell? ⟨B, t, none⟩ = some (.string (mtext (k + t)))) (fun _ i _ => l.length - (intOf i).toNat)
    case atStart => exact ⟨0, Nat.zero_le _, rfl, by simp, KeptBut.refl _ _ _, hr, fun t ht => absurd ht (Nat.not_lt_zero _)⟩
    case round =>
      obtain ⟨j, hj, rfl, rfl, hw, hr', hf'⟩ := hrel
      clear hr hf
      have HR := hide hr'
      have HF := hide hf'
      clear hf'
      by_cases hlt : j < l.length
      · have hrl := hr'.lt
        have HM : Hid (∃ s, s = mtext (k + j) ∧ ∀ W, Calls Tryz.prog 39 #[.int .i64 ((k : Int) + (j : Int))] W fun e w' => e = .returned (.string s) ∧ Kept W w') := markAt k j h0 (by omega)
        obtain ⟨s, hs, hm⟩ := HM.out
        have HS := hide hs
        have HM1 := hide hm
        clear hs hm HM
        go_wp2_with fail
        refine (HM1.out _).mono ?_
        rintro e w1 ⟨rfl, k1⟩
        have hr1 := HR.out.kept k1
        have HR1 := hide hr1
        have HF1 : Hid (∀ t, t < j → w1.cell? ⟨B, t, none⟩ = some (.string (mtext (k + t)))) := fun t ht => by rw [k1.cell hrl]; exact HF.out t ht
        obtain ⟨⟨old, hcell⟩, hfroz⟩ := hr1.at hlt
        have hw1 := hw.trans (.of_kept k1)
        clear HR HF hr' hr1 hw
        go_wp2
        go_roundw
        case rel =>
          refine ⟨j + 1, by omega, by go_num, by go_num, hw1.setCell hlo hhi _, HR1.out.set _ rfl _, fun t ht => ?_⟩
          by_cases e : t = j
          · subst e
            rw [World.cell?_setCell_same _ _ _ hcell, HS.out]
          · rw [World.cell?_setCell_other _ _ _ _ (by simp <;> omega)]
            exact HF1.out t (by omega)
        case measure => simp [intOf]; omega
      · have : j = l.length := by omega
        subst this
        go_wp2
        go_ret
        refine ⟨ret_int (by omega), .inr ⟨B, rfl, hlo, hhi, by rw [markStrs_length]; exact HR.out, fun i hi' => ?_⟩, hw⟩
        rw [markStrs_length] at hi'
        rw [markStrs_getD _ _ _ hi']
        exact HF.out i hi'

set_option maxHeartbeats 800000 in
theorem heldStringS_yes (w : World) (a : Option Addr) (cap : Nat) (l : List ByteArray) (k : Nat) (h0 : 0 < k) (h1 : k + l.length ≤ 4611686018427387904) (hS : Strs w a (markStrs l k)) :
    Calls Tryz.prog 63 #[.slice a l.length cap, .int .i64 k] w fun e w' => e = .returned (.int .i64 ((k + l.length : Nat) : Int)) ∧ Kept w w' := by
  go_enter Tryz.func63, Tryz.ntmps63
  go_wp2
  go_loopw [1, 5] (fun x i wr => ∃ j : Nat, j ≤ l.length ∧ i = .int .i64 j ∧ x = .int .i64 ((k : Int) + j) ∧ Kept w wr) (fun _ i _ => l.length - (intOf i).toNat)
  case atStart => exact ⟨0, Nat.zero_le _, rfl, by simp, Kept.refl _⟩
  case round =>
    obtain ⟨j, hj, rfl, rfl, hw⟩ := hrel
    by_cases hlt : j < l.length
    · obtain ⟨b, o, rfl, hb, hc⟩ := hS j (by rw [markStrs_length]; exact hlt)
      rw [markStrs_getD _ _ _ hlt] at hc
      have hbr : b < wr.heap.size := Nat.lt_of_lt_of_le hb hw.size
      have hcr : wr.cell? ⟨b, o + j, none⟩ = some (.string (mtext (k + j))) := by rw [hw.cell hb]; exact hc
      clear hc
      obtain ⟨s, hs, hm⟩ := markAt k j h0 (by omega)
      rw [← hs] at hcr
      have HM1 := hide hm
      clear hs hm
      go_wp2
      go_region_with (go_at_call 39; refine (HM1.out _).mono ?_; rintro e w1 ⟨rfl, k1⟩; have kk : Kept wr w1 := Kept.trans (by repeat (first | apply Kept.drew | exact Kept.refl _)) k1; have hc1 := (kk.cell hbr).trans hcr)
      all_goals
        go_wp2
        go_roundw
        case rel => exact ⟨j + 1, by omega, by go_num, by go_num, by repeat (first | exact hw.trans kk | apply Kept.drew)⟩
        case measure => simp [intOf]; omega
    · have : j = l.length := by omega
      subst this
      go_wp2
      go_ret
      exact ⟨ret_int (by omega), hw⟩

end Go.Proofs.YtinkfgkjdaaeaaaGreatDoor

namespace Go.Proofs.YtinkfgkjdaaeaaaGreatDoor
open Go.RowKit

theorem markM (m : Nat) (h0 : 0 < m) (h1 : m ≤ 4611686018427387904) : ∃ s, s = mtext m ∧ ∀ W, Calls Tryz.prog 39 #[.int .i64 (m : Int)] W fun e w' => e = .returned (.string s) ∧ Kept W w' :=
  ⟨_, rfl, fun W => markText_any W m h0 h1⟩

theorem range2 {w : World} {b o : Nat} {x y : Value} (h0 : w.cell? ⟨b, o, none⟩ = some x) (h1 : w.cell? ⟨b, o + 1, none⟩ = some y) : w.rangeAt b o [x, y] := by
  intro i v hv
  match i, hv with
  | 0, hv => simp at hv; subst hv; exact h0
  | 1, hv => simp at hv; subst hv; exact h1
  | i + 2, hv => simp at hv

theorem two_set {w : World} {b o : Nat} {x y old old1 : Value} (h0 : w.cell? ⟨b, o, none⟩ = some old) (h1 : w.cell? ⟨b, o + 1, none⟩ = some old1) : ((w.setCell ⟨b, o, none⟩ x).setCell ⟨b, o + 1, none⟩ y).rangeAt b o [x, y] := by
  have h2 : (w.setCell ⟨b, o, none⟩ x).cell? ⟨b, o + 1, none⟩ = some old1 := by rw [World.cell?_setCell_other _ _ _ _ (by simp)]; exact h1
  refine range2 ?_ ?_
  · rw [World.cell?_setCell_other _ _ _ _ (by simp), World.cell?_setCell_same _ _ _ h0]
  · rw [World.cell?_setCell_same _ _ _ h2]

set_option maxHeartbeats 800000 in
theorem markCaseS_any (w : World) (lo hi : Nat) (a : Option Addr) (cap : Nat) (l : List CaseD) (k : Nat) (h0 : 0 < k) (h1 : k + l.length * 2 ≤ 4611686018427387904) (hS : CasesIn w lo hi a l) :
    Calls Tryz.prog 62 #[.slice a l.length cap, .int .i64 k] w fun e w' => e = .returned (.int .i64 ((k + l.length * 2 : Nat) : Int)) ∧ CasesIn w' lo hi a (markCases l k) ∧ KeptBut lo hi w w' := by
  rcases hS with rfl | ⟨B, rfl, hlo, hhi, hr, hf⟩
  · go_enter Tryz.func62, Tryz.ntmps62
    go_wp2
    go_loopw [1, 5] (fun x i wr => x = .int .i64 k ∧ i = .int .i64 0 ∧ wr = w) (fun _ _ _ => 0)
    case atStart => exact ⟨rfl, rfl, rfl⟩
    case round =>
      obtain ⟨rfl, rfl, rfl⟩ := hrel
      go_wp2
      go_ret
      exact ⟨by simp, .inl rfl, KeptBut.refl _ _ _⟩
  · go_enter Tryz.func62, Tryz.ntmps62
    go_wp2
    go_loopw [1, 5] (fun x i wr => ∃ j m : Nat, j ≤ l.length ∧ i = .int .i64 j ∧ x = .int .i64 m ∧ m = k + j * 2 ∧ KeptBut lo hi w wr ∧ Row wr B (l.length * 2) ∧ ∀ t, t < j → wr.rangeAt B (t * 2) (markCase (k + t * 2)).cells) (fun _ i _ => l.length - (intOf i).toNat)
    case atStart => exact ⟨0, k, Nat.zero_le _, rfl, rfl, by omega, KeptBut.refl _ _ _, hr, fun t ht => absurd ht (Nat.not_lt_zero _)⟩
    case round =>
      obtain ⟨j, m, hj, rfl, rfl, hm, hw, hr', hf'⟩ := hrel
      clear hr hf
      have HR := hide hr'
      have HF := hide hf'
      have HMn := hide hm
      by_cases hlt : j < l.length
      · have hrl := hr'.lt
        have hm2 : m + 2 ≤ 4611686018427387904 := by omega
        obtain ⟨s, hs, hmt⟩ := markM m (by omega) (by omega)
        have HS := hide hs
        have HM1 := hide hmt
        clear hs hmt hf' hm
        go_wp2_with fail
        refine (HM1.out _).mono ?_
        rintro e w1 ⟨rfl, k1⟩
        have hr1 := HR.out.kept k1
        have HR1 := hide hr1
        have HF1 : Hid (∀ t, t < j → w1.rangeAt B (t * 2) (markCase (k + t * 2)).cells) := fun t ht => k1.range hrl (HF.out t ht)
        obtain ⟨⟨old, hcell⟩, hfroz⟩ := hr1.at (i := j * 2) (by omega)
        obtain ⟨⟨old1, hcell1⟩, hfroz1⟩ := hr1.at (i := j * 2 + 1) (by omega)
        have hw1 := hw.trans (.of_kept k1)
        clear HR HF hr' hr1 hw
        go_wp2
        go_roundw
        case rel =>
          refine ⟨j + 1, m + 2, by omega, by go_num, by go_num, by have := HMn.out; omega, (hw1.setCell hlo hhi _).setCell hlo hhi _, (HR1.out.set _ rfl _).set _ rfl _, fun t ht => ?_⟩
          by_cases e : t = j
          · subst e
            have e1 : markCase (k + t * 2) = ⟨s, ((m + 1 : Nat) : Int)⟩ := by unfold markCase; rw [← HMn.out, HS.out]
            rw [e1]
            exact two_set hcell hcell1
          · intro i v hv
            have hi2 : i < 2 := by have := (List.getElem?_eq_some_iff.1 hv).1; simpa [CaseD.cells] using this
            rw [World.cell?_setCell_other _ _ _ _ (by simp <;> omega), World.cell?_setCell_other _ _ _ _ (by simp <;> omega)]
            exact HF1.out t (by omega) i v hv
        case measure => simp [intOf]; omega
      · have : j = l.length := by omega
        subst this
        go_wp2
        go_ret
        refine ⟨ret_int (by have := HMn.out; omega), .inr ⟨B, rfl, hlo, hhi, by rw [markCases_length]; exact HR.out, fun i hi' => ?_⟩, hw⟩
        rw [markCases_length] at hi'
        rw [markCases_getD _ _ _ hi']
        exact HF.out i hi'

set_option maxHeartbeats 800000 in
theorem heldCaseS_yes (w : World) (a : Option Addr) (cap : Nat) (l : List CaseD) (k : Nat) (h0 : 0 < k) (h1 : k + l.length * 2 ≤ 4611686018427387904) (hS : Cases w a (markCases l k)) :
    Calls Tryz.prog 64 #[.slice a l.length cap, .int .i64 k] w fun e w' => e = .returned (.int .i64 ((k + l.length * 2 : Nat) : Int)) ∧ Kept w w' := by
  go_enter Tryz.func64, Tryz.ntmps64
  go_wp2
  go_loopw [1, 5] (fun x i wr => ∃ j m : Nat, j ≤ l.length ∧ i = .int .i64 j ∧ x = .int .i64 m ∧ m = k + j * 2 ∧ Kept w wr) (fun _ i _ => l.length - (intOf i).toNat)
  case atStart => exact ⟨0, k, Nat.zero_le _, rfl, rfl, by omega, Kept.refl _⟩
  case round =>
    obtain ⟨j, m, hj, rfl, rfl, hm, hw⟩ := hrel
    have HMn := hide hm
    by_cases hlt : j < l.length
    · obtain ⟨b, o, rfl, hb, hc⟩ := hS j (by rw [markCases_length]; exact hlt)
      rw [markCases_getD _ _ _ hlt, ← hm] at hc
      have hm2 : m + 2 ≤ 4611686018427387904 := by omega
      have hbr : b < wr.heap.size := Nat.lt_of_lt_of_le hb hw.size
      have hcr := hw.range hb hc
      obtain ⟨s, hs, hmt⟩ := markM m (by omega) (by omega)
      have c0 := hcr 0 (.string s) (by rw [hs]; rfl)
      have c1 := hcr 1 (.int .i64 ((m + 1 : Nat) : Int)) rfl
      have e1 : ((m + 1 : Nat) : Int) = (m : Int) + 1 := by omega
      rw [Nat.add_zero] at c0
      rw [e1] at c1
      have HM1 := hide hmt
      clear hs hmt hc hcr hm
      go_wp2
      go_region_with (go_at_call 39; refine (HM1.out _).mono ?_; rintro e w1 ⟨rfl, k1⟩; have kk : Kept wr w1 := Kept.trans (by repeat (first | apply Kept.drew | exact Kept.refl _)) k1; have hc1 := (kk.cell (o := o + j * 2) hbr).trans c0; have hc2 := (kk.cell (o := o + j * 2 + 1) hbr).trans c1)
      all_goals
        go_wp2
        go_roundw
        case rel => exact ⟨j + 1, m + 2, by omega, by go_num, by go_num, by have := HMn.out; omega, by repeat (first | exact hw.trans kk | apply Kept.drew)⟩
        case measure => simp [intOf]; omega
    · have : j = l.length := by omega
      subst this
      go_wp2
      go_ret
      exact ⟨ret_int (by have := HMn.out; omega), hw⟩

end Go.Proofs.YtinkfgkjdaaeaaaGreatDoor

namespace Go.Proofs.YtinkfgkjdaaeaaaGreatDoor
open Go.RowKit

structure Turn (B p q lo hi : Nat) (w w' : World) : Prop where
  os : w'.os = w.os
  tape : w'.tape = w.tape
  output : w'.output = w.output
  size : w.heap.size ≤ w'.heap.size
  block : ∀ k, k < w.heap.size → k ≠ B → (k < lo ∨ hi ≤ k) → w'.heap[k]? = w.heap[k]?
  cell : ∀ o, (o < p ∨ q ≤ o) → w'.cell? ⟨B, o, none⟩ = w.cell? ⟨B, o, none⟩

theorem Turn.refl (B p q lo hi : Nat) (w : World) : Turn B p q lo hi w w := ⟨rfl, rfl, rfl, Nat.le_refl _, fun _ _ _ _ => rfl, fun _ _ => rfl⟩
theorem Turn.but {B p q lo hi l2 h2 : Nat} {a b c : World} (h : Turn B p q lo hi a b) (k : KeptBut l2 h2 b c) (h1 : lo ≤ l2) (h3 : h2 ≤ hi) (hB : B < l2 ∨ h2 ≤ B) (hs : B < b.heap.size) : Turn B p q lo hi a c :=
  ⟨k.os.trans h.os, k.tape.trans h.tape, k.output.trans h.output, Nat.le_trans h.size k.size,
    fun i hi' hn ho => (k.block i (Nat.lt_of_lt_of_le hi' h.size) (by omega)).trans (h.block i hi' hn ho),
    fun o ho => (World.cell?_of_block (w := b) (k.block B hs hB)).trans (h.cell o ho)⟩
theorem Turn.kept {B p q lo hi : Nat} {a b c : World} (h : Turn B p q lo hi a b) (k : Kept b c) (hs : B < b.heap.size) : Turn B p q lo hi a c :=
  ⟨k.os.trans h.os, k.tape.trans h.tape, k.output.trans h.output, Nat.le_trans h.size k.size,
    fun i hi' hn ho => (k.block i (Nat.lt_of_lt_of_le hi' h.size)).trans (h.block i hi' hn ho),
    fun o ho => (k.cell hs).trans (h.cell o ho)⟩
theorem Turn.setCell {B p q lo hi o : Nat} {a b : World} (h : Turn B p q lo hi a b) (h1 : p ≤ o) (h2 : o < q) (v : Value) : Turn B p q lo hi a (b.setCell ⟨B, o, none⟩ v) :=
  ⟨h.os, h.tape, h.output, by rw [size_setCell]; exact h.size, fun k hk hn ho => by rw [Below.heap_setCell _ _ _ _ hn]; exact h.block k hk hn ho,
    fun t ht => by rw [World.cell?_setCell_other _ _ _ _ (by simp <;> omega)]; exact h.cell t ht⟩

theorem Turn.same {B p q lo hi l2 h2 : Nat} {w w' : World} (h : Turn B p q lo hi w w') (hd : h2 ≤ lo ∨ hi ≤ l2) (hB : B < l2 ∨ h2 ≤ B) : Same l2 h2 w w' :=
  fun b h1 h2' hs => h.block b hs (by omega) (by omega)
theorem Turn.keptBut {B p q lo hi l2 h2 : Nat} {w w' : World} (h : Turn B p q lo hi w w') (h1 : l2 ≤ lo) (h3 : hi ≤ h2) (hB : l2 ≤ B) (hB2 : B < h2) : KeptBut l2 h2 w w' :=
  ⟨h.os, h.tape, h.output, h.size, fun k hk ho => h.block k hk (by omega) (by omega)⟩
theorem Turn.range {B p q lo hi o : Nat} {w w' : World} {cs : List Value} (h : Turn B p q lo hi w w') (ho : o + cs.length ≤ p ∨ q ≤ o) (hr : w.rangeAt B o cs) : w'.rangeAt B o cs := by
  intro i v hv
  have hi' := (List.getElem?_eq_some_iff.1 hv).1
  rw [h.cell (o + i) (by omega)]
  exact hr i v hv

theorem range8 {w : World} {b o : Nat} {x0 x1 x2 x3 x4 x5 x6 x7 : Value} (h0 : w.cell? ⟨b, o, none⟩ = some x0) (h1 : w.cell? ⟨b, o + 1, none⟩ = some x1) (h2 : w.cell? ⟨b, o + 2, none⟩ = some x2) (h3 : w.cell? ⟨b, o + 3, none⟩ = some x3)
    (h4 : w.cell? ⟨b, o + 4, none⟩ = some x4) (h5 : w.cell? ⟨b, o + 5, none⟩ = some x5) (h6 : w.cell? ⟨b, o + 6, none⟩ = some x6) (h7 : w.cell? ⟨b, o + 7, none⟩ = some x7) : w.rangeAt b o [x0, x1, x2, x3, x4, x5, x6, x7] := by
  intro i v hv
  match i, hv with
  | 0, hv => simp at hv; subst hv; exact h0
  | 1, hv => simp at hv; subst hv; exact h1
  | 2, hv => simp at hv; subst hv; exact h2
  | 3, hv => simp at hv; subst hv; exact h3
  | 4, hv => simp at hv; subst hv; exact h4
  | 5, hv => simp at hv; subst hv; exact h5
  | 6, hv => simp at hv; subst hv; exact h6
  | 7, hv => simp at hv; subst hv; exact h7
  | i + 8, hv => simp at hv
theorem range3 {w : World} {b o : Nat} {x0 x1 x2 : Value} (h0 : w.cell? ⟨b, o, none⟩ = some x0) (h1 : w.cell? ⟨b, o + 1, none⟩ = some x1) (h2 : w.cell? ⟨b, o + 2, none⟩ = some x2) : w.rangeAt b o [x0, x1, x2] := by
  intro i v hv
  match i, hv with
  | 0, hv => simp at hv; subst hv; exact h0
  | 1, hv => simp at hv; subst hv; exact h1
  | 2, hv => simp at hv; subst hv; exact h2
  | i + 3, hv => simp at hv

theorem four_set {w : World} {b n o : Nat} (h : Row w b n) (ho : o + 7 < n) (v3 v4 v5 v6 : Value) : ∃ W, W = (((w.setCell ⟨b, o + 3, none⟩ v3).setCell ⟨b, o + 4, none⟩ v4).setCell ⟨b, o + 5, none⟩ v5).setCell ⟨b, o + 6, none⟩ v6 ∧ Row W b n ∧
    W.cell? ⟨b, o, none⟩ = w.cell? ⟨b, o, none⟩ ∧ W.cell? ⟨b, o + 1, none⟩ = w.cell? ⟨b, o + 1, none⟩ ∧ W.cell? ⟨b, o + 2, none⟩ = w.cell? ⟨b, o + 2, none⟩ ∧ W.cell? ⟨b, o + 3, none⟩ = some v3 ∧ W.cell? ⟨b, o + 4, none⟩ = some v4 ∧ W.cell? ⟨b, o + 5, none⟩ = some v5 ∧ W.cell? ⟨b, o + 6, none⟩ = some v6 := by
  have r1 := h.set ⟨b, o + 3, none⟩ rfl v3
  have r2 := r1.set ⟨b, o + 4, none⟩ rfl v4
  have r3 := r2.set ⟨b, o + 5, none⟩ rfl v5
  refine ⟨_, rfl, r3.set _ rfl _, ?_, ?_, ?_, ?_, ?_, ?_, ?_⟩
  · rw [set_miss (by omega), set_miss (by omega), set_miss (by omega), set_miss (by omega)]
  · rw [set_miss (by omega), set_miss (by omega), set_miss (by omega), set_miss (by omega)]
  · rw [set_miss (by omega), set_miss (by omega), set_miss (by omega), set_miss (by omega)]
  · rw [set_miss (by omega), set_miss (by omega), set_miss (by omega)]; exact set_hit h (by omega) _
  · rw [set_miss (by omega), set_miss (by omega)]; exact set_hit r1 (by omega) _
  · rw [set_miss (by omega)]; exact set_hit r2 (by omega) _
  · exact set_hit r3 (by omega) _

theorem mod3 (m d : Nat) (z : Int) (h : z = ((m + d : Nat) : Int)) : (z % 3 == 0) = decide ((m + d) % 3 = 0) := by
  subst h
  rw [Bool.eq_iff_iff]
  simp
  omega

def stepMix (l : List StepD) (k j t : Nat) : StepD := if t < j then markStep (l.getD t StepD.zero) (k + sumTo cntStep l t) else l.getD t StepD.zero

theorem len_le_cnt (l : List StepD) : l.length ≤ (l.map cntStep).sum := by
  induction l with
  | nil => simp
  | cons s r ih =>
    simp only [List.length_cons, List.map_cons, List.sum_cons]
    have : 6 ≤ cntStep s := by unfold cntStep; omega
    omega

theorem markStep_cells (s : StepD) (k : Nat) (aa : Option Addr) (ca : Nat) (ac : Option Addr) (cc : Nat) : (markStep s k).cells aa ca ac cc =
    [.slice aa s.asks.length ca, .int .i64 ((k + s.asks.length : Nat) : Int), .slice ac s.cases.length cc, .int .i64 ((k + s.asks.length + 1 + s.cases.length * 2 : Nat) : Int), .int .i64 ((k + s.asks.length + 1 + s.cases.length * 2 + 1 : Nat) : Int),
      .bool (decide ((k + s.asks.length + 1 + s.cases.length * 2 + 2) % 3 = 0)), .bool (decide ((k + s.asks.length + 1 + s.cases.length * 2 + 3) % 3 = 0)), .string (mtext (k + s.asks.length + 1 + s.cases.length * 2 + 4))] := by
  simp [markStep, StepD.cells, markStrs_length, markCases_length]

end Go.Proofs.YtinkfgkjdaaeaaaGreatDoor
