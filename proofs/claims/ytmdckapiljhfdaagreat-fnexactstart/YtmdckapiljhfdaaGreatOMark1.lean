import Derived.Test.YtmdckapiljhfdaaGreatDBase
import Derived.Test.YtmdckapiljhfdaaGreatWConv
import Derived.Deep.RegionWith

/-
  MARKS: what the marking functions write, as data.
-/
namespace Go.Proofs.YtmdckapiljhfdaaGreat
open Go.RowKit

/-- The decimal digits of a number ahead of what is there. -/
def mdig (k : Nat) (acc : List UInt8) : List UInt8 := if k = 0 then acc else mdig (k / 10) (UInt8.ofNat (48 + k % 10) :: acc)
termination_by k
decreasing_by omega

theorem mdig_zero (acc : List UInt8) : mdig 0 acc = acc := by rw [mdig]; simp
theorem mdig_pos {k : Nat} (h : 0 < k) (acc : List UInt8) : mdig k acc = mdig (k / 10) (UInt8.ofNat (48 + k % 10) :: acc) := by rw [mdig, if_neg (by omega)]

def mtext (k : Nat) : ByteArray := ⟨(109 :: mdig k []).toArray⟩

def markStrs (l : List ByteArray) (k : Nat) : List ByteArray := l.mapIdx fun i _ => mtext (k + i)
def markCase (k : Nat) : CaseD := ⟨mtext k, ((k + 1 : Nat) : Int)⟩
def markCases (l : List CaseD) (k : Nat) : List CaseD := l.mapIdx fun i _ => markCase (k + i * 2)
def cntStep (s : StepD) : Nat := s.asks.length + s.cases.length * 2 + 6
def markStep (s : StepD) (k : Nat) : StepD :=
  { asks := markStrs s.asks k, on := ((k + s.asks.length : Nat) : Int), cases := markCases s.cases (k + s.asks.length + 1),
    els := ((k + s.asks.length + 1 + s.cases.length * 2 : Nat) : Int), fall := ((k + s.asks.length + 1 + s.cases.length * 2 + 1 : Nat) : Int),
    fin := decide ((k + s.asks.length + 1 + s.cases.length * 2 + 2) % 3 = 0), bad := decide ((k + s.asks.length + 1 + s.cases.length * 2 + 3) % 3 = 0),
    give := mtext (k + s.asks.length + 1 + s.cases.length * 2 + 4) }
def markSteps (l : List StepD) (k : Nat) : List StepD := l.mapIdx fun i s => markStep s (k + sumTo cntStep l i)

theorem markStrs_length (l : List ByteArray) (k : Nat) : (markStrs l k).length = l.length := by simp [markStrs]
theorem markCases_length (l : List CaseD) (k : Nat) : (markCases l k).length = l.length := by simp [markCases]
theorem markSteps_length (l : List StepD) (k : Nat) : (markSteps l k).length = l.length := by simp [markSteps]
theorem markStrs_getD (l : List ByteArray) (k i : Nat) (h : i < l.length) : (markStrs l k).getD i ByteArray.empty = mtext (k + i) := by simp [markStrs, List.getD, h]
theorem markCases_getD (l : List CaseD) (k i : Nat) (h : i < l.length) : (markCases l k).getD i CaseD.zero = markCase (k + i * 2) := by simp [markCases, List.getD, h]
theorem markSteps_getD (l : List StepD) (k i : Nat) (h : i < l.length) : (markSteps l k).getD i StepD.zero = markStep (l.getD i StepD.zero) (k + sumTo cntStep l i) := by simp [markSteps, List.getD, h]
theorem markStrs_nil (k : Nat) : markStrs [] k = [] := rfl
theorem markCases_nil (k : Nat) : markCases [] k = [] := rfl
theorem markSteps_nil (k : Nat) : markSteps [] k = [] := rfl

end Go.Proofs.YtmdckapiljhfdaaGreat

/-
  WALKS over marks: markText, markStringS, heldStringS.
-/
namespace Go.Proofs.YtmdckapiljhfdaaGreat
open Go.RowKit


/-- 'string([]byte{c})'. -/
theorem conv1 (W : World) (c : UInt8) (cap : Nat) : (convert 103 9 (.slice (some ⟨W.heap.size, 0, none⟩) 1 cap)).run Tryz.prog (W.alloc (.cells #[.int .u8 (c.toNat : Int)] 5)) = .ok (.string ⟨#[c]⟩) (W.alloc (.cells #[.int .u8 (c.toNat : Int)] 5)) :=
  run_convert_bytes_back (P := Tryz.prog) _ 103 9 5 ⟨W.heap.size, 0, none⟩ cap [c] Tryz.underlying103 Tryz.underlying5 Tryz.underlying9 (fun i hi => by
    obtain rfl : i = 0 := by simpa using hi
    simp [Addr.add])

theorem cons_ba (c : UInt8) (l : List UInt8) : (⟨#[c]⟩ : ByteArray) ++ ⟨l.toArray⟩ = ⟨(c :: l).toArray⟩ := by
  have := ByteArray.mk_append_mk [c] l
  simpa using this

theorem digit_u8 (m : Nat) : ((UInt8.ofNat (48 + m % 10)).toNat : Int) = 48 + (m : Int) % 10 := by
  have : (UInt8.ofNat (48 + m % 10)).toNat = 48 + m % 10 := by
    rw [UInt8.toNat_ofNat']
    omega
  rw [this]; omega

set_option maxRecDepth 100000 in
set_option maxHeartbeats 800000 in
theorem markText_any (w : World) (k : Nat) (h0 : 0 < k) (h1 : k ≤ 4611686018427387904) :
    Calls Tryz.prog 28 #[.int .i64 k] w fun e w' => e = .returned (.string (mtext k)) ∧ Kept w w' := by
  go_enter Tryz.func28, Tryz.ntmps28
  go_wp2
  go_loopw [0, 3] (fun x y wr => ∃ (m : Nat) (l : List UInt8), m ≤ k ∧ x = .int .i64 m ∧ y = .string ⟨l.toArray⟩ ∧ mdig m l = mdig k [] ∧ l.length + m ≤ 4611686018427387904 ∧ Kept w wr) (fun x _ _ => (intOf x).toNat)
  case atStart => exact ⟨k, [], Nat.le_refl _, rfl, rfl, rfl, by simpa using h1, Kept.refl _⟩
  case round =>
    obtain ⟨m, l, hm, rfl, rfl, hd, hlen, hw⟩ := hrel
    have HD := hide hd
    clear hd
    have hls : (⟨l.toArray⟩ : ByteArray).size = l.length := rfl
    by_cases hp : (0 : Int) < m
    · obtain ⟨c, hcd⟩ : ∃ c : UInt8, c = UInt8.ofNat (48 + m % 10) := ⟨_, rfl⟩
      have hc := conv1 wr c 1
      have hcn : (c.toNat : Int) = 48 + (m : Int) % 10 := by rw [hcd]; exact digit_u8 m
      rw [hcn] at hc
      have HC := hide hcd
      clear hcd hcn
      go_wp2
      go_roundw
      case rel =>
        refine ⟨m / 10, c :: l, by omega, by go_num, by rw [cons_ba], ?_, by simp; omega, hw.alloc _⟩
        rw [← HD.out, mdig_pos (by omega : 0 < m), HC.out]
      case measure => simp [intOf]; omega
    · have hm0 : m = 0 := by omega
      subst hm0
      rw [mdig_zero] at HD
      go_wp2
      go_ret
      refine ⟨?_, hw⟩
      unfold mtext
      rw [← HD.out, ← cons_ba]
      rfl

/-- A mark, at a number that the walk writes as a sum. -/
theorem markAt (k j : Nat) (h0 : 0 < k) (h1 : k + j ≤ 4611686018427387904) : ∃ s, s = mtext (k + j) ∧ ∀ W, Calls Tryz.prog 28 #[.int .i64 ((k : Int) + (j : Int))] W fun e w' => e = .returned (.string s) ∧ Kept W w' :=
  ⟨_, rfl, fun W => by
    have e0 : (k : Int) + (j : Int) = ((k + j : Nat) : Int) := by omega
    rw [e0]
    exact markText_any W (k + j) (by omega) h1⟩

set_option maxHeartbeats 800000 in
theorem markStringS_any (w : World) (lo hi : Nat) (a : Option Addr) (cap : Nat) (l : List ByteArray) (k : Nat) (h0 : 0 < k) (h1 : k + l.length ≤ 4611686018427387904) (hS : StrsIn w lo hi a l) :
    Calls Tryz.prog 14 #[.slice a l.length cap, .int .i64 k] w fun e w' => e = .returned (.int .i64 ((k + l.length : Nat) : Int)) ∧ StrsIn w' lo hi a (markStrs l k) ∧ KeptBut lo hi w w' := by
  rcases hS with rfl | ⟨B, rfl, hlo, hhi, hr, hf⟩
  · go_enter Tryz.func14, Tryz.ntmps14
    go_wp2
    go_loopw [1, 5] (fun x i wr => x = .int .i64 k ∧ i = .int .i64 0 ∧ wr = w) (fun _ _ _ => 0)
    case atStart => exact ⟨rfl, rfl, rfl⟩
    case round =>
      obtain ⟨rfl, rfl, rfl⟩ := hrel
      go_wp2
      go_ret
      exact ⟨by simp, .inl rfl, KeptBut.refl _ _ _⟩
  · go_enter Tryz.func14, Tryz.ntmps14
    go_wp2
    go_loopw [1, 5] (fun x i wr => ∃ j : Nat, j ≤ l.length ∧ i = .int .i64 j ∧ x = .int .i64 ((k : Int) + j) ∧ KeptBut lo hi w wr ∧ Row wr B l.length ∧ ∀ t, t < j → wr.cell? ⟨B, t, none⟩ = some (.string (mtext (k + t)))) (fun _ i _ => l.length - (intOf i).toNat)
    case atStart => exact ⟨0, Nat.zero_le _, rfl, by simp, KeptBut.refl _ _ _, hr, fun t ht => absurd ht (Nat.not_lt_zero _)⟩
    case round =>
      obtain ⟨j, hj, rfl, rfl, hw, hr', hf'⟩ := hrel
      clear hr hf
      have HR := hide hr'
      have HF := hide hf'
      clear hf'
      by_cases hlt : j < l.length
      · have hrl := hr'.lt
        have HM : Hid (∃ s, s = mtext (k + j) ∧ ∀ W, Calls Tryz.prog 28 #[.int .i64 ((k : Int) + (j : Int))] W fun e w' => e = .returned (.string s) ∧ Kept W w') := markAt k j h0 (by omega)
        obtain ⟨s, hs, hm⟩ := HM.out
        have HS := hide hs
        have HM1 := hide hm
        clear hs hm HM
        go_wp2_with fail
        refine (HM1.out _).mono ?_
        rintro e w1 ⟨rfl, k1⟩
        have hr1 := HR.out.kept k1
        have HR1 := hide hr1
        have HF1 : Hid (∀ t, t < j → w1.cell? ⟨B, t, none⟩ = some (.string (mtext (k + t)))) := fun t ht => by rw [k1.cell hrl]; exact HF.out t ht
        obtain ⟨⟨old, hcell⟩, hfroz⟩ := hr1.at hlt
        have hw1 := hw.trans (.of_kept k1)
        clear HR HF hr' hr1 hw
        go_wp2
        go_roundw
        case rel =>
          refine ⟨j + 1, by omega, by go_num, by go_num, hw1.setCell hlo hhi _, HR1.out.set _ rfl _, fun t ht => ?_⟩
          by_cases e : t = j
          · subst e
            rw [World.cell?_setCell_same _ _ _ hcell, HS.out]
          · rw [World.cell?_setCell_other _ _ _ _ (by simp <;> omega)]
            exact HF1.out t (by omega)
        case measure => simp [intOf]; omega
      · have : j = l.length := by omega
        subst this
        go_wp2
        go_ret
        refine ⟨ret_int (by omega), .inr ⟨B, rfl, hlo, hhi, by rw [markStrs_length]; exact HR.out, fun i hi' => ?_⟩, hw⟩
        rw [markStrs_length] at hi'
        rw [markStrs_getD _ _ _ hi']
        exact HF.out i hi'

set_option maxHeartbeats 800000 in
theorem heldStringS_yes (w : World) (a : Option Addr) (cap : Nat) (l : List ByteArray) (k : Nat) (h0 : 0 < k) (h1 : k + l.length ≤ 4611686018427387904) (hS : Strs w a (markStrs l k)) :
    Calls Tryz.prog 30 #[.slice a l.length cap, .int .i64 k] w fun e w' => e = .returned (.int .i64 ((k + l.length : Nat) : Int)) ∧ Kept w w' := by
  go_enter Tryz.func30, Tryz.ntmps30
  go_wp2
  go_loopw [1, 5] (fun x i wr => ∃ j : Nat, j ≤ l.length ∧ i = .int .i64 j ∧ x = .int .i64 ((k : Int) + j) ∧ Kept w wr) (fun _ i _ => l.length - (intOf i).toNat)
  case atStart => exact ⟨0, Nat.zero_le _, rfl, by simp, Kept.refl _⟩
  case round =>
    obtain ⟨j, hj, rfl, rfl, hw⟩ := hrel
    by_cases hlt : j < l.length
    · obtain ⟨b, o, rfl, hb, hc⟩ := hS j (by rw [markStrs_length]; exact hlt)
      rw [markStrs_getD _ _ _ hlt] at hc
      have hbr : b < wr.heap.size := Nat.lt_of_lt_of_le hb hw.size
      have hcr : wr.cell? ⟨b, o + j, none⟩ = some (.string (mtext (k + j))) := by rw [hw.cell hb]; exact hc
      clear hc
      obtain ⟨s, hs, hm⟩ := markAt k j h0 (by omega)
      rw [← hs] at hcr
      have HM1 := hide hm
      clear hs hm
      go_wp2
      go_region_with (go_at_call 28; refine (HM1.out _).mono ?_; rintro e w1 ⟨rfl, k1⟩; have kk : Kept wr w1 := Kept.trans (by repeat (first | apply Kept.drew | exact Kept.refl _)) k1; have hc1 := (kk.cell hbr).trans hcr)
      all_goals
        go_wp2
        go_roundw
        case rel => exact ⟨j + 1, by omega, by go_num, by go_num, by repeat (first | exact hw.trans kk | apply Kept.drew)⟩
        case measure => simp [intOf]; omega
    · have : j = l.length := by omega
      subst this
      go_wp2
      go_ret
      exact ⟨ret_int (by omega), hw⟩

end Go.Proofs.YtmdckapiljhfdaaGreat
