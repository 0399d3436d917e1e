import Derived.Test.YtlllckfifkgcnaaDoorDLabel
import Derived.Laws.BytesArg

/-
  THE WALK over spec.l1Ask (what thing number i asks for).
-/
namespace Go.Proofs.YtlllckfifkgcnaaDoor
open Go.RowKit

theorem Rd.kept {w w' : World} {rb : Nat} {a : Option Addr} {cap : Nat} {bs : List UInt8} {p : Nat} (h : Rd w rb a cap bs p) (k : Kept w w') : Rd w' rb a cap bs p := by
  refine ⟨h.row.kept k, by rw [k.cell h.row.lt]; exact h.c0, by rw [k.cell h.row.lt]; exact h.c1, fun i hi => ?_⟩
  obtain ⟨b, o, e, hne, hb, hc⟩ := h.bytes i hi
  exact ⟨b, o, e, hne, Nat.lt_of_lt_of_le hb k.size, by rw [k.cell hb]; exact hc⟩

/-- A text that was drawn: at most m bytes, at most t numbers picked. -/
def Drawn (w w' : World) (rb : Nat) (a : Option Addr) (cap : Nat) (bs : List UInt8) (p t m : Nat) (e : Ending) : Prop :=
  ∃ (s : ByteArray) (p' : Nat), e = .returned (.string s) ∧ s.size ≤ m ∧ p ≤ p' ∧ p' ≤ p + t ∧ Rd w' rb a cap bs p' ∧ KeptBut rb (rb + 1) w w'

/-- pick at a number that is written out. -/
theorem pick_at (w : World) (rb : Nat) (a : Option Addr) (cap : Nat) (bs : List UInt8) (p : Nat) (m : Int) (n : Nat) (hm : m = (n : Int)) (hR : Rd w rb a cap bs p) (hp : p ≤ 1000000) (hn : n ≤ 100000) (hbl : bs.length ≤ 2000) :
    Calls Tryd.prog 16 #[.pointer (some ⟨rb, 0, none⟩), .int .i64 m] w fun e w' => Picked w w' rb a cap bs p n e := by
  rw [hm]
  exact pick_any w rb a cap bs p n hR hp hn hbl

theorem KeptBut.and_kept {lo hi : Nat} {a b c : World} (h : KeptBut lo hi a b) (k : Kept b c) : KeptBut lo hi a c := h.trans (.of_kept k)

set_option maxRecDepth 100000 in
set_option maxHeartbeats 1600000 in
theorem ask_any (w : World) (rb : Nat) (a : Option Addr) (cap : Nat) (bs : List UInt8) (p i n : Nat) (hR : Rd w rb a cap bs p) (hp : p ≤ 900000) (hi : i ≤ 100000) (hn : n ≤ 100000) (hbl : bs.length ≤ 2000) :
    Calls Tryd.prog 32 #[.pointer (some ⟨rb, 0, none⟩), .int .i64 (i : Int), .int .i64 (n : Int)] w fun e w' => Drawn w w' rb a cap bs p 2 4 e := by
  go_enter Tryd.func32, Tryd.ntmps32
  go_wp2_with fail
  refine (pick_at _ rb a cap bs p _ 12 rfl hR (by omega) (by omega) hbl).mono ?_
  rintro e w1 ⟨v, rfl, hv, hR1, kb1⟩
  have HR1 := hide hR1
  have HK1 := hide kb1
  clear hR1 kb1 hR
  by_cases h0 : v = 0
  · have e0 : ((v : Int) == 0) = true := by simp [h0]
    clear hv
    go_wp2
    go_ret
    exact ⟨_, p + 1, rfl, by decide, by omega, by omega, HR1.out, HK1.out⟩
  · have e0 : ((v : Int) == 0) = false := by simpa using h0
    have last : ∀ m : Nat, m ≤ 100000 → Calls Tryd.prog 16 #[.pointer (some ⟨rb, 0, none⟩), .int .i64 (m : Int)] w1 fun e w' => ∃ q : Nat, e = .returned (.int .i64 (q : Int)) ∧ q ≤ 100000 ∧ Rd w' rb a cap bs (p + 2) ∧ KeptBut rb (rb + 1) w w' := by
      intro m hm
      refine (pick_any _ rb a cap bs (p + 1) m HR1.out (by omega) hm hbl).mono ?_
      rintro e w2 ⟨q, rfl, hq, hR2, kb2⟩
      exact ⟨q, rfl, by omega, hR2, HK1.out.trans kb2⟩
    have HL := hide last
    clear last
    by_cases h1 : v = 1
    · have e1 : ((v : Int) == 1) = true := by simp [h1]
      clear hv h0 h1
      go_wp2_with fail
      refine (HL.out n hn).mono ?_
      rintro e w2 ⟨q, rfl, hq, hR2, kb2⟩
      have HR2 := hide hR2
      have HK2 := hide kb2
      clear hR2 kb2
      go_wp2_with fail
      refine (label_any _ q hq).mono ?_
      rintro e w3 ⟨s, rfl, hs, k3⟩
      go_wp2
      go_ret
      exact ⟨s, p + 2, rfl, by omega, by omega, by omega, HR2.out.kept k3, HK2.out.and_kept k3⟩
    · have e1 : ((v : Int) == 1) = false := by simp; omega
      clear hv h0 h1
      by_cases h2 : i = 0
      · have e2 : ((i : Int) == 0) = true := by simp [h2]
        go_wp2_with fail
        refine (HL.out n hn).mono ?_
        rintro e w2 ⟨q, rfl, hq, hR2, kb2⟩
        have HR2 := hide hR2
        have HK2 := hide kb2
        clear hR2 kb2
        go_wp2_with fail
        refine (label_any _ q hq).mono ?_
        rintro e w3 ⟨s, rfl, hs, k3⟩
        go_wp2
        go_ret
        exact ⟨s, p + 2, rfl, by omega, by omega, by omega, HR2.out.kept k3, HK2.out.and_kept k3⟩
      · have e2 : ((i : Int) == 0) = false := by simpa using h2
        go_wp2_with fail
        refine (HL.out i hi).mono ?_
        rintro e w2 ⟨q, rfl, hq, hR2, kb2⟩
        have HR2 := hide hR2
        have HK2 := hide kb2
        clear hR2 kb2
        go_wp2_with fail
        refine (label_any _ q hq).mono ?_
        rintro e w3 ⟨s, rfl, hs, k3⟩
        go_wp2
        go_ret
        exact ⟨s, p + 2, rfl, by omega, by omega, by omega, HR2.out.kept k3, HK2.out.and_kept k3⟩

end Go.Proofs.YtlllckfifkgcnaaDoor

/-
  WALKS: spec.l1Many (a text n times), spec.l8Dec (a number's digits).
-/
namespace Go.Proofs.YtlllckfifkgcnaaDoor
open Go.RowKit

set_option maxRecDepth 100000 in
set_option maxHeartbeats 1600000 in
theorem many_any (w : World) (s : ByteArray) (n : Nat) (hn : n ≤ 1000) (hs : s.size ≤ 100) :
    Calls Tryd.prog 20 #[.string s, .int .i64 (n : Int)] w fun e w' => (∃ t : ByteArray, e = .returned (.string t) ∧ t.size ≤ n * s.size) ∧ w' = w := by
  obtain ⟨B, hB⟩ : ∃ B, B = n * s.size := ⟨_, rfl⟩
  have hB1 : B ≤ 100000 := by rw [hB]; exact Nat.le_trans (Nat.mul_le_mul hn hs) (by omega)
  rw [← hB]
  have HB := hide hB
  clear hB
  go_enter Tryd.func20, Tryd.ntmps20
  go_wp2
  go_loop [0, 1, 5] (fun x y z => ∃ (s' o : ByteArray) (m : Nat), x = .string s' ∧ y = .int .i64 (m : Int) ∧ z = .string o ∧ m ≤ n ∧ o.size + m * s'.size ≤ B ∧ (m = 0 ∨ s'.size ≤ B)) (fun _ y _ => (intOf y).toNat)
  case atStart =>
    refine ⟨s, _, n, rfl, rfl, rfl, Nat.le_refl _, ?_, ?_⟩
    · have := HB.out
      show 0 + n * s.size ≤ B
      omega
    · by_cases h : n = 0
      · exact .inl h
      · refine .inr ?_
        rw [HB.out]
        exact Nat.le_mul_of_pos_left _ (by omega)
  case round =>
    obtain ⟨s', o, m, rfl, rfl, rfl, hm, hsz, hor⟩ := hrel
    by_cases h0 : m = 0
    · have h0' : ¬ (0 : Int) < (m : Int) := by omega
      have ho : o.size ≤ B := by omega
      clear hsz hor
      go_wp2
      go_ret
      exact ⟨⟨o, rfl, ho⟩, rfl⟩
    · have h0' : (0 : Int) < (m : Int) := by omega
      have hs' : s'.size ≤ B := by omega
      have ho : o.size ≤ B := by omega
      obtain ⟨q, hq⟩ : ∃ q, q = m / 2 := ⟨_, rfl⟩
      have hq' : (m : Int) / 2 = (q : Int) := by omega
      have hqm : q < m := by omega
      have hq0 : q = 0 ∨ (s' ++ s').size ≤ B := by
        rw [ByteArray.size_append]
        by_cases h : q = 0
        · exact .inl h
        · have : 2 * s'.size ≤ m * s'.size := Nat.mul_le_mul_right _ (by omega)
          omega
      by_cases hr : m % 2 = 1
      · have e1 : (m : Int) % 2 = 1 := by omega
        have hf : (o ++ s').size + q * (s' ++ s').size ≤ B := by
          rw [ByteArray.size_append, ByteArray.size_append]
          have : m * s'.size = q * (s'.size + s'.size) + s'.size := by
            rw [show m = q + q + 1 by omega, Nat.add_mul, Nat.add_mul, Nat.mul_add]; omega
          omega
        have HF := hide hf
        have HQ := hide hq0
        clear hf hq0 hsz hor hq h0
        go_wp2
        go_round
        case rel => exact ⟨s' ++ s', o ++ s', q, rfl, by go_num, rfl, by omega, HF.out, HQ.out⟩
        case measure => simp [intOf]; omega
      · have e1 : (m : Int) % 2 = 0 := by omega
        have hf : o.size + q * (s' ++ s').size ≤ B := by
          rw [ByteArray.size_append]
          have : m * s'.size = q * (s'.size + s'.size) := by
            rw [show m = q + q by omega, Nat.add_mul, Nat.mul_add]
          omega
        have HF := hide hf
        have HQ := hide hq0
        clear hf hq0 hsz hor hq h0
        go_wp2
        go_round
        case rel => exact ⟨s' ++ s', o, q, rfl, by go_num, rfl, by omega, HF.out, HQ.out⟩
        case measure => simp [intOf]; omega

/-- What l8Dec gives. -/
def Digits (w w' : World) (m : Nat) (e : Ending) : Prop := ∃ s : ByteArray, e = .returned (.string s) ∧ s.size ≤ m ∧ Kept w w'

set_option maxRecDepth 100000 in
set_option maxHeartbeats 1600000 in
theorem dec_small (w : World) (n : Nat) (hn : n < 10) : Calls Tryd.prog 19 #[.int .i64 (n : Int)] w fun e w' => Digits w w' 1 e := by
  have h1 : (n : Int) < 10 := by omega
  have hc : (convert 22 9 (.slice (some ⟨w.heap.size, 0, none⟩) 1 1)).run Tryd.prog (w.alloc (.cells #[.int .u8 (48 + (n : Int))] 5)) = .ok (.string (strOfNums [48 + (n : Int)])) (w.alloc (.cells #[.int .u8 (48 + (n : Int))] 5)) :=
    run_convert_bytes_arg (P := Tryd.prog) _ 22 5 Tryd.underlying22 Tryd.underlying5 w.heap.size 0 1 1 [48 + (n : Int)] rfl (fun i hi => by
      obtain rfl : i = 0 := by omega
      rw [World.cell?_alloc_mark]; rfl) 9 Tryd.underlying9
  go_enter Tryd.func19, Tryd.ntmps19
  go_wp2
  go_ret
  exact ⟨_, rfl, by rw [strOfNums_size]; exact Nat.le_refl 1, (Kept.refl w).alloc _⟩

end Go.Proofs.YtlllckfifkgcnaaDoor

/-
  THE WALK over spec.l1Give: what an action gives of its own.
-/
namespace Go.Proofs.YtlllckfifkgcnaaDoor
open Go.RowKit

set_option maxRecDepth 100000 in
set_option maxHeartbeats 1600000 in
theorem give_any (w : World) (rb : Nat) (a : Option Addr) (cap : Nat) (bs : List UInt8) (p : Nat) (hR : Rd w rb a cap bs p) (hp : p ≤ 900000) (hbl : bs.length ≤ 2000) :
    Calls Tryd.prog 26 #[.pointer (some ⟨rb, 0, none⟩)] w fun e w' => Drawn w w' rb a cap bs p 2 31 e := by
  go_enter Tryd.func26, Tryd.ntmps26
  go_wp2_with fail
  refine (pick_at _ rb a cap bs p _ 10 rfl hR (by omega) (by omega) hbl).mono ?_
  rintro e w1 ⟨v, rfl, hv, hR1, kb1⟩
  have HR1 := hide hR1
  have HK1 := hide kb1
  clear hR1 kb1 hR
  have last : ∀ (m : Int) (n : Nat), m = (n : Int) → n ≤ 100000 → Calls Tryd.prog 16 #[.pointer (some ⟨rb, 0, none⟩), .int .i64 m] w1 fun e w' => ∃ q : Nat, e = .returned (.int .i64 (q : Int)) ∧ q ≤ n - 1 ∧ Rd w' rb a cap bs (p + 2) ∧ KeptBut rb (rb + 1) w w' := by
    intro m n hm hn
    refine (pick_at _ rb a cap bs (p + 1) m n hm HR1.out (by omega) hn hbl).mono ?_
    rintro e w2 ⟨q, rfl, hq, hR2, kb2⟩
    exact ⟨q, rfl, by omega, hR2, HK1.out.trans kb2⟩
  have HL := hide last
  clear last
  by_cases h0 : v = 0
  · have e0 : ((v : Int) == 0) = true := by simp [h0]
    clear hv
    go_wp2
    go_ret
    exact ⟨_, p + 1, rfl, by decide, by omega, by omega, HR1.out, HK1.out⟩
  have e0 : ((v : Int) == 0) = false := by simpa using h0
  by_cases h1 : v = 1
  · have e1 : ((v : Int) == 1) = true := by simp [h1]
    clear hv
    go_wp2
    go_ret
    exact ⟨_, p + 1, rfl, by decide, by omega, by omega, HR1.out, HK1.out⟩
  have e1 : ((v : Int) == 1) = false := by simp; omega
  by_cases h3 : v = 3
  · have e3 : ((v : Int) == 3) = true := by simp [h3]
    clear hv h0 h1 h3
    go_wp2_with fail
    refine (HL.out _ 6 rfl (by omega)).mono ?_
    rintro e w2 ⟨q, rfl, hq, hR2, kb2⟩
    have HR2 := hide hR2
    have HK2 := hide kb2
    clear hR2 kb2
    go_wp2_with fail
    refine (label_any _ q (by omega)).mono ?_
    rintro e w3 ⟨s, rfl, hs, k3⟩
    go_wp2
    go_ret
    exact ⟨_, p + 2, rfl, by rw [ByteArray.size_append]; show 6 + s.size ≤ 31; omega, by omega, by omega, HR2.out.kept k3, HK2.out.and_kept k3⟩
  have e3 : ((v : Int) == 3) = false := by simp; omega
  by_cases h2 : v = 2
  · have e2 : ((v : Int) == 2) = true := by simp [h2]
    clear hv h0 h1 h2 h3
    go_wp2_with fail
    refine (HL.out _ 2 rfl (by omega)).mono ?_
    rintro e w2 ⟨q, rfl, hq, hR2, kb2⟩
    have HR2 := hide hR2
    have HK2 := hide kb2
    clear hR2 kb2
    obtain ⟨m, hm⟩ : ∃ m : Nat, m = 30 - q := ⟨_, rfl⟩
    have hm' : 30 - (q : Int) = (m : Int) := by omega
    have hmb : m ≤ 30 := by omega
    clear hm
    go_wp2_with fail
    refine (many_any _ ⟨#[103]⟩ m (by omega) (by decide)).mono ?_
    rintro e w3 ⟨⟨t, rfl, ht⟩, rfl⟩
    have ht' : t.size ≤ 30 := by
      have : (⟨#[103]⟩ : ByteArray).size = 1 := rfl
      rw [this] at ht
      omega
    clear ht
    go_wp2
    go_ret
    exact ⟨_, p + 2, rfl, by omega, by omega, by omega, HR2.out, HK2.out⟩
  have e2 : ((v : Int) == 2) = false := by simp; omega
  clear hv h0 h1 h2 h3
  go_wp2_with fail
  refine (HL.out _ 3 rfl (by omega)).mono ?_
  rintro e w2 ⟨q, rfl, hq, hR2, kb2⟩
  have HR2 := hide hR2
  have HK2 := hide kb2
  clear hR2 kb2
  go_wp2_with fail
  refine (dec_small _ q (by omega)).mono ?_
  rintro e w3 ⟨s, rfl, hs, k3⟩
  go_wp2
  go_ret
  exact ⟨_, p + 2, rfl, by rw [ByteArray.size_append]; show 1 + s.size ≤ 31; omega, by omega, by omega, HR2.out.kept k3, HK2.out.and_kept k3⟩

end Go.Proofs.YtlllckfifkgcnaaDoor
