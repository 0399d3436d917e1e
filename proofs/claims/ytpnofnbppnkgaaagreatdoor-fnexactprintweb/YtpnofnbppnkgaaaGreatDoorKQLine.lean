import Derived.Test.YtpnofnbppnkgaaaGreatDoorKQBuildS
import Derived.Test.YtpnofnbppnkgaaaGreatDoorKQFmt

namespace Go.Proofs.YtpnofnbppnkgaaaGreatDoor
open Go.RowKit

theorem stands_any (w : World) (c : UInt8) : Calls Tryz.prog 56 #[.int .u8 (c.toNat : Int)] w fun e w' => Says e (PlainB c) ∧ w' = w := by
  by_cases h1 : (32 : Int) ≤ (c.toNat : Int)
  · by_cases h2 : (c.toNat : Int) ≤ 126
    · by_cases h3 : (c.toNat : Int) = 34
      · go_enter Tryz.func56, Tryz.ntmps56
        go_wp2
        go_ret
        exact ⟨Says.no (fun g => by have := g.2.2.1; omega), rfl⟩
      · by_cases h4 : (c.toNat : Int) = 92
        · go_enter Tryz.func56, Tryz.ntmps56
          go_wp2
          go_ret
          exact ⟨Says.no (fun g => by have := g.2.2.2; omega), rfl⟩
        · have b3 : ((c.toNat : Int) != 34) = true := by simpa using h3
          have b4 : ((c.toNat : Int) != 92) = true := by simpa using h4
          have HP : Hid (PlainB c) := ⟨by omega, by omega, by omega, by omega⟩
          clear h3 h4
          go_enter Tryz.func56, Tryz.ntmps56
          go_wp2
          go_ret
          exact ⟨Says.yes HP.out, rfl⟩
    · go_enter Tryz.func56, Tryz.ntmps56
      go_wp2
      go_ret
      exact ⟨Says.no (fun g => by have := g.2.1; omega), rfl⟩
  · go_enter Tryz.func56, Tryz.ntmps56
    go_wp2
    go_ret
    exact ⟨Says.no (fun g => by have := g.1; omega), rfl⟩

theorem Below.kept {w w' : World} (h : Below w.heap.size w w') : Kept w w' := h

set_option maxRecDepth 100000 in
set_option maxHeartbeats 3200000 in
theorem quote_any (w : World) (s : ByteArray) (hs : s.size ≤ 100000) (hT : TabOk w) :
    Calls Tryz.prog 47 #[.string s] w fun e w' => e = .returned (.string ⟨(quoteL s.data.toList).toArray⟩) ∧ Kept w w' := by
  go_enter Tryz.func47, Tryz.ntmps47
  obtain ⟨W0, hW0⟩ : ∃ W0, W0 = w.alloc (.cells #[.pointer none, .slice none 0 0] 50) := ⟨_, rfl⟩
  have HB0 : Hid (Buil 50 w.heap.size w.heap.size w.heap.size [] W0) := by rw [hW0]; exact Buil.fresh _ w _
  have K0 : Hid (Below w.heap.size w W0) := by rw [hW0]; exact (Kept.refl w).alloc _
  have hz0 : W0.heap.size = w.heap.size + 1 := by rw [hW0]; simp
  go_wp2_with fail
  rw [← hW0]
  clear hW0
  refine (writeByte_any W0 w.heap.size w.heap.size w.heap.size (.inl rfl) [] 34 HB0.out (by simp) (by omega) (by omega)).mono ?_
  rintro e W1 ⟨rfl, hB1, hb1, _⟩
  have HB1 := hide hB1
  have K1 := hide (Below.trans K0.out hb1)
  have hz1 := hb1.size
  clear hB1 hb1 HB0 K0
  obtain ⟨cap, C, fr, hconv, hcs⟩ := convBytes W1 s
  obtain ⟨W2, hW2⟩ : ∃ W2, W2 = W1.drew.alloc (.cells C 5 fr) := ⟨_, rfl⟩
  rw [← hW2] at hconv
  have HB2 : Hid (Buil 50 w.heap.size w.heap.size W1.heap.size [34] W2) := by
    rw [hW2]
    exact (HB1.out.other (Nat.le_refl _)).kept (((Kept.refl W1).drew).alloc _)
  have K2 : Hid (Below w.heap.size w W2) := by rw [hW2]; exact Below.alloc (Below.drew K1.out) (by simpa using Nat.le_trans (by omega) hz1) _
  have HC2 : Hid (∀ j (h : j < s.size), W2.cell? ⟨W1.heap.size, j, none⟩ = some (.int .u8 (s[j].toNat : Int))) := fun j h => by rw [hW2]; exact hcs j h
  have hz2 : W2.heap.size = W1.heap.size + 1 := by rw [hW2]; simp
  clear hW2 hcs HB1 K1
  go_wp2
  go_loopw [10] (fun i wr => ∃ k : Nat, k ≤ s.size ∧ i = .int .i64 k ∧ Hid (Buil 50 w.heap.size w.heap.size W1.heap.size (34 :: quotesL (s.data.toList.take k)) wr) ∧ Hid (Below w.heap.size w wr) ∧ Hid (∀ j (h : j < s.size), wr.cell? ⟨W1.heap.size, j, none⟩ = some (.int .u8 (s[j].toNat : Int))) ∧ W1.heap.size < wr.heap.size) (fun i _ => s.size - (intOf i).toNat)
  case atStart => exact ⟨0, Nat.zero_le _, rfl, HB2, K2, HC2, by omega⟩
  case round =>
    obtain ⟨k, hk, rfl, HB, HK, HC, hz⟩ := hrel
    clear HB2 K2 HC2
    have hql := quotesL_len (s.data.toList.take k)
    have hsl : s.data.toList.length = s.size := by simp
    have htl : (s.data.toList.take k).length = k := by rw [List.length_take]; omega
    have hTr : Hid (TabOk wr) := hT.kept HK.out
    have hw0 : w.heap.size ≤ wr.heap.size := HK.out.size
    have hne : W1.heap.size ≠ w.heap.size := by omega
    by_cases hlt : (k : Int) < (s.size : Int)
    · have hkl : k < s.size := by omega
      have hkt : k < s.data.toList.length := by simpa using hkl
      have c0 := HC.out k hkl
      have hxe : s.data.toList[k] = s[k] := by simp; rfl
      obtain ⟨x, hx⟩ : ∃ x, x = s[k] := ⟨_, rfl⟩
      rw [← hx] at c0
      have HQ : Hid (quotesL (s.data.toList.take (k + 1)) = quotesL (s.data.toList.take k) ++ quoteB x) := by show _ = _; rw [quotesL_take_succ _ k hkt, hxe, hx]
      have hxl := x.toNat_lt
      clear hx hxe hkt
      obtain ⟨q, hq⟩ : ∃ q, q = quotesL (s.data.toList.take k) := ⟨_, rfl⟩
      rw [← hq] at HQ HB hql
      clear hq
      have hq1 : (34 :: q).length ≤ 1000000 := by simp only [List.length_cons]; omega
      go_wp2_with fail
      refine (stands_any _ x).mono ?_
      rintro e w3 ⟨hsay, rfl⟩
      rcases hsay.cases with ⟨rfl, hyes⟩ | ⟨rfl, hno⟩
      · have HY : Hid (quoteB x = [x]) := if_pos hyes
        clear hyes hsay
        go_wp2_with fail
        refine (writeByte_any _ w.heap.size w.heap.size W1.heap.size (.inl rfl) (34 :: q) x HB.out (by omega) hw0 hz).mono ?_
        rintro e w4 ⟨rfl, hB4, hb4, hs4⟩
        have HB4 := hide hB4
        have HK4 := hide (Below.trans HK.out hb4)
        have HC4 : Hid (∀ j (h : j < s.size), w4.cell? ⟨W1.heap.size, j, none⟩ = some (.int .u8 (s[j].toNat : Int))) := fun j h => (World.cell?_of_block (hs4 hne hz)).trans (HC.out j h)
        have hz4 : W1.heap.size < w4.heap.size := Nat.lt_of_lt_of_le hz hb4.size
        clear hB4 hb4 hs4 HB HK HC
        go_wp2
        go_roundw
        case rel => exact ⟨k + 1, by omega, by go_num, by rw [HQ.out, HY.out]; exact HB4, HK4, HC4, hz4⟩
        case measure => simp [intOf]; omega
      · have HY : Hid (quoteB x = 92 :: hexL 2 x.toNat) := if_neg hno
        clear hno hsay
        have hwb := wrap_byte x
        go_wp2_with fail
        refine (digits2_any _ x.toNat (by omega) hTr.out).mono ?_
        rintro e w4 ⟨⟨d, rfl, hd⟩, k4⟩
        have hds : d.size = 2 := by have := congrArg List.length hd; rw [hexL_length] at this; simpa using this
        have HD : Hid ((⟨#[92]⟩ ++ d : ByteArray).data.toList = quoteB x) := by show _ = _; rw [ba_append, hd, HY.out]; rfl
        have HB4 := hide (HB.out.kept k4)
        have HC4 : Hid (∀ j (h : j < s.size), w4.cell? ⟨W1.heap.size, j, none⟩ = some (.int .u8 (s[j].toNat : Int))) := fun j h => (k4.cell (o := j) hz).trans (HC.out j h)
        have HK4 := hide (Kept.trans HK.out k4)
        have hz4 : W1.heap.size < w4.heap.size := Nat.lt_of_lt_of_le hz k4.size
        have hw4 : w.heap.size ≤ w4.heap.size := Nat.le_trans hw0 k4.size
        clear hd k4 HB HK HC
        have hds2 : (⟨#[92]⟩ ++ d : ByteArray).size ≤ 3 := by rw [ByteArray.size_append]; show 1 + d.size ≤ 3; omega
        go_wp2_with fail
        generalize (⟨#[92]⟩ ++ d : ByteArray) = d2 at *
        refine (writeString_any _ w.heap.size w.heap.size W1.heap.size (.inl rfl) (34 :: q) d2 HB4.out (by omega) (by omega) hw4 hz4).mono ?_
        rintro e w5 ⟨rfl, hB5, hb5, hs5⟩
        have HB5 := hide hB5
        have HK5 := hide (Below.trans HK4.out hb5)
        have HC5 : Hid (∀ j (h : j < s.size), w5.cell? ⟨W1.heap.size, j, none⟩ = some (.int .u8 (s[j].toNat : Int))) := fun j h => (World.cell?_of_block (hs5 hne hz4)).trans (HC4.out j h)
        have hz5 : W1.heap.size < w5.heap.size := Nat.lt_of_lt_of_le hz4 hb5.size
        clear hB5 hb5 hs5 HB4 HK4 HC4
        go_wp2
        go_roundw
        case rel => exact ⟨k + 1, by omega, by go_num, by rw [HQ.out, ← HD.out]; exact HB5, HK5, HC5, hz5⟩
        case measure => simp [intOf]; omega
    · obtain rfl : k = s.size := by omega
      have hta : s.data.toList.take s.size = s.data.toList := List.take_of_length_le (by simp)
      rw [hta] at HB hql
      have hq1 : (34 :: quotesL s.data.toList).length ≤ 1000000 := by simp only [List.length_cons]; omega
      clear hta htl
      go_wp2_with fail
      refine (writeByte_any _ w.heap.size w.heap.size W1.heap.size (.inl rfl) (34 :: quotesL s.data.toList) 34 HB.out (by omega) hw0 hz).mono ?_
      rintro e w4 ⟨rfl, hB4, hb4, _⟩
      have HB4 := hide hB4
      have HK4 := hide (Below.trans HK.out hb4)
      clear hB4 hb4 HB HK HC
      go_wp2_with fail
      refine (builderString_any _ w.heap.size w.heap.size W1.heap.size (34 :: quotesL s.data.toList ++ [34]) HB4.out (by simp)).mono ?_
      rintro e w5 ⟨rfl, hb5⟩
      have HK5 := hide (Below.trans HK4.out hb5)
      clear hb5 HK4
      go_wp2
      go_ret
      exact ⟨rfl, HK5.out⟩

end Go.Proofs.YtpnofnbppnkgaaaGreatDoor

namespace Go.Proofs.YtpnofnbppnkgaaaGreatDoor
open Go.RowKit

theorem joinS_any (w : World) (a : Option Addr) (cap : Nat) (l : List ByteArray) (x : UInt8) (hcap : l.length ≤ cap) (hN : l.length ≤ 100) (hlen : (Lib.join (texts l) [x]).length ≤ 1000000) (hS : Strs w a l) :
    Calls Tryz.prog 44 #[.slice a l.length cap, .string ⟨#[x]⟩] w fun e w' => e = .returned (.string ⟨(Lib.join (texts l) [x]).toArray⟩) ∧ Kept w w' := by
  by_cases h0 : l.length = 0
  · have hnil : l = [] := List.eq_nil_of_length_eq_zero h0
    subst hnil
    refine (Tryz.strings_Join_none a cap ⟨#[x]⟩ w).mono ?_
    rintro e w' ⟨rfl, rfl⟩
    exact ⟨rfl, Kept.refl _⟩
  · obtain ⟨b, o, rfl, hb, _⟩ := hS 0 (by omega)
    refine (Tryz.strings_Join b o cap l ⟨#[x]⟩ w (fun j y hy => ?_) hb (by omega) hcap (Nat.le_trans hlen (by omega))).mono ?_
    · obtain ⟨hj, hy'⟩ := List.getElem?_eq_some_iff.1 hy
      obtain ⟨b', o', e, _, hc⟩ := hS j hj
      simp only [Option.some.injEq, Addr.mk.injEq, and_true] at e
      obtain ⟨rfl, rfl⟩ := e
      rw [hc]
      simp [List.getD, hj, hy']
    · rintro e w' ⟨rfl, k⟩
      exact ⟨rfl, k⟩

def WrM (B b c : Nat) (l : List UInt8) (w : World) : Prop := Buil 52 B b c l w

theorem WrM.self {B b c : Nat} {l : List UInt8} {w : World} (h : WrM B b c l w) : WrM B b b l w := by
  obtain ⟨p, v, hp, hB, hb, hown, hnb, _⟩ := h
  exact ⟨p, v, hp, hB, hb, hown, hnb, hnb⟩

def lineL (ws : List ByteArray) : List UInt8 := Lib.join (texts ws) [32] ++ [10]

set_option maxRecDepth 100000 in
set_option maxHeartbeats 3200000 in
theorem line_any (w : World) (B b c : Nat) (l : List UInt8) (a : Option Addr) (cap : Nat) (ws : List ByteArray) (hcap : ws.length ≤ cap) (hN : ws.length ≤ 100) (hlen : (Lib.join (texts ws) [32]).length ≤ 1000000) (hl : l.length ≤ 100000000) (hS : Strs w a ws) (hW : WrM B b c l w) (hBw : B ≤ w.heap.size) (hcw : c < w.heap.size) :
    Calls Tryz.prog 30 #[.pointer (some ⟨b, 0, none⟩), .slice a ws.length cap] w fun e w' => e = .returned (.tuple #[]) ∧ WrM B b c (l ++ lineL ws) w' ∧ Below B w w' ∧ Still b c w w' := by
  have hblt := hW.lt
  have HJ : Hid (∀ u, Kept w u → Strs u a ws) := fun u k => hS.kept k
  have HW := hide hW
  clear hW hS
  obtain ⟨J, hJ⟩ : ∃ J : ByteArray, J = ⟨(Lib.join (texts ws) [32]).toArray⟩ := ⟨_, rfl⟩
  have hJs : J.size ≤ 1000000 := by rw [hJ]; show (Lib.join (texts ws) [32]).toArray.size ≤ _; simpa using hlen
  have HJl : Hid (J.data.toList = Lib.join (texts ws) [32]) := by show _ = _; rw [hJ]
  have HJc : Hid (∀ u, Kept w u → Calls Tryz.prog 44 #[.slice a ws.length cap, .string ⟨#[32]⟩] u fun e w' => e = .returned (.string J) ∧ Kept u w') := fun u k => by rw [hJ]; exact joinS_any u a cap ws 32 hcap hN hlen (HJ.out u k)
  clear hJ HJ
  go_enter Tryz.func30, Tryz.ntmps30
  go_wp2
  go_region_with (first | (go_at_call 44; refine (HJc.out _ (by repeat (first | apply Kept.drew | exact Kept.refl _))).mono ?_; rintro e w1 ⟨rfl, k1⟩; have K1 : Kept w w1 := Kept.trans (by repeat (first | apply Kept.drew | exact Kept.refl _)) k1; have HW1 := hide (HW.out.kept K1); have hz1 := K1.size) | (go_at_call 43; refine (writeString_any _ B b c (.inr rfl) l J (HW1.out.kept (by repeat (first | apply Kept.drew | exact Kept.refl _))) (by omega) (by omega) (by show B ≤ w1.heap.size; omega) (by show c < w1.heap.size; omega)).mono ?_; rintro e w2 ⟨rfl, hB2, hb2, hs2⟩; have HB2 := hide hB2; have HS2 : Hid (Still b c w w2) := fun h1 h2 => (hs2 h1 (by show c < w1.heap.size; omega)).trans (K1.block c h2); have K2 : Hid (Below B w w2) := Below.trans (Below.mono K1 hBw) hb2; have hz2 : w1.heap.size ≤ w2.heap.size := hb2.size; clear hB2 hb2 hs2))
  all_goals
    go_wp2_with fail
    refine (writeByte_any _ B b c (.inr rfl) (l ++ J.data.toList) 10 (HB2.out.kept (by repeat (first | apply Kept.drew | exact Kept.refl _))) (by rw [List.length_append, show J.data.toList.length = J.size by simp]; omega) (by show B ≤ w2.heap.size; omega) (by show c < w2.heap.size; omega)).mono ?_
    rintro e w3 ⟨rfl, hB3, hb3, hs3⟩
    have HB3 := hide hB3
    have K3 : Hid (Below B w w3) := Below.trans K2.out hb3
    have HS3 : Hid (Still b c w w3) := fun h1 h2 => (hs3 h1 (by show c < w2.heap.size; omega)).trans (HS2.out h1 h2)
    clear hB3 hb3 hs3
    go_wp2
    go_end0
    refine ⟨rfl, ?_, K3.out, HS3.out⟩
    have := HB3.out
    rw [HJl.out] at this
    unfold lineL
    rw [← List.append_assoc]
    exact this

end Go.Proofs.YtpnofnbppnkgaaaGreatDoor
