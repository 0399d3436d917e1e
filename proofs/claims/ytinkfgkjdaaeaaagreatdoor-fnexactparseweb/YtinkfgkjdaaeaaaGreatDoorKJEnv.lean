import Derived.Test.YtinkfgkjdaaeaaaGreatDoorKQBuildS
import Derived.Test.YtinkfgkjdaaeaaaGreatDoorKQFmt
import Derived.Test.YtinkfgkjdaaeaaaGreatDoorKVRead8
import Derived.Test.YtinkfgkjdaaeaaaGreatDoorKOMarkD

namespace Go.Proofs.YtinkfgkjdaaeaaaGreatDoor
open Go.RowKit

theorem stands_any (w : World) (c : UInt8) : Calls Tryz.prog 115 #[.int .u8 (c.toNat : Int)] w fun e w' => Says e (PlainB c) ∧ w' = w := by
  by_cases h1 : (32 : Int) ≤ (c.toNat : Int)
  · by_cases h2 : (c.toNat : Int) ≤ 126
    · by_cases h3 : (c.toNat : Int) = 34
      · go_enter Tryz.func115, Tryz.ntmps115
        go_wp2
        go_ret
        exact ⟨Says.no (fun g => by have := g.2.2.1; omega), rfl⟩
      · by_cases h4 : (c.toNat : Int) = 92
        · go_enter Tryz.func115, Tryz.ntmps115
          go_wp2
          go_ret
          exact ⟨Says.no (fun g => by have := g.2.2.2; omega), rfl⟩
        · have b3 : ((c.toNat : Int) != 34) = true := by simpa using h3
          have b4 : ((c.toNat : Int) != 92) = true := by simpa using h4
          have HP : Hid (PlainB c) := ⟨by omega, by omega, by omega, by omega⟩
          clear h3 h4
          go_enter Tryz.func115, Tryz.ntmps115
          go_wp2
          go_ret
          exact ⟨Says.yes HP.out, rfl⟩
    · go_enter Tryz.func115, Tryz.ntmps115
      go_wp2
      go_ret
      exact ⟨Says.no (fun g => by have := g.2.1; omega), rfl⟩
  · go_enter Tryz.func115, Tryz.ntmps115
    go_wp2
    go_ret
    exact ⟨Says.no (fun g => by have := g.1; omega), rfl⟩

set_option maxRecDepth 100000 in
set_option maxHeartbeats 3200000 in
theorem quote_any (w : World) (s : ByteArray) (hs : s.size ≤ 100000) (hT : TabOk w) :
    Calls Tryz.prog 98 #[.string s] w fun e w' => e = .returned (.string ⟨(quoteL s.data.toList).toArray⟩) ∧ Kept w w' := by
  go_enter Tryz.func98, Tryz.ntmps98
  obtain ⟨W0, hW0⟩ : ∃ W0, W0 = w.alloc (.cells #[.pointer none, .slice none 0 0] 154) := ⟨_, rfl⟩
  have HB0 : Hid (Buil 154 w.heap.size w.heap.size w.heap.size [] W0) := by rw [hW0]; exact Buil.fresh _ w _
  have K0 : Hid (Below w.heap.size w W0) := by rw [hW0]; exact (Kept.refl w).alloc _
  have hz0 : W0.heap.size = w.heap.size + 1 := by rw [hW0]; simp
  go_wp2_with fail
  rw [← hW0]
  clear hW0
  refine (writeByte_any W0 w.heap.size w.heap.size w.heap.size buildT1 [] 34 HB0.out (by simp) (by omega) (by omega)).mono ?_
  rintro e W1 ⟨rfl, hB1, hb1, _⟩
  have HB1 := hide hB1
  have K1 := hide (Below.trans K0.out hb1)
  have hz1 := hb1.size
  clear hB1 hb1 HB0 K0
  obtain ⟨cap, C, fr, hconv, hcs⟩ := convBytes W1 s
  obtain ⟨W2, hW2⟩ : ∃ W2, W2 = W1.drew.alloc (.cells C 5 fr) := ⟨_, rfl⟩
  rw [← hW2] at hconv
  have HB2 : Hid (Buil 154 w.heap.size w.heap.size W1.heap.size [34] W2) := by
    rw [hW2]
    exact (HB1.out.other (Nat.le_refl _)).kept (((Kept.refl W1).drew).alloc _)
  have K2 : Hid (Below w.heap.size w W2) := by rw [hW2]; exact Below.alloc (Below.drew K1.out) (by simpa using Nat.le_trans (by omega) hz1) _
  have HC2 : Hid (∀ j (h : j < s.size), W2.cell? ⟨W1.heap.size, j, none⟩ = some (.int .u8 (s[j].toNat : Int))) := fun j h => by rw [hW2]; exact hcs j h
  have hz2 : W2.heap.size = W1.heap.size + 1 := by rw [hW2]; simp
  clear hW2 hcs HB1 K1
  go_wp2
  go_loopw [10] (fun i wr => ∃ k : Nat, k ≤ s.size ∧ i = .int .i64 k ∧ Hid (Buil 154 w.heap.size w.heap.size W1.heap.size (34 :: quotesL (s.data.toList.take k)) wr) ∧ Hid (Below w.heap.size w wr) ∧ Hid (∀ j (h : j < s.size), wr.cell? ⟨W1.heap.size, j, none⟩ = some (.int .u8 (s[j].toNat : Int))) ∧ W1.heap.size < wr.heap.size) (fun i _ => s.size - (intOf i).toNat)
  case atStart => exact ⟨0, Nat.zero_le _, rfl, HB2, K2, HC2, by omega⟩
  case round =>
    obtain ⟨k, hk, rfl, HB, HK, HC, hz⟩ := hrel
    clear HB2 K2 HC2
    have hql := quotesL_len (s.data.toList.take k)
    have hsl : s.data.toList.length = s.size := by simp
    have htl : (s.data.toList.take k).length = k := by rw [List.length_take]; omega
    have hTr : Hid (TabOk wr) := hT.kept HK.out
    have hw0 : w.heap.size ≤ wr.heap.size := HK.out.size
    have hne : W1.heap.size ≠ w.heap.size := by omega
    by_cases hlt : (k : Int) < (s.size : Int)
    · have hkl : k < s.size := by omega
      have hkt : k < s.data.toList.length := by simpa using hkl
      have c0 := HC.out k hkl
      have hxe : s.data.toList[k] = s[k] := by simp; rfl
      obtain ⟨x, hx⟩ : ∃ x, x = s[k] := ⟨_, rfl⟩
      rw [← hx] at c0
      have HQ : Hid (quotesL (s.data.toList.take (k + 1)) = quotesL (s.data.toList.take k) ++ quoteB x) := by show _ = _; rw [quotesL_take_succ _ k hkt, hxe, hx]
      have hxl := x.toNat_lt
      clear hx hxe hkt
      obtain ⟨q, hq⟩ : ∃ q, q = quotesL (s.data.toList.take k) := ⟨_, rfl⟩
      rw [← hq] at HQ HB hql
      clear hq
      have hq1 : (34 :: q).length ≤ 1000000 := by simp only [List.length_cons]; omega
      go_wp2_with fail
      refine (stands_any _ x).mono ?_
      rintro e w3 ⟨hsay, rfl⟩
      rcases hsay.cases with ⟨rfl, hyes⟩ | ⟨rfl, hno⟩
      · have HY : Hid (quoteB x = [x]) := if_pos hyes
        clear hyes hsay
        go_wp2_with fail
        refine (writeByte_any _ w.heap.size w.heap.size W1.heap.size buildT1 (34 :: q) x HB.out (by omega) hw0 hz).mono ?_
        rintro e w4 ⟨rfl, hB4, hb4, hs4⟩
        have HB4 := hide hB4
        have HK4 := hide (Below.trans HK.out hb4)
        have HC4 : Hid (∀ j (h : j < s.size), w4.cell? ⟨W1.heap.size, j, none⟩ = some (.int .u8 (s[j].toNat : Int))) := fun j h => (World.cell?_of_block (hs4 hne hz)).trans (HC.out j h)
        have hz4 : W1.heap.size < w4.heap.size := Nat.lt_of_lt_of_le hz hb4.size
        clear hB4 hb4 hs4 HB HK HC
        go_wp2
        go_roundw
        case rel => exact ⟨k + 1, by omega, by go_num, by rw [HQ.out, HY.out]; exact HB4, HK4, HC4, hz4⟩
        case measure => simp [intOf]; omega
      · have HY : Hid (quoteB x = 92 :: hexL 2 x.toNat) := if_neg hno
        clear hno hsay
        have hwb := wrap_byte x
        go_wp2_with fail
        refine (digits2_any _ x.toNat (by omega) hTr.out).mono ?_
        rintro e w4 ⟨⟨d, rfl, hd⟩, k4⟩
        have hds : d.size = 2 := by have := congrArg List.length hd; rw [hexL_length] at this; simpa using this
        have HD : Hid ((⟨#[92]⟩ ++ d : ByteArray).data.toList = quoteB x) := by show _ = _; rw [ba_append, hd, HY.out]; rfl
        have HB4 := hide (HB.out.kept k4)
        have HC4 : Hid (∀ j (h : j < s.size), w4.cell? ⟨W1.heap.size, j, none⟩ = some (.int .u8 (s[j].toNat : Int))) := fun j h => (k4.cell (o := j) hz).trans (HC.out j h)
        have HK4 := hide (Kept.trans HK.out k4)
        have hz4 : W1.heap.size < w4.heap.size := Nat.lt_of_lt_of_le hz k4.size
        have hw4 : w.heap.size ≤ w4.heap.size := Nat.le_trans hw0 k4.size
        clear hd k4 HB HK HC
        have hds2 : (⟨#[92]⟩ ++ d : ByteArray).size ≤ 3 := by rw [ByteArray.size_append]; show 1 + d.size ≤ 3; omega
        go_wp2_with fail
        generalize (⟨#[92]⟩ ++ d : ByteArray) = d2 at *
        refine (writeString_any _ w.heap.size w.heap.size W1.heap.size buildT1 (34 :: q) d2 HB4.out (by omega) (by omega) hw4 hz4).mono ?_
        rintro e w5 ⟨rfl, hB5, hb5, hs5⟩
        have HB5 := hide hB5
        have HK5 := hide (Below.trans HK4.out hb5)
        have HC5 : Hid (∀ j (h : j < s.size), w5.cell? ⟨W1.heap.size, j, none⟩ = some (.int .u8 (s[j].toNat : Int))) := fun j h => (World.cell?_of_block (hs5 hne hz4)).trans (HC4.out j h)
        have hz5 : W1.heap.size < w5.heap.size := Nat.lt_of_lt_of_le hz4 hb5.size
        clear hB5 hb5 hs5 HB4 HK4 HC4
        go_wp2
        go_roundw
        case rel => exact ⟨k + 1, by omega, by go_num, by rw [HQ.out, ← HD.out]; exact HB5, HK5, HC5, hz5⟩
        case measure => simp [intOf]; omega
    · obtain rfl : k = s.size := by omega
      have hta : s.data.toList.take s.size = s.data.toList := List.take_of_length_le (by simp)
      rw [hta] at HB hql
      have hq1 : (34 :: quotesL s.data.toList).length ≤ 1000000 := by simp only [List.length_cons]; omega
      clear hta htl
      go_wp2_with fail
      refine (writeByte_any _ w.heap.size w.heap.size W1.heap.size buildT1 (34 :: quotesL s.data.toList) 34 HB.out (by omega) hw0 hz).mono ?_
      rintro e w4 ⟨rfl, hB4, hb4, _⟩
      have HB4 := hide hB4
      have HK4 := hide (Below.trans HK.out hb4)
      clear hB4 hb4 HB HK HC
      go_wp2_with fail
      refine (builderString_any _ w.heap.size w.heap.size W1.heap.size (34 :: quotesL s.data.toList ++ [34]) HB4.out (by simp)).mono ?_
      rintro e w5 ⟨rfl, hb5⟩
      have HK5 := hide (Below.trans HK4.out hb5)
      clear hb5 HK4
      go_wp2
      go_ret
      exact ⟨rfl, HK5.out⟩

end Go.Proofs.YtinkfgkjdaaeaaaGreatDoor

namespace Go.Proofs.YtinkfgkjdaaeaaaGreatDoor
open Go.RowKit

def PtrOk (w : World) (p : Addr) : Prop := ∃ c t, w.heap[p.block]? = some (.cells c t (0, 0))
theorem PtrOk.kept {w w' : World} {p : Addr} (h : PtrOk w p) (k : Kept w w') : PtrOk w' p := let ⟨c, t, hb⟩ := h; ⟨c, t, (k.block _ (heap_lt hb)).trans hb⟩
def ErrAt (w : World) (g : Nat) (p : Addr) : Prop := g < w.heap.size ∧ w.cell? ⟨g, 0, none⟩ = some (.iface 211 (.pointer (some p))) ∧ PtrOk w p
theorem ErrAt.kept {w w' : World} {g : Nat} {p : Addr} (h : ErrAt w g p) (k : Kept w w') : ErrAt w' g p := ⟨Nat.lt_of_lt_of_le h.1 k.size, by rw [k.cell h.1]; exact h.2.1, h.2.2.kept k⟩

theorem ErrAt.one {w : World} {g : Nat} {p q : Addr} (h : ErrAt w g p) (k : ErrAt w g q) : p = q := by
  have := h.2.1.symm.trans k.2.1
  simpa using this

structure Env (po : Addr) (w : World) : Prop where
  tab : TabOk w
  pow : PowOk w
  max : 6 < w.heap.size ∧ ∃ m, w.cell? ⟨6, 0, none⟩ = some (.int .i64 m)
  et : 3 < w.heap.size ∧ w.cell? ⟨3, 0, none⟩ = some (.iface 138 (.agg #[.pointer (some ⟨15, 35, none⟩)]))
  syn : ∃ p, ErrAt w 10 p
  rng : ∃ p, ErrAt w 11 p
  siz : ∃ p, ErrAt w 0 p
  las : ∃ p, ErrAt w 1 p
  oth : ErrAt w 2 po
  num : ∃ p, ErrAt w 4 p ∧ p ≠ po
  quo : ∃ p, ErrAt w 5 p ∧ p ≠ po
  wor : ∃ p, ErrAt w 7 p ∧ p ≠ po

theorem Env.kept {po : Addr} {w w' : World} (h : Env po w) (k : Kept w w') : Env po w' := by
  obtain ⟨h1, h2, ⟨m0, m, hm⟩, ⟨e0, e1⟩, ⟨p3, h3⟩, ⟨p4, h4⟩, ⟨p5, h5⟩, ⟨p6, h6⟩, h7, ⟨p8, h8, n8⟩, ⟨p9, h9, n9⟩, ⟨p10, h10, n10⟩⟩ := h
  exact ⟨h1.kept k, h2.kept k, ⟨Nat.lt_of_lt_of_le m0 k.size, m, by rw [k.cell m0]; exact hm⟩, ⟨Nat.lt_of_lt_of_le e0 k.size, by rw [k.cell e0]; exact e1⟩, ⟨p3, h3.kept k⟩, ⟨p4, h4.kept k⟩, ⟨p5, h5.kept k⟩, ⟨p6, h6.kept k⟩, h7.kept k, ⟨p8, h8.kept k, n8⟩, ⟨p9, h9.kept k, n9⟩, ⟨p10, h10.kept k, n10⟩⟩

theorem index_byte (b : UInt8) : ∀ l : List UInt8, (b ∉ l ∧ Lib.index l [b] = -1) ∨ ∃ x r, b ∉ x ∧ l = x ++ b :: r ∧ Lib.index l [b] = (x.length : Int)
  | [] => .inl ⟨by simp, by simp [Lib.index]⟩
  | c :: l => by
    by_cases h : c = b
    · subst h
      exact .inr ⟨[], l, by simp, rfl, by simp [Lib.index]⟩
    · have hp : ([b].isPrefixOf (c :: l)) = false := by
        have hb : ¬ b = c := fun e => h e.symm
        simp [List.isPrefixOf, hb]
      rcases index_byte b l with ⟨g1, g2⟩ | ⟨x, r, g1, g2, g3⟩
      · refine .inl ⟨by simp [g1, Ne.symm h], ?_⟩
        unfold Lib.index
        rw [hp, g2]
        rfl
      · refine .inr ⟨c :: x, r, by simp [g1, Ne.symm h], by simp [g2], ?_⟩
        unfold Lib.index
        rw [hp, g3]
        have : ¬ (((x.length : Int)) == -1) = true := by simp
        simp only [Bool.false_eq_true, if_false, if_neg this, List.length_cons]
        omega
theorem cut_byte (b : UInt8) (l : List UInt8) : (Lib.cut l [b]).1 = (cut1 b l).1 ∧ (Lib.cut l [b]).2.1 = (cut1 b l).2 := by
  unfold Lib.cut
  rcases index_byte b l with ⟨g1, g2⟩ | ⟨x, r, g1, rfl, g3⟩
  · rw [g2, cut1_none g1]
    exact ⟨rfl, rfl⟩
  · rw [g3, if_pos (by omega), cut1_app g1]
    simp
theorem splitB_byte (b : UInt8) : ∀ (k : Nat) (s : ByteArray), k = Lib.countB s ⟨#[b]⟩ → (Lib.splitB ⟨#[b]⟩ 0 k s) = (cuts b s.data.toList).map toB
  | 0, s, hk => by
    have hm : b ∉ s.data.toList := by
      rcases index_byte b s.data.toList with ⟨g1, _⟩ | ⟨x, r, _, _, g3⟩
      · exact g1
      · have := Lib.countB_hit s ⟨#[b]⟩ x.length (Nat.le_refl 1) g3
        omega
    rw [cuts_none hm]
    rfl
  | k + 1, s, hk => by
    rcases index_byte b s.data.toList with ⟨g1, g2⟩ | ⟨x, r, g1, g2, g3⟩
    · have := Lib.countB_miss s ⟨#[b]⟩ g2
      omega
    · have h1 := Lib.countB_hit s ⟨#[b]⟩ x.length (Nat.le_refl 1) g3
      have h2 := Lib.splitB_hit ⟨#[b]⟩ 0 k s x.length g3
      have e1 : (s.extract 0 (x.length + 0)) = toB x := by
        rw [← toB_data (s.extract 0 (x.length + 0)), Lib.extract_from_zero, g2]
        simp
      have e2 : (s.extract (x.length + (⟨#[b]⟩ : ByteArray).size) s.size).data.toList = r := by
        rw [Lib.extract_to_end, g2]
        have : (⟨#[b]⟩ : ByteArray).size = 1 := rfl
        rw [this, List.drop_append]
        simp
      rw [h2, splitB_byte b k _ (by omega), e1, e2, g2, cuts_app g1]
      rfl

theorem cut_any (w : World) (s : ByteArray) (hs : s.size ≤ 1048576) (b : UInt8) {po : Addr} (hE : Env po w) :
    Calls Tryz.prog 73 #[.string s, .string ⟨#[b]⟩] w fun e w' => (∃ f, e = .returned (.tuple #[.string (toB (cut1 b s.data.toList).1), .string (toB (cut1 b s.data.toList).2), .bool f])) ∧ Kept w w' := by
  obtain ⟨_, m, hm⟩ := hE.max
  refine (Tryz.strings_Cut s ⟨#[b]⟩ m w (by omega) hm).mono ?_
  rintro e w' ⟨rfl, n, rfl⟩
  obtain ⟨h1, h2⟩ := cut_byte b s.data.toList
  refine ⟨⟨(Lib.cut s.data.toList [b]).2.2, ?_⟩, (Kept.refl w).drewN n⟩
  have e0 : (⟨#[b]⟩ : ByteArray).data.toList = [b] := rfl
  rw [e0, h1, h2]
  rfl

theorem split_any (w : World) (s : ByteArray) (hs : s.size ≤ 1048576) (b : UInt8) {po : Addr} (hE : Env po w) :
    Calls Tryz.prog 28 #[.string s, .string ⟨#[b]⟩] w fun e w' => e = .returned (.slice (some ⟨w.heap.size, 0, none⟩) (cuts b s.data.toList).length (cuts b s.data.toList).length) ∧ w' = w.alloc (.cells (((cuts b s.data.toList).map toB).map Value.string).toArray 9) := by
  obtain ⟨_, m, hm⟩ := hE.max
  refine (Tryz.strings_Split s ⟨#[b]⟩ m w (by omega) hm (Nat.le_refl 1)).mono ?_
  rintro e w' ⟨rfl, rfl⟩
  have h1 := splitB_byte b _ s rfl
  have h2 := Lib.splitB_all ⟨#[b]⟩ (Nat.le_refl 1) 0 _ s rfl
  rw [h1, List.length_map] at h2
  rw [h1, h2]
  exact ⟨rfl, rfl⟩

theorem bytesWorld_kept {w w' : World} {t : TypeId} (h : w' = w ∨ ∃ x, w' = Lib.bytesWorld w t x) : Kept w w' := by
  rcases h with rfl | ⟨x, rfl⟩
  · exact Kept.refl _
  · exact Lib.bytesWorld_below _ _ _
theorem dec_hit {l : List UInt8} {v : Int} (h : Lib.atoiAll l = .ok v) (h' : Lib.itoa v = l) : decOf l = some v := by unfold decOf; rw [h]; simp [h']
theorem dec_miss {l : List UInt8} {v : Int} (h : Lib.atoiAll l = .ok v) (h' : Lib.itoa v ≠ l) : decOf l = none := by unfold decOf; rw [h]; simp [h']

def DecEnd (w : World) (po : Addr) (l : List UInt8) (e : Ending) : Prop :=
  (∃ v, decOf l = some v ∧ e = .returned (.tuple #[.int .i64 v, .nilIface]) ∧ In64 v) ∨ (∃ p, decOf l = none ∧ e = .returned (.tuple #[.int .i64 0, .iface 211 (.pointer (some p))]) ∧ p ≠ po ∧ ErrAt w 4 p)

set_option maxRecDepth 100000 in
set_option maxHeartbeats 1600000 in
theorem decimals_any (w : World) (s : ByteArray) (hs : s.size ≤ 1048576) {po : Addr} (hE : Env po w) :
    Calls Tryz.prog 74 #[.string s] w fun e w' => DecEnd w po s.data.toList e ∧ Kept w w' := by
  obtain ⟨pn, hpn, hne⟩ := hE.num
  have HE := hide hE
  have fail_end : ∀ (W : World), Kept w W → Hid (ErrAt W 4 pn) := fun W k => hpn.kept k
  cases ha : Lib.atoiAll s.data.toList with
  | ok v =>
    have hb := Lib.atoiAll_bounds ha
    go_enter Tryz.func74, Tryz.ntmps74
    go_wp2_with fail
    refine (Tryz.strconv_Atoi_ok s (by omega) v ha _).mono ?_
    rintro e w1 ⟨rfl, hW⟩
    have k1 := bytesWorld_kept hW
    clear hW
    have hP := HE.out.pow.kept k1
    have HP := hide hP
    clear hP
    go_wp2_with fail
    refine (Tryz.strconv_Itoa v (by omega) (by omega) _ HP.out).mono ?_
    rintro e w2 ⟨rfl, n, os, hw2⟩
    have k2 : Kept w1 w2 := by rw [hw2]; exact Lib.below_grow _ w1 (Nat.le_refl _) n os
    clear hw2
    have hf := (fail_end w2 (k1.trans k2)).out.2.1
    obtain ⟨d, hd⟩ : ∃ d : ByteArray, d = ⟨(Lib.itoa v).toArray⟩ := ⟨_, rfl⟩
    rw [← hd]
    by_cases he : d = s
    · have e0 : (d.toList == s.toList) = true := bytes_eq.2 he
      have hdec : Hid (decOf s.data.toList = some v) := dec_hit ha (by rw [← he, hd])
      clear hd he
      go_wp2
      go_ret2
      exact ⟨.inl ⟨v, hdec.out, rfl, hb⟩, k1.trans k2⟩
    · have e0 : (d.toList == s.toList) = false := by
        cases hx : (d.toList == s.toList)
        · rfl
        · exact absurd (bytes_eq.1 hx) he
      have hdec : Hid (decOf s.data.toList = none) := dec_miss ha (fun h => he (by rw [hd, h]))
      clear hd he
      go_wp2
      go_region
      go_wp2
      go_ret2
      exact ⟨.inr ⟨pn, hdec.out, rfl, hne, hpn⟩, (k1.trans k2).drew⟩
  | «syntax» =>
    obtain ⟨ps, hps⟩ := HE.out.syn
    have hdec : Hid (decOf s.data.toList = none) := by show decOf _ = _; unfold decOf; rw [ha]
    go_enter Tryz.func74, Tryz.ntmps74
    go_wp2_with fail
    refine (Tryz.strconv_Atoi_syntax s (by omega) ha _ _ hps.2.1 (.inr ⟨_, _, rfl⟩)).mono ?_
    rintro e w1 ⟨N, rfl, _, _, k1⟩
    have hf := (fail_end w1 k1).out.2.1
    go_wp2
    go_region
    go_wp2
    go_ret2
    exact ⟨.inr ⟨pn, hdec.out, rfl, hne, hpn⟩, Kept.drew k1⟩
  | range =>
    obtain ⟨ps, hps⟩ := HE.out.rng
    have hdec : Hid (decOf s.data.toList = none) := by show decOf _ = _; unfold decOf; rw [ha]
    go_enter Tryz.func74, Tryz.ntmps74
    go_wp2_with fail
    refine (Tryz.strconv_Atoi_range s (by omega) ha _ _ hps.2.1 (.inr ⟨_, _, rfl⟩)).mono ?_
    rintro e w1 ⟨N, rfl, _, _, k1⟩
    have hf := (fail_end w1 k1).out.2.1
    go_wp2
    go_region
    go_wp2
    go_ret2
    exact ⟨.inr ⟨pn, hdec.out, rfl, hne, hpn⟩, Kept.drew k1⟩

end Go.Proofs.YtinkfgkjdaaeaaaGreatDoor
