import Derived.Test.YtinkfgkjdaaeaaaGreatDoorKJAskO
import Derived.Test.YtinkfgkjdaaeaaaGreatDoorKJAskB
import Derived.Test.YtinkfgkjdaaeaaaGreatDoorKJAskN

namespace Go.Proofs.YtinkfgkjdaaeaaaGreatDoor
open Go.RowKit

set_option maxRecDepth 100000 in
set_option maxHeartbeats 6400000 in
theorem askOf_some (w0 w : World) (rest : List UInt8) (hl : rest.length ≤ 100000) {po : Addr} (h0 : Env po w0) (k0 : Kept w0 w) (x0 x1 x2 x3 x4 x5 x6 : List UInt8) (hx : cuts 32 rest = [x0, x1, x2, x3, x4, x5, x6]) (hw1 : x1 = wOn) (hw3 : x3 = wElse) (hw5 : x5 = wFall) (h00 : x0 ≠ [45]) :
    Calls Tryz.prog 99 #[.string (toB rest)] w fun e w' => AskOEnd w0 po rest w w' e := by
  obtain ⟨W0, hW0⟩ : ∃ W0, W0 = w.alloc (.cells #[.slice none 0 0, .int .i64 0, .slice none 0 0, .int .i64 0, .int .i64 0, .bool false, .bool false, .string ⟨#[]⟩] 59) := ⟨_, rfl⟩
  have kA : Hid (Kept w W0) := by rw [hW0]; exact (Kept.refl w).alloc _
  have HV0 : Hid (RowT W0 w.heap.size 59 8) := by rw [hW0]; exact RowT.made w _ _
  have H0 := hide h0
  have HKo := hide k0
  have HK0 := hide (k0.trans kA.out)
  have HE0 := hide (h0.kept HK0.out)
  clear h0 k0
  have hcn := cuts_count 32 rest
  have HCL : Hid (∀ x ∈ cuts 32 rest, x.length ≤ rest.length) := cuts_len 32 rest
  go_enter Tryz.func99, Tryz.ntmps99
  go_wp2_with fail
  rw [← hW0]
  clear hW0
  refine (split_any W0 (toB rest) (by rw [toB_size]; omega) 32 HE0.out).mono ?_
  rintro e w1 ⟨rfl, hw1⟩
  rw [show (toB rest).data.toList = rest from rfl] at hw1 ⊢
  have HST : Hid (∀ i, i < (cuts 32 rest).length → w1.cell? ⟨W0.heap.size, i, none⟩ = some (.string (toB ((cuts 32 rest).getD i [])))) := fun i hi => by rw [hw1]; exact row_strs W0 _ i hi
  have k1 : Kept W0 w1 := by rw [hw1]; exact (Kept.refl _).alloc _
  have HL1 : Hid (W0.heap.size < w1.heap.size) := by show _ < _; rw [hw1]; simp
  have HK1 := hide (kA.out.trans k1)
  have HV1 := hide (HV0.out.kept k1)
  have HE1 := hide (HE0.out.kept k1)
  have HKw := hide (HK0.out.trans k1)
  clear hw1 k1 HV0 HE0 HK0 kA
  generalize hsb : W0.heap.size = sb at *
  clear hsb
  obtain ⟨pw, hpw, hpn⟩ := H0.out.wor
  have HPW := hide hpw
  clear hpw
  have hgz : 7 < w.heap.size := by have h1 := HPW.out.1; have h2 := HKo.out.size; omega
  have hgn : (7 : Nat) ≠ w.heap.size := by omega
  have hgm : w.heap.size ≠ (7 : Nat) := by omega
  have h7 : (cuts 32 rest).length = 7 := by rw [hx]; rfl
  have hl0 := HCL.out x0 (by rw [hx]; simp)
  have hl2 := HCL.out x2 (by rw [hx]; simp)
  have hl4 := HCL.out x4 (by rw [hx]; simp)
  have hl6 := HCL.out x6 (by rw [hx]; simp)
  rw [h7]
  rw [hx] at HST
  have c0 := HST.out 0 (by simp)
  have c1 := HST.out 1 (by simp)
  have c2 := HST.out 2 (by simp)
  have c3 := HST.out 3 (by simp)
  have c4 := HST.out 4 (by simp)
  have c5 := HST.out 5 (by simp)
  have c6 := HST.out 6 (by simp)
  simp only [List.getD_cons_zero, List.getD_cons_succ] at c0 c1 c2 c3 c4 c5 c6
  clear HST HCL h7 hcn
  have e1 : ((toB x1).toList == [111, 110]) = true := by rw [toB_beq, hw1]; rfl
  have e3 : ((toB x3).toList == [101, 108, 115, 101]) = true := by rw [toB_beq, hw3]; rfl
  have e5 : ((toB x5).toList == [102, 97, 108, 108]) = true := by rw [toB_beq, hw5]; rfl
  have e0 : ((toB x0).toList == [45]) = false := by rw [toB_beq]; exact decide_eq_false h00
  have HA : Hid (∀ (a b c : Int), decOf x2 = some a → decOf x4 = some b → decOf x6 = some c → askOf rest = some ⟨(cuts 44 x0).map toB, a, [], b, c, false, false, toB []⟩) := fun a b c h1 h2 h3 => by
    unfold askOf
    rw [hx]
    simp only
    rw [if_pos ⟨hw1, hw3, hw5⟩, h1, h2, h3]
    simp only
    rw [if_neg h00]
  have HNn : Hid (decOf x2 = none ∨ decOf x4 = none ∨ decOf x6 = none → askOf rest = none) := fun h => by
    unfold askOf
    rw [hx]
    simp only
    rw [if_pos ⟨hw1, hw3, hw5⟩]
    rcases h with h | h | h
    · rw [h]
    · rw [h]; cases decOf x2 <;> rfl
    · rw [h]; cases decOf x2 <;> cases decOf x4 <;> rfl
  clear hx hw1 hw3 hw5 h00

  go_wp2_with fail
  refine (split_any w1 (toB x0) (by rw [toB_size]; omega) 44 HE1.out).mono ?_
  rintro e w2 ⟨rfl, hw2⟩
  rw [show (toB x0).data.toList = x0 from rfl] at hw2 ⊢
  have k2 : Kept w1 w2 := by rw [hw2]; exact (Kept.refl _).alloc _
  have HTS : Hid (TStrs w2 9 (some ⟨w1.heap.size, 0, none⟩) ((cuts 44 x0).map toB)) := by rw [hw2]; exact tstrs_new w1 _
  have c2 := (k2.cell (o := 2) HL1.out).trans c2
  have c4 := (k2.cell (o := 4) HL1.out).trans c4
  have c6 := (k2.cell (o := 6) HL1.out).trans c6
  have HL2 := hide (Nat.lt_of_lt_of_le HL1.out k2.size)
  have HK2 := hide (HK1.out.trans k2)
  have HV2 := hide (HV1.out.kept k2)
  have HE2 := hide (HE1.out.kept k2)
  clear hw2 k2 HE1 HV1 HK1 HL1 c0 c1 c3 c5
  have hal : (cuts 44 x0).length ≤ 100001 := by have := cuts_count 44 x0; omega
  generalize ha0 : (cuts 44 x0).map toB = asks at *
  have hala : (cuts 44 x0).length = asks.length := by rw [← ha0, List.length_map]
  rw [hala]
  clear hala ha0
  generalize (some ⟨w1.heap.size, 0, none⟩ : Option Addr) = aa at *
  obtain ⟨cap, hcap⟩ : ∃ cap, cap = asks.length := ⟨_, rfl⟩
  have HCp : Hid (asks.length ≤ asks.length) := Nat.le_refl _
  clear hcap

  go_wp2_with fail
  refine (decimals_num _ x2 (by omega) HE2.out).mono ?_
  rintro e w3 ⟨⟨v0, r0, rfl, hn0⟩, k3⟩
  have HN0 := hide hn0
  have HE3 := hide (HE2.out.kept k3)
  have HV3 := hide (HV2.out.kept k3)
  have HK3 := hide (HK2.out.trans k3)
  have HL3 := hide (Nat.lt_of_lt_of_le HL2.out k3.size)
  have HTS := hide (HTS.out.kept k3)
  have c4 := (k3.cell (o := 4) HL2.out).trans c4
  have c6 := (k3.cell (o := 6) HL2.out).trans c6
  clear hn0 k3 HE2 HV2 HK2 HL2 c2

  go_wp2_with fail
  refine (decimals_num _ x4 (by omega) HE3.out).mono ?_
  rintro e w4 ⟨⟨v1, r1, rfl, hn1⟩, k4⟩
  have HN1 := hide hn1
  have HE4 := hide (HE3.out.kept k4)
  have HV4 := hide (HV3.out.kept k4)
  have HK4 := hide (HK3.out.trans k4)
  have HL4 := hide (Nat.lt_of_lt_of_le HL3.out k4.size)
  have HTS := hide (HTS.out.kept k4)
  have c6 := (k4.cell (o := 6) HL3.out).trans c6
  clear hn1 k4 HE3 HV3 HK3 HL3 c4

  go_wp2_with fail
  refine (decimals_num _ x6 (by omega) HE4.out).mono ?_
  rintro e w5 ⟨⟨v2, r2, rfl, hn2⟩, k5⟩
  have HN2 := hide hn2
  have HE5 := hide (HE4.out.kept k5)
  have HV5 := hide (HV4.out.kept k5)
  have HK5 := hide (HK4.out.trans k5)
  have HL5 := hide (Nat.lt_of_lt_of_le HL4.out k5.size)
  have HTS := hide (HTS.out.kept k5)
  clear hn2 k5 HE4 HV4 HK4 HL4 c6

  have HEr : Hid (Errs (w5.alloc (.cells #[r0, r1, r2] 35)) w5.heap.size [r0, r1, r2]) := by
    refine ⟨by simp, fun i hi => ?_⟩
    match i, hi with
    | 0, _ => exact ⟨range_new w5 #[r0, r1, r2] 35 0 _ rfl, HN0.out.err⟩
    | 1, _ => exact ⟨range_new w5 #[r0, r1, r2] 35 1 _ rfl, HN1.out.err⟩
    | 2, _ => exact ⟨range_new w5 #[r0, r1, r2] 35 2 _ rfl, HN2.out.err⟩
  have HY : Hid (AllNil [r0, r1, r2] → askOf rest = some ⟨asks, v0, [], v1, v2, false, false, toB []⟩) := fun h => HA.out v0 v1 v2 (HN0.out.yes (h r0 (by simp))) (HN1.out.yes (h r1 (by simp))) (HN2.out.yes (h r2 (by simp)))
  have HX : Hid (¬ AllNil [r0, r1, r2] → askOf rest = none) := fun h => HNn.out (by
    by_cases a0 : r0 = .nilIface
    · by_cases a1 : r1 = .nilIface
      · by_cases a2 : r2 = .nilIface
        · exact absurd (fun v hv => by simp at hv; rcases hv with rfl | rfl | rfl <;> assumption) h
        · exact .inr (.inr (HN2.out.no a2))
      · exact .inr (.inl (HN1.out.no a1))
    · exact .inl (HN0.out.no a0))
  have q0 := HN0.out.err
  have q1 := HN1.out.err
  have q2 := HN2.out.err
  clear HN0 HN1 HN2 HA HNn
  rcases q0 with rfl | ⟨p0, rfl⟩ <;> rcases q1 with rfl | ⟨p1, rfl⟩ <;> rcases q2 with rfl | ⟨p2, rfl⟩ <;> (
    go_wp2_with fail
    refine (join_any _ w5.heap.size 3 _ HEr.out (by simp)).mono ?_
    rintro e w6 ⟨hj, k6⟩
    have k6' : Kept w5 w6 := ((Kept.refl w5).alloc _).trans k6
    have HV6 := hide (HV5.out.kept k6')
    have HK6 := hide (HK5.out.trans k6')
    have HTS := hide (HTS.out.kept k6')
    clear k6 k6' HEr HV5 HK5

    have hres : ∀ sd : StepD, sd = ⟨asks, v0, [], v1, v2, false, false, toB []⟩ → (w6.setCells w.heap.size 0 (sd.cells aa asks.length none 0)).rangeAt w.heap.size 0 (sd.cells aa asks.length none 0) ∧ Kept w (w6.setCells w.heap.size 0 (sd.cells aa asks.length none 0)) ∧ TStrs (w6.setCells w.heap.size 0 (sd.cells aa asks.length none 0)) 9 aa asks := fun sd _ =>
      ⟨World.rangeAt_setCells_same w6 w.heap.size 0 _ (HV6.out.row.there (o := 0) (m := 8) (Nat.le_refl _)), Kept.setCells (Nat.le_refl _) _ 0 HK6.out, HTS.out.same (RowT.sets 0 _ HV6.out) (by decide)⟩
    obtain ⟨hr1, hr2, hr3⟩ := hres _ rfl
    have HR1 := hide hr1
    have HR2 := hide hr2
    have HR3 := hide hr3
    have HTh : Hid (w6.there w.heap.size 0 8) := HV6.out.row.there (o := 0) (m := 8) (Nat.le_refl _)
    clear hres hr1 hr2 hr3
    rcases hj with ⟨hall, rfl⟩ | ⟨hnot, N, rfl⟩
    · have HY' := hide (HY.out hall)
      clear HY HX hall
      go_wp2_with (refine wpList_store_mid rfl 59 (.tmp 2) (.tmp 70) rfl w.heap.size 0 (StepD.cells ⟨asks, v0, [], v1, v2, false, false, toB []⟩ aa asks.length none 0).toArray rfl rfl HTh.out Tryz.sizeStepJ (StepD.one ..) ?_; rw [List.toList_toArray])
      exact bodyPost_ret_j2 (StepD.cells ⟨asks, v0, [], v1, v2, false, false, toB []⟩ aa asks.length none 0) _ .nilIface Tryz.results99 rfl HR1.out Tryz.underlying59 rfl Tryz.sizeStepJ rfl rfl ⟨HR2.out, .inl ⟨_, aa, asks.length, HY'.out, rfl, HR3.out, Nat.le_refl _⟩⟩
    · have HX' := hide (HX.out hnot)
      clear HY HX hnot
      go_wp2_with (refine wpList_store_mid rfl 59 (.tmp 2) (.tmp 70) rfl w.heap.size 0 (StepD.cells ⟨asks, v0, [], v1, v2, false, false, toB []⟩ aa asks.length none 0).toArray rfl rfl HTh.out Tryz.sizeStepJ (StepD.one ..) ?_; rw [List.toList_toArray])
      exact bodyPost_ret_j2 (StepD.cells ⟨asks, v0, [], v1, v2, false, false, toB []⟩ aa asks.length none 0) _ (.iface 195 (.pointer (some N))) Tryz.results99 rfl HR1.out Tryz.underlying59 rfl Tryz.sizeStepJ rfl rfl ⟨HR2.out, .inr ⟨_, aa, asks.length, 195, .pointer (some N), HX'.out, rfl, rfl, .inr ⟨_, rfl⟩⟩⟩)

end Go.Proofs.YtinkfgkjdaaeaaaGreatDoor

namespace Go.Proofs.YtinkfgkjdaaeaaaGreatDoor
open Go.RowKit

theorem askOf_any (w0 w : World) (rest : List UInt8) (hl : rest.length ≤ 100000) {po : Addr} (h0 : Env po w0) (k0 : Kept w0 w) :
    Calls Tryz.prog 99 #[.string (toB rest)] w fun e w' => AskOEnd w0 po rest w w' e := by
  by_cases h7 : (cuts 32 rest).length = 7
  · obtain ⟨x0, x1, x2, x3, x4, x5, x6, hx⟩ := seven (cuts 32 rest) h7
    by_cases hw1 : x1 = wOn
    · by_cases hw3 : x3 = wElse
      · by_cases hw5 : x5 = wFall
        · by_cases h00 : x0 = [45]
          · exact askOf_dash w0 w rest hl h0 k0 x0 x1 x2 x3 x4 x5 x6 hx hw1 hw3 hw5 h00
          · exact askOf_some w0 w rest hl h0 k0 x0 x1 x2 x3 x4 x5 x6 hx hw1 hw3 hw5 h00
        · exact askOf_w5 w0 w rest hl h0 k0 x0 x1 x2 x3 x4 x5 x6 hx hw1 hw3 hw5
      · exact askOf_w3 w0 w rest hl h0 k0 x0 x1 x2 x3 x4 x5 x6 hx hw1 hw3
    · exact askOf_w1 w0 w rest hl h0 k0 x0 x1 x2 x3 x4 x5 x6 hx hw1
  · exact askOf_len w0 w rest hl h0 k0 h7

end Go.Proofs.YtinkfgkjdaaeaaaGreatDoor
