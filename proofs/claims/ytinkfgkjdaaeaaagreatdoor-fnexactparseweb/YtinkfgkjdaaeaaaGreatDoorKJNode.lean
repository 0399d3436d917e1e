import Derived.Test.YtinkfgkjdaaeaaaGreatDoorKJManyS

namespace Go.Proofs.YtinkfgkjdaaeaaaGreatDoor
open Go.RowKit

def NodeSh (cs : List Value) : Prop := ∃ (nm : ByteArray) (co : Int) (sa : Option Addr) (sn sc : Nat), cs = [.string nm, .int .i64 co, .slice sa sn sc]
def NodeMem (w : World) (cs : List Value) (d : NodeD) : Prop := ∃ v, cs = [.string d.name, .int .i64 d.cost, v] ∧ TSteps w 59 9 61 v d.steps
theorem Tryz.sizeNodeJ : (Tryz.prog.info? 54).map (·.size) = some 3 := by kernel_rfl

theorem decimals_at {w0 w : World} {po : Addr} (h0 : Env po w0) (k0 : Kept w0 w) (s : ByteArray) (hs : s.size ≤ 1048576) :
    Calls Tryz.prog 74 #[.string s] w fun e w' => DecEnd w0 po s.data.toList e ∧ Kept w w' := by
  obtain ⟨pq, hpq, hne⟩ := h0.num
  refine (decimals_any w s hs (h0.kept k0)).mono ?_
  rintro e w' ⟨hu, k⟩
  refine ⟨?_, k⟩
  rcases hu with hu | ⟨p, h1, h2, h3, h4⟩
  · exact .inl hu
  · exact .inr ⟨p, h1, h2, h3, by rw [← (hpq.kept k0).one h4]; exact hpq⟩

def NodeOEnd (w0 : World) (po : Addr) (l : List UInt8) (w w' : World) (e : Ending) : Prop :=
  Kept w w' ∧ ((∃ c, decOf (cut1 32 l).2 = some c ∧ e = .returned (.tuple #[.agg #[.string (toB (cut1 32 l).1), .int .i64 c, .slice none 0 0], .nilIface]))
    ∨ (∃ p, decOf (cut1 32 l).2 = none ∧ e = .returned (.tuple #[.agg #[.string (toB (cut1 32 l).1), .int .i64 0, .slice none 0 0], .iface 211 (.pointer (some p))]) ∧ NotOther w0 po (.iface 211 (.pointer (some p)))))

set_option maxRecDepth 100000 in
set_option maxHeartbeats 1600000 in
theorem nodeOf_any (w0 w : World) (rest : List UInt8) (hl : rest.length ≤ 100000) {po : Addr} (h0 : Env po w0) (k0 : Kept w0 w) :
    Calls Tryz.prog 51 #[.string (toB rest)] w fun e w' => NodeOEnd w0 po rest w w' e := by
  obtain ⟨W0, hW0⟩ : ∃ W0, W0 = w.alloc (.cells #[.string ⟨#[]⟩, .int .i64 0, .slice none 0 0] 54) := ⟨_, rfl⟩
  have kA : Hid (Kept w W0) := by rw [hW0]; exact (Kept.refl w).alloc _
  have HV0 : Hid (RowT W0 w.heap.size 54 3) := by rw [hW0]; exact RowT.made w _ _
  have H0 := hide h0
  have HK0 := hide (k0.trans kA.out)
  have hcl := cut1_len 32 rest
  clear h0 k0
  go_enter Tryz.func51, Tryz.ntmps51
  go_wp2_with fail
  rw [← hW0]
  clear hW0
  refine (cut_any W0 (toB rest) (by rw [toB_size]; omega) 32 (H0.out.kept HK0.out)).mono ?_
  rintro e w1 ⟨⟨f, rfl⟩, k1⟩
  rw [show (toB rest).data.toList = rest from rfl]
  have HD : Hid (∀ (w' : World) (e : Ending), Kept w w' → ((∃ c, decOf (cut1 32 rest).2 = some c ∧ e = .returned (.tuple #[.agg #[.string (toB (cut1 32 rest).1), .int .i64 c, .slice none 0 0], .nilIface])) ∨ (∃ p, decOf (cut1 32 rest).2 = none ∧ e = .returned (.tuple #[.agg #[.string (toB (cut1 32 rest).1), .int .i64 0, .slice none 0 0], .iface 211 (.pointer (some p))]) ∧ NotOther w0 po (.iface 211 (.pointer (some p))))) → NodeOEnd w0 po rest w w' e) := fun w' e k h => ⟨k, h⟩
  generalize (cut1 32 rest).1 = nm at *
  generalize (cut1 32 rest).2 = num at *
  go_wp2_with fail
  refine (decimals_at H0.out (HK0.out.trans k1) (toB num) (by rw [toB_size]; omega)).mono ?_
  rintro e w2 ⟨hd, k2⟩
  rw [show (toB num).data.toList = num from rfl] at hd
  have HV2 := hide (HV0.out.kept (k1.trans k2))
  have HK2 := hide ((kA.out.trans k1).trans k2)
  clear k1 k2 HV0 kA HK0
  obtain ⟨⟨_, x0⟩, g0⟩ := HV2.out.row.at (i := 0) (by omega)
  obtain ⟨⟨_, x1⟩, g1⟩ := HV2.out.row.at (i := 1) (by omega)
  obtain ⟨⟨_, x2⟩, g2⟩ := HV2.out.row.at (i := 2) (by omega)
  rcases hd with ⟨v, hd, rfl, hv⟩ | ⟨p, hd, rfl, hp, hpk⟩
  · have HDd := hide hd
    clear hd
    have HRg := hide (World.rangeAt_setCells_same w2 w.heap.size 0 [.string (toB nm), .int .i64 v, .slice none 0 0] (HV2.out.row.there (o := 0) (m := 3) (Nat.le_refl _)))
    have HKf := hide (Kept.setCells (Nat.le_refl _) [.string (toB nm), .int .i64 v, .slice none 0 0] 0 HK2.out)
    go_wp2
    exact bodyPost_ret_j2 [.string (toB nm), .int .i64 v, .slice none 0 0] _ .nilIface Tryz.results51 rfl HRg.out Tryz.underlying54 rfl Tryz.sizeNodeJ rfl rfl (HD.out _ _ HKf.out (.inl ⟨v, HDd.out, rfl⟩))
  · have HDd := hide hd
    have HPk := hide hpk
    clear hd hpk
    have HRg := hide (World.rangeAt_setCells_same w2 w.heap.size 0 [.string (toB nm), .int .i64 0, .slice none 0 0] (HV2.out.row.there (o := 0) (m := 3) (Nat.le_refl _)))
    have HKf := hide (Kept.setCells (Nat.le_refl _) [.string (toB nm), .int .i64 0, .slice none 0 0] 0 HK2.out)
    go_wp2
    exact bodyPost_ret_j2 [.string (toB nm), .int .i64 0, .slice none 0 0] _ (.iface 211 (.pointer (some p))) Tryz.results51 rfl HRg.out Tryz.underlying54 rfl Tryz.sizeNodeJ rfl rfl (HD.out _ _ HKf.out (.inr ⟨p, HDd.out, rfl, .inl ⟨p, rfl, hp, HPk.out.2.2⟩⟩))

theorem nodeR_word {L : List (List UInt8)} {a : Nat} (h : (wordsAt L a).1 = wNode) : a < L.length ∧ ∀ g, NodeR (L.drop a) g ↔ match decOf (cut1 32 (wordsAt L a).2).2 with | none => g = .bad | some c => (∃ ss r', Many StepR (L.drop (a + 1)) (some (ss, r')) ∧ g = .ok ⟨toB (cut1 32 (wordsAt L a).2).1, c, ss⟩ r') ∨ (Many StepR (L.drop (a + 1)) none ∧ g = .bad) := by
  obtain ⟨hl, h1, h2⟩ := stepR_word h (by decide)
  refine ⟨hl, fun g => ?_⟩
  rw [drop_line hl]
  simp only [NodeR]
  rw [h1, h2, if_pos rfl]
  exact Iff.rfl
theorem nodeR_other {L : List (List UInt8)} {a : Nat} (_ha : a ≤ L.length) (h : (wordsAt L a).1 ≠ wNode) : NodeR (L.drop a) .other := by
  rcases Nat.lt_or_ge a L.length with hl | hl
  · rw [drop_line hl]
    unfold wordsAt at h
    rw [if_pos hl] at h
    simp only [NodeR]
    rw [if_neg h]
    trivial
  · rw [List.drop_eq_nil_of_le hl]
    rfl

set_option maxRecDepth 100000 in
set_option maxHeartbeats 3200000 in
theorem node_other (w0 w : World) (rb lb cap : Nat) (L : List (List UInt8)) (a : Nat) (hR : Rdr w rb lb cap L a) (ha : a ≤ L.length) {po : Addr} (h0 : Env po w0) (k0 : Kept w0 w) (hrb : w0.heap.size ≤ rb) (hw : (wordsAt L a).1 ≠ wNode) :
    Calls Tryz.prog 30 #[.pointer (some ⟨rb, 0, none⟩)] w fun e w' => ReadEnd NodeR NodeMem NodeSh w0 po rb lb cap L a w w' e := by
  have hrl := hR.row.lt
  have hlbl := hR.lbl
  obtain ⟨W0, hW0⟩ : ∃ W0, W0 = w.alloc (.cells #[.string ⟨#[]⟩, .int .i64 0, .slice none 0 0] 54) := ⟨_, rfl⟩
  have kA : Hid (Kept w W0) := by rw [hW0]; exact (Kept.refl w).alloc _
  have HV0 : Hid (RowT W0 w.heap.size 54 3) := by rw [hW0]; exact RowT.made w _ _
  have HR0 := hide (hR.kept kA.out)
  have HE0 := hide (h0.kept (k0.trans kA.out))
  have H0 := hide h0
  have K0 := hide (k0.trans kA.out)
  clear hR h0 k0
  go_enter Tryz.func30, Tryz.ntmps30
  go_wp2_with fail
  rw [← hW0]
  clear hW0
  refine (next_any W0 rb lb cap L a HR0.out ha HE0.out).mono ?_
  rintro e w1 ⟨rfl, hR1, kb1⟩
  have hwl := wordsAt_len HR0.out
  have HR1 := hide hR1
  have HB1 := hide (KeptBut.from kA.out kb1)
  have HV1 := hide (kb1.rowT HV0.out (by omega))
  have HE1 := hide (kb1.env H0.out K0.out hrb)
  have HKw := hide (kb1.kept K0.out hrb)
  have hz0 := kA.out.size
  clear hR1 kb1 HR0 HE0 HV0 K0 kA
  have eC : ((toB (wordsAt L a).1).toList == [110, 111, 100, 101]) = false := by rw [toB_beq]; exact decide_eq_false hw
  have HO := hide (nodeR_other ha hw)
  have hoth := HE1.out.oth.2.1
  clear hw
  generalize (wordsAt L a).1 = word at *
  generalize (wordsAt L a).2 = rest at *
  go_wp2_with fail
  refine (wrap_any _ rb lb cap L a HR1.out _ _).mono ?_
  rintro e w2 ⟨rfl, hF, k2⟩
  have hfz : w.heap.size < w1.heap.size := HV1.out.lt
  have HF := hide (FaultAt.setVar (vb := w.heap.size) (o := 0) (cs := [.string ⟨#[]⟩, .int .i64 0, .slice none 0 0]) hF (by omega))
  have HV2 := hide (HV1.out.kept k2)
  have HR2 := hide (HR1.out.kept k2)
  have HB2 := hide (HB1.out.and k2)
  clear hF k2 HV1 HR1 HB1
  have HP2 := hide (fin_parts (o := 0) (cs := [.string ⟨#[]⟩, .int .i64 0, .slice none 0 0]) HR2.out HB2.out (vb := w.heap.size) (Nat.le_refl _) hrl hlbl)
  have HRg := hide (World.rangeAt_setCells_same w2 w.heap.size 0 [.string ⟨#[]⟩, .int .i64 0, .slice none 0 0] (HV2.out.row.there (o := 0) (m := 3) (Nat.le_refl _)))
  obtain ⟨⟨_, x0⟩, g0⟩ := HV2.out.row.at (i := 0) (by omega)
  obtain ⟨⟨_, x1⟩, g1⟩ := HV2.out.row.at (i := 1) (by omega)
  obtain ⟨⟨_, x2⟩, g2⟩ := HV2.out.row.at (i := 2) (by omega)
  go_wp2
  exact bodyPost_ret_j2 [.string ⟨#[]⟩, .int .i64 0, .slice none 0 0] _ (.iface 67 (.pointer (some ⟨w1.heap.size, 0, none⟩))) Tryz.results30 rfl HRg.out Tryz.underlying54 rfl Tryz.sizeNodeJ rfl rfl
    ⟨_, _, a + 1, rfl, ⟨_, _, _, _, _, rfl⟩, HP2.out.1, HP2.out.2, .inr (.inl ⟨w1.heap.size, HO.out, rfl, HF.out, by omega⟩)⟩

set_option maxRecDepth 100000 in
set_option maxHeartbeats 3200000 in
theorem node_word (w0 w : World) (rb lb cap : Nat) (L : List (List UInt8)) (a : Nat) (hR : Rdr w rb lb cap L a) (ha : a ≤ L.length) {po : Addr} (h0 : Env po w0) (k0 : Kept w0 w) (hrb : w0.heap.size ≤ rb) (hw : (wordsAt L a).1 = wNode) :
    Calls Tryz.prog 30 #[.pointer (some ⟨rb, 0, none⟩)] w fun e w' => ReadEnd NodeR NodeMem NodeSh w0 po rb lb cap L a w w' e := by
  have hrl := hR.row.lt
  have hlbl := hR.lbl
  obtain ⟨W0, hW0⟩ : ∃ W0, W0 = w.alloc (.cells #[.string ⟨#[]⟩, .int .i64 0, .slice none 0 0] 54) := ⟨_, rfl⟩
  have kA : Hid (Kept w W0) := by rw [hW0]; exact (Kept.refl w).alloc _
  have HV0 : Hid (RowT W0 w.heap.size 54 3) := by rw [hW0]; exact RowT.made w _ _
  have HR0 := hide (hR.kept kA.out)
  have HE0 := hide (h0.kept (k0.trans kA.out))
  have H0 := hide h0
  have K0 := hide (k0.trans kA.out)
  clear hR h0 k0
  go_enter Tryz.func30, Tryz.ntmps30
  go_wp2_with fail
  rw [← hW0]
  clear hW0
  refine (next_any W0 rb lb cap L a HR0.out ha HE0.out).mono ?_
  rintro e w1 ⟨rfl, hR1, kb1⟩
  have hwl := wordsAt_len HR0.out
  have HR1 := hide hR1
  have HB1 := hide (KeptBut.from kA.out kb1)
  have HV1 := hide (kb1.rowT HV0.out (by omega))
  have HE1 := hide (kb1.env H0.out K0.out hrb)
  have HKw := hide (kb1.kept K0.out hrb)
  have hz0 := kA.out.size
  clear hR1 kb1 HR0 HE0 HV0 K0 kA
  have eC : ((toB (wordsAt L a).1).toList == [110, 111, 100, 101]) = true := by rw [toB_beq, hw]; rfl
  obtain ⟨hal, hSR⟩ := nodeR_word hw
  have HSR := hide hSR
  clear hSR hw
  generalize (wordsAt L a).1 = word at *
  generalize (wordsAt L a).2 = rest at *
  go_wp2_with fail
  refine (nodeOf_any w0 w1 rest (by omega) H0.out HKw.out).mono ?_
  rintro e w2 ⟨k2, hend⟩
  have HV2 := hide (HV1.out.kept k2)
  have HR2 := hide (HR1.out.kept k2)
  have HB2 := hide (HB1.out.and k2)
  have HKw2 := hide (HKw.out.trans k2)
  clear k2 HV1 HR1 HB1 HE1 HKw
  generalize hnm : toB (cut1 32 rest).1 = nm at *
  rcases hend with ⟨c, hd, rfl⟩ | ⟨p, hd, rfl, hno⟩
  · rw [hd] at HSR
    clear hd hnm
    obtain ⟨W3, hW3⟩ : ∃ W3, W3 = w2.alloc (.cells #[.string nm, .int .i64 c, .slice none 0 0] 54) := ⟨_, rfl⟩
    have kB : Hid (Kept w2 W3) := by rw [hW3]; exact (Kept.refl w2).alloc _
    have HSr : Hid (RowT W3 w2.heap.size 54 3) := by rw [hW3]; exact RowT.made w2 _ _
    have HSc : Hid (W3.rangeAt w2.heap.size 0 [.string nm, .int .i64 c, .slice none 0 0]) := by rw [hW3]; exact range_new w2 #[.string nm, .int .i64 c, .slice none 0 0] 54
    have HL3 : Hid (w2.heap.size < W3.heap.size) := by show _ < _; rw [hW3]; simp
    have HV3 := hide (HV2.out.kept kB.out)
    have HR3 := hide (HR2.out.kept kB.out)
    have HB3 := hide (HB2.out.and kB.out)
    have HKw3 := hide (HKw2.out.trans kB.out)
    have hz2 : w.heap.size < w2.heap.size := HV2.out.lt
    have hzr : rb < w2.heap.size := HR2.out.row.lt
    go_wp2_with fail
    rw [← hW3]
    clear hW3 kB HV2 HR2 HB2 HKw2
    refine (manyS_any w0 W3 rb lb cap L (a + 1) HR3.out (by omega) H0.out HKw3.out hrb).mono ?_
    intro e w4 hend
    obtain ⟨v, err, a4, rfl, _, hR4, kb4, hcase⟩ := hend
    have HR4 := hide hR4
    have HB4 := hide (HB3.out.trans kb4)
    have HV4 := hide (kb4.rowT HV3.out (by omega))
    have HS4r := hide (kb4.rowT HSr.out (by omega))
    have HS4c : Hid (w4.rangeAt w2.heap.size 0 [.string nm, .int .i64 c, .slice none 0 0]) := fun j u hj => by rw [kb4.cellJ HSr.out.lt (by omega)]; exact HSc.out j u hj
    clear hR4 kb4 HV3 HR3 HB3 HSr HSc HKw3
    have y0 := HS4c.out 0 _ rfl
    have y1 := HS4c.out 1 _ rfl
    have y2 := HS4c.out 2 _ rfl
    simp only [Nat.zero_add] at y0 y1 y2
    obtain ⟨_, q2⟩ := HS4r.out.row.at (i := 2) (by omega)
    have hne : w.heap.size ≠ w2.heap.size := by omega
    have hne' : w2.heap.size ≠ w.heap.size := by omega
    rcases hcase with ⟨xs, cells, hM, h1, h2, rfl, hO, hP, _⟩ | ⟨fb, line, u, rfl, hM, rfl, hF, hno, hfb⟩
    · obtain ⟨va, vc', hv⟩ := own_slice hO
      obtain ⟨vn, vc, rfl⟩ : ∃ vn vc, v = .slice va vn vc := ⟨_, _, hv⟩
      have HT : Hid (TSteps w4 59 9 61 (.slice va vn vc) xs) := ⟨_, cells, hO, hP⟩
      have HC : Hid (NodeR (L.drop a) (.ok ⟨nm, c, xs⟩ (L.drop a4))) := by
        show NodeR _ _
        rw [HSR.out]
        exact .inl ⟨xs, _, hM, rfl⟩
      clear hM hO hP hv HSR
      have HV5 : Hid (RowT (w4.setCell ⟨w2.heap.size, 2, none⟩ (.slice va vn vc)) w.heap.size 54 3) := HV4.out.block (Below.heap_setCell _ _ _ _ (fun e => hne e))
      have HP1 : Hid (Rdr (w4.setCell ⟨w2.heap.size, 2, none⟩ (.slice va vn vc)) rb lb cap L a4 ∧ KeptBut rb (rb + 1) w (w4.setCell ⟨w2.heap.size, 2, none⟩ (.slice va vn vc))) := fin_parts (o := 2) (cs := [.slice va vn vc]) HR4.out HB4.out (vb := w2.heap.size) (by omega) hrl hlbl
      have HP2 := hide (fin_parts (o := 0) (cs := [.string nm, .int .i64 c, .slice va vn vc]) HP1.out.1 HP1.out.2 (vb := w.heap.size) (Nat.le_refl _) hrl hlbl)
      have HRg := hide (World.rangeAt_setCells_same (w4.setCell ⟨w2.heap.size, 2, none⟩ (.slice va vn vc)) w.heap.size 0 [.string nm, .int .i64 c, .slice va vn vc] (HV5.out.row.there (o := 0) (m := 3) (Nat.le_refl _)))
      have HKa : Hid (SameKind 54 w4 ((w4.setCell ⟨w2.heap.size, 2, none⟩ (.slice va vn vc)).setCells w.heap.size 0 [.string nm, .int .i64 c, .slice va vn vc])) := (HS4r.out.same (o := 2) _).trans (RowT.sets 0 _ HV5.out)
      obtain ⟨⟨_, x0⟩, g0⟩ := HV4.out.row.at (i := 0) (by omega)
      obtain ⟨⟨_, x1⟩, g1⟩ := HV4.out.row.at (i := 1) (by omega)
      obtain ⟨⟨_, x2⟩, g2⟩ := HV4.out.row.at (i := 2) (by omega)
      clear HP1 HV5
      go_wp2
      exact bodyPost_ret_j2 [.string nm, .int .i64 c, .slice va vn vc] _ (.nilIface) Tryz.results30 rfl HRg.out Tryz.underlying54 rfl Tryz.sizeNodeJ rfl rfl
        ⟨_, _, a4, rfl, ⟨_, _, _, _, _, rfl⟩, HP2.out.1, HP2.out.2, .inl ⟨_, HC.out, by omega, h2, rfl, _, rfl, HT.out.same HKa.out (by decide) (by decide) (by decide)⟩⟩
    · have HC : Hid (NodeR (L.drop a) .bad) := by
        show NodeR _ _
        rw [HSR.out]
        exact .inr ⟨hM, rfl⟩
      have hf1 : fb ≠ w2.heap.size := fun e => by have := HL3.out; omega
      have hf2 : fb ≠ w.heap.size := fun e => by have := HL3.out; omega
      have HF := hide (FaultAt.setVar (vb := w.heap.size) (o := 0) (cs := [.string nm, .int .i64 c, .slice none 0 0]) (FaultAt.setVar (o := 2) (cs := [.slice none 0 0]) hF hf1) hf2)
      clear hM hF HSR
      have HV5 : Hid (RowT (w4.setCell ⟨w2.heap.size, 2, none⟩ (.slice none 0 0)) w.heap.size 54 3) := HV4.out.block (Below.heap_setCell _ _ _ _ (fun e => hne e))
      have HP1 : Hid (Rdr (w4.setCell ⟨w2.heap.size, 2, none⟩ (.slice none 0 0)) rb lb cap L a4 ∧ KeptBut rb (rb + 1) w (w4.setCell ⟨w2.heap.size, 2, none⟩ (.slice none 0 0))) := fin_parts (o := 2) (cs := [.slice none 0 0]) HR4.out HB4.out (vb := w2.heap.size) (by omega) hrl hlbl
      have HP2 := hide (fin_parts (o := 0) (cs := [.string nm, .int .i64 c, .slice none 0 0]) HP1.out.1 HP1.out.2 (vb := w.heap.size) (Nat.le_refl _) hrl hlbl)
      have HRg := hide (World.rangeAt_setCells_same (w4.setCell ⟨w2.heap.size, 2, none⟩ (.slice none 0 0)) w.heap.size 0 [.string nm, .int .i64 c, .slice none 0 0] (HV5.out.row.there (o := 0) (m := 3) (Nat.le_refl _)))
      have HKa : Hid (SameKind 54 w4 ((w4.setCell ⟨w2.heap.size, 2, none⟩ (.slice none 0 0)).setCells w.heap.size 0 [.string nm, .int .i64 c, .slice none 0 0])) := (HS4r.out.same (o := 2) _).trans (RowT.sets 0 _ HV5.out)
      obtain ⟨⟨_, x0⟩, g0⟩ := HV4.out.row.at (i := 0) (by omega)
      obtain ⟨⟨_, x1⟩, g1⟩ := HV4.out.row.at (i := 1) (by omega)
      obtain ⟨⟨_, x2⟩, g2⟩ := HV4.out.row.at (i := 2) (by omega)
      clear HP1 HV5
      go_wp2
      exact bodyPost_ret_j2 [.string nm, .int .i64 c, .slice none 0 0] _ (.iface 67 (.pointer (some ⟨fb, 0, none⟩))) Tryz.results30 rfl HRg.out Tryz.underlying54 rfl Tryz.sizeNodeJ rfl rfl
        ⟨_, _, a4, rfl, ⟨_, _, _, _, _, rfl⟩, HP2.out.1, HP2.out.2, .inr (.inr ⟨fb, line, u, HC.out, rfl, HF.out, hno, by have := HL3.out; omega⟩)⟩
  · have HC : Hid (NodeR (L.drop a) .bad) := by show NodeR _ _; rw [HSR.out, hd]
    have HNo := hide hno
    clear hd hno HSR hnm
    obtain ⟨W3, hW3⟩ : ∃ W3, W3 = w2.alloc (.cells #[.string nm, .int .i64 0, .slice none 0 0] 54) := ⟨_, rfl⟩
    have kB : Hid (Kept w2 W3) := by rw [hW3]; exact (Kept.refl w2).alloc _
    have HV3 := hide (HV2.out.kept kB.out)
    have HR3 := hide (HR2.out.kept kB.out)
    have HB3 := hide (HB2.out.and kB.out)
    have HL3 : Hid (w.heap.size < W3.heap.size) := HV3.out.lt
    go_wp2_with fail
    rw [← hW3]
    clear hW3 kB HV2 HR2 HB2
    refine (wrap_any W3 rb lb cap L a HR3.out _ _).mono ?_
    rintro e w4 ⟨rfl, hF, k4⟩
    have HF := hide (FaultAt.setVar (vb := w.heap.size) (o := 0) (cs := [.string ⟨#[]⟩, .int .i64 0, .slice none 0 0]) hF (by have := HL3.out; omega))
    have HV4 := hide (HV3.out.kept k4)
    have HR4 := hide (HR3.out.kept k4)
    have HB4 := hide (HB3.out.and k4)
    clear hF k4 HV3 HR3 HB3
    have HP2 := hide (fin_parts (o := 0) (cs := [.string ⟨#[]⟩, .int .i64 0, .slice none 0 0]) HR4.out HB4.out (vb := w.heap.size) (Nat.le_refl _) hrl hlbl)
    have HRg := hide (World.rangeAt_setCells_same w4 w.heap.size 0 [.string ⟨#[]⟩, .int .i64 0, .slice none 0 0] (HV4.out.row.there (o := 0) (m := 3) (Nat.le_refl _)))
    obtain ⟨⟨_, x0⟩, g0⟩ := HV4.out.row.at (i := 0) (by omega)
    obtain ⟨⟨_, x1⟩, g1⟩ := HV4.out.row.at (i := 1) (by omega)
    obtain ⟨⟨_, x2⟩, g2⟩ := HV4.out.row.at (i := 2) (by omega)
    go_wp2
    exact bodyPost_ret_j2 [.string ⟨#[]⟩, .int .i64 0, .slice none 0 0] _ (.iface 67 (.pointer (some ⟨W3.heap.size, 0, none⟩))) Tryz.results30 rfl HRg.out Tryz.underlying54 rfl Tryz.sizeNodeJ rfl rfl
      ⟨_, _, a + 1, rfl, ⟨_, _, _, _, _, rfl⟩, HP2.out.1, HP2.out.2, .inr (.inr ⟨W3.heap.size, _, _, HC.out, rfl, HF.out, HNo.out, by have := HL3.out; omega⟩)⟩

theorem nodeJ_any (w0 w : World) (rb lb cap : Nat) (L : List (List UInt8)) (a : Nat) (hR : Rdr w rb lb cap L a) (ha : a ≤ L.length) {po : Addr} (h0 : Env po w0) (k0 : Kept w0 w) (hrb : w0.heap.size ≤ rb) :
    Calls Tryz.prog 30 #[.pointer (some ⟨rb, 0, none⟩)] w fun e w' => ReadEnd NodeR NodeMem NodeSh w0 po rb lb cap L a w w' e := by
  by_cases h1 : (wordsAt L a).1 = wNode
  · exact node_word w0 w rb lb cap L a hR ha h0 k0 hrb h1
  · exact node_other w0 w rb lb cap L a hR ha h0 k0 hrb h1

def PackNd (w : World) (cells : List Value) (l : List NodeD) : Prop := PackedN w cells l
theorem PackNd.nil (w : World) : PackNd w [] [] := PackedN.nil _
theorem PackNd.snoc {w : World} {cells cs : List Value} {l : List NodeD} {d : NodeD} (h : PackNd w cells l) (hc : NodeMem w cs d) : PackNd w (cells ++ cs) (l ++ [d]) := by
  obtain ⟨v, rfl, hT⟩ := hc
  exact PackedN.snoc h hT
theorem PackNd.same {w w' : World} {cells : List Value} {l : List NodeD} (h : PackNd w cells l) {u : TypeId} (k : SameKind u w w') (h0 : 59 ≠ u) (h1 : 9 ≠ u) (h2 : 61 ≠ u) : PackNd w' cells l := PackedN.same h k h0 h1 h2
theorem NodeMem.same {w w' : World} {cs : List Value} {d : NodeD} (h : NodeMem w cs d) {u : TypeId} (k : SameKind u w w') (h0 : 59 ≠ u) (h1 : 9 ≠ u) (h2 : 61 ≠ u) : NodeMem w' cs d := by
  obtain ⟨v, e, hT⟩ := h
  exact ⟨v, e, hT.same k h0 h1 h2⟩

end Go.Proofs.YtinkfgkjdaaeaaaGreatDoor
