import Derived.Test.YtinkfgkjdaaeaaaGreatDoorKJAskA
import Derived.Test.YtinkfgkjdaaeaaaGreatDoorKJManyC

namespace Go.Proofs.YtinkfgkjdaaeaaaGreatDoor
open Go.RowKit

def AskEnd (w0 : World) (po : Addr) (rest : List UInt8) (rb lb cap : Nat) (L : List (List UInt8)) (a : Nat) (w w' : World) (e : Ending) : Prop :=
  ∃ (cs : List Value) (err : Value) (a' : Nat), e = .returned (.tuple #[.agg cs.toArray, err]) ∧ StepSh cs ∧ Rdr w' rb lb cap L a' ∧ KeptBut rb (rb + 1) w w' ∧
    ((∃ s xs, askOf rest = some s ∧ Many WayR (L.drop a) (some (xs, L.drop a')) ∧ a ≤ a' ∧ a' ≤ L.length ∧ err = .nilIface ∧ StepMem w' cs { s with cases := xs })
    ∨ (∃ fb line u, (askOf rest = none ∨ ∃ s, askOf rest = some s ∧ Many WayR (L.drop a) none) ∧ err = .iface 67 (.pointer (some ⟨fb, 0, none⟩)) ∧ FaultAt w' fb line u ∧ NotOther w0 po u ∧ w.heap.size ≤ fb))

theorem flat_at : ∀ (xs : List CaseD) (i : Nat), i < xs.length → ∀ (j : Nat) (u : Value), (xs.getD i CaseD.zero).cells[j]? = some u → (xs.flatMap CaseD.cells)[i * 2 + j]? = some u
  | x :: r, 0, _, j, u, h => by
    have hj : j < 2 := by have := (List.getElem?_eq_some_iff.1 h).1; simpa [CaseD.cells] using this
    simp only [List.getD_cons_zero] at h
    rw [List.flatMap_cons, List.getElem?_append_left (by simp [CaseD.cells]; omega)]
    simpa using h
  | x :: r, i + 1, hi, j, u, h => by
    have := flat_at r i (by simpa using hi) j u (by simpa using h)
    rw [List.flatMap_cons, List.getElem?_append_right (by simp [CaseD.cells]; omega)]
    have e : (i + 1) * 2 + j - x.cells.length = i * 2 + j := by simp [CaseD.cells]; omega
    rw [e]
    exact this
theorem packC_tcases {w : World} {base : Nat} {v : Value} {xs : List CaseD} {cells : List Value} (hO : w.ownsRow base 61 2 v xs.length cells) (hP : PackC w cells xs) : ∃ ac cc, v = .slice ac xs.length cc ∧ TCases w 61 ac xs := by
  rcases hO.2 with ⟨rfl, h0⟩ | ⟨g, cap, cur, rfl, hb, hg, hnc, _, _, _⟩
  · exact ⟨none, 0, by rw [h0], .inl (List.eq_nil_of_length_eq_zero h0)⟩
  · refine ⟨_, cap, rfl, .inr ⟨g, cur, _, rfl, hg, fun i hi j u hu => ?_⟩⟩
    have hj : j < 2 := by have := (List.getElem?_eq_some_iff.1 hu).1; simpa [CaseD.cells] using this
    have : cells[i * 2 + j]? = some u := by
      unfold PackC at hP
      rw [hP]
      exact flat_at xs i hi j u hu
    have := hO.cells (g := g) rfl _ _ this
    rw [Addr.add_mid] at this
    simpa using this

set_option maxRecDepth 100000 in
set_option maxHeartbeats 1600000 in
theorem askJ_any (w0 w : World) (rest : List UInt8) (hl : rest.length ≤ 100000) (rb lb cap : Nat) (L : List (List UInt8)) (a : Nat) (hR : Rdr w rb lb cap L (a + 1)) (ha : a + 1 ≤ L.length) {po : Addr} (h0 : Env po w0) (k0 : Kept w0 w) (hrb : w0.heap.size ≤ rb) :
    Calls Tryz.prog 76 #[.pointer (some ⟨rb, 0, none⟩), .string (toB rest)] w fun e w' => AskEnd w0 po rest rb lb cap L (a + 1) w w' e := by
  have hrl := hR.row.lt
  have hlbl := hR.lbl
  obtain ⟨W0, hW0⟩ : ∃ W0, W0 = w.alloc (.cells #[.slice none 0 0, .int .i64 0, .slice none 0 0, .int .i64 0, .int .i64 0, .bool false, .bool false, .string ⟨#[]⟩] 59) := ⟨_, rfl⟩
  have kA : Hid (Kept w W0) := by rw [hW0]; exact (Kept.refl w).alloc _
  have HV0 : Hid (RowT W0 w.heap.size 59 8) := by rw [hW0]; exact RowT.made w _ _
  have HR0 := hide (hR.kept kA.out)
  have H0 := hide h0
  have K0 := hide (k0.trans kA.out)
  clear hR h0 k0
  go_enter Tryz.func76, Tryz.ntmps76
  go_wp2_with fail
  rw [← hW0]
  clear hW0
  refine (askOf_any w0 W0 rest hl H0.out K0.out).mono ?_
  rintro e w1 ⟨k1, hend⟩
  have HV1 := hide (HV0.out.kept k1)
  have HR1 := hide (HR0.out.kept k1)
  have HK1 := hide (kA.out.trans k1)
  have K1 := hide (K0.out.trans k1)
  clear k1 HV0 HR0 kA K0
  rcases hend with ⟨s, aa, ca, hs, rfl, hT, hca⟩ | ⟨s, aa, ca, t, p, hs, rfl, hsc, hno⟩
  · have HS := hide hs
    have HT := hide hT
    have hfull : (s.cells aa ca none 0).toArray = #[.slice aa s.asks.length ca, .int .i64 s.on, .slice none s.cases.length 0, .int .i64 s.els, .int .i64 s.fall, .bool s.fin, .bool s.bad, .string s.give] := rfl
    rw [hfull]
    clear hs hT hfull
    obtain ⟨W2, hW2⟩ : ∃ W2, W2 = w1.alloc (.cells #[.slice aa s.asks.length ca, .int .i64 s.on, .slice none s.cases.length 0, .int .i64 s.els, .int .i64 s.fall, .bool s.fin, .bool s.bad, .string s.give] 59) := ⟨_, rfl⟩
    have kB : Hid (Kept w1 W2) := by rw [hW2]; exact (Kept.refl w1).alloc _
    have HW2r : Hid (RowT W2 w1.heap.size 59 8) := by rw [hW2]; exact RowT.made w1 _ _
    have HW2c : Hid (W2.rangeAt w1.heap.size 0 [.slice aa s.asks.length ca, .int .i64 s.on, .slice none s.cases.length 0, .int .i64 s.els, .int .i64 s.fall, .bool s.fin, .bool s.bad, .string s.give]) := by rw [hW2]; exact range_new w1 #[.slice aa s.asks.length ca, .int .i64 s.on, .slice none s.cases.length 0, .int .i64 s.els, .int .i64 s.fall, .bool s.fin, .bool s.bad, .string s.give] 59
    have HV2 := hide (HV1.out.kept kB.out)
    have HR2 := hide (HR1.out.kept kB.out)
    have HK2 := hide (HK1.out.trans kB.out)
    have K2 := hide (K1.out.trans kB.out)
    have HT2 := hide (HT.out.kept kB.out)
    have hz1 : w.heap.size < w1.heap.size := HV1.out.lt
    have HL2 : Hid (w1.heap.size < W2.heap.size) := by show _ < _; rw [hW2]; simp
    go_wp2_with fail
    rw [← hW2]
    clear hW2 kB HV1 HR1 HK1 K1 HT
    refine (manyC_any w0 W2 rb lb cap L (a + 1) HR2.out ha H0.out K2.out hrb).mono ?_
    intro e w3 hend
    obtain ⟨v, err, a3, rfl, _, hR3, kb3, hcase⟩ := hend
    have HR3 := hide hR3
    have HB3 := hide (KeptBut.from HK2.out kb3)
    have HV3 := hide (kb3.rowT HV2.out (by omega))
    have HS3r := hide (kb3.rowT HW2r.out (by omega))
    have HS3c : Hid (w3.rangeAt w1.heap.size 0 [.slice aa s.asks.length ca, .int .i64 s.on, .slice none s.cases.length 0, .int .i64 s.els, .int .i64 s.fall, .bool s.fin, .bool s.bad, .string s.give]) := fun j u hj => by rw [kb3.cellJ HW2r.out.lt (by omega)]; exact HW2c.out j u hj
    have hkd : SameKind 71 W2 w3 := kb3.sameKindR HR2.out.row
    have HT3 : Hid (TStrs w3 9 aa s.asks) := HT2.out.same hkd (by decide)
    clear hR3 kb3 HV2 HR2 HK2 K2 HT2 HW2r HW2c hkd
    have y0 := HS3c.out 0 _ rfl
    have y1 := HS3c.out 1 _ rfl
    have y2 := HS3c.out 2 _ rfl
    have y3 := HS3c.out 3 _ rfl
    have y4 := HS3c.out 4 _ rfl
    have y5 := HS3c.out 5 _ rfl
    have y6 := HS3c.out 6 _ rfl
    have y7 := HS3c.out 7 _ rfl
    simp only [Nat.zero_add] at y0 y1 y2 y3 y4 y5 y6 y7
    obtain ⟨_, q2⟩ := HS3r.out.row.at (i := 2) (by omega)
    have HTh : Hid (w3.there w.heap.size 0 8) := HV3.out.row.there (o := 0) (m := 8) (Nat.le_refl _)
    have hne : w.heap.size ≠ w1.heap.size := by omega
    rcases hcase with ⟨xs, cells, hM, h1, h2, rfl, hO, hP, _⟩ | ⟨fb, line, u, rfl, hM, rfl, hF, hno, hfb⟩
    · obtain ⟨ac, cc, rfl, hTC⟩ := packC_tcases hO hP
      have HM := hide hM
      have HTC := hide hTC
      clear hM hTC hO hP
      have HV4 : Hid (RowT (w3.setCell ⟨w1.heap.size, 2, none⟩ (.slice ac xs.length cc)) w.heap.size 59 8) := HV3.out.block (Below.heap_setCell _ _ _ _ (fun e => hne e))
      have HTh4 : Hid ((w3.setCell ⟨w1.heap.size, 2, none⟩ (.slice ac xs.length cc)).there w.heap.size 0 8) := HV4.out.row.there (o := 0) (m := 8) (Nat.le_refl _)
      have hp1 := fin_parts (o := 2) (cs := [.slice ac xs.length cc]) HR3.out HB3.out (vb := w1.heap.size) (by omega) hrl hlbl
      have HP1 : Hid (Rdr (w3.setCell ⟨w1.heap.size, 2, none⟩ (.slice ac xs.length cc)) rb lb cap L a3 ∧ KeptBut rb (rb + 1) w (w3.setCell ⟨w1.heap.size, 2, none⟩ (.slice ac xs.length cc))) := hp1
      have HP2 := hide (fin_parts (o := 0) (cs := StepD.cells { s with cases := xs } aa ca ac cc) HP1.out.1 HP1.out.2 (vb := w.heap.size) (Nat.le_refl _) hrl hlbl)
      have HRg := hide (World.rangeAt_setCells_same (w3.setCell ⟨w1.heap.size, 2, none⟩ (.slice ac xs.length cc)) w.heap.size 0 (StepD.cells { s with cases := xs } aa ca ac cc) HTh4.out)
      have HKa : Hid (SameKind 59 w3 ((w3.setCell ⟨w1.heap.size, 2, none⟩ (.slice ac xs.length cc)).setCells w.heap.size 0 (StepD.cells { s with cases := xs } aa ca ac cc))) := (HS3r.out.same (o := 2) _).trans (RowT.sets 0 _ HV4.out)
      clear hp1 HP1 HV4
      go_wp2_with (refine wpList_store_mid rfl 59 (.tmp 4) (.tmp 27) rfl w.heap.size 0 (StepD.cells { s with cases := xs } aa ca ac cc).toArray rfl rfl HTh4.out Tryz.sizeStepJ (StepD.one ..) ?_; rw [List.toList_toArray])
      exact bodyPost_ret_j2 (StepD.cells { s with cases := xs } aa ca ac cc) _ (.nilIface) Tryz.results76 rfl HRg.out Tryz.underlying59 rfl Tryz.sizeStepJ rfl rfl
        ⟨_, _, a3, rfl, ⟨_, _, _, _, _, rfl⟩, HP2.out.1, HP2.out.2, .inl ⟨s, xs, HS.out, HM.out, h1, h2, rfl, aa, ca, ac, cc, rfl, HT3.out.same HKa.out (by decide), HTC.out.same HKa.out (by decide), hca⟩⟩
    · have HM := hide hM
      have HF := hide hF
      have hf1 : fb ≠ w1.heap.size := fun e => by have := HL2.out; omega
      have hf2 : fb ≠ w.heap.size := fun e => by have := HL2.out; omega
      clear hM hF
      have HV4 : Hid (RowT (w3.setCell ⟨w1.heap.size, 2, none⟩ (.slice none 0 0)) w.heap.size 59 8) := HV3.out.block (Below.heap_setCell _ _ _ _ (fun e => hne e))
      have HTh4 : Hid ((w3.setCell ⟨w1.heap.size, 2, none⟩ (.slice none 0 0)).there w.heap.size 0 8) := HV4.out.row.there (o := 0) (m := 8) (Nat.le_refl _)
      have hp1 := fin_parts (o := 2) (cs := [.slice none 0 0]) HR3.out HB3.out (vb := w1.heap.size) (by omega) hrl hlbl
      have HP1 : Hid (Rdr (w3.setCell ⟨w1.heap.size, 2, none⟩ (.slice none 0 0)) rb lb cap L a3 ∧ KeptBut rb (rb + 1) w (w3.setCell ⟨w1.heap.size, 2, none⟩ (.slice none 0 0))) := hp1
      have HP2 := hide (fin_parts (o := 0) (cs := StepD.cells { s with cases := [] } aa ca none 0) HP1.out.1 HP1.out.2 (vb := w.heap.size) (Nat.le_refl _) hrl hlbl)
      have HRg := hide (World.rangeAt_setCells_same (w3.setCell ⟨w1.heap.size, 2, none⟩ (.slice none 0 0)) w.heap.size 0 (StepD.cells { s with cases := [] } aa ca none 0) HTh4.out)
      have HKa : Hid (SameKind 59 w3 ((w3.setCell ⟨w1.heap.size, 2, none⟩ (.slice none 0 0)).setCells w.heap.size 0 (StepD.cells { s with cases := [] } aa ca none 0))) := (HS3r.out.same (o := 2) _).trans (RowT.sets 0 _ HV4.out)
      clear hp1 HP1 HV4
      go_wp2_with (refine wpList_store_mid rfl 59 (.tmp 4) (.tmp 27) rfl w.heap.size 0 (StepD.cells { s with cases := [] } aa ca none 0).toArray rfl rfl HTh4.out Tryz.sizeStepJ (StepD.one ..) ?_; rw [List.toList_toArray])
      exact bodyPost_ret_j2 (StepD.cells { s with cases := [] } aa ca none 0) _ (.iface 67 (.pointer (some ⟨fb, 0, none⟩))) Tryz.results76 rfl HRg.out Tryz.underlying59 rfl Tryz.sizeStepJ rfl rfl
        ⟨_, _, a3, rfl, ⟨_, _, _, _, _, rfl⟩, HP2.out.1, HP2.out.2, .inr ⟨fb, line, u, .inr ⟨s, HS.out, HM.out⟩, rfl, FaultAt.setVar (FaultAt.setVar (o := 2) (cs := [.slice none 0 0]) HF.out hf1) hf2, hno, by have := HL2.out; omega⟩⟩
  · have HS := hide hs
    have HNo := hide hno
    have hfull : (StepD.cells s aa ca none 0).toArray = #[.slice aa s.asks.length ca, .int .i64 s.on, .slice none s.cases.length 0, .int .i64 s.els, .int .i64 s.fall, .bool s.fin, .bool s.bad, .string s.give] := rfl
    rw [hfull]
    clear hs hno hfull hsc
    obtain ⟨W2, hW2⟩ : ∃ W2, W2 = w1.alloc (.cells #[.slice aa s.asks.length ca, .int .i64 s.on, .slice none s.cases.length 0, .int .i64 s.els, .int .i64 s.fall, .bool s.fin, .bool s.bad, .string s.give] 59) := ⟨_, rfl⟩
    have kB : Hid (Kept w1 W2) := by rw [hW2]; exact (Kept.refl w1).alloc _
    have HV2 := hide (HV1.out.kept kB.out)
    have HR2 := hide (HR1.out.kept kB.out)
    have HK2 := hide (HK1.out.trans kB.out)
    have hz1 : w.heap.size < w1.heap.size := HV1.out.lt
    have HZ2 : Hid (w1.heap.size ≤ W2.heap.size) := kB.out.size
    go_wp2_with fail
    rw [← hW2]
    clear hW2 kB HV1 HR1 HK1
    refine (wrap_any W2 rb lb cap L a HR2.out _ _).mono ?_
    rintro e w3 ⟨rfl, hF, k3⟩
    have HF := hide hF
    have HV3 := hide (HV2.out.kept k3)
    have HR3 := hide (HR2.out.kept k3)
    have HB3 : Hid (KeptBut rb (rb + 1) w w3) := .of_kept (HK2.out.trans k3)
    clear hF k3 HV2 HR2 HK2
    have HTh : Hid (w3.there w.heap.size 0 8) := HV3.out.row.there (o := 0) (m := 8) (Nat.le_refl _)
    have HP2 := hide (fin_parts (o := 0) (cs := StepD.zero.cells none 0 none 0) HR3.out HB3.out (vb := w.heap.size) (Nat.le_refl _) hrl hlbl)
    have HRg := hide (World.rangeAt_setCells_same w3 w.heap.size 0 (StepD.zero.cells none 0 none 0) HTh.out)
    have hf2 : W2.heap.size ≠ w.heap.size := fun e => by have := HZ2.out; omega
    have HF2 := hide (FaultAt.setVar (o := 0) (cs := StepD.zero.cells none 0 none 0) HF.out hf2)
    go_wp2_with (refine wpList_store_mid rfl 59 (.tmp 4) (.tmp 15) rfl w.heap.size 0 (StepD.zero.cells none 0 none 0).toArray rfl rfl HTh.out Tryz.sizeStepJ (StepD.one ..) ?_; rw [List.toList_toArray])
    exact bodyPost_ret_j2 (StepD.zero.cells none 0 none 0) _ (.iface 67 (.pointer (some ⟨W2.heap.size, 0, none⟩))) Tryz.results76 rfl HRg.out Tryz.underlying59 rfl Tryz.sizeStepJ rfl rfl
      ⟨_, _, a + 1, rfl, ⟨_, _, _, _, _, rfl⟩, HP2.out.1, HP2.out.2, .inr ⟨W2.heap.size, _, _, .inl HS.out, rfl, HF2.out, HNo.out, by have := HZ2.out; omega⟩⟩

end Go.Proofs.YtinkfgkjdaaeaaaGreatDoor

namespace Go.Proofs.YtinkfgkjdaaeaaaGreatDoor
open Go.RowKit

theorem stepR_word {L : List (List UInt8)} {a : Nat} {x : List UInt8} (h : (wordsAt L a).1 = x) (hx : x ≠ []) : a < L.length ∧ (cut1 32 (L.getD a [])).1 = x ∧ (cut1 32 (L.getD a [])).2 = (wordsAt L a).2 := by
  unfold wordsAt at h ⊢
  split at h
  · next hl => exact ⟨hl, h, by rw [if_pos hl]⟩
  · exact absurd h.symm hx
theorem stepR_end {L : List (List UInt8)} {a : Nat} (h : (wordsAt L a).1 = wEnd ∨ (wordsAt L a).1 = wBad) : a < L.length ∧ ∀ g, StepR (L.drop a) g ↔ match unqP (wordsAt L a).2 with | some t => g = .ok ⟨[], 0, [], 0, 0, true, decide ((wordsAt L a).1 = wBad), toB t⟩ (L.drop (a + 1)) | none => g = .bad := by
  have hne : (wordsAt L a).1 ≠ [] := by rcases h with h | h <;> rw [h] <;> decide
  obtain ⟨hl, h1, h2⟩ := stepR_word rfl hne
  refine ⟨hl, fun g => ?_⟩
  rw [drop_line hl]
  simp only [StepR]
  rw [h1, h2, if_pos h]
  exact Iff.rfl
theorem stepR_ask {L : List (List UInt8)} {a : Nat} (h : (wordsAt L a).1 = wAsk) : a < L.length ∧ ∀ g, StepR (L.drop a) g ↔ match askOf (wordsAt L a).2 with | none => g = .bad | some s => (∃ cs r', Many WayR (L.drop (a + 1)) (some (cs, r')) ∧ g = .ok { s with cases := cs } r') ∨ (Many WayR (L.drop (a + 1)) none ∧ g = .bad) := by
  obtain ⟨hl, h1, h2⟩ := stepR_word h (by decide)
  refine ⟨hl, fun g => ?_⟩
  rw [drop_line hl]
  simp only [StepR]
  rw [h1, h2, if_neg (by decide), if_pos rfl]
  exact Iff.rfl
theorem stepR_other {L : List (List UInt8)} {a : Nat} (_ha : a ≤ L.length) (h1 : (wordsAt L a).1 ≠ wEnd) (h2 : (wordsAt L a).1 ≠ wBad) (h3 : (wordsAt L a).1 ≠ wAsk) : StepR (L.drop a) .other := by
  rcases Nat.lt_or_ge a L.length with hl | hl
  · rw [drop_line hl]
    unfold wordsAt at h1 h2 h3
    rw [if_pos hl] at h1 h2 h3
    simp only [StepR]
    rw [if_neg (fun h => h.elim h1 h2), if_neg h3]
    trivial
  · rw [List.drop_eq_nil_of_le hl]
    rfl

theorem unquote_at {w0 w : World} {po : Addr} (h0 : Env po w0) (k0 : Kept w0 w) (s : ByteArray) (hs : s.size ≤ 100000) :
    Calls Tryz.prog 75 #[.string s] w fun e w' => UnqEnd w0 po s.data.toList e ∧ Kept w w' := by
  obtain ⟨pq, hpq, hne⟩ := h0.quo
  refine (unquote_any w s hs (h0.kept k0)).mono ?_
  rintro e w' ⟨hu, k⟩
  refine ⟨?_, k⟩
  rcases hu with hu | ⟨p, h1, h2, h3, h4⟩
  · exact .inl hu
  · exact .inr ⟨p, h1, h2, h3, by rw [← (hpq.kept k0).one h4]; exact hpq⟩

set_option maxRecDepth 100000 in
set_option maxHeartbeats 3200000 in
theorem step_end (w0 w : World) (rb lb cap : Nat) (L : List (List UInt8)) (a : Nat) (hR : Rdr w rb lb cap L a) (ha : a ≤ L.length) {po : Addr} (h0 : Env po w0) (k0 : Kept w0 w) (hrb : w0.heap.size ≤ rb) (hw : (wordsAt L a).1 = wEnd) :
    Calls Tryz.prog 53 #[.pointer (some ⟨rb, 0, none⟩)] w fun e w' => ReadEnd StepR StepMem StepSh w0 po rb lb cap L a w w' e := by
  have hrl := hR.row.lt
  have hlbl := hR.lbl
  obtain ⟨W0, hW0⟩ : ∃ W0, W0 = w.alloc (.cells #[.slice none 0 0, .int .i64 0, .slice none 0 0, .int .i64 0, .int .i64 0, .bool false, .bool false, .string ⟨#[]⟩] 59) := ⟨_, rfl⟩
  have kA : Hid (Kept w W0) := by rw [hW0]; exact (Kept.refl w).alloc _
  have HV0 : Hid (RowT W0 w.heap.size 59 8) := by rw [hW0]; exact RowT.made w _ _
  have HR0 := hide (hR.kept kA.out)
  have HE0 := hide (h0.kept (k0.trans kA.out))
  have H0 := hide h0
  have K0 := hide (k0.trans kA.out)
  clear hR h0 k0
  go_enter Tryz.func53, Tryz.ntmps53
  go_wp2_with fail
  rw [← hW0]
  clear hW0
  refine (next_any W0 rb lb cap L a HR0.out ha HE0.out).mono ?_
  rintro e w1 ⟨rfl, hR1, kb1⟩
  have hwl := wordsAt_len HR0.out
  have HR1 := hide hR1
  have HB1 := hide (KeptBut.from kA.out kb1)
  have HV1 := hide (kb1.rowT HV0.out (by omega))
  have HE1 := hide (kb1.env H0.out K0.out hrb)
  have HKw := hide (kb1.kept K0.out hrb)
  have hz0 := kA.out.size
  clear hR1 kb1 HR0 HE0 HV0 K0 kA
  have eA : ((toB (wordsAt L a).1).toList == [101, 110, 100]) = true := by rw [toB_beq, hw]; rfl
  have eB : ((toB (wordsAt L a).1).toList == [98, 97, 100]) = false := by rw [toB_beq, hw]; rfl
  obtain ⟨hal, hSR⟩ := stepR_end (L := L) (a := a) (.inl hw)
  rw [hw, show decide (wEnd = wBad) = false from by decide] at hSR
  have HSR := hide hSR
  clear hSR hw
  generalize (wordsAt L a).1 = word at *
  generalize (wordsAt L a).2 = rest at *
  go_wp2_with fail
  refine (unquote_at H0.out HKw.out (toB rest) (by rw [toB_size]; omega)).mono ?_
  rintro e w2 ⟨hu, k2⟩
  rw [show (toB rest).data.toList = rest from rfl] at hu
  have HV2 := hide (HV1.out.kept k2)
  have HR2 := hide (HR1.out.kept k2)
  have HB2 := hide (HB1.out.and k2)
  rcases hu with ⟨t, hu, rfl, htl⟩ | ⟨q, hu, rfl, hq, hqk⟩
  · have HC : Hid (StepR (L.drop a) (.ok ⟨[], 0, [], 0, 0, true, false, toB t⟩ (L.drop (a + 1)))) := by show StepR _ _; rw [HSR.out, hu]
    clear hu HSR k2 HV1 HR1 HB1 HE1
    go_wp2_with fail
    refine (wrap_nil _ rb).mono ?_
    rintro e w3 ⟨rfl, rfl⟩
    have HV3 := HV2
    have HR3 := HR2
    have HB3 := HB2
    have HTh : Hid (w3.there w.heap.size 0 8) := HV3.out.row.there (o := 0) (m := 8) (Nat.le_refl _)
    have HP2 := hide (fin_parts (o := 0) (cs := StepD.cells ⟨[], 0, [], 0, 0, true, false, toB t⟩ none 0 none 0) HR3.out HB3.out (vb := w.heap.size) (Nat.le_refl _) hrl hlbl)
    have HRg := hide (World.rangeAt_setCells_same w3 w.heap.size 0 (StepD.cells ⟨[], 0, [], 0, 0, true, false, toB t⟩ none 0 none 0) HTh.out)
    go_wp2_with (refine wpList_store_mid rfl 59 (.tmp 2) (.tmp 25) rfl w.heap.size 0 (StepD.cells ⟨[], 0, [], 0, 0, true, false, toB t⟩ none 0 none 0).toArray rfl rfl HTh.out Tryz.sizeStepJ (StepD.one ..) ?_; rw [List.toList_toArray])
    exact bodyPost_ret_j2 (StepD.cells ⟨[], 0, [], 0, 0, true, false, toB t⟩ none 0 none 0) _ (.nilIface) Tryz.results53 rfl HRg.out Tryz.underlying59 rfl Tryz.sizeStepJ rfl rfl
      ⟨_, _, a + 1, rfl, ⟨_, _, _, _, _, rfl⟩, HP2.out.1, HP2.out.2, .inl ⟨_, HC.out, by omega, by omega, rfl, none, 0, none, 0, rfl, .inl rfl, .inl rfl, Nat.le_refl _⟩⟩
  · have HC : Hid (StepR (L.drop a) .bad) := by show StepR _ _; rw [HSR.out, hu]
    have HNo : Hid (NotOther w0 po (.iface 211 (.pointer (some q)))) := .inl ⟨q, rfl, hq, hqk.2.2⟩
    clear hu HSR k2 HV1 HR1 HB1 HE1
    go_wp2_with fail
    refine (wrap_any _ rb lb cap L a HR2.out _ _).mono ?_
    rintro e w3 ⟨rfl, hF, k3⟩
    have hfz : w.heap.size < w2.heap.size := HV2.out.lt
    have HF := hide (FaultAt.setVar (vb := w.heap.size) (o := 0) (cs := StepD.cells ⟨[], 0, [], 0, 0, true, false, ⟨#[]⟩⟩ none 0 none 0) hF (by omega))
    have HV3 := hide (HV2.out.kept k3)
    have HR3 := hide (HR2.out.kept k3)
    have HB3 := hide (HB2.out.and k3)
    clear hF k3
    have HTh : Hid (w3.there w.heap.size 0 8) := HV3.out.row.there (o := 0) (m := 8) (Nat.le_refl _)
    have HP2 := hide (fin_parts (o := 0) (cs := StepD.cells ⟨[], 0, [], 0, 0, true, false, ⟨#[]⟩⟩ none 0 none 0) HR3.out HB3.out (vb := w.heap.size) (Nat.le_refl _) hrl hlbl)
    have HRg := hide (World.rangeAt_setCells_same w3 w.heap.size 0 (StepD.cells ⟨[], 0, [], 0, 0, true, false, ⟨#[]⟩⟩ none 0 none 0) HTh.out)
    go_wp2_with (refine wpList_store_mid rfl 59 (.tmp 2) (.tmp 25) rfl w.heap.size 0 (StepD.cells ⟨[], 0, [], 0, 0, true, false, ⟨#[]⟩⟩ none 0 none 0).toArray rfl rfl HTh.out Tryz.sizeStepJ (StepD.one ..) ?_; rw [List.toList_toArray])
    exact bodyPost_ret_j2 (StepD.cells ⟨[], 0, [], 0, 0, true, false, ⟨#[]⟩⟩ none 0 none 0) _ (.iface 67 (.pointer (some ⟨w2.heap.size, 0, none⟩))) Tryz.results53 rfl HRg.out Tryz.underlying59 rfl Tryz.sizeStepJ rfl rfl
      ⟨_, _, a + 1, rfl, ⟨_, _, _, _, _, rfl⟩, HP2.out.1, HP2.out.2, .inr (.inr ⟨w2.heap.size, _, _, HC.out, rfl, HF.out, HNo.out, by omega⟩)⟩

set_option maxRecDepth 100000 in
set_option maxHeartbeats 3200000 in
theorem step_bad (w0 w : World) (rb lb cap : Nat) (L : List (List UInt8)) (a : Nat) (hR : Rdr w rb lb cap L a) (ha : a ≤ L.length) {po : Addr} (h0 : Env po w0) (k0 : Kept w0 w) (hrb : w0.heap.size ≤ rb) (hw : (wordsAt L a).1 = wBad) :
    Calls Tryz.prog 53 #[.pointer (some ⟨rb, 0, none⟩)] w fun e w' => ReadEnd StepR StepMem StepSh w0 po rb lb cap L a w w' e := by
  have hrl := hR.row.lt
  have hlbl := hR.lbl
  obtain ⟨W0, hW0⟩ : ∃ W0, W0 = w.alloc (.cells #[.slice none 0 0, .int .i64 0, .slice none 0 0, .int .i64 0, .int .i64 0, .bool false, .bool false, .string ⟨#[]⟩] 59) := ⟨_, rfl⟩
  have kA : Hid (Kept w W0) := by rw [hW0]; exact (Kept.refl w).alloc _
  have HV0 : Hid (RowT W0 w.heap.size 59 8) := by rw [hW0]; exact RowT.made w _ _
  have HR0 := hide (hR.kept kA.out)
  have HE0 := hide (h0.kept (k0.trans kA.out))
  have H0 := hide h0
  have K0 := hide (k0.trans kA.out)
  clear hR h0 k0
  go_enter Tryz.func53, Tryz.ntmps53
  go_wp2_with fail
  rw [← hW0]
  clear hW0
  refine (next_any W0 rb lb cap L a HR0.out ha HE0.out).mono ?_
  rintro e w1 ⟨rfl, hR1, kb1⟩
  have hwl := wordsAt_len HR0.out
  have HR1 := hide hR1
  have HB1 := hide (KeptBut.from kA.out kb1)
  have HV1 := hide (kb1.rowT HV0.out (by omega))
  have HE1 := hide (kb1.env H0.out K0.out hrb)
  have HKw := hide (kb1.kept K0.out hrb)
  have hz0 := kA.out.size
  clear hR1 kb1 HR0 HE0 HV0 K0 kA
  have eA : ((toB (wordsAt L a).1).toList == [101, 110, 100]) = false := by rw [toB_beq, hw]; rfl
  have eB : ((toB (wordsAt L a).1).toList == [98, 97, 100]) = true := by rw [toB_beq, hw]; rfl
  obtain ⟨hal, hSR⟩ := stepR_end (L := L) (a := a) (.inr hw)
  rw [hw, show decide (wBad = wBad) = true from by decide] at hSR
  have HSR := hide hSR
  clear hSR hw
  generalize (wordsAt L a).1 = word at *
  generalize (wordsAt L a).2 = rest at *
  go_wp2_with fail
  refine (unquote_at H0.out HKw.out (toB rest) (by rw [toB_size]; omega)).mono ?_
  rintro e w2 ⟨hu, k2⟩
  rw [show (toB rest).data.toList = rest from rfl] at hu
  have HV2 := hide (HV1.out.kept k2)
  have HR2 := hide (HR1.out.kept k2)
  have HB2 := hide (HB1.out.and k2)
  rcases hu with ⟨t, hu, rfl, htl⟩ | ⟨q, hu, rfl, hq, hqk⟩
  · have HC : Hid (StepR (L.drop a) (.ok ⟨[], 0, [], 0, 0, true, true, toB t⟩ (L.drop (a + 1)))) := by show StepR _ _; rw [HSR.out, hu]
    clear hu HSR k2 HV1 HR1 HB1 HE1
    go_wp2_with fail
    refine (wrap_nil _ rb).mono ?_
    rintro e w3 ⟨rfl, rfl⟩
    have HV3 := HV2
    have HR3 := HR2
    have HB3 := HB2
    have HTh : Hid (w3.there w.heap.size 0 8) := HV3.out.row.there (o := 0) (m := 8) (Nat.le_refl _)
    have HP2 := hide (fin_parts (o := 0) (cs := StepD.cells ⟨[], 0, [], 0, 0, true, true, toB t⟩ none 0 none 0) HR3.out HB3.out (vb := w.heap.size) (Nat.le_refl _) hrl hlbl)
    have HRg := hide (World.rangeAt_setCells_same w3 w.heap.size 0 (StepD.cells ⟨[], 0, [], 0, 0, true, true, toB t⟩ none 0 none 0) HTh.out)
    go_wp2_with (refine wpList_store_mid rfl 59 (.tmp 2) (.tmp 25) rfl w.heap.size 0 (StepD.cells ⟨[], 0, [], 0, 0, true, true, toB t⟩ none 0 none 0).toArray rfl rfl HTh.out Tryz.sizeStepJ (StepD.one ..) ?_; rw [List.toList_toArray])
    exact bodyPost_ret_j2 (StepD.cells ⟨[], 0, [], 0, 0, true, true, toB t⟩ none 0 none 0) _ (.nilIface) Tryz.results53 rfl HRg.out Tryz.underlying59 rfl Tryz.sizeStepJ rfl rfl
      ⟨_, _, a + 1, rfl, ⟨_, _, _, _, _, rfl⟩, HP2.out.1, HP2.out.2, .inl ⟨_, HC.out, by omega, by omega, rfl, none, 0, none, 0, rfl, .inl rfl, .inl rfl, Nat.le_refl _⟩⟩
  · have HC : Hid (StepR (L.drop a) .bad) := by show StepR _ _; rw [HSR.out, hu]
    have HNo : Hid (NotOther w0 po (.iface 211 (.pointer (some q)))) := .inl ⟨q, rfl, hq, hqk.2.2⟩
    clear hu HSR k2 HV1 HR1 HB1 HE1
    go_wp2_with fail
    refine (wrap_any _ rb lb cap L a HR2.out _ _).mono ?_
    rintro e w3 ⟨rfl, hF, k3⟩
    have hfz : w.heap.size < w2.heap.size := HV2.out.lt
    have HF := hide (FaultAt.setVar (vb := w.heap.size) (o := 0) (cs := StepD.cells ⟨[], 0, [], 0, 0, true, true, ⟨#[]⟩⟩ none 0 none 0) hF (by omega))
    have HV3 := hide (HV2.out.kept k3)
    have HR3 := hide (HR2.out.kept k3)
    have HB3 := hide (HB2.out.and k3)
    clear hF k3
    have HTh : Hid (w3.there w.heap.size 0 8) := HV3.out.row.there (o := 0) (m := 8) (Nat.le_refl _)
    have HP2 := hide (fin_parts (o := 0) (cs := StepD.cells ⟨[], 0, [], 0, 0, true, true, ⟨#[]⟩⟩ none 0 none 0) HR3.out HB3.out (vb := w.heap.size) (Nat.le_refl _) hrl hlbl)
    have HRg := hide (World.rangeAt_setCells_same w3 w.heap.size 0 (StepD.cells ⟨[], 0, [], 0, 0, true, true, ⟨#[]⟩⟩ none 0 none 0) HTh.out)
    go_wp2_with (refine wpList_store_mid rfl 59 (.tmp 2) (.tmp 25) rfl w.heap.size 0 (StepD.cells ⟨[], 0, [], 0, 0, true, true, ⟨#[]⟩⟩ none 0 none 0).toArray rfl rfl HTh.out Tryz.sizeStepJ (StepD.one ..) ?_; rw [List.toList_toArray])
    exact bodyPost_ret_j2 (StepD.cells ⟨[], 0, [], 0, 0, true, true, ⟨#[]⟩⟩ none 0 none 0) _ (.iface 67 (.pointer (some ⟨w2.heap.size, 0, none⟩))) Tryz.results53 rfl HRg.out Tryz.underlying59 rfl Tryz.sizeStepJ rfl rfl
      ⟨_, _, a + 1, rfl, ⟨_, _, _, _, _, rfl⟩, HP2.out.1, HP2.out.2, .inr (.inr ⟨w2.heap.size, _, _, HC.out, rfl, HF.out, HNo.out, by omega⟩)⟩

set_option maxRecDepth 100000 in
set_option maxHeartbeats 3200000 in
theorem step_ask (w0 w : World) (rb lb cap : Nat) (L : List (List UInt8)) (a : Nat) (hR : Rdr w rb lb cap L a) (ha : a ≤ L.length) {po : Addr} (h0 : Env po w0) (k0 : Kept w0 w) (hrb : w0.heap.size ≤ rb) (hw : (wordsAt L a).1 = wAsk) :
    Calls Tryz.prog 53 #[.pointer (some ⟨rb, 0, none⟩)] w fun e w' => ReadEnd StepR StepMem StepSh w0 po rb lb cap L a w w' e := by
  have hrl := hR.row.lt
  have hlbl := hR.lbl
  obtain ⟨W0, hW0⟩ : ∃ W0, W0 = w.alloc (.cells #[.slice none 0 0, .int .i64 0, .slice none 0 0, .int .i64 0, .int .i64 0, .bool false, .bool false, .string ⟨#[]⟩] 59) := ⟨_, rfl⟩
  have kA : Hid (Kept w W0) := by rw [hW0]; exact (Kept.refl w).alloc _
  have HV0 : Hid (RowT W0 w.heap.size 59 8) := by rw [hW0]; exact RowT.made w _ _
  have HR0 := hide (hR.kept kA.out)
  have HE0 := hide (h0.kept (k0.trans kA.out))
  have H0 := hide h0
  have K0 := hide (k0.trans kA.out)
  clear hR h0 k0
  go_enter Tryz.func53, Tryz.ntmps53
  go_wp2_with fail
  rw [← hW0]
  clear hW0
  refine (next_any W0 rb lb cap L a HR0.out ha HE0.out).mono ?_
  rintro e w1 ⟨rfl, hR1, kb1⟩
  have hwl := wordsAt_len HR0.out
  have HR1 := hide hR1
  have HB1 := hide (KeptBut.from kA.out kb1)
  have HV1 := hide (kb1.rowT HV0.out (by omega))
  have HE1 := hide (kb1.env H0.out K0.out hrb)
  have HKw := hide (kb1.kept K0.out hrb)
  have hz0 := kA.out.size
  clear hR1 kb1 HR0 HE0 HV0 K0 kA
  have eA : ((toB (wordsAt L a).1).toList == [101, 110, 100]) = false := by rw [toB_beq, hw]; rfl
  have eB : ((toB (wordsAt L a).1).toList == [98, 97, 100]) = false := by rw [toB_beq, hw]; rfl
  have eC : ((toB (wordsAt L a).1).toList == [97, 115, 107]) = true := by rw [toB_beq, hw]; rfl
  obtain ⟨hal, hSR⟩ := stepR_ask hw
  have HSR := hide hSR
  clear hSR hw
  generalize (wordsAt L a).1 = word at *
  generalize (wordsAt L a).2 = rest at *
  go_wp2_with fail
  refine (askJ_any w0 w1 rest (by omega) rb lb cap L a HR1.out (by omega) H0.out HKw.out hrb).mono ?_
  intro e w2 hend
  obtain ⟨cs, err, a2, rfl, hsh, hR2, kb2, hcase⟩ := hend
  obtain ⟨s, aa, ca, ac, cc, rfl⟩ := hsh
  have HR2 := hide hR2
  have HB2 := hide (HB1.out.trans kb2)
  have HV2 := hide (kb2.rowT HV1.out (by omega))
  have hzz := kb2.size
  have hvl := HV1.out.lt
  have HZ := hide hzz
  have hfull : (s.cells aa ca ac cc).toArray = #[.slice aa s.asks.length ca, .int .i64 s.on, .slice ac s.cases.length cc, .int .i64 s.els, .int .i64 s.fall, .bool s.fin, .bool s.bad, .string s.give] := rfl
  rw [hfull]
  clear hR2 kb2 HV1 HR1 HB1 HE1 hfull hzz
  have HKa : Hid (SameKind 59 w2 (w2.setCells w.heap.size 0 (StepD.cells s aa ca ac cc))) := RowT.sets 0 _ HV2.out
  rcases hcase with ⟨s', xs, hs, hM, h1, h2, rfl, hmem⟩ | ⟨fb, line, u, hs, rfl, hF, hno, hfb⟩
  · have HC : Hid (StepR (L.drop a) (.ok { s' with cases := xs } (L.drop a2))) := by
      show StepR _ _
      rw [HSR.out, hs]
      exact .inl ⟨xs, L.drop a2, hM, rfl⟩
    have HMem : Hid (StepMem (w2.setCells w.heap.size 0 (StepD.cells s aa ca ac cc)) (StepD.cells s aa ca ac cc) { s' with cases := xs }) := TStep.same hmem HKa.out (by decide) (by decide)
    clear hs hM hmem HSR
    have HTh : Hid (w2.there w.heap.size 0 8) := HV2.out.row.there (o := 0) (m := 8) (Nat.le_refl _)
    have HP2 := hide (fin_parts (o := 0) (cs := StepD.cells s aa ca ac cc) HR2.out HB2.out (vb := w.heap.size) (Nat.le_refl _) hrl hlbl)
    have HRg := hide (World.rangeAt_setCells_same w2 w.heap.size 0 (StepD.cells s aa ca ac cc) HTh.out)
    go_wp2_with (refine wpList_store_mid rfl 59 (.tmp 2) (.tmp 34) rfl w.heap.size 0 (StepD.cells s aa ca ac cc).toArray rfl rfl HTh.out Tryz.sizeStepJ (StepD.one ..) ?_; rw [List.toList_toArray])
    exact bodyPost_ret_j2 (StepD.cells s aa ca ac cc) _ (.nilIface) Tryz.results53 rfl HRg.out Tryz.underlying59 rfl Tryz.sizeStepJ rfl rfl
      ⟨_, _, a2, rfl, ⟨_, _, _, _, _, rfl⟩, HP2.out.1, HP2.out.2, .inl ⟨_, HC.out, by omega, h2, rfl, HMem.out⟩⟩
  · have HC : Hid (StepR (L.drop a) .bad) := by
      show StepR _ _
      rw [HSR.out]
      rcases hs with hs | ⟨s', hs, hM⟩
      · rw [hs]
      · rw [hs]; exact .inr ⟨hM, rfl⟩
    have HF := hide (FaultAt.setVar (vb := w.heap.size) (o := 0) (cs := StepD.cells s aa ca ac cc) hF (by omega))
    clear hs hF HSR
    have HTh : Hid (w2.there w.heap.size 0 8) := HV2.out.row.there (o := 0) (m := 8) (Nat.le_refl _)
    have HP2 := hide (fin_parts (o := 0) (cs := StepD.cells s aa ca ac cc) HR2.out HB2.out (vb := w.heap.size) (Nat.le_refl _) hrl hlbl)
    have HRg := hide (World.rangeAt_setCells_same w2 w.heap.size 0 (StepD.cells s aa ca ac cc) HTh.out)
    go_wp2_with (refine wpList_store_mid rfl 59 (.tmp 2) (.tmp 34) rfl w.heap.size 0 (StepD.cells s aa ca ac cc).toArray rfl rfl HTh.out Tryz.sizeStepJ (StepD.one ..) ?_; rw [List.toList_toArray])
    exact bodyPost_ret_j2 (StepD.cells s aa ca ac cc) _ (.iface 67 (.pointer (some ⟨fb, 0, none⟩))) Tryz.results53 rfl HRg.out Tryz.underlying59 rfl Tryz.sizeStepJ rfl rfl
      ⟨_, _, a2, rfl, ⟨_, _, _, _, _, rfl⟩, HP2.out.1, HP2.out.2, .inr (.inr ⟨fb, _, _, HC.out, rfl, HF.out, hno, by omega⟩)⟩

set_option maxRecDepth 100000 in
set_option maxHeartbeats 3200000 in
theorem step_other (w0 w : World) (rb lb cap : Nat) (L : List (List UInt8)) (a : Nat) (hR : Rdr w rb lb cap L a) (ha : a ≤ L.length) {po : Addr} (h0 : Env po w0) (k0 : Kept w0 w) (hrb : w0.heap.size ≤ rb) (h1 : (wordsAt L a).1 ≠ wEnd) (h2 : (wordsAt L a).1 ≠ wBad) (h3 : (wordsAt L a).1 ≠ wAsk) :
    Calls Tryz.prog 53 #[.pointer (some ⟨rb, 0, none⟩)] w fun e w' => ReadEnd StepR StepMem StepSh w0 po rb lb cap L a w w' e := by
  have hrl := hR.row.lt
  have hlbl := hR.lbl
  obtain ⟨W0, hW0⟩ : ∃ W0, W0 = w.alloc (.cells #[.slice none 0 0, .int .i64 0, .slice none 0 0, .int .i64 0, .int .i64 0, .bool false, .bool false, .string ⟨#[]⟩] 59) := ⟨_, rfl⟩
  have kA : Hid (Kept w W0) := by rw [hW0]; exact (Kept.refl w).alloc _
  have HV0 : Hid (RowT W0 w.heap.size 59 8) := by rw [hW0]; exact RowT.made w _ _
  have HR0 := hide (hR.kept kA.out)
  have HE0 := hide (h0.kept (k0.trans kA.out))
  have H0 := hide h0
  have K0 := hide (k0.trans kA.out)
  clear hR h0 k0
  go_enter Tryz.func53, Tryz.ntmps53
  go_wp2_with fail
  rw [← hW0]
  clear hW0
  refine (next_any W0 rb lb cap L a HR0.out ha HE0.out).mono ?_
  rintro e w1 ⟨rfl, hR1, kb1⟩
  have hwl := wordsAt_len HR0.out
  have HR1 := hide hR1
  have HB1 := hide (KeptBut.from kA.out kb1)
  have HV1 := hide (kb1.rowT HV0.out (by omega))
  have HE1 := hide (kb1.env H0.out K0.out hrb)
  have HKw := hide (kb1.kept K0.out hrb)
  have hz0 := kA.out.size
  clear hR1 kb1 HR0 HE0 HV0 K0 kA
  have eA : ((toB (wordsAt L a).1).toList == [101, 110, 100]) = false := by rw [toB_beq]; exact decide_eq_false h1
  have eB : ((toB (wordsAt L a).1).toList == [98, 97, 100]) = false := by rw [toB_beq]; exact decide_eq_false h2
  have eC : ((toB (wordsAt L a).1).toList == [97, 115, 107]) = false := by rw [toB_beq]; exact decide_eq_false h3
  have HO := hide (stepR_other ha h1 h2 h3)
  have hoth := HE1.out.oth.2.1
  clear h1 h2 h3
  generalize (wordsAt L a).1 = word at *
  generalize (wordsAt L a).2 = rest at *
  go_wp2_with fail
  refine (wrap_any _ rb lb cap L a HR1.out _ _).mono ?_
  rintro e w2 ⟨rfl, hF, k2⟩
  have hfz : w.heap.size < w1.heap.size := HV1.out.lt
  have HF := hide (FaultAt.setVar (vb := w.heap.size) (o := 0) (cs := StepD.cells StepD.zero none 0 none 0) hF (by omega))
  have HV2 := hide (HV1.out.kept k2)
  have HR2 := hide (HR1.out.kept k2)
  have HB2 := hide (HB1.out.and k2)
  clear hF k2 HV1 HR1 HB1
  have HTh : Hid (w2.there w.heap.size 0 8) := HV2.out.row.there (o := 0) (m := 8) (Nat.le_refl _)
  have HP2 := hide (fin_parts (o := 0) (cs := StepD.cells StepD.zero none 0 none 0) HR2.out HB2.out (vb := w.heap.size) (Nat.le_refl _) hrl hlbl)
  have HRg := hide (World.rangeAt_setCells_same w2 w.heap.size 0 (StepD.cells StepD.zero none 0 none 0) HTh.out)
  go_wp2_with (refine wpList_store_mid rfl 59 (.tmp 2) (.tmp 36) rfl w.heap.size 0 (StepD.cells StepD.zero none 0 none 0).toArray rfl rfl HTh.out Tryz.sizeStepJ (StepD.one ..) ?_; rw [List.toList_toArray])
  exact bodyPost_ret_j2 (StepD.cells StepD.zero none 0 none 0) _ (.iface 67 (.pointer (some ⟨w1.heap.size, 0, none⟩))) Tryz.results53 rfl HRg.out Tryz.underlying59 rfl Tryz.sizeStepJ rfl rfl
    ⟨_, _, a + 1, rfl, ⟨_, _, _, _, _, rfl⟩, HP2.out.1, HP2.out.2, .inr (.inl ⟨w1.heap.size, HO.out, rfl, HF.out, by omega⟩)⟩

theorem step_any (w0 w : World) (rb lb cap : Nat) (L : List (List UInt8)) (a : Nat) (hR : Rdr w rb lb cap L a) (ha : a ≤ L.length) {po : Addr} (h0 : Env po w0) (k0 : Kept w0 w) (hrb : w0.heap.size ≤ rb) :
    Calls Tryz.prog 53 #[.pointer (some ⟨rb, 0, none⟩)] w fun e w' => ReadEnd StepR StepMem StepSh w0 po rb lb cap L a w w' e := by
  by_cases h1 : (wordsAt L a).1 = wEnd
  · exact step_end w0 w rb lb cap L a hR ha h0 k0 hrb h1
  · by_cases h2 : (wordsAt L a).1 = wBad
    · exact step_bad w0 w rb lb cap L a hR ha h0 k0 hrb h2
    · by_cases h3 : (wordsAt L a).1 = wAsk
      · exact step_ask w0 w rb lb cap L a hR ha h0 k0 hrb h3
      · exact step_other w0 w rb lb cap L a hR ha h0 k0 hrb h1 h2 h3

def PackSt (w : World) (cells : List Value) (l : List StepD) : Prop := PackedS w 9 61 cells l
theorem PackSt.nil (w : World) : PackSt w [] [] := PackedS.nil _ _ _
theorem PackSt.snoc {w : World} {cells cs : List Value} {l : List StepD} {s : StepD} (h : PackSt w cells l) (hc : StepMem w cs s) : PackSt w (cells ++ cs) (l ++ [s]) := by
  have h1 : PackedS w 9 61 cells ((l ++ [s]).take l.length) := by rw [List.take_left]; exact h
  have h2 : TStep w 9 61 cs ((l ++ [s]).getD l.length StepD.zero) := by rw [show (l ++ [s]).getD l.length StepD.zero = s by simp [List.getD]]; exact hc
  have := PackedS.snoc (l := l ++ [s]) (by simp) h1 h2
  unfold PackSt
  rw [List.take_of_length_le (by simp)] at this
  exact this
theorem PackSt.same {w w' : World} {cells : List Value} {l : List StepD} (h : PackSt w cells l) {u : TypeId} (k : SameKind u w w') (h1 : 9 ≠ u) (h2 : 61 ≠ u) : PackSt w' cells l := PackedS.same h k h1 h2
theorem StepMem.same {w w' : World} {cs : List Value} {s : StepD} (h : StepMem w cs s) {u : TypeId} (k : SameKind u w w') (h1 : 9 ≠ u) (h2 : 61 ≠ u) : StepMem w' cs s := TStep.same h k h1 h2

end Go.Proofs.YtinkfgkjdaaeaaaGreatDoor
