import Derived.Test.YtinkfgkjdaaeaaaGreatDoorKIWords

namespace Go.Proofs.YtinkfgkjdaaeaaaGreatDoor
open Go.RowKit

theorem Tryz.infoNodeI : (Tryz.prog.info? 54).map (fun i => (i.zero, i.size, i.bytes)) = some (some (.agg #[.string ⟨#[]⟩, .int .i64 0, .slice none 0 0]), 3, 48) := by kernel_rfl
theorem boxN (w : World) (s : ByteArray) (c : Int) : ∀ j u, ([.string s, .int .i64 c, .slice none 0 0] : List Value)[j]? = some u → (w.alloc (.cells #[.string s, .int .i64 c, .slice none 0 0] 54)).cell? ((⟨w.heap.size, 0, none⟩ : Addr).add j) = some u := fun j u hj => by
  rw [Addr.add_mid]
  exact range_new w #[.string s, .int .i64 c, .slice none 0 0] 54 j u hj
theorem oneN (s : ByteArray) (c : Int) : ∀ u ∈ ([.string s, .int .i64 c, .slice none 0 0] : List Value), u.oneCell' = true := fun u hu => by
  simp only [List.mem_cons, List.not_mem_nil, or_false] at hu
  rcases hu with rfl | rfl | rfl <;> rfl
theorem boxS (w : World) (cs : List Value) : ∀ j u, cs[j]? = some u → (w.alloc (.cells cs.toArray 59)).cell? ((⟨w.heap.size, 0, none⟩ : Addr).add j) = some u := fun j u hj => by
  rw [Addr.add_mid]
  exact range_new w cs.toArray 59 j u hj
theorem oneS (s : StepD) (aa : Option Addr) (ca : Nat) (ac : Option Addr) (cc : Nat) : ∀ u ∈ s.cells aa ca ac cc, u.oneCell' = true := fun u hu => by
  simp only [StepD.cells, List.mem_cons, List.not_mem_nil, or_false] at hu
  rcases hu with rfl | rfl | rfl | rfl | rfl | rfl | rfl | rfl <;> rfl
theorem boxC (w : World) (cs : List Value) : ∀ j u, cs[j]? = some u → (w.alloc (.cells cs.toArray 61)).cell? ((⟨w.heap.size, 0, none⟩ : Addr).add j) = some u := fun j u hj => by
  rw [Addr.add_mid]
  exact range_new w cs.toArray 61 j u hj
theorem oneC (s : ByteArray) (c : Int) : ∀ u ∈ ([.string s, .int .i64 c] : List Value), u.oneCell' = true := fun u hu => by
  simp only [List.mem_cons, List.not_mem_nil, or_false] at hu
  rcases hu with rfl | rfl <;> rfl
def AskM (w2 u : World) (p : Nat) (c3 c5 c7 : Int) : Prop := Kept w2 u ∧ RowT u p 59 8 ∧ u.rangeAt p 0 [.slice none 0 0, .int .i64 c3, .slice none 0 0, .int .i64 c5, .int .i64 c7, .bool false, .bool false, .string ⟨#[]⟩] ∧ w2.heap.size ≤ p
theorem AskM.made {w2 we : World} (k : Kept w2 we) (c3 c5 c7 : Int) : AskM w2 (we.alloc (.cells #[.slice none 0 0, .int .i64 c3, .slice none 0 0, .int .i64 c5, .int .i64 c7, .bool false, .bool false, .string ⟨#[]⟩] 59)) we.heap.size c3 c5 c7 :=
  ⟨k.alloc _, RowT.made we _ _, range_new we #[.slice none 0 0, .int .i64 c3, .slice none 0 0, .int .i64 c5, .int .i64 c7, .bool false, .bool false, .string ⟨#[]⟩] 59, k.size⟩
theorem strsB_of_row {w : World} {base g cap : Nat} {L : List (List UInt8)} (h : w.ownsRow base 9 1 (.slice (some ⟨g, 0, none⟩) L.length cap) L.length (strsV L)) : StrsB w w.heap.size (some ⟨g, 0, none⟩) (L.map toB) := by
  obtain ⟨cur, hb⟩ := own_blk h
  refine .inr ⟨g, cur, _, own_lt h g rfl, rfl, hb, fun i hi => ?_⟩
  rw [List.length_map] at hi
  have := h.cells (g := g) rfl i (.string (toB L[i])) (by simp [strsV, hi])
  rw [Addr.add_mid, Nat.zero_add] at this
  rw [this]
  simp [List.getD, hi]
theorem ask_cut {w2 wS w4 W5 : World} {p g4 cap4 : Nat} {c3 c5 c7 : Int} {X : List (List UInt8)} {L : List ByteArray} (hX : L = X.map toB) (KS : Kept w2 wS) (RS : RowT wS p 59 8) (hr : wS.rangeAt p 0 [.slice none 0 0, .int .i64 c3, .slice none 0 0, .int .i64 c5, .int .i64 c7, .bool false, .bool false, .string ⟨#[]⟩]) (hle : w2.heap.size ≤ p)
    (ho : w4.ownsRow wS.heap.size 9 1 (.slice (some ⟨g4, 0, none⟩) L.length cap4) L.length (strsV X)) (k4 : Kept wS w4) (hW : W5 = w4.setCell ⟨p, 0, none⟩ (.slice (some ⟨g4, 0, none⟩) L.length cap4)) :
    Kept w2 W5 ∧ W5.rangeAt p 0 [.slice (some ⟨g4, 0, none⟩) L.length cap4, .int .i64 c3, .slice none 0 0, .int .i64 c5, .int .i64 c7, .bool false, .bool false, .string ⟨#[]⟩] ∧ StrsB W5 W5.heap.size (some ⟨g4, 0, none⟩) L ∧ L.length ≤ cap4 := by
  subst hW
  have R4 := RS.kept k4
  obtain ⟨cur, hcur, hsz⟩ := R4
  have hks : Keeps w4.heap.size [59] w4 (w4.setCell ⟨p, 0, none⟩ (.slice (some ⟨g4, 0, none⟩) L.length cap4)) := .setCell hcur _ (.inr (by simp))
  refine ⟨Kept.setCells hle [.slice (some ⟨g4, 0, none⟩) L.length cap4] 0 (KS.trans k4), ?_, ?_, ?_⟩
  · intro j v hj
    by_cases h0 : j = 0
    · subst h0
      simp only [List.getElem?_cons_zero, Option.some.injEq] at hj
      subst hj
      exact World.rangeAt_setCells_same w4 p 0 [.slice (some ⟨g4, 0, none⟩) L.length cap4] ((RS.kept k4).row.there (o := 0) (m := 1) (by omega)) 0 _ rfl
    · rw [World.cell?_setCell_other _ _ _ _ (by intro e; injection e with _ e2 _; omega)]
      have : ([.slice none 0 0, .int .i64 c3, .slice none 0 0, .int .i64 c5, .int .i64 c7, .bool false, .bool false, .string ⟨#[]⟩] : List Value)[j]? = some v := by
        match j, h0 with
        | j + 1, _ => simpa using hj
      rw [k4.cell RS.lt]
      exact hr j v this
  · have := owns_keeps ho hks (by decide) (own_lt ho)
    subst hX
    rw [List.length_map] at this ⊢
    exact strsB_of_row this
  · rcases ho.2 with ⟨e, _⟩ | ⟨g', cap', cur', e, _, _, _, hcap, _⟩
    · cases e
    · injection e with _ _ e3
      omega
theorem Tryz.sizeWebI : (Tryz.prog.info? 24).map (·.size) = some 1 := by kernel_rfl

set_option maxRecDepth 100000 in
set_option maxHeartbeats 4800000 in
theorem l8Read_any (w : World) (S : ByteArray) (hl : S.size ≤ 100000) :
    Calls Tryz.prog 9 #[.string S] w fun e w' => (∃ a cap, e = .returned (.agg #[.slice a (readL S.data.toList).length cap]) ∧ ∃ B, WebM w' B (.slice a (readL S.data.toList).length cap) (readL S.data.toList)) ∧ Kept w w' := by
  obtain ⟨ino, hn0, hn1, hn2, hn3⟩ := info_parts Tryz.infoStrI
  obtain ⟨ind, hd0, hd1, hd2, hd3⟩ := info_parts Tryz.infoNodeI
  obtain ⟨ins, hq0, hq1, hq2, hq3⟩ := info_parts Tryz.infoStep
  obtain ⟨inc, hp0, hp1, hp2, hp3⟩ := info_parts Tryz.infoCase
  obtain ⟨l, hlS⟩ : ∃ l, l = S.data.toList := ⟨_, rfl⟩
  have HZ : Hid (S.size = l.length) := by show _ = _; rw [hlS]; exact size_list S
  have hcn : (cuts 10 l).length ≤ 100001 := by have := (cuts_short 10 l).2; have := HZ.out; omega
  rw [← hlS]
  have HlS := hide hlS
  clear hlS
  obtain ⟨W0, hW0⟩ : ∃ W0, W0 = (w.alloc (.cells #[.slice none 0 0] 24)).alloc (.cells #[.slice none 0 0] 24) := ⟨_, rfl⟩
  have HK0 : Hid (Kept w W0) := by rw [hW0]; exact ((Kept.refl w).alloc _).alloc _
  have HR0 : Hid (RowT W0 w.heap.size 24 1) := by rw [hW0]; exact (RowT.made w _ _).kept ((Kept.refl _).alloc _)
  have HV0 : Hid (RowT W0 (w.heap.size + 1) 24 1) := by rw [hW0]; have := RowT.made (w.alloc (.cells #[.slice none 0 0] 24)) #[.slice none 0 0] 24; rw [World.size_alloc] at this; exact this
  have HC0 : Hid (W0.cell? ⟨w.heap.size + 1, 0, none⟩ = some (.slice none 0 0)) := by
    rw [hW0]
    have := range_new (w.alloc (.cells #[.slice none 0 0] 24)) #[.slice none 0 0] 24 0 (.slice none 0 0) rfl
    rw [World.size_alloc] at this
    exact this
  go_enter Tryz.func9, Tryz.ntmps9
  go_wp2_with fail
  rw [← hW0]
  clear hW0
  refine (l8Cut_any W0 S 10 (by omega)).mono ?_
  rintro e w1 ⟨g, cap, rfl, hown, k1⟩
  rw [← HlS.out] at hown ⊢
  have HN1 := hide hown
  have HK1 := hide (HK0.out.trans k1)
  have HR1 := hide (HR0.out.kept k1)
  have HV1 := hide (HV0.out.kept k1)
  have HC1 : Hid (w1.cell? ⟨w.heap.size + 1, 0, none⟩ = some (.slice none 0 0)) := (k1.cell HV0.out.lt).trans HC0.out
  clear k1 hown HK0 HR0 HV0 HC0
  go_wp2
  go_loopw [5] (fun i wr => ∃ (k : Nat) (v : Value), k ≤ (cuts 10 l).length ∧ i = .int .i64 k ∧ Hid (RowT wr w.heap.size 24 1) ∧ Hid (RowT wr (w.heap.size + 1) 24 1) ∧ wr.cell? ⟨w.heap.size + 1, 0, none⟩ = some v ∧ Hid (WebM wr (w.heap.size + 2) v (readK l k)) ∧ Hid (wr.ownsRow W0.heap.size 9 1 (.slice (some ⟨g, 0, none⟩) (cuts 10 l).length cap) (cuts 10 l).length (strsV (cuts 10 l))) ∧ Hid (Kept w wr)) (fun i _ => (cuts 10 l).length - (intOf i).toNat)
  case atStart => exact ⟨0, _, Nat.zero_le _, rfl, HR1, HV1, HC1.out, .inl ⟨rfl, rfl⟩, HN1, HK1⟩
  case round =>
    obtain ⟨k, v, hk, rfl, HR, HV, hc, HM, HN, HK⟩ := hrel
    clear HN1 HK1 HR1 HV1 HC1
    by_cases hlt : (k : Int) < ((cuts 10 l).length : Int)
    · have hkl : k < (cuts 10 l).length := by omega
      obtain ⟨ln, hln⟩ : ∃ ln, ln = (cuts 10 l)[k] := ⟨_, rfl⟩
      have HLs : Hid (readK l (k + 1) = lineF (readK l k) ln) := by rw [hln]; exact readK_succ l hkl
      have hll : ln.length ≤ 100000 := by have := (cuts_short 10 l).1 ln (by rw [hln]; exact List.getElem_mem hkl); have := HZ.out; omega
      have hcl : wr.cell? ⟨g, k, none⟩ = some (.string (toB ln)) := by
        have := HN.out.cells (g := g) rfl k (.string (toB ln)) (by simp [strsV, hkl, hln])
        rw [Addr.add_mid, Nat.zero_add] at this
        exact this
      have hgl : g < wr.heap.size := own_lt HN.out g rfl
      have HLn := hide hln
      clear hln
      go_wp2_with fail
      refine (l8Cut_any wr (toB ln) 32 (by rw [toB_size]; omega)).mono ?_
      rintro e w1 ⟨g1, cap1, rfl, hown, k1⟩
      rw [toB_list] at hown ⊢
      have hcs := (cuts_short 32 ln).2
      have HO1 := hide hown
      have HKr := hide k1
      have hz1 := k1.size
      have HX1 : Hid ((cuts 32 ln).length + 8 ≤ maxLen) := by show _ ≤ _; unfold maxLen; omega
      have HX2 : Hid (((cuts 32 ln).length + 8) * 16 ≤ 140737488355328) := by show _ ≤ _; omega
      have HX3 : Hid (∀ o, wr.heap.size ≤ (w1.alloc o).heap.size) := fun o => by rw [World.size_alloc]; omega
      have HC := hide hc
      clear hown k1 hcl hz1 hc
      go_wp2_with (at_builtin; refine wpList_append_lies _ rfl _ _ 47 rfl wr.heap.size 9 ino (.string ⟨#[]⟩) 1 16 Tryz.underlying47 hn0 hn1 hn2 hn3 rfl (by decide) _ _ _ rfl (HO1.out.alloc _) ⟨w1.heap.size, 0, none⟩ 8 8 eight rfl rfl (box8 _) one8 (by decide) HX1.out HX2.out (HX3.out _) _ rfl ?_)
      intro g2 cap2 w2 hown2 hgrow2 hloc2 hg2
      have kA : Kept w1 (w1.alloc (.cells #[.string ⟨#[]⟩, .string ⟨#[]⟩, .string ⟨#[]⟩, .string ⟨#[]⟩, .string ⟨#[]⟩, .string ⟨#[]⟩, .string ⟨#[]⟩, .string ⟨#[]⟩] 9)) := (Kept.refl _).alloc _
      have k2 : Kept wr w2 := kept_of_grown (HKr.out.trans kA) (Nat.le_refl _) (ownsRow_kept' HO1.out kA) hgrow2
      have HW2 : Hid (Words w2 ln g2 ((cuts 32 ln).length + 8) cap2) := Words.of_row hown2
      have HM2 := hide (HM.out.kept k2)
      have HN2 := hide (ownsRow_kept' HN.out k2)
      have HR2 := hide (HR.out.kept k2)
      have HV2 := hide (HV.out.kept k2)
      have HK2 := hide (HK.out.trans k2)
      have hc2 : w2.cell? ⟨w.heap.size + 1, 0, none⟩ = some v := (k2.cell HV.out.lt).trans HC.out
      have hw0 := HW2.out.word 0 (by omega)
      have hg2l := HW2.out.lt
      have hvl := HV2.out.lt
      clear hown2 hgrow2 hloc2 hg2 kA k2 HO1 HKr HX1 HX2 HX3 HM HN HR HV HK HC
      obtain ⟨L, hL⟩ : ∃ L, L = readK l k := ⟨_, rfl⟩
      have hLl : L.length ≤ 900001 := by rw [hL]; exact (readL_fits (by have := HZ.out; omega) k).1
      have HLf : Hid (∀ d ∈ L, d.Shorts 900000 900001) := by show ∀ d ∈ L, _; rw [hL]; exact fun d hd => ((readL_fits (by have := HZ.out; omega) k).2 d hd).1
      rw [← hL] at HM2 HLs
      clear hL
      obtain ⟨xs, hOw, hNP⟩ := HM2.out.old
      obtain ⟨a, cp, rfl⟩ := own_slice hOw
      have HOw := hide hOw
      have HNP := hide hNP
      clear hOw hNP
      obtain ⟨T0, hT0⟩ : ∃ T0, T0 = toB (wd ln 0) := ⟨_, rfl⟩
      rw [← hT0] at hw0
      obtain ⟨nw, hnw⟩ : ∃ nw, nw = (cuts 32 ln).length := ⟨_, rfl⟩
      rw [← hnw] at hcs HW2 ⊢
      have hcl2 : (nw : Int) ≤ 100001 := by omega
      clear hnw
      have hT0' : T0.toList = wd ln 0 := by rw [hT0, ByteArray.toList_eq]; exact toB_list _
      by_cases hN : wd ln 0 = wNode
      · have e0 : (T0.toList == [110, 111, 100, 101]) = true := by rw [hT0', hN]; rfl
        have hw1 := HW2.out.word 1 (by omega)
        have hw2 := HW2.out.word 2 (by omega)
        obtain ⟨T1, hT1⟩ : ∃ T1, T1 = toB (wd ln 1) := ⟨_, rfl⟩
        obtain ⟨T2, hT2⟩ : ∃ T2, T2 = toB (wd ln 2) := ⟨_, rfl⟩
        rw [← hT1] at hw1
        rw [← hT2] at hw2
        have hT2s : T2.size ≤ 1100000 := by rw [hT2, toB_size]; have := wd_len ln 2; omega
        obtain ⟨c2, hc2d⟩ : ∃ c2, c2 = looseL T2.data.toList := ⟨_, rfl⟩
        have HLs2 : Hid (readK l (k + 1) = L ++ [⟨T1, c2, []⟩]) := by show _ = _; rw [HLs.out, hT1, hc2d, hT2, toB_list]; unfold lineF; rw [if_pos hN]
        have HM1 : Hid (L.length + 1 ≤ maxLen) := by show _ ≤ _; unfold maxLen; omega
        have HM2b : Hid ((L.length + 1) * 48 ≤ 140737488355328) := by show _ ≤ _; omega
        have hsz2 : w.heap.size + 2 ≤ w2.heap.size := by omega
        have HC2d := hide hc2d
        clear hT0 hT0' hT1 hT2 hN hc2d
        go_wp2
        have i1 : (1 : Int) < (nw : Int) + 8 := by omega
        have i2 : (2 : Int) < (nw : Int) + 8 := by omega
        have HH : Hid (∀ u, Kept w2 u → (u.cell? ⟨w.heap.size + 1, 0, none⟩ = some (.slice a L.length cp) ∧ u.cell? ⟨g2, 1, none⟩ = some (.string T1) ∧ u.cell? ⟨g2, 2, none⟩ = some (.string T2))) := fun u k => ⟨(k.cell hvl).trans hc2, (k.cell hg2l).trans hw1, (k.cell hg2l).trans hw2⟩
        refine UpTo.region (by kernel_rfl) (fun u => u.cell? ⟨w.heap.size + 1, 0, none⟩ = some (.slice a L.length cp) ∧ u.cell? ⟨g2, 1, none⟩ = some (.string T1) ∧ u.cell? ⟨g2, 2, none⟩ = some (.string T2)) 14 (HH.out _ (Kept.refl w2).drew) (fun hHeld => ?_)
        have KD : Hid (Kept w2 w2.drew) := (Kept.refl w2).drew
        generalize hwd : w2.drew = wd at KD hHeld ⊢
        clear hwd
        refine UpTo.take 0 [1, 12, 13, 14] (v := ?_) (by (simp only [List.getElem?_toArray, List.getElem?_cons_zero]; rfl)) (by kernel_rfl) (by kernel_rfl) (by kernel_rfl) (by kernel_rfl) (by exact fun _ _ _ h => h) (Or.inl ⟨by rfl, ?_⟩) hHeld ?_
        rotate_left
        · intro u hu
          try dsimp only at hu
          go_simp
          try with_reducible rfl
        try simp only [Act.put, List.setIfInBounds_toArray, List.set_cons_zero, List.set_cons_succ]
        refine UpTo.take 1 [12, 13, 14] (v := ?_) (by (simp only [List.getElem?_toArray, List.getElem?_cons_succ, List.getElem?_cons_zero]; rfl)) (by kernel_rfl) (by kernel_rfl) (by kernel_rfl) (by kernel_rfl) (by exact fun _ _ _ h => h) (Or.inl ⟨by rfl, ?_⟩) hHeld ?_
        rotate_left
        · intro u hu
          try dsimp only at hu
          go_simp
          try with_reducible rfl
        try simp only [Act.put, List.setIfInBounds_toArray, List.set_cons_zero, List.set_cons_succ]
        refine UpTo.take 2 [3, 4, 10, 11, 12, 13, 14] (v := ?_) (by (simp only [List.getElem?_toArray, List.getElem?_cons_succ, List.getElem?_cons_zero]; rfl)) (by kernel_rfl) (by kernel_rfl) (by kernel_rfl) (by kernel_rfl) (by exact fun _ _ _ h => h) (Or.inl ⟨by rfl, ?_⟩) hHeld ?_
        rotate_left
        · intro u hu
          try dsimp only at hu
          go_simp
          try with_reducible rfl
        try simp only [Act.put, List.setIfInBounds_toArray, List.set_cons_zero, List.set_cons_succ]
        refine UpTo.take 3 [4, 10, 11, 12, 13, 14] (v := ?_) (by (simp only [List.getElem?_toArray, List.getElem?_cons_succ, List.getElem?_cons_zero]; rfl)) (by kernel_rfl) (by kernel_rfl) (by kernel_rfl) (by kernel_rfl) (by exact fun _ _ _ h => h) (Or.inl ⟨by rfl, ?_⟩) hHeld ?_
        rotate_left
        · intro u hu
          try dsimp only at hu
          go_simp
          try with_reducible rfl
        try simp only [Act.put, List.setIfInBounds_toArray, List.set_cons_zero, List.set_cons_succ]
        refine UpTo.take 4 [10, 11, 12, 13, 14] (v := ?_) (by (simp only [List.getElem?_toArray, List.getElem?_cons_succ, List.getElem?_cons_zero]; rfl)) (by kernel_rfl) (by kernel_rfl) (by kernel_rfl) (by kernel_rfl) (by exact fun _ _ _ h => h) (Or.inl ⟨by rfl, ?_⟩) hHeld ?_
        rotate_left
        · intro u hu
          try dsimp only at hu
          go_simp
          try with_reducible rfl
        try simp only [Act.put, List.setIfInBounds_toArray, List.set_cons_zero, List.set_cons_succ]
        refine UpTo.take 5 [6, 7, 8, 9, 10, 11, 12, 13, 14] (v := ?_) (by (simp only [List.getElem?_toArray, List.getElem?_cons_succ, List.getElem?_cons_zero]; rfl)) (by kernel_rfl) (by kernel_rfl) (by kernel_rfl) (by kernel_rfl) (by exact fun _ _ _ h => h) (Or.inl ⟨by rfl, ?_⟩) hHeld ?_
        rotate_left
        · intro u hu
          try dsimp only at hu
          go_simp
          try with_reducible rfl
        try simp only [Act.put, List.setIfInBounds_toArray, List.set_cons_zero, List.set_cons_succ]
        refine UpTo.take 6 [7, 8, 9, 10, 11, 12, 13, 14] (v := ?_) (by (simp only [List.getElem?_toArray, List.getElem?_cons_succ, List.getElem?_cons_zero]; rfl)) (by kernel_rfl) (by kernel_rfl) (by kernel_rfl) (by kernel_rfl) (by exact fun _ _ _ h => h) (Or.inl ⟨by rfl, ?_⟩) hHeld ?_
        rotate_left
        · intro u hu
          try dsimp only at hu
          go_simp
          try with_reducible rfl
        try simp only [Act.put, List.setIfInBounds_toArray, List.set_cons_zero, List.set_cons_succ]
        refine UpTo.take 7 [8, 9, 10, 11, 12, 13, 14] (v := ?_) (by (simp only [List.getElem?_toArray, List.getElem?_cons_succ, List.getElem?_cons_zero]; rfl)) (by kernel_rfl) (by kernel_rfl) (by kernel_rfl) (by kernel_rfl) (by exact fun _ _ _ h => h) (Or.inl ⟨by rfl, ?_⟩) hHeld ?_
        rotate_left
        · intro u hu
          try dsimp only at hu
          go_simp
          try with_reducible rfl
        try simp only [Act.put, List.setIfInBounds_toArray, List.set_cons_zero, List.set_cons_succ]
        refine UpTo.next 8 (by kernel_rfl) (by (simp only [List.getElem?_toArray, List.getElem?_cons_succ, List.getElem?_cons_zero]; rfl)) (fun K hK => ?_)
        rw [if_pos (by rfl)]
        go_simp
        go_at_call 21
        refine (l8Loose_any _ T2 hT2s).mono ?_
        rintro e w8 ⟨rfl, h8⟩
        obtain rfl := h8.symm
        dsimp only
        rw [← HC2d.out]
        refine hK.out _ _ (fun _ => hHeld) ?_
        clear hK K
        try simp only [Act.put, List.setIfInBounds_toArray, List.set_cons_zero, List.set_cons_succ]
        refine UpTo.take 9 [10, 11, 12, 13, 14] (v := ?_) (by (simp only [List.getElem?_toArray, List.getElem?_cons_succ, List.getElem?_cons_zero]; rfl)) (by kernel_rfl) (by kernel_rfl) (by kernel_rfl) (by kernel_rfl) (by exact fun _ _ _ h => h) (Or.inl ⟨by rfl, ?_⟩) hHeld ?_
        rotate_left
        · intro u hu
          try dsimp only at hu
          go_simp
          try with_reducible rfl
        try simp only [Act.put, List.setIfInBounds_toArray, List.set_cons_zero, List.set_cons_succ]
        refine UpTo.take 10 [11, 12, 13, 14] (v := ?_) (by (simp only [List.getElem?_toArray, List.getElem?_cons_succ, List.getElem?_cons_zero]; rfl)) (by kernel_rfl) (by kernel_rfl) (by kernel_rfl) (by kernel_rfl) (by exact fun _ _ _ h => h) (Or.inl ⟨by rfl, ?_⟩) hHeld ?_
        rotate_left
        · intro u hu
          try dsimp only at hu
          go_simp
          try with_reducible rfl
        try simp only [Act.put, List.setIfInBounds_toArray, List.set_cons_zero, List.set_cons_succ]
        refine UpTo.next 11 (by kernel_rfl) (by (simp only [List.getElem?_toArray, List.getElem?_cons_succ, List.getElem?_cons_zero]; rfl)) (fun K hK => ?_)
        rw [if_pos (by rfl)]
        go_simp
        have kA : Kept wd (wd.alloc (.cells #[.string T1, .int .i64 c2, .slice none 0 0] 54)) := (Kept.refl _).alloc _
        have KA := hide (Kept.trans KD.out kA)
        have HNw := hide (boxN wd T1 c2)
        refine hK.out _ _ (fun _ => HH.out _ KA.out) ?_
        clear hK K kA hHeld
        try simp only [Act.put, List.setIfInBounds_toArray, List.set_cons_zero, List.set_cons_succ]
        have hHeld := HH.out _ KA.out
        generalize hwa : wd.alloc (.cells #[.string T1, .int .i64 c2, .slice none 0 0] 54) = wa at HNw KA hHeld ⊢
        clear hwa
        have HOA := hide (ownsRow_kept' HOw.out KA.out)
        refine UpTo.next 12 (by kernel_rfl) (by (simp only [List.getElem?_toArray, List.getElem?_cons_succ, List.getElem?_cons_zero]; rfl)) (fun K hK => ?_)
        rw [if_pos (by rfl)]
        refine wp_append_own _ (.tmp 36) (.tmp 46) 22 rfl (w.heap.size + 2) 54 ind (.agg #[.string ⟨#[]⟩, .int .i64 0, .slice none 0 0]) 3 48 Tryz.underlying22 hd0 hd1 hd2 hd3 rfl (by decide) (.slice a L.length cp) L.length xs rfl HOA.out ⟨wd.heap.size, 0, none⟩ 1 1 [.string T1, .int .i64 c2, .slice none 0 0] rfl rfl HNw.out (oneN T1 c2) HM1.out HM2b.out (Nat.le_trans hsz2 KA.out.size) ?_
        intro v7 w7 hown7 hgr7 _
        obtain ⟨a7, cp7, rfl⟩ := own_slice hown7
        have kg : Keeps wa.heap.size [54] wa w7 := .of_grown HOA.out hgr7 (.inr (by simp))
        have hM7 : WebM w7 (w.heap.size + 2) _ (L ++ [⟨T1, c2, []⟩]) := WebM.node HOA.out ((HNP.out.keeps (K := []) (.of_kept KA.out) (by simp) (by simp) (by simp)).mono KA.out.size) hown7 hgr7 (Nat.le_trans hsz2 KA.out.size)
        have hK7 : Kept w w7 := kept_of_grown (HK2.out.trans KA.out) (by omega) HOA.out hgr7
        have HT7 := hide (web_told rfl ((HR2.out.kept KA.out).keeps kg (HR2.out.kept KA.out).lt (by decide)) ((HV2.out.kept KA.out).keeps kg (HV2.out.kept KA.out).lt (by decide)) hM7 (owns_keeps (ownsRow_kept' HN2.out KA.out) kg (by decide) (own_lt (ownsRow_kept' HN2.out KA.out))) hK7)
        have hV7 : RowT w7 (w.heap.size + 1) 24 1 := (HV2.out.kept KA.out).keeps kg (HV2.out.kept KA.out).lt (by decide)
        obtain ⟨⟨_, x7⟩, g7⟩ := hV7.row.at (i := 0) (by omega)
        obtain ⟨curV, hcV, _⟩ := HV2.out.kept KA.out
        obtain ⟨curW, hcW⟩ := (HW2.out.kept KA.out).blk
        have hS7 := And.intro ((cell_keeps hcV kg (heap_lt hcV) (by decide) 0).trans hHeld.1) (And.intro ((cell_keeps hcW kg (heap_lt hcW) (by decide) 1).trans hHeld.2.1) ((cell_keeps hcW kg (heap_lt hcW) (by decide) 2).trans hHeld.2.2))
        clear kg hM7 hK7 hV7 hown7 hgr7 hcV hcW
        refine hK.out _ _ (fun _ => hS7) ?_
        clear hK K hHeld
        have hHeld := hS7
        clear hS7
        try simp only [Act.put, List.setIfInBounds_toArray, List.set_cons_zero, List.set_cons_succ]
        refine UpTo.take 13 [14] (v := ?_) (by (simp only [List.getElem?_toArray, List.getElem?_cons_succ, List.getElem?_cons_zero]; rfl)) (by kernel_rfl) (by kernel_rfl) (by kernel_rfl) (by kernel_rfl) (by exact fun _ _ _ h => h) (Or.inl ⟨by rfl, ?_⟩) hHeld ?_
        rotate_left
        · intro u hu
          try dsimp only at hu
          go_simp
          try with_reducible rfl
        try simp only [Act.put, List.setIfInBounds_toArray, List.set_cons_zero, List.set_cons_succ]
        refine UpTo.next 14 (by kernel_rfl) (by (simp only [List.getElem?_toArray, List.getElem?_cons_succ, List.getElem?_cons_zero]; rfl)) (fun K hK => ?_)
        rw [if_pos (by rfl)]
        go_simp
        refine hK.out _ _ (fun h => absurd rfl h) ?_
        clear hK K
        try simp only [Act.put, List.setIfInBounds_toArray, List.set_cons_zero, List.set_cons_succ]
        refine UpTo.done (by kernel_rfl) ?_
        go_wp2
        go_roundw
        case rel => exact ⟨k + 1, _, by omega, by go_num, hide HT7.out.1, hide HT7.out.2.1, HT7.out.2.2.1, hide (by rw [HLs2.out]; exact HT7.out.2.2.2.1), hide HT7.out.2.2.2.2.1, hide HT7.out.2.2.2.2.2⟩
        case measure => simp [intOf]; omega
      · have e0 : (T0.toList == [110, 111, 100, 101]) = false := by rw [hT0']; simpa [wNode] using hN
        by_cases hL0 : L = []
        · subst hL0
          have HLs2 : Hid (readK l (k + 1) = []) := by show _ = _; rw [HLs.out]; unfold lineF; rw [if_neg hN]; rfl
          clear hT0 hT0' hN
          go_wp2
          go_roundw
          case rel => exact ⟨k + 1, _, by omega, by go_num, HR2, HV2, hc2, hide (by rw [HLs2.out]; exact HM2.out), HN2, HK2⟩
          case measure => simp [intOf]; omega
        · rcases HM2.out with ⟨_, e⟩ | ⟨lo, d, H, xs2, vs, hLe, hH, hOw2, hNP2, hLS⟩
          · exact absurd e hL0
          have hLL : L.length = lo.length + 1 := by rw [hLe]; simp
          rw [hLL] at hOw2 hLl hc2
          obtain ⟨gn, rfl⟩ : ∃ gn, a = some ⟨gn, 0, none⟩ := by
            rcases hOw2.2 with ⟨_, e⟩ | ⟨g', cap', cur, e, _⟩
            · omega
            · injection e with e1; exact ⟨g', e1⟩
          obtain ⟨sa, sc, rfl⟩ : ∃ sa sc, vs = .slice sa d.steps.length sc := by obtain ⟨ys, hy, _⟩ := hLS.old; exact own_slice hy
          have hcs3 : w2.cell? ⟨gn, lo.length * 3 + 2, none⟩ = some (.slice sa d.steps.length sc) := by
            have := hOw2.cells (g := gn) rfl (lo.length * 3 + 2) (.slice sa d.steps.length sc) (by rw [List.getElem?_append_right (by rw [hNP2.1]; omega), hNP2.1]; simp)
            rw [Addr.add_mid, Nat.zero_add] at this
            exact this
          have hgn : gn < w2.heap.size := own_lt hOw2 gn rfl
          have hfz : w2.frozen? ⟨gn, lo.length * 3 + 1 + 1, none⟩ = false := by
            rcases hOw2.2 with ⟨e, _⟩ | ⟨g', cap', cur, e, _, hh, _⟩
            · cases e
            · injection e with e1; injection e1 with e1; injection e1 with e1; subst e1
              obtain ⟨t, f, hr⟩ := RowT.row ⟨cur, hh, rfl⟩
              exact hr.frozen _
          have HDf : Hid (d.Shorts 900000 900001) := HLf.out d (by rw [hLe]; simp)
          have HLs3 : Hid (readK l (k + 1) = lo ++ [{ d with steps := stepsF ln d.steps }]) := by show _ = _; rw [HLs.out, hLe]; unfold lineF; rw [if_neg hN, inLast_last]
          have HOw2 := hide hOw2
          have HNP2 := hide hNP2
          have HLS := hide hLS
          have HhH := hide hH
          clear hOw2 hNP2 hLS hH HLs HOw HNP HM2 hLe hL0 hN HLf
          by_cases hO : wd ln 0 ≠ wEnd ∧ wd ln 0 ≠ wBad ∧ wd ln 0 ≠ wAsk ∧ wd ln 0 ≠ wCase
          · have e1 : (T0.toList == [101, 110, 100]) = false := by rw [hT0']; simpa [wEnd] using hO.1
            have e2 : (T0.toList == [98, 97, 100]) = false := by rw [hT0']; simpa [wBad] using hO.2.1
            have e3 : (T0.toList == [97, 115, 107]) = false := by rw [hT0']; simpa [wAsk] using hO.2.2.1
            have e4 : (T0.toList == [99, 97, 115, 101]) = false := by rw [hT0']; simpa [wCase] using hO.2.2.2
            have HSt : Hid (stepsF ln d.steps = d.steps) := by show _ = _; unfold stepsF; rw [if_neg (by simp [hO.1, hO.2.1]), if_neg hO.2.2.1, if_neg hO.2.2.2]
            have HT7 := hide (nodes_told (d := d) rfl HR2.out HV2.out hc2 HhH.out HOw2.out HNP2.out HLS.out HN2.out HK2.out)
            clear hT0 hT0' hO
            have hm0 : ¬ (lo.length : Int) < 0 := by omega
            have hm1 : (lo.length : Int) + 1 - 1 = (lo.length : Int) := by omega
            go_wp2
            go_roundw
            case rel => exact ⟨k + 1, _, by omega, by go_num, hide HT7.out.1, hide HT7.out.2.1, HT7.out.2.2.1, hide (by rw [HLs3.out, HSt.out]; exact HT7.out.2.2.2.1), hide HT7.out.2.2.2.2.1, hide HT7.out.2.2.2.2.2⟩
            case measure => simp [intOf]; omega
          · by_cases hE : wd ln 0 = wEnd
            · have e1 : (T0.toList == [101, 110, 100]) = true := by rw [hT0', hE]; rfl
              have e2 : (T0.toList == [98, 97, 100]) = false := by rw [hT0', hE]; rfl
              have hcl : w2.cell? ⟨g, k, none⟩ = some (.string (toB ln)) := by
                have := HN2.out.cells (g := g) rfl k (.string (toB ln)) (by simp [strsV, hkl, HLn.out])
                rw [Addr.add_mid, Nat.zero_add] at this
                exact this
              have hgl2 : g < w2.heap.size := own_lt HN2.out g rfl
              obtain ⟨TL, hTL⟩ : ∃ TL, TL = toB ln := ⟨_, rfl⟩
              rw [← hTL] at hcl
              have hTLs : TL.size ≤ 1100000 := by rw [hTL, toB_size]; omega
              have HTL : Hid (TL.data.toList = ln) := by show _ = _; rw [hTL]; rfl
              clear hTL
              have hm0 : ¬ (lo.length : Int) < 0 := by omega
              have hm1 : (lo.length : Int) + 1 - 1 = (lo.length : Int) := by omega
              have hdl : d.steps.length ≤ 900001 := HDf.out.steps
              have HMs1 : Hid (d.steps.length + 1 ≤ maxLen) := by show _ ≤ _; unfold maxLen; omega
              have HMs2 : Hid ((d.steps.length + 1) * 96 ≤ 140737488355328) := by show _ ≤ _; omega
              have HSt : Hid (stepsF ln d.steps = d.steps ++ [⟨[], 0, [], 0, 0, true, false, toB (unqL (restL 1 ln))⟩]) := by show _ = _; unfold stepsF; rw [if_pos (.inl hE)]; unfold endD; rw [hE]; rfl
              obtain ⟨ys, hY, hYP, _⟩ := HLS.out.old
              have HY := hide hY
              have HYP := hide hYP
              clear hY hYP hT0 hT0' hE hO
              have i0 : (0 : Int) < (nw : Int) + 8 := by omega
              go_wp2
              have HH : Hid (∀ u, Kept w2 u → (u.cell? ⟨g2, 0, none⟩ = some (.string T0) ∧ u.cell? ⟨g, k, none⟩ = some (.string TL))) := fun u k => ⟨(k.cell hg2l).trans hw0, (k.cell hgl2).trans hcl⟩
              refine UpTo.region (by kernel_rfl) (fun u => u.cell? ⟨g2, 0, none⟩ = some (.string T0) ∧ u.cell? ⟨g, k, none⟩ = some (.string TL)) 14 (HH.out _ (Kept.refl w2).drew) (fun hHeld => ?_)
              have KD : Hid (Kept w2 w2.drew) := (Kept.refl w2).drew
              generalize hwd : w2.drew = wd at KD hHeld ⊢
              clear hwd
              refine UpTo.take 0 [13, 14] (v := ?_) (by (simp only [List.getElem?_toArray, List.getElem?_cons_zero]; rfl)) (by kernel_rfl) (by kernel_rfl) (by kernel_rfl) (by kernel_rfl) (by exact fun _ _ _ h => h) (Or.inl ⟨by rfl, ?_⟩) hHeld ?_
              rotate_left
              · intro u hu
                try dsimp only at hu
                go_simp
                try with_reducible rfl
              try simp only [Act.put, List.setIfInBounds_toArray, List.set_cons_zero, List.set_cons_succ]
              refine UpTo.take 1 [2, 3, 4, 11, 12, 13, 14] (v := ?_) (by (simp only [List.getElem?_toArray, List.getElem?_cons_succ, List.getElem?_cons_zero]; rfl)) (by kernel_rfl) (by kernel_rfl) (by kernel_rfl) (by kernel_rfl) (by exact fun _ _ _ h => h) (Or.inl ⟨by rfl, ?_⟩) hHeld ?_
              rotate_left
              · intro u hu
                try dsimp only at hu
                go_simp
                try with_reducible rfl
              try simp only [Act.put, List.setIfInBounds_toArray, List.set_cons_zero, List.set_cons_succ]
              refine UpTo.take 2 [3, 4, 11, 12, 13, 14] (v := ?_) (by (simp only [List.getElem?_toArray, List.getElem?_cons_succ, List.getElem?_cons_zero]; rfl)) (by kernel_rfl) (by kernel_rfl) (by kernel_rfl) (by kernel_rfl) (by exact fun _ _ _ h => h) (Or.inl ⟨by rfl, ?_⟩) hHeld ?_
              rotate_left
              · intro u hu
                try dsimp only at hu
                go_simp
                try with_reducible rfl
              try simp only [Act.put, List.setIfInBounds_toArray, List.set_cons_zero, List.set_cons_succ]
              refine UpTo.take 3 [4, 11, 12, 13, 14] (v := ?_) (by (simp only [List.getElem?_toArray, List.getElem?_cons_succ, List.getElem?_cons_zero]; rfl)) (by kernel_rfl) (by kernel_rfl) (by kernel_rfl) (by kernel_rfl) (by exact fun _ _ _ h => h) (Or.inl ⟨by rfl, ?_⟩) hHeld ?_
              rotate_left
              · intro u hu
                try dsimp only at hu
                go_simp
                try with_reducible rfl
              try simp only [Act.put, List.setIfInBounds_toArray, List.set_cons_zero, List.set_cons_succ]
              refine UpTo.take 4 [11, 12, 13, 14] (v := ?_) (by (simp only [List.getElem?_toArray, List.getElem?_cons_succ, List.getElem?_cons_zero]; rfl)) (by kernel_rfl) (by kernel_rfl) (by kernel_rfl) (by kernel_rfl) (by exact fun _ _ _ h => h) (Or.inl ⟨by rfl, ?_⟩) hHeld ?_
              rotate_left
              · intro u hu
                try dsimp only at hu
                go_simp
                try with_reducible rfl
              try simp only [Act.put, List.setIfInBounds_toArray, List.set_cons_zero, List.set_cons_succ]
              refine UpTo.take 5 [7, 8, 9, 10, 11, 12, 13, 14] (v := ?_) (by (simp only [List.getElem?_toArray, List.getElem?_cons_succ, List.getElem?_cons_zero]; rfl)) (by kernel_rfl) (by kernel_rfl) (by kernel_rfl) (by kernel_rfl) (by exact fun _ _ _ h => h) (Or.inl ⟨by rfl, ?_⟩) hHeld ?_
              rotate_left
              · intro u hu
                try dsimp only at hu
                go_simp
                try with_reducible rfl
              try simp only [Act.put, List.setIfInBounds_toArray, List.set_cons_zero, List.set_cons_succ]
              refine UpTo.take 6 [7, 8, 9, 10, 11, 12, 13, 14] (v := ?_) (by (simp only [List.getElem?_toArray, List.getElem?_cons_succ, List.getElem?_cons_zero]; rfl)) (by kernel_rfl) (by kernel_rfl) (by kernel_rfl) (by kernel_rfl) (by exact fun _ _ _ h => h) (Or.inl ⟨by rfl, ?_⟩) hHeld ?_
              rotate_left
              · intro u hu
                try dsimp only at hu
                go_simp
                try with_reducible rfl
              try simp only [Act.put, List.setIfInBounds_toArray, List.set_cons_zero, List.set_cons_succ]
              refine UpTo.take 7 [8, 9, 10, 11, 12, 13, 14] (v := ?_) (by (simp only [List.getElem?_toArray, List.getElem?_cons_succ, List.getElem?_cons_zero]; rfl)) (by kernel_rfl) (by kernel_rfl) (by kernel_rfl) (by kernel_rfl) (by exact fun _ _ _ h => h) (Or.inl ⟨by rfl, ?_⟩) hHeld ?_
              rotate_left
              · intro u hu
                try dsimp only at hu
                go_simp
                try with_reducible rfl
              try simp only [Act.put, List.setIfInBounds_toArray, List.set_cons_zero, List.set_cons_succ]
              refine UpTo.take 8 [9, 10, 11, 12, 13, 14] (v := ?_) (by (simp only [List.getElem?_toArray, List.getElem?_cons_succ, List.getElem?_cons_zero]; rfl)) (by kernel_rfl) (by kernel_rfl) (by kernel_rfl) (by kernel_rfl) (by exact fun _ _ _ h => h) (Or.inl ⟨by rfl, ?_⟩) hHeld ?_
              rotate_left
              · intro u hu
                try dsimp only at hu
                go_simp
                try with_reducible rfl
              try simp only [Act.put, List.setIfInBounds_toArray, List.set_cons_zero, List.set_cons_succ]
              refine UpTo.next 9 (by kernel_rfl) (by (simp only [List.getElem?_toArray, List.getElem?_cons_succ, List.getElem?_cons_zero]; rfl)) (fun K hK => ?_)
              rw [if_pos (by rfl)]
              go_simp
              go_at_call 23
              refine (l8Rest_any _ TL 1 (by omega) (by omega) 1 rfl hTLs).mono ?_
              rintro e w8 ⟨⟨s9, rfl, hs9⟩, h8⟩
              obtain rfl := h8.symm
              dsimp only
              have hs9s : s9.size ≤ 1100000 := by rw [hs9, toB_size]; have := restL_len TL.data.toList 1; have := size_list TL; omega
              have HS9 := hide hs9
              clear hs9
              refine hK.out _ _ (fun _ => hHeld) ?_
              clear hK K
              try simp only [Act.put, List.setIfInBounds_toArray, List.set_cons_zero, List.set_cons_succ]
              refine UpTo.next 10 (by kernel_rfl) (by (simp only [List.getElem?_toArray, List.getElem?_cons_succ, List.getElem?_cons_zero]; rfl)) (fun K hK => ?_)
              rw [if_pos (by rfl)]
              go_simp
              go_at_call 22
              refine (l8Unquote_any _ s9 hs9s).mono ?_
              rintro e wu ⟨⟨sA, rfl, hsA⟩, ku⟩
              dsimp only
              have HSA := hide hsA
              have KU := hide (Kept.trans KD.out ku)
              refine hK.out _ _ (fun _ => HH.out _ KU.out) ?_
              clear hK K hHeld hsA
              try simp only [Act.put, List.setIfInBounds_toArray, List.set_cons_zero, List.set_cons_succ]
              have hHeld := HH.out _ KU.out
              refine UpTo.take 11 [12, 13, 14] (v := ?_) (by (simp only [List.getElem?_toArray, List.getElem?_cons_succ, List.getElem?_cons_zero]; rfl)) (by kernel_rfl) (by kernel_rfl) (by kernel_rfl) (by kernel_rfl) (by exact fun _ _ _ h => h) (Or.inl ⟨by rfl, ?_⟩) hHeld ?_
              rotate_left
              · intro u hu
                try dsimp only at hu
                go_simp
                try with_reducible rfl
              try simp only [Act.put, List.setIfInBounds_toArray, List.set_cons_zero, List.set_cons_succ]
              refine UpTo.next 12 (by kernel_rfl) (by (simp only [List.getElem?_toArray, List.getElem?_cons_succ, List.getElem?_cons_zero]; rfl)) (fun K hK => ?_)
              rw [if_pos (by rfl)]
              go_simp
              have KB := hide (KU.out.alloc (.cells #[.slice none 0 0, .int .i64 0, .slice none 0 0, .int .i64 0, .int .i64 0, .bool true, .bool false, .string sA] 59))
              have HNw := hide (boxS wu [.slice none 0 0, .int .i64 0, .slice none 0 0, .int .i64 0, .int .i64 0, .bool true, .bool false, .string sA])
              refine hK.out _ _ (fun _ => HH.out _ KB.out) ?_
              clear hK K hHeld
              try simp only [Act.put, List.setIfInBounds_toArray, List.set_cons_zero, List.set_cons_succ]
              have hHeld := HH.out _ KB.out
              generalize hwb : wu.alloc (.cells #[.slice none 0 0, .int .i64 0, .slice none 0 0, .int .i64 0, .int .i64 0, .bool true, .bool false, .string sA] 59) = wb at HNw KB hHeld ⊢
              clear hwb
              have HYb := hide (ownsRow_kept' HY.out KB.out)
              refine UpTo.next 13 (by kernel_rfl) (by (simp only [List.getElem?_toArray, List.getElem?_cons_succ, List.getElem?_cons_zero]; rfl)) (fun K hK => ?_)
              rw [if_pos (by rfl)]
              refine wp_append_own _ (.tmp 64) (.tmp 76) 50 rfl H 59 ins (.agg #[.slice none 0 0, .int .i64 0, .slice none 0 0, .int .i64 0, .int .i64 0, .bool false, .bool false, .string ⟨#[]⟩]) 8 96 Tryz.underlying50 hq0 hq1 hq2 hq3 rfl (by decide) (.slice sa d.steps.length sc) d.steps.length ys rfl HYb.out ⟨wu.heap.size, 0, none⟩ 1 1 [.slice none 0 0, .int .i64 0, .slice none 0 0, .int .i64 0, .int .i64 0, .bool true, .bool false, .string sA] rfl rfl HNw.out (oneS ⟨[], 0, [], 0, 0, true, false, sA⟩ none 0 none 0) HMs1.out HMs2.out (Nat.le_trans HhH.out.2 KB.out.size) ?_
              intro v7 w7 hown7 hgr7 _
              obtain ⟨a7, cp7, rfl⟩ := own_slice hown7
              have HT := hide (stepMore (s := ⟨[], 0, [], 0, 0, true, false, sA⟩) (aa := none) (ca := 0) rfl HR2.out HV2.out hc2 HhH.out HOw2.out HNP2.out HN2.out HK2.out HY.out HYP.out KB.out (.inl rfl) (Nat.zero_le _) rfl hown7 hgr7)
              have hc7 := HT.out.2.1
              have hf7 := HT.out.2.2.1
              have hx7 := HT.out.2.2.2
              have kg : Keeps wb.heap.size [59] wb w7 := .of_grown HYb.out hgr7 (.inr (by simp))
              obtain ⟨curW, hcW⟩ := (HW2.out.kept KB.out).blk
              obtain ⟨curN, hcN⟩ := own_blk (ownsRow_kept' HN2.out KB.out)
              have hS7 := And.intro ((cell_keeps hcW kg (heap_lt hcW) (by decide) 0).trans hHeld.1) ((cell_keeps hcN kg (heap_lt hcN) (by decide) k).trans hHeld.2)
              clear kg hcW hcN hown7 hgr7 hc2 hfz
              refine hK.out _ _ (fun _ => hS7) ?_
              clear hK K hHeld
              have hHeld := hS7
              clear hS7
              try simp only [Act.put, List.setIfInBounds_toArray, List.set_cons_zero, List.set_cons_succ]
              refine UpTo.next 14 (by kernel_rfl) (by (simp only [List.getElem?_toArray, List.getElem?_cons_succ, List.getElem?_cons_zero]; rfl)) (fun K hK => ?_)
              rw [if_pos (by rfl)]
              go_simp
              refine hK.out _ _ (fun h => absurd rfl h) ?_
              clear hK K
              try simp only [Act.put, List.setIfInBounds_toArray, List.set_cons_zero, List.set_cons_succ]
              refine UpTo.done (by kernel_rfl) ?_
              have HSt : Hid (stepsF ln d.steps = d.steps ++ [⟨[], 0, [], 0, 0, true, false, sA⟩]) := by show _ = _; rw [HSt.out, HSA.out, HS9.out, HTL.out]; rfl
              go_wp2
              go_roundw
              case rel => exact ⟨k + 1, _, by omega, by go_num, hide HT.out.1.1, hide HT.out.1.2.1, HT.out.1.2.2.1, hide (by rw [HLs3.out, HSt.out]; exact HT.out.1.2.2.2.1), hide HT.out.1.2.2.2.2.1, hide HT.out.1.2.2.2.2.2⟩
              case measure => simp [intOf]; omega
            · have hE1 := hE
              clear hE
              by_cases hE : wd ln 0 = wBad
              · have e1 : (T0.toList == [101, 110, 100]) = false := by rw [hT0', hE]; rfl
                have e2 : (T0.toList == [98, 97, 100]) = true := by rw [hT0', hE]; rfl
                have hcl : w2.cell? ⟨g, k, none⟩ = some (.string (toB ln)) := by
                  have := HN2.out.cells (g := g) rfl k (.string (toB ln)) (by simp [strsV, hkl, HLn.out])
                  rw [Addr.add_mid, Nat.zero_add] at this
                  exact this
                have hgl2 : g < w2.heap.size := own_lt HN2.out g rfl
                obtain ⟨TL, hTL⟩ : ∃ TL, TL = toB ln := ⟨_, rfl⟩
                rw [← hTL] at hcl
                have hTLs : TL.size ≤ 1100000 := by rw [hTL, toB_size]; omega
                have HTL : Hid (TL.data.toList = ln) := by show _ = _; rw [hTL]; rfl
                clear hTL
                have hm0 : ¬ (lo.length : Int) < 0 := by omega
                have hm1 : (lo.length : Int) + 1 - 1 = (lo.length : Int) := by omega
                have hdl : d.steps.length ≤ 900001 := HDf.out.steps
                have HMs1 : Hid (d.steps.length + 1 ≤ maxLen) := by show _ ≤ _; unfold maxLen; omega
                have HMs2 : Hid ((d.steps.length + 1) * 96 ≤ 140737488355328) := by show _ ≤ _; omega
                have HSt : Hid (stepsF ln d.steps = d.steps ++ [⟨[], 0, [], 0, 0, true, true, toB (unqL (restL 1 ln))⟩]) := by show _ = _; unfold stepsF; rw [if_pos (.inr hE)]; unfold endD; rw [hE]; rfl
                obtain ⟨ys, hY, hYP, _⟩ := HLS.out.old
                have HY := hide hY
                have HYP := hide hYP
                clear hY hYP hT0 hT0' hE hO
                have i0 : (0 : Int) < (nw : Int) + 8 := by omega
                go_wp2
                have HH : Hid (∀ u, Kept w2 u → (u.cell? ⟨g2, 0, none⟩ = some (.string T0) ∧ u.cell? ⟨g, k, none⟩ = some (.string TL))) := fun u k => ⟨(k.cell hg2l).trans hw0, (k.cell hgl2).trans hcl⟩
                refine UpTo.region (by kernel_rfl) (fun u => u.cell? ⟨g2, 0, none⟩ = some (.string T0) ∧ u.cell? ⟨g, k, none⟩ = some (.string TL)) 14 (HH.out _ (Kept.refl w2).drew) (fun hHeld => ?_)
                have KD : Hid (Kept w2 w2.drew) := (Kept.refl w2).drew
                generalize hwd : w2.drew = wd at KD hHeld ⊢
                clear hwd
                refine UpTo.take 0 [13, 14] (v := ?_) (by (simp only [List.getElem?_toArray, List.getElem?_cons_zero]; rfl)) (by kernel_rfl) (by kernel_rfl) (by kernel_rfl) (by kernel_rfl) (by exact fun _ _ _ h => h) (Or.inl ⟨by rfl, ?_⟩) hHeld ?_
                rotate_left
                · intro u hu
                  try dsimp only at hu
                  go_simp
                  try with_reducible rfl
                try simp only [Act.put, List.setIfInBounds_toArray, List.set_cons_zero, List.set_cons_succ]
                refine UpTo.take 1 [2, 3, 4, 11, 12, 13, 14] (v := ?_) (by (simp only [List.getElem?_toArray, List.getElem?_cons_succ, List.getElem?_cons_zero]; rfl)) (by kernel_rfl) (by kernel_rfl) (by kernel_rfl) (by kernel_rfl) (by exact fun _ _ _ h => h) (Or.inl ⟨by rfl, ?_⟩) hHeld ?_
                rotate_left
                · intro u hu
                  try dsimp only at hu
                  go_simp
                  try with_reducible rfl
                try simp only [Act.put, List.setIfInBounds_toArray, List.set_cons_zero, List.set_cons_succ]
                refine UpTo.take 2 [3, 4, 11, 12, 13, 14] (v := ?_) (by (simp only [List.getElem?_toArray, List.getElem?_cons_succ, List.getElem?_cons_zero]; rfl)) (by kernel_rfl) (by kernel_rfl) (by kernel_rfl) (by kernel_rfl) (by exact fun _ _ _ h => h) (Or.inl ⟨by rfl, ?_⟩) hHeld ?_
                rotate_left
                · intro u hu
                  try dsimp only at hu
                  go_simp
                  try with_reducible rfl
                try simp only [Act.put, List.setIfInBounds_toArray, List.set_cons_zero, List.set_cons_succ]
                refine UpTo.take 3 [4, 11, 12, 13, 14] (v := ?_) (by (simp only [List.getElem?_toArray, List.getElem?_cons_succ, List.getElem?_cons_zero]; rfl)) (by kernel_rfl) (by kernel_rfl) (by kernel_rfl) (by kernel_rfl) (by exact fun _ _ _ h => h) (Or.inl ⟨by rfl, ?_⟩) hHeld ?_
                rotate_left
                · intro u hu
                  try dsimp only at hu
                  go_simp
                  try with_reducible rfl
                try simp only [Act.put, List.setIfInBounds_toArray, List.set_cons_zero, List.set_cons_succ]
                refine UpTo.take 4 [11, 12, 13, 14] (v := ?_) (by (simp only [List.getElem?_toArray, List.getElem?_cons_succ, List.getElem?_cons_zero]; rfl)) (by kernel_rfl) (by kernel_rfl) (by kernel_rfl) (by kernel_rfl) (by exact fun _ _ _ h => h) (Or.inl ⟨by rfl, ?_⟩) hHeld ?_
                rotate_left
                · intro u hu
                  try dsimp only at hu
                  go_simp
                  try with_reducible rfl
                try simp only [Act.put, List.setIfInBounds_toArray, List.set_cons_zero, List.set_cons_succ]
                refine UpTo.take 5 [7, 8, 9, 10, 11, 12, 13, 14] (v := ?_) (by (simp only [List.getElem?_toArray, List.getElem?_cons_succ, List.getElem?_cons_zero]; rfl)) (by kernel_rfl) (by kernel_rfl) (by kernel_rfl) (by kernel_rfl) (by exact fun _ _ _ h => h) (Or.inl ⟨by rfl, ?_⟩) hHeld ?_
                rotate_left
                · intro u hu
                  try dsimp only at hu
                  go_simp
                  try with_reducible rfl
                try simp only [Act.put, List.setIfInBounds_toArray, List.set_cons_zero, List.set_cons_succ]
                refine UpTo.take 6 [7, 8, 9, 10, 11, 12, 13, 14] (v := ?_) (by (simp only [List.getElem?_toArray, List.getElem?_cons_succ, List.getElem?_cons_zero]; rfl)) (by kernel_rfl) (by kernel_rfl) (by kernel_rfl) (by kernel_rfl) (by exact fun _ _ _ h => h) (Or.inl ⟨by rfl, ?_⟩) hHeld ?_
                rotate_left
                · intro u hu
                  try dsimp only at hu
                  go_simp
                  try with_reducible rfl
                try simp only [Act.put, List.setIfInBounds_toArray, List.set_cons_zero, List.set_cons_succ]
                refine UpTo.take 7 [8, 9, 10, 11, 12, 13, 14] (v := ?_) (by (simp only [List.getElem?_toArray, List.getElem?_cons_succ, List.getElem?_cons_zero]; rfl)) (by kernel_rfl) (by kernel_rfl) (by kernel_rfl) (by kernel_rfl) (by exact fun _ _ _ h => h) (Or.inl ⟨by rfl, ?_⟩) hHeld ?_
                rotate_left
                · intro u hu
                  try dsimp only at hu
                  go_simp
                  try with_reducible rfl
                try simp only [Act.put, List.setIfInBounds_toArray, List.set_cons_zero, List.set_cons_succ]
                refine UpTo.take 8 [9, 10, 11, 12, 13, 14] (v := ?_) (by (simp only [List.getElem?_toArray, List.getElem?_cons_succ, List.getElem?_cons_zero]; rfl)) (by kernel_rfl) (by kernel_rfl) (by kernel_rfl) (by kernel_rfl) (by exact fun _ _ _ h => h) (Or.inl ⟨by rfl, ?_⟩) hHeld ?_
                rotate_left
                · intro u hu
                  try dsimp only at hu
                  go_simp
                  try with_reducible rfl
                try simp only [Act.put, List.setIfInBounds_toArray, List.set_cons_zero, List.set_cons_succ]
                refine UpTo.next 9 (by kernel_rfl) (by (simp only [List.getElem?_toArray, List.getElem?_cons_succ, List.getElem?_cons_zero]; rfl)) (fun K hK => ?_)
                rw [if_pos (by rfl)]
                go_simp
                go_at_call 23
                refine (l8Rest_any _ TL 1 (by omega) (by omega) 1 rfl hTLs).mono ?_
                rintro e w8 ⟨⟨s9, rfl, hs9⟩, h8⟩
                obtain rfl := h8.symm
                dsimp only
                have hs9s : s9.size ≤ 1100000 := by rw [hs9, toB_size]; have := restL_len TL.data.toList 1; have := size_list TL; omega
                have HS9 := hide hs9
                clear hs9
                refine hK.out _ _ (fun _ => hHeld) ?_
                clear hK K
                try simp only [Act.put, List.setIfInBounds_toArray, List.set_cons_zero, List.set_cons_succ]
                refine UpTo.next 10 (by kernel_rfl) (by (simp only [List.getElem?_toArray, List.getElem?_cons_succ, List.getElem?_cons_zero]; rfl)) (fun K hK => ?_)
                rw [if_pos (by rfl)]
                go_simp
                go_at_call 22
                refine (l8Unquote_any _ s9 hs9s).mono ?_
                rintro e wu ⟨⟨sA, rfl, hsA⟩, ku⟩
                dsimp only
                have HSA := hide hsA
                have KU := hide (Kept.trans KD.out ku)
                refine hK.out _ _ (fun _ => HH.out _ KU.out) ?_
                clear hK K hHeld hsA
                try simp only [Act.put, List.setIfInBounds_toArray, List.set_cons_zero, List.set_cons_succ]
                have hHeld := HH.out _ KU.out
                refine UpTo.take 11 [12, 13, 14] (v := ?_) (by (simp only [List.getElem?_toArray, List.getElem?_cons_succ, List.getElem?_cons_zero]; rfl)) (by kernel_rfl) (by kernel_rfl) (by kernel_rfl) (by kernel_rfl) (by exact fun _ _ _ h => h) (Or.inl ⟨by rfl, ?_⟩) hHeld ?_
                rotate_left
                · intro u hu
                  try dsimp only at hu
                  go_simp
                  try with_reducible rfl
                try simp only [Act.put, List.setIfInBounds_toArray, List.set_cons_zero, List.set_cons_succ]
                refine UpTo.next 12 (by kernel_rfl) (by (simp only [List.getElem?_toArray, List.getElem?_cons_succ, List.getElem?_cons_zero]; rfl)) (fun K hK => ?_)
                rw [if_pos (by rfl)]
                go_simp
                have KB := hide (KU.out.alloc (.cells #[.slice none 0 0, .int .i64 0, .slice none 0 0, .int .i64 0, .int .i64 0, .bool true, .bool true, .string sA] 59))
                have HNw := hide (boxS wu [.slice none 0 0, .int .i64 0, .slice none 0 0, .int .i64 0, .int .i64 0, .bool true, .bool true, .string sA])
                refine hK.out _ _ (fun _ => HH.out _ KB.out) ?_
                clear hK K hHeld
                try simp only [Act.put, List.setIfInBounds_toArray, List.set_cons_zero, List.set_cons_succ]
                have hHeld := HH.out _ KB.out
                generalize hwb : wu.alloc (.cells #[.slice none 0 0, .int .i64 0, .slice none 0 0, .int .i64 0, .int .i64 0, .bool true, .bool true, .string sA] 59) = wb at HNw KB hHeld ⊢
                clear hwb
                have HYb := hide (ownsRow_kept' HY.out KB.out)
                refine UpTo.next 13 (by kernel_rfl) (by (simp only [List.getElem?_toArray, List.getElem?_cons_succ, List.getElem?_cons_zero]; rfl)) (fun K hK => ?_)
                rw [if_pos (by rfl)]
                refine wp_append_own _ (.tmp 64) (.tmp 76) 50 rfl H 59 ins (.agg #[.slice none 0 0, .int .i64 0, .slice none 0 0, .int .i64 0, .int .i64 0, .bool false, .bool false, .string ⟨#[]⟩]) 8 96 Tryz.underlying50 hq0 hq1 hq2 hq3 rfl (by decide) (.slice sa d.steps.length sc) d.steps.length ys rfl HYb.out ⟨wu.heap.size, 0, none⟩ 1 1 [.slice none 0 0, .int .i64 0, .slice none 0 0, .int .i64 0, .int .i64 0, .bool true, .bool true, .string sA] rfl rfl HNw.out (oneS ⟨[], 0, [], 0, 0, true, true, sA⟩ none 0 none 0) HMs1.out HMs2.out (Nat.le_trans HhH.out.2 KB.out.size) ?_
                intro v7 w7 hown7 hgr7 _
                obtain ⟨a7, cp7, rfl⟩ := own_slice hown7
                have HT := hide (stepMore (s := ⟨[], 0, [], 0, 0, true, true, sA⟩) (aa := none) (ca := 0) rfl HR2.out HV2.out hc2 HhH.out HOw2.out HNP2.out HN2.out HK2.out HY.out HYP.out KB.out (.inl rfl) (Nat.zero_le _) rfl hown7 hgr7)
                have hc7 := HT.out.2.1
                have hf7 := HT.out.2.2.1
                have hx7 := HT.out.2.2.2
                have kg : Keeps wb.heap.size [59] wb w7 := .of_grown HYb.out hgr7 (.inr (by simp))
                obtain ⟨curW, hcW⟩ := (HW2.out.kept KB.out).blk
                obtain ⟨curN, hcN⟩ := own_blk (ownsRow_kept' HN2.out KB.out)
                have hS7 := And.intro ((cell_keeps hcW kg (heap_lt hcW) (by decide) 0).trans hHeld.1) ((cell_keeps hcN kg (heap_lt hcN) (by decide) k).trans hHeld.2)
                clear kg hcW hcN hown7 hgr7 hc2 hfz
                refine hK.out _ _ (fun _ => hS7) ?_
                clear hK K hHeld
                have hHeld := hS7
                clear hS7
                try simp only [Act.put, List.setIfInBounds_toArray, List.set_cons_zero, List.set_cons_succ]
                refine UpTo.next 14 (by kernel_rfl) (by (simp only [List.getElem?_toArray, List.getElem?_cons_succ, List.getElem?_cons_zero]; rfl)) (fun K hK => ?_)
                rw [if_pos (by rfl)]
                go_simp
                refine hK.out _ _ (fun h => absurd rfl h) ?_
                clear hK K
                try simp only [Act.put, List.setIfInBounds_toArray, List.set_cons_zero, List.set_cons_succ]
                refine UpTo.done (by kernel_rfl) ?_
                have HSt : Hid (stepsF ln d.steps = d.steps ++ [⟨[], 0, [], 0, 0, true, true, sA⟩]) := by show _ = _; rw [HSt.out, HSA.out, HS9.out, HTL.out]; rfl
                go_wp2
                go_roundw
                case rel => exact ⟨k + 1, _, by omega, by go_num, hide HT.out.1.1, hide HT.out.1.2.1, HT.out.1.2.2.1, hide (by rw [HLs3.out, HSt.out]; exact HT.out.1.2.2.2.1), hide HT.out.1.2.2.2.2.1, hide HT.out.1.2.2.2.2.2⟩
                case measure => simp [intOf]; omega
              · have hE2 := hE
                clear hE
                by_cases hE : wd ln 0 = wAsk
                · have e1 : (T0.toList == [101, 110, 100]) = false := by rw [hT0', hE]; rfl
                  have e2 : (T0.toList == [98, 97, 100]) = false := by rw [hT0', hE]; rfl
                  have e3 : (T0.toList == [97, 115, 107]) = true := by rw [hT0', hE]; rfl
                  have hcl : w2.cell? ⟨g, k, none⟩ = some (.string (toB ln)) := by
                    have := HN2.out.cells (g := g) rfl k (.string (toB ln)) (by simp [strsV, hkl, HLn.out])
                    rw [Addr.add_mid, Nat.zero_add] at this
                    exact this
                  have hgl2 : g < w2.heap.size := own_lt HN2.out g rfl
                  obtain ⟨TL, hTL⟩ : ∃ TL, TL = toB ln := ⟨_, rfl⟩
                  rw [← hTL] at hcl
                  have hTLs : TL.size ≤ 1100000 := by rw [hTL, toB_size]; omega
                  have HTL : Hid (TL.data.toList = ln) := by show _ = _; rw [hTL]; rfl
                  clear hTL
                  have hm0 : ¬ (lo.length : Int) < 0 := by omega
                  have hm1 : (lo.length : Int) + 1 - 1 = (lo.length : Int) := by omega
                  have hdl : d.steps.length ≤ 900001 := HDf.out.steps
                  have HMs1 : Hid (d.steps.length + 1 ≤ maxLen) := by show _ ≤ _; unfold maxLen; omega
                  have HMs2 : Hid ((d.steps.length + 1) * 96 ≤ 140737488355328) := by show _ ≤ _; omega
                  have hw1 := HW2.out.word 1 (by omega)
                  obtain ⟨T1, hT1⟩ : ∃ T1, T1 = toB (wd ln 1) := ⟨_, rfl⟩
                  rw [← hT1] at hw1
                  have hT1s : T1.size ≤ 1100000 := by rw [hT1, toB_size]; have := wd_len ln 1; omega
                  have i1 : (1 : Int) < (nw : Int) + 8 := by omega
                  have hw3 := HW2.out.word 3 (by omega)
                  obtain ⟨T3, hT3⟩ : ∃ T3, T3 = toB (wd ln 3) := ⟨_, rfl⟩
                  rw [← hT3] at hw3
                  have hT3s : T3.size ≤ 1100000 := by rw [hT3, toB_size]; have := wd_len ln 3; omega
                  have i3 : (3 : Int) < (nw : Int) + 8 := by omega
                  have hw5 := HW2.out.word 5 (by omega)
                  obtain ⟨T5, hT5⟩ : ∃ T5, T5 = toB (wd ln 5) := ⟨_, rfl⟩
                  rw [← hT5] at hw5
                  have hT5s : T5.size ≤ 1100000 := by rw [hT5, toB_size]; have := wd_len ln 5; omega
                  have i5 : (5 : Int) < (nw : Int) + 8 := by omega
                  have hw7 := HW2.out.word 7 (by omega)
                  obtain ⟨T7, hT7⟩ : ∃ T7, T7 = toB (wd ln 7) := ⟨_, rfl⟩
                  rw [← hT7] at hw7
                  have hT7s : T7.size ≤ 1100000 := by rw [hT7, toB_size]; have := wd_len ln 7; omega
                  have i7 : (7 : Int) < (nw : Int) + 8 := by omega
                  obtain ⟨c3, hc3⟩ : ∃ c3, c3 = looseL T3.data.toList := ⟨_, rfl⟩
                  have HC3 := hide hc3
                  obtain ⟨c5, hc5⟩ : ∃ c5, c5 = looseL T5.data.toList := ⟨_, rfl⟩
                  have HC5 := hide hc5
                  obtain ⟨c7, hc7⟩ : ∃ c7, c7 = looseL T7.data.toList := ⟨_, rfl⟩
                  have HC7 := hide hc7
                  have HSt : Hid (stepsF ln d.steps = d.steps ++ [⟨if T1.data.toList = [45] then [] else (cuts 44 T1.data.toList).map toB, c3, [], c5, c7, false, false, ByteArray.empty⟩]) := by show _ = _; unfold stepsF; rw [if_neg (by rw [hE]; decide), if_pos hE]; unfold askD; rw [hc3, hc5, hc7, hT1, hT3, hT5, hT7]; rfl
                  clear hT0 hT0' hE hO hE1 hE2 hc3 hc5 hc7 hT1 hT3 hT5 hT7
                  obtain ⟨ys, hY, hYP, _⟩ := HLS.out.old
                  have HY := hide hY
                  have HYP := hide hYP
                  clear hY hYP
                  obtain ⟨we, hwe⟩ : ∃ we, we = w2.drew := ⟨_, rfl⟩
                  have KD : Hid (Kept w2 we) := by rw [hwe]; exact (Kept.refl w2).drew
                  have HWE := hide hwe
                  clear hwe
                  have KA := hide (KD.out.alloc (.cells #[.slice none 0 0, .int .i64 0, .slice none 0 0, .int .i64 0, .int .i64 0, .bool false, .bool false, .string ⟨#[]⟩] 59))
                  have HH : Hid (∀ u, Kept w2 u → (u.cell? ⟨g2, 3, none⟩ = some (.string T3) ∧ u.cell? ⟨g2, 5, none⟩ = some (.string T5) ∧ u.cell? ⟨g2, 7, none⟩ = some (.string T7))) := fun u k => ⟨(k.cell hg2l).trans hw3, (k.cell hg2l).trans hw5, (k.cell hg2l).trans hw7⟩
                  go_wp2
                  refine region_cutI ?_ (fun u => AskM w2 u we.heap.size c3 c5 c7) ?_ ?_
                  rotate_left
                  · refine UpTo.region (by kernel_rfl) (fun u => u.cell? ⟨g2, 3, none⟩ = some (.string T3) ∧ u.cell? ⟨g2, 5, none⟩ = some (.string T5) ∧ u.cell? ⟨g2, 7, none⟩ = some (.string T7)) 14 (HH.out _ (Kept.refl w2).drew) (fun hHeld => ?_)
                    rw [← HWE.out] at hHeld ⊢
                    refine UpTo.take 0 [1, 2, 3, 7, 11, 12, 14] (v := ?_) (by (simp only [List.getElem?_toArray, List.getElem?_cons_zero]; rfl)) (by kernel_rfl) (by kernel_rfl) (by kernel_rfl) (by kernel_rfl) (by intro _ _ _ h; cases h.1) (Or.inl ⟨by rfl, ?_⟩) hHeld ?_
                    rotate_left
                    · intro u hu
                      try dsimp only at hu
                      go_simp
                      try with_reducible rfl
                    try simp only [Act.put, List.setIfInBounds_toArray, List.set_cons_zero, List.set_cons_succ]
                    refine UpTo.take 1 [2, 3, 7, 11, 12, 14] (v := ?_) (by (simp only [List.getElem?_toArray, List.getElem?_cons_succ, List.getElem?_cons_zero]; rfl)) (by kernel_rfl) (by kernel_rfl) (by kernel_rfl) (by kernel_rfl) (by intro _ _ _ h; cases h.1) (Or.inl ⟨by rfl, ?_⟩) hHeld ?_
                    rotate_left
                    · intro u hu
                      try dsimp only at hu
                      go_simp
                      try with_reducible rfl
                    try simp only [Act.put, List.setIfInBounds_toArray, List.set_cons_zero, List.set_cons_succ]
                    refine UpTo.take 2 [3, 7, 11, 12, 14] (v := ?_) (by (simp only [List.getElem?_toArray, List.getElem?_cons_succ, List.getElem?_cons_zero]; rfl)) (by kernel_rfl) (by kernel_rfl) (by kernel_rfl) (by kernel_rfl) (by intro _ _ _ h; cases h.1) (Or.inl ⟨by rfl, ?_⟩) hHeld ?_
                    rotate_left
                    · intro u hu
                      try dsimp only at hu
                      go_simp
                      try with_reducible rfl
                    try simp only [Act.put, List.setIfInBounds_toArray, List.set_cons_zero, List.set_cons_succ]
                    refine UpTo.take 4 [5, 6, 7, 11, 12, 14] (v := ?_) (by (simp only [List.getElem?_toArray, List.getElem?_cons_succ, List.getElem?_cons_zero]; rfl)) (by kernel_rfl) (by kernel_rfl) (by kernel_rfl) (by kernel_rfl) (by intro _ _ _ h; cases h.1) (Or.inl ⟨by rfl, ?_⟩) hHeld ?_
                    rotate_left
                    · intro u hu
                      try dsimp only at hu
                      go_simp
                      try with_reducible rfl
                    try simp only [Act.put, List.setIfInBounds_toArray, List.set_cons_zero, List.set_cons_succ]
                    refine UpTo.take 5 [6, 7, 11, 12, 14] (v := ?_) (by (simp only [List.getElem?_toArray, List.getElem?_cons_succ, List.getElem?_cons_zero]; rfl)) (by kernel_rfl) (by kernel_rfl) (by kernel_rfl) (by kernel_rfl) (by intro _ _ _ h; cases h.1) (Or.inl ⟨by rfl, ?_⟩) hHeld ?_
                    rotate_left
                    · intro u hu
                      try dsimp only at hu
                      go_simp
                      try with_reducible rfl
                    try simp only [Act.put, List.setIfInBounds_toArray, List.set_cons_zero, List.set_cons_succ]
                    refine UpTo.take 6 [7, 11, 12, 14] (v := ?_) (by (simp only [List.getElem?_toArray, List.getElem?_cons_succ, List.getElem?_cons_zero]; rfl)) (by kernel_rfl) (by kernel_rfl) (by kernel_rfl) (by kernel_rfl) (by intro _ _ _ h; cases h.1) (Or.inl ⟨by rfl, ?_⟩) hHeld ?_
                    rotate_left
                    · intro u hu
                      try dsimp only at hu
                      go_simp
                      try with_reducible rfl
                    try simp only [Act.put, List.setIfInBounds_toArray, List.set_cons_zero, List.set_cons_succ]
                    refine UpTo.take 8 [9, 10, 11, 12, 14] (v := ?_) (by (simp only [List.getElem?_toArray, List.getElem?_cons_succ, List.getElem?_cons_zero]; rfl)) (by kernel_rfl) (by kernel_rfl) (by kernel_rfl) (by kernel_rfl) (by intro _ _ _ h; cases h.1) (Or.inl ⟨by rfl, ?_⟩) hHeld ?_
                    rotate_left
                    · intro u hu
                      try dsimp only at hu
                      go_simp
                      try with_reducible rfl
                    try simp only [Act.put, List.setIfInBounds_toArray, List.set_cons_zero, List.set_cons_succ]
                    refine UpTo.take 9 [10, 11, 12, 14] (v := ?_) (by (simp only [List.getElem?_toArray, List.getElem?_cons_succ, List.getElem?_cons_zero]; rfl)) (by kernel_rfl) (by kernel_rfl) (by kernel_rfl) (by kernel_rfl) (by intro _ _ _ h; cases h.1) (Or.inl ⟨by rfl, ?_⟩) hHeld ?_
                    rotate_left
                    · intro u hu
                      try dsimp only at hu
                      go_simp
                      try with_reducible rfl
                    try simp only [Act.put, List.setIfInBounds_toArray, List.set_cons_zero, List.set_cons_succ]
                    refine UpTo.take 10 [11, 12, 14] (v := ?_) (by (simp only [List.getElem?_toArray, List.getElem?_cons_succ, List.getElem?_cons_zero]; rfl)) (by kernel_rfl) (by kernel_rfl) (by kernel_rfl) (by kernel_rfl) (by intro _ _ _ h; cases h.1) (Or.inl ⟨by rfl, ?_⟩) hHeld ?_
                    rotate_left
                    · intro u hu
                      try dsimp only at hu
                      go_simp
                      try with_reducible rfl
                    try simp only [Act.put, List.setIfInBounds_toArray, List.set_cons_zero, List.set_cons_succ]
                    refine UpTo.two 3 13 (by kernel_rfl) (by (simp only [List.getElem?_toArray, List.getElem?_cons_succ, List.getElem?_cons_zero]; rfl)) (by (simp only [List.getElem?_toArray, List.getElem?_cons_succ, List.getElem?_cons_zero]; rfl)) (fun K hK => ?_) (fun K hK => ?_)
                    · rw [if_pos (by rfl)]
                      go_simp
                      go_at_call 21
                      refine (l8Loose_any _ T3 hT3s).mono ?_
                      rintro e w8 ⟨rfl, h8⟩
                      obtain rfl := h8.symm
                      dsimp only
                      rw [← HC3.out]
                      refine hK.out _ _ (fun _ => hHeld) ?_
                      clear hK K
                      try simp only [Act.put, List.setIfInBounds_toArray, List.set_cons_zero, List.set_cons_succ]
                      refine UpTo.two 7 13 (by kernel_rfl) (by (simp only [List.getElem?_toArray, List.getElem?_cons_succ, List.getElem?_cons_zero]; rfl)) (by (simp only [List.getElem?_toArray, List.getElem?_cons_succ, List.getElem?_cons_zero]; rfl)) (fun K hK => ?_) (fun K hK => ?_)
                      · rw [if_pos (by rfl)]
                        go_simp
                        go_at_call 21
                        refine (l8Loose_any _ T5 hT5s).mono ?_
                        rintro e w8 ⟨rfl, h8⟩
                        obtain rfl := h8.symm
                        dsimp only
                        rw [← HC5.out]
                        refine hK.out _ _ (fun _ => hHeld) ?_
                        clear hK K
                        try simp only [Act.put, List.setIfInBounds_toArray, List.set_cons_zero, List.set_cons_succ]
                        refine UpTo.two 11 13 (by kernel_rfl) (by (simp only [List.getElem?_toArray, List.getElem?_cons_succ, List.getElem?_cons_zero]; rfl)) (by (simp only [List.getElem?_toArray, List.getElem?_cons_succ, List.getElem?_cons_zero]; rfl)) (fun K hK => ?_) (fun K hK => ?_)
                        · rw [if_pos (by rfl)]
                          go_simp
                          go_at_call 21
                          refine (l8Loose_any _ T7 hT7s).mono ?_
                          rintro e w8 ⟨rfl, h8⟩
                          obtain rfl := h8.symm
                          dsimp only
                          rw [← HC7.out]
                          refine hK.out _ _ (fun _ => hHeld) ?_
                          clear hK K
                          try simp only [Act.put, List.setIfInBounds_toArray, List.set_cons_zero, List.set_cons_succ]
                          refine UpTo.take 12 [14] (v := ?_) (by (simp only [List.getElem?_toArray, List.getElem?_cons_succ, List.getElem?_cons_zero]; rfl)) (by kernel_rfl) (by kernel_rfl) (by kernel_rfl) (by kernel_rfl) (by intro _ _ _ h; cases h.1) (Or.inl ⟨by rfl, ?_⟩) hHeld ?_
                          rotate_left
                          · intro u hu
                            try dsimp only at hu
                            go_simp
                            try with_reducible rfl
                          try simp only [Act.put, List.setIfInBounds_toArray, List.set_cons_zero, List.set_cons_succ]
                          refine UpTo.next 13 (by kernel_rfl) (by (simp only [List.getElem?_toArray, List.getElem?_cons_succ, List.getElem?_cons_zero]; rfl)) (fun K hK => ?_)
                          rw [if_pos (by rfl)]
                          go_simp
                          refine hK.out _ _ (fun _ => HH.out _ KA.out) ?_
                          clear hK K hHeld
                          try simp only [Act.put, List.setIfInBounds_toArray, List.set_cons_zero, List.set_cons_succ]
                          have hHeld := HH.out _ KA.out
                          refine UpTo.next 14 (by kernel_rfl) (by (simp only [List.getElem?_toArray, List.getElem?_cons_succ, List.getElem?_cons_zero]; rfl)) (fun K hK => ?_)
                          rw [if_pos (by rfl)]
                          go_simp
                          refine hK.out _ _ (fun h => absurd rfl h) ?_
                          clear hK K
                          try simp only [Act.put, List.setIfInBounds_toArray, List.set_cons_zero, List.set_cons_succ]
                          refine UpTo.done (by kernel_rfl) ?_
                          refine ⟨rfl, ?_, AskM.made KD.out c3 c5 c7⟩
                          with_reducible rfl
                        · rw [if_pos (by rfl)]
                          go_simp
                          refine hK.out _ _ (fun _ => HH.out _ KA.out) ?_
                          clear hK K hHeld
                          try simp only [Act.put, List.setIfInBounds_toArray, List.set_cons_zero, List.set_cons_succ]
                          have hHeld := HH.out _ KA.out
                          refine UpTo.next 11 (by kernel_rfl) (by (simp only [List.getElem?_toArray, List.getElem?_cons_succ, List.getElem?_cons_zero]; rfl)) (fun K hK => ?_)
                          rw [if_pos (by rfl)]
                          go_simp
                          go_at_call 21
                          refine (l8Loose_any _ T7 hT7s).mono ?_
                          rintro e w8 ⟨rfl, h8⟩
                          obtain rfl := h8.symm
                          dsimp only
                          rw [← HC7.out]
                          refine hK.out _ _ (fun _ => hHeld) ?_
                          clear hK K
                          try simp only [Act.put, List.setIfInBounds_toArray, List.set_cons_zero, List.set_cons_succ]
                          refine UpTo.take 12 [14] (v := ?_) (by (simp only [List.getElem?_toArray, List.getElem?_cons_succ, List.getElem?_cons_zero]; rfl)) (by kernel_rfl) (by kernel_rfl) (by kernel_rfl) (by kernel_rfl) (by intro _ _ _ h; cases h.1) (Or.inl ⟨by rfl, ?_⟩) hHeld ?_
                          rotate_left
                          · intro u hu
                            try dsimp only at hu
                            go_simp
                            try with_reducible rfl
                          try simp only [Act.put, List.setIfInBounds_toArray, List.set_cons_zero, List.set_cons_succ]
                          refine UpTo.next 14 (by kernel_rfl) (by (simp only [List.getElem?_toArray, List.getElem?_cons_succ, List.getElem?_cons_zero]; rfl)) (fun K hK => ?_)
                          rw [if_pos (by rfl)]
                          go_simp
                          refine hK.out _ _ (fun h => absurd rfl h) ?_
                          clear hK K
                          try simp only [Act.put, List.setIfInBounds_toArray, List.set_cons_zero, List.set_cons_succ]
                          refine UpTo.done (by kernel_rfl) ?_
                          refine ⟨rfl, ?_, AskM.made KD.out c3 c5 c7⟩
                          with_reducible rfl
                      · rw [if_pos (by rfl)]
                        go_simp
                        refine hK.out _ _ (fun _ => HH.out _ KA.out) ?_
                        clear hK K hHeld
                        try simp only [Act.put, List.setIfInBounds_toArray, List.set_cons_zero, List.set_cons_succ]
                        have hHeld := HH.out _ KA.out
                        refine UpTo.next 7 (by kernel_rfl) (by (simp only [List.getElem?_toArray, List.getElem?_cons_succ, List.getElem?_cons_zero]; rfl)) (fun K hK => ?_)
                        rw [if_pos (by rfl)]
                        go_simp
                        go_at_call 21
                        refine (l8Loose_any _ T5 hT5s).mono ?_
                        rintro e w8 ⟨rfl, h8⟩
                        obtain rfl := h8.symm
                        dsimp only
                        rw [← HC5.out]
                        refine hK.out _ _ (fun _ => hHeld) ?_
                        clear hK K
                        try simp only [Act.put, List.setIfInBounds_toArray, List.set_cons_zero, List.set_cons_succ]
                        refine UpTo.next 11 (by kernel_rfl) (by (simp only [List.getElem?_toArray, List.getElem?_cons_succ, List.getElem?_cons_zero]; rfl)) (fun K hK => ?_)
                        rw [if_pos (by rfl)]
                        go_simp
                        go_at_call 21
                        refine (l8Loose_any _ T7 hT7s).mono ?_
                        rintro e w8 ⟨rfl, h8⟩
                        obtain rfl := h8.symm
                        dsimp only
                        rw [← HC7.out]
                        refine hK.out _ _ (fun _ => hHeld) ?_
                        clear hK K
                        try simp only [Act.put, List.setIfInBounds_toArray, List.set_cons_zero, List.set_cons_succ]
                        refine UpTo.take 12 [14] (v := ?_) (by (simp only [List.getElem?_toArray, List.getElem?_cons_succ, List.getElem?_cons_zero]; rfl)) (by kernel_rfl) (by kernel_rfl) (by kernel_rfl) (by kernel_rfl) (by intro _ _ _ h; cases h.1) (Or.inl ⟨by rfl, ?_⟩) hHeld ?_
                        rotate_left
                        · intro u hu
                          try dsimp only at hu
                          go_simp
                          try with_reducible rfl
                        try simp only [Act.put, List.setIfInBounds_toArray, List.set_cons_zero, List.set_cons_succ]
                        refine UpTo.next 14 (by kernel_rfl) (by (simp only [List.getElem?_toArray, List.getElem?_cons_succ, List.getElem?_cons_zero]; rfl)) (fun K hK => ?_)
                        rw [if_pos (by rfl)]
                        go_simp
                        refine hK.out _ _ (fun h => absurd rfl h) ?_
                        clear hK K
                        try simp only [Act.put, List.setIfInBounds_toArray, List.set_cons_zero, List.set_cons_succ]
                        refine UpTo.done (by kernel_rfl) ?_
                        refine ⟨rfl, ?_, AskM.made KD.out c3 c5 c7⟩
                        with_reducible rfl
                    · rw [if_pos (by rfl)]
                      go_simp
                      refine hK.out _ _ (fun _ => HH.out _ KA.out) ?_
                      clear hK K hHeld
                      try simp only [Act.put, List.setIfInBounds_toArray, List.set_cons_zero, List.set_cons_succ]
                      have hHeld := HH.out _ KA.out
                      refine UpTo.next 3 (by kernel_rfl) (by (simp only [List.getElem?_toArray, List.getElem?_cons_succ, List.getElem?_cons_zero]; rfl)) (fun K hK => ?_)
                      rw [if_pos (by rfl)]
                      go_simp
                      go_at_call 21
                      refine (l8Loose_any _ T3 hT3s).mono ?_
                      rintro e w8 ⟨rfl, h8⟩
                      obtain rfl := h8.symm
                      dsimp only
                      rw [← HC3.out]
                      refine hK.out _ _ (fun _ => hHeld) ?_
                      clear hK K
                      try simp only [Act.put, List.setIfInBounds_toArray, List.set_cons_zero, List.set_cons_succ]
                      refine UpTo.next 7 (by kernel_rfl) (by (simp only [List.getElem?_toArray, List.getElem?_cons_succ, List.getElem?_cons_zero]; rfl)) (fun K hK => ?_)
                      rw [if_pos (by rfl)]
                      go_simp
                      go_at_call 21
                      refine (l8Loose_any _ T5 hT5s).mono ?_
                      rintro e w8 ⟨rfl, h8⟩
                      obtain rfl := h8.symm
                      dsimp only
                      rw [← HC5.out]
                      refine hK.out _ _ (fun _ => hHeld) ?_
                      clear hK K
                      try simp only [Act.put, List.setIfInBounds_toArray, List.set_cons_zero, List.set_cons_succ]
                      refine UpTo.next 11 (by kernel_rfl) (by (simp only [List.getElem?_toArray, List.getElem?_cons_succ, List.getElem?_cons_zero]; rfl)) (fun K hK => ?_)
                      rw [if_pos (by rfl)]
                      go_simp
                      go_at_call 21
                      refine (l8Loose_any _ T7 hT7s).mono ?_
                      rintro e w8 ⟨rfl, h8⟩
                      obtain rfl := h8.symm
                      dsimp only
                      rw [← HC7.out]
                      refine hK.out _ _ (fun _ => hHeld) ?_
                      clear hK K
                      try simp only [Act.put, List.setIfInBounds_toArray, List.set_cons_zero, List.set_cons_succ]
                      refine UpTo.take 12 [14] (v := ?_) (by (simp only [List.getElem?_toArray, List.getElem?_cons_succ, List.getElem?_cons_zero]; rfl)) (by kernel_rfl) (by kernel_rfl) (by kernel_rfl) (by kernel_rfl) (by intro _ _ _ h; cases h.1) (Or.inl ⟨by rfl, ?_⟩) hHeld ?_
                      rotate_left
                      · intro u hu
                        try dsimp only at hu
                        go_simp
                        try with_reducible rfl
                      try simp only [Act.put, List.setIfInBounds_toArray, List.set_cons_zero, List.set_cons_succ]
                      refine UpTo.next 14 (by kernel_rfl) (by (simp only [List.getElem?_toArray, List.getElem?_cons_succ, List.getElem?_cons_zero]; rfl)) (fun K hK => ?_)
                      rw [if_pos (by rfl)]
                      go_simp
                      refine hK.out _ _ (fun h => absurd rfl h) ?_
                      clear hK K
                      try simp only [Act.put, List.setIfInBounds_toArray, List.set_cons_zero, List.set_cons_succ]
                      refine UpTo.done (by kernel_rfl) ?_
                      refine ⟨rfl, ?_, AskM.made KD.out c3 c5 c7⟩
                      with_reducible rfl
                  · rintro wS hAM
                    obtain ⟨hKS, hRS, hrg, hle⟩ := hAM
                    have KS := hide hKS
                    have RS := hide hRS
                    have Hrg := hide hrg
                    have hw1S := (hKS.cell hg2l).trans hw1
                    have hSl := hRS.lt
                    have z0 := hrg 0 _ rfl
                    have z1 := hrg 1 _ rfl
                    have z2 := hrg 2 _ rfl
                    have z3 := hrg 3 _ rfl
                    have z4 := hrg 4 _ rfl
                    have z5 := hrg 5 _ rfl
                    have z6 := hrg 6 _ rfl
                    have z7 := hrg 7 _ rfl
                    simp only [Nat.zero_add] at z0 z1 z2 z3 z4 z5 z6 z7
                    clear hKS hRS hrg HH KA KD HWE
                    by_cases hA : T1.data.toList = [45]
                    · have eA : (T1.toList == [45]) = true := by rw [ByteArray.toList_eq, hA]; rfl
                      have KE := hide KS.out
                      have KB := hide (KE.out.alloc (.cells #[.slice none 0 0, .int .i64 c3, .slice none 0 0, .int .i64 c5, .int .i64 c7, .bool false, .bool false, .string ⟨#[]⟩] 59))
                      have HYb := hide (ownsRow_kept' HY.out KB.out)
                      have HBx := hide (boxS wS [.slice none 0 0, .int .i64 c3, .slice none 0 0, .int .i64 c5, .int .i64 c7, .bool false, .bool false, .string ⟨#[]⟩])
                      have hbz : H ≤ (wS.alloc (.cells #[.slice none 0 0, .int .i64 c3, .slice none 0 0, .int .i64 c5, .int .i64 c7, .bool false, .bool false, .string ⟨#[]⟩] 59)).heap.size := Nat.le_trans HhH.out.2 KB.out.size
                      go_wp2_with (at_builtin; refine wpList_append_own _ rfl (.tmp 102) (.tmp 104) 50 rfl H 59 ins (.agg #[.slice none 0 0, .int .i64 0, .slice none 0 0, .int .i64 0, .int .i64 0, .bool false, .bool false, .string ⟨#[]⟩]) 8 96 Tryz.underlying50 hq0 hq1 hq2 hq3 rfl (by decide) (.slice sa d.steps.length sc) d.steps.length ys rfl HYb.out ⟨wS.heap.size, 0, none⟩ 1 1 [.slice none 0 0, .int .i64 c3, .slice none 0 0, .int .i64 c5, .int .i64 c7, .bool false, .bool false, .string ⟨#[]⟩] rfl rfl HBx.out (oneS ⟨[], c3, [], c5, c7, false, false, ⟨#[]⟩⟩ none 0 none 0) HMs1.out HMs2.out hbz ?_; intro v7 w7 hown7 hgr7 _; obtain ⟨a7, cp7, rfl⟩ := own_slice hown7; have HT := hide (stepMore (s := ⟨[], c3, [], c5, c7, false, false, ⟨#[]⟩⟩) (aa := none) (ca := 0) rfl HR2.out HV2.out hc2 HhH.out HOw2.out HNP2.out HN2.out HK2.out HY.out HYP.out KB.out (.inl rfl) (Nat.zero_le _) rfl hown7 hgr7); have hc7 := HT.out.2.1; have hf7 := HT.out.2.2.1; have hx7 := HT.out.2.2.2; clear hc2 hfz hown7 hgr7 KB HYb HBx hbz)
                      have HSt : Hid (stepsF ln d.steps = d.steps ++ [⟨[], c3, [], c5, c7, false, false, ⟨#[]⟩⟩]) := by show _ = _; rw [HSt.out, if_pos hA]; rfl
                      go_wp2
                      go_roundw
                      case rel => exact ⟨k + 1, _, by omega, by go_num, hide HT.out.1.1, hide HT.out.1.2.1, HT.out.1.2.2.1, hide (by rw [HLs3.out, HSt.out]; exact HT.out.1.2.2.2.1), hide HT.out.1.2.2.2.2.1, hide HT.out.1.2.2.2.2.2⟩
                      case measure => simp [intOf]; omega
                    · have eA : (T1.toList == [45]) = false := by rw [ByteArray.toList_eq]; simpa using hA
                      go_wp2_with fail
                      refine (l8Cut_any wS T1 44 hT1s).mono ?_
                      rintro e w4 ⟨g4, cap4, rfl, hown4, k4⟩
                      obtain ⟨L4, hL4⟩ : ∃ L4, L4 = (cuts 44 T1.data.toList).map toB := ⟨_, rfl⟩
                      rw [show (cuts 44 T1.data.toList).length = L4.length by rw [hL4]; simp] at hown4 ⊢
                      obtain ⟨W5, hW5⟩ : ∃ W5, W5 = w4.setCell ⟨we.heap.size, 0, none⟩ (.slice (some ⟨g4, 0, none⟩) L4.length cap4) := ⟨_, rfl⟩
                      have HA5 := hide (ask_cut hL4 KS.out RS.out Hrg.out hle hown4 k4 hW5)
                      have HL4 := hide hL4
                      obtain ⟨⟨_, x4⟩, f4⟩ := (RS.out.kept k4).row.at (i := 0) (by omega)
                      have hl4 := (RS.out.kept k4).lt
                      clear z0 z1 z2 z3 z4 z5 z6 z7 hown4 k4 hw1S hL4
                      go_upto_region 20 with fail
                      rw [← hW5]
                      clear hW5 x4 f4
                      have KE := hide HA5.out.1
                      have hrg := HA5.out.2.1
                      have z0 := hrg 0 _ rfl
                      have z1 := hrg 1 _ rfl
                      have z2 := hrg 2 _ rfl
                      have z3 := hrg 3 _ rfl
                      have z4 := hrg 4 _ rfl
                      have z5 := hrg 5 _ rfl
                      have z6 := hrg 6 _ rfl
                      have z7 := hrg 7 _ rfl
                      simp only [Nat.zero_add] at z0 z1 z2 z3 z4 z5 z6 z7
                      clear hrg
                      have KB := hide (KE.out.alloc (.cells #[.slice (some ⟨g4, 0, none⟩) L4.length cap4, .int .i64 c3, .slice none 0 0, .int .i64 c5, .int .i64 c7, .bool false, .bool false, .string ⟨#[]⟩] 59))
                      have HYb := hide (ownsRow_kept' HY.out KB.out)
                      have HBx := hide (boxS W5 [.slice (some ⟨g4, 0, none⟩) L4.length cap4, .int .i64 c3, .slice none 0 0, .int .i64 c5, .int .i64 c7, .bool false, .bool false, .string ⟨#[]⟩])
                      have hbz : H ≤ (W5.alloc (.cells #[.slice (some ⟨g4, 0, none⟩) L4.length cap4, .int .i64 c3, .slice none 0 0, .int .i64 c5, .int .i64 c7, .bool false, .bool false, .string ⟨#[]⟩] 59)).heap.size := Nat.le_trans HhH.out.2 KB.out.size
                      go_wp2_with (at_builtin; refine wpList_append_own _ rfl (.tmp 102) (.tmp 104) 50 rfl H 59 ins (.agg #[.slice none 0 0, .int .i64 0, .slice none 0 0, .int .i64 0, .int .i64 0, .bool false, .bool false, .string ⟨#[]⟩]) 8 96 Tryz.underlying50 hq0 hq1 hq2 hq3 rfl (by decide) (.slice sa d.steps.length sc) d.steps.length ys rfl HYb.out ⟨W5.heap.size, 0, none⟩ 1 1 [.slice (some ⟨g4, 0, none⟩) L4.length cap4, .int .i64 c3, .slice none 0 0, .int .i64 c5, .int .i64 c7, .bool false, .bool false, .string ⟨#[]⟩] rfl rfl HBx.out (oneS ⟨L4, c3, [], c5, c7, false, false, ⟨#[]⟩⟩ (some ⟨g4, 0, none⟩) cap4 none 0) HMs1.out HMs2.out hbz ?_; intro v7 w7 hown7 hgr7 _; obtain ⟨a7, cp7, rfl⟩ := own_slice hown7; have HT := hide (stepMore (s := ⟨L4, c3, [], c5, c7, false, false, ⟨#[]⟩⟩) (aa := (some ⟨g4, 0, none⟩)) (ca := cap4) rfl HR2.out HV2.out hc2 HhH.out HOw2.out HNP2.out HN2.out HK2.out HY.out HYP.out KB.out ((HA5.out.2.2.1.keeps (K := []) (.of_kept ((Kept.refl _).alloc _)) (by simp)).mono ((Kept.refl _).alloc _).size) HA5.out.2.2.2 rfl hown7 hgr7); have hc7 := HT.out.2.1; have hf7 := HT.out.2.2.1; have hx7 := HT.out.2.2.2; clear hc2 hfz hown7 hgr7 KB HYb HBx hbz)
                      have HSt : Hid (stepsF ln d.steps = d.steps ++ [⟨L4, c3, [], c5, c7, false, false, ⟨#[]⟩⟩]) := by show _ = _; rw [HSt.out, if_neg hA, ← HL4.out]; rfl
                      go_wp2
                      go_roundw
                      case rel => exact ⟨k + 1, _, by omega, by go_num, hide HT.out.1.1, hide HT.out.1.2.1, HT.out.1.2.2.1, hide (by rw [HLs3.out, HSt.out]; exact HT.out.1.2.2.2.1), hide HT.out.1.2.2.2.2.1, hide HT.out.1.2.2.2.2.2⟩
                      case measure => simp [intOf]; omega
                · have hE3 := hE
                  clear hE
                  by_cases hE : wd ln 0 = wCase
                  · have e1 : (T0.toList == [101, 110, 100]) = false := by rw [hT0', hE]; rfl
                    have e2 : (T0.toList == [98, 97, 100]) = false := by rw [hT0', hE]; rfl
                    have e3 : (T0.toList == [97, 115, 107]) = false := by rw [hT0', hE]; rfl
                    have e4 : (T0.toList == [99, 97, 115, 101]) = true := by rw [hT0', hE]; rfl
                    have hcl : w2.cell? ⟨g, k, none⟩ = some (.string (toB ln)) := by
                      have := HN2.out.cells (g := g) rfl k (.string (toB ln)) (by simp [strsV, hkl, HLn.out])
                      rw [Addr.add_mid, Nat.zero_add] at this
                      exact this
                    have hgl2 : g < w2.heap.size := own_lt HN2.out g rfl
                    obtain ⟨TL, hTL⟩ : ∃ TL, TL = toB ln := ⟨_, rfl⟩
                    rw [← hTL] at hcl
                    have hTLs : TL.size ≤ 1100000 := by rw [hTL, toB_size]; omega
                    have HTL : Hid (TL.data.toList = ln) := by show _ = _; rw [hTL]; rfl
                    clear hTL
                    have hm0 : ¬ (lo.length : Int) < 0 := by omega
                    have hm1 : (lo.length : Int) + 1 - 1 = (lo.length : Int) := by omega
                    have hdl : d.steps.length ≤ 900001 := HDf.out.steps
                    have HMs1 : Hid (d.steps.length + 1 ≤ maxLen) := by show _ ≤ _; unfold maxLen; omega
                    have HMs2 : Hid ((d.steps.length + 1) * 96 ≤ 140737488355328) := by show _ ≤ _; omega
                    by_cases hd0 : d.steps = []
                    · have HSt : Hid (stepsF ln d.steps = d.steps) := by show _ = _; unfold stepsF; rw [if_neg (by rw [hE]; decide), if_neg (by rw [hE]; decide), if_pos hE, hd0]; rfl
                      have hz0 : ¬ (0 : Int) < (d.steps.length : Int) := by rw [hd0]; simp
                      have HT7 := hide (nodes_told (d := d) rfl HR2.out HV2.out hc2 HhH.out HOw2.out HNP2.out HLS.out HN2.out HK2.out)
                      clear hT0 hT0' hO hE hd0 hE1 hE2 hE3
                      go_wp2
                      go_roundw
                      case rel => exact ⟨k + 1, _, by omega, by go_num, hide HT7.out.1, hide HT7.out.2.1, HT7.out.2.2.1, hide (by rw [HLs3.out, HSt.out]; exact HT7.out.2.2.2.1), hide HT7.out.2.2.2.2.1, hide HT7.out.2.2.2.2.2⟩
                      case measure => simp [intOf]; omega
                    · rcases HLS.out with ⟨_, he⟩ | ⟨ss, s0, H2, xs3, aa, ca, ac, cc, he, q1, q2, q3, q4, q5, q6, q7⟩
                      · exact absurd he hd0
                      have hdl2 : d.steps.length = ss.length + 1 := by rw [he]; simp
                      have HSm : Hid (s0.Shorts 900000 900001) := HDf.out.each s0 (by rw [he]; simp)
                      have HSt : Hid (stepsF ln d.steps = ss ++ [{ s0 with cases := s0.cases ++ [⟨toB (unqL (restL 2 ln)), looseL (wd ln 1)⟩] }]) := by show _ = _; unfold stepsF; rw [if_neg (by rw [hE]; decide), if_neg (by rw [hE]; decide), if_pos hE, he, putCase_last]; rfl
                      rw [hdl2] at hcs3 HOw2 q3 hdl
                      clear he hd0 hdl2 HMs1 HMs2 HLS
                      obtain ⟨gs, rfl⟩ : ∃ gs, sa = some ⟨gs, 0, none⟩ := by
                        rcases q3.2 with ⟨_, e⟩ | ⟨g', cap', cur, e, _⟩
                        · omega
                        · injection e with e1; exact ⟨g', e1⟩
                      obtain ⟨zs, hz, hzP, _⟩ := q7
                      have hcc : w2.cell? ⟨gs, ss.length * 8 + 2, none⟩ = some (.slice ac s0.cases.length cc) := by
                        have := q3.cells (g := gs) rfl (ss.length * 8 + 2) (.slice ac s0.cases.length cc) (by rw [List.getElem?_append_right (by rw [q4.1]; omega), q4.1]; simp [StepD.cells])
                        rw [Addr.add_mid, Nat.zero_add] at this
                        exact this
                      have hgs : gs < w2.heap.size := own_lt q3 gs rfl
                      have hsl : ss.length ≤ 900000 := by omega
                      have hsc : s0.cases.length ≤ 900001 := HSm.out.cases
                      have HMc1 : Hid (s0.cases.length + 1 ≤ maxLen) := by show _ ≤ _; unfold maxLen; omega
                      have HMc2 : Hid ((s0.cases.length + 1) * 24 ≤ 140737488355328) := by show _ ≤ _; omega
                      have hm2 : (ss.length : Int) + 1 - 1 = (ss.length : Int) := by omega
                      have hm3 : (0 : Int) < (ss.length : Int) + 1 := by omega
                      have hm4 : (ss.length : Int) < (ss.length : Int) + 1 := by omega
                      have hw1 := HW2.out.word 1 (by omega)
                      obtain ⟨T1, hT1⟩ : ∃ T1, T1 = toB (wd ln 1) := ⟨_, rfl⟩
                      rw [← hT1] at hw1
                      have hT1s : T1.size ≤ 1100000 := by rw [hT1, toB_size]; have := wd_len ln 1; omega
                      have i1 : (1 : Int) < (nw : Int) + 8 := by omega
                      obtain ⟨c1, hc1⟩ : ∃ c1, c1 = looseL T1.data.toList := ⟨_, rfl⟩
                      have HC1 := hide hc1
                      have HC1b : Hid (c1 = looseL (wd ln 1)) := by show _ = _; rw [hc1, hT1]; rfl
                      have Q3 := hide q3
                      have Q4 := hide q4
                      have Q5 := hide q5
                      have QZ := hide hz
                      have QP := hide hzP
                      clear hT0 hT0' hO hE hE1 hE2 hE3 hc1 hT1 q3 q4 q5 hz hzP HSm
                      go_wp2
                      have HH : Hid (∀ u, Kept w2 u → (u.cell? ⟨gs, ss.length * 8 + 2, none⟩ = some (.slice ac s0.cases.length cc) ∧ u.cell? ⟨g, k, none⟩ = some (.string TL) ∧ u.cell? ⟨g2, 1, none⟩ = some (.string T1))) := fun u k => ⟨(k.cell hgs).trans hcc, (k.cell hgl2).trans hcl, (k.cell hg2l).trans hw1⟩
                      refine UpTo.region (by kernel_rfl) (fun u => u.cell? ⟨gs, ss.length * 8 + 2, none⟩ = some (.slice ac s0.cases.length cc) ∧ u.cell? ⟨g, k, none⟩ = some (.string TL) ∧ u.cell? ⟨g2, 1, none⟩ = some (.string T1)) 22 (HH.out _ (Kept.refl w2).drew) (fun hHeld => ?_)
                      have KD : Hid (Kept w2 w2.drew) := (Kept.refl w2).drew
                      generalize hwd : w2.drew = wd at KD hHeld ⊢
                      clear hwd
                      refine UpTo.take 0 [20, 21, 22] (v := ?_) (by (simp only [List.getElem?_toArray, List.getElem?_cons_zero]; rfl)) (by kernel_rfl) (by kernel_rfl) (by kernel_rfl) (by kernel_rfl) (by exact fun _ _ _ h => h) (Or.inl ⟨by rfl, ?_⟩) hHeld ?_
                      rotate_left
                      · intro u hu
                        try dsimp only at hu
                        go_simp
                        try with_reducible rfl
                      try simp only [Act.put, List.setIfInBounds_toArray, List.set_cons_zero, List.set_cons_succ]
                      refine UpTo.take 1 [20, 21, 22] (v := ?_) (by (simp only [List.getElem?_toArray, List.getElem?_cons_succ, List.getElem?_cons_zero]; rfl)) (by kernel_rfl) (by kernel_rfl) (by kernel_rfl) (by kernel_rfl) (by exact fun _ _ _ h => h) (Or.inl ⟨by rfl, ?_⟩) hHeld ?_
                      rotate_left
                      · intro u hu
                        try dsimp only at hu
                        go_simp
                        try with_reducible rfl
                      try simp only [Act.put, List.setIfInBounds_toArray, List.set_cons_zero, List.set_cons_succ]
                      refine UpTo.take 2 [4, 5, 6, 19, 20, 21, 22] (v := ?_) (by (simp only [List.getElem?_toArray, List.getElem?_cons_succ, List.getElem?_cons_zero]; rfl)) (by kernel_rfl) (by kernel_rfl) (by kernel_rfl) (by kernel_rfl) (by exact fun _ _ _ h => h) (Or.inl ⟨by rfl, ?_⟩) hHeld ?_
                      rotate_left
                      · intro u hu
                        try dsimp only at hu
                        go_simp
                        try with_reducible rfl
                      try simp only [Act.put, List.setIfInBounds_toArray, List.set_cons_zero, List.set_cons_succ]
                      refine UpTo.take 3 [4, 5, 6, 19, 20, 21, 22] (v := ?_) (by (simp only [List.getElem?_toArray, List.getElem?_cons_succ, List.getElem?_cons_zero]; rfl)) (by kernel_rfl) (by kernel_rfl) (by kernel_rfl) (by kernel_rfl) (by exact fun _ _ _ h => h) (Or.inl ⟨by rfl, ?_⟩) hHeld ?_
                      rotate_left
                      · intro u hu
                        try dsimp only at hu
                        go_simp
                        try with_reducible rfl
                      try simp only [Act.put, List.setIfInBounds_toArray, List.set_cons_zero, List.set_cons_succ]
                      refine UpTo.take 4 [5, 6, 19, 20, 21, 22] (v := ?_) (by (simp only [List.getElem?_toArray, List.getElem?_cons_succ, List.getElem?_cons_zero]; rfl)) (by kernel_rfl) (by kernel_rfl) (by kernel_rfl) (by kernel_rfl) (by exact fun _ _ _ h => h) (Or.inl ⟨by rfl, ?_⟩) hHeld ?_
                      rotate_left
                      · intro u hu
                        try dsimp only at hu
                        go_simp
                        try with_reducible rfl
                      try simp only [Act.put, List.setIfInBounds_toArray, List.set_cons_zero, List.set_cons_succ]
                      refine UpTo.take 5 [6, 19, 20, 21, 22] (v := ?_) (by (simp only [List.getElem?_toArray, List.getElem?_cons_succ, List.getElem?_cons_zero]; rfl)) (by kernel_rfl) (by kernel_rfl) (by kernel_rfl) (by kernel_rfl) (by exact fun _ _ _ h => h) (Or.inl ⟨by rfl, ?_⟩) hHeld ?_
                      rotate_left
                      · intro u hu
                        try dsimp only at hu
                        go_simp
                        try with_reducible rfl
                      try simp only [Act.put, List.setIfInBounds_toArray, List.set_cons_zero, List.set_cons_succ]
                      refine UpTo.take 6 [19, 20, 21, 22] (v := ?_) (by (simp only [List.getElem?_toArray, List.getElem?_cons_succ, List.getElem?_cons_zero]; rfl)) (by kernel_rfl) (by kernel_rfl) (by kernel_rfl) (by kernel_rfl) (by exact fun _ _ _ h => h) (Or.inl ⟨by rfl, ?_⟩) hHeld ?_
                      rotate_left
                      · intro u hu
                        try dsimp only at hu
                        go_simp
                        try with_reducible rfl
                      try simp only [Act.put, List.setIfInBounds_toArray, List.set_cons_zero, List.set_cons_succ]
                      refine UpTo.take 7 [9, 10, 11, 12, 16, 17, 18, 19, 20, 21, 22] (v := ?_) (by (simp only [List.getElem?_toArray, List.getElem?_cons_succ, List.getElem?_cons_zero]; rfl)) (by kernel_rfl) (by kernel_rfl) (by kernel_rfl) (by kernel_rfl) (by exact fun _ _ _ h => h) (Or.inl ⟨by rfl, ?_⟩) hHeld ?_
                      rotate_left
                      · intro u hu
                        try dsimp only at hu
                        go_simp
                        try with_reducible rfl
                      try simp only [Act.put, List.setIfInBounds_toArray, List.set_cons_zero, List.set_cons_succ]
                      refine UpTo.take 8 [9, 10, 11, 12, 16, 17, 18, 19, 20, 21, 22] (v := ?_) (by (simp only [List.getElem?_toArray, List.getElem?_cons_succ, List.getElem?_cons_zero]; rfl)) (by kernel_rfl) (by kernel_rfl) (by kernel_rfl) (by kernel_rfl) (by exact fun _ _ _ h => h) (Or.inl ⟨by rfl, ?_⟩) hHeld ?_
                      rotate_left
                      · intro u hu
                        try dsimp only at hu
                        go_simp
                        try with_reducible rfl
                      try simp only [Act.put, List.setIfInBounds_toArray, List.set_cons_zero, List.set_cons_succ]
                      refine UpTo.take 9 [10, 11, 12, 16, 17, 18, 19, 20, 21, 22] (v := ?_) (by (simp only [List.getElem?_toArray, List.getElem?_cons_succ, List.getElem?_cons_zero]; rfl)) (by kernel_rfl) (by kernel_rfl) (by kernel_rfl) (by kernel_rfl) (by exact fun _ _ _ h => h) (Or.inl ⟨by rfl, ?_⟩) hHeld ?_
                      rotate_left
                      · intro u hu
                        try dsimp only at hu
                        go_simp
                        try with_reducible rfl
                      try simp only [Act.put, List.setIfInBounds_toArray, List.set_cons_zero, List.set_cons_succ]
                      refine UpTo.take 10 [11, 12, 16, 17, 18, 19, 20, 21, 22] (v := ?_) (by (simp only [List.getElem?_toArray, List.getElem?_cons_succ, List.getElem?_cons_zero]; rfl)) (by kernel_rfl) (by kernel_rfl) (by kernel_rfl) (by kernel_rfl) (by exact fun _ _ _ h => h) (Or.inl ⟨by rfl, ?_⟩) hHeld ?_
                      rotate_left
                      · intro u hu
                        try dsimp only at hu
                        go_simp
                        try with_reducible rfl
                      try simp only [Act.put, List.setIfInBounds_toArray, List.set_cons_zero, List.set_cons_succ]
                      refine UpTo.take 13 [14, 15, 16, 17, 18, 19, 20, 21, 22] (v := ?_) (by (simp only [List.getElem?_toArray, List.getElem?_cons_succ, List.getElem?_cons_zero]; rfl)) (by kernel_rfl) (by kernel_rfl) (by kernel_rfl) (by kernel_rfl) (by exact fun _ _ _ h => h) (Or.inl ⟨by rfl, ?_⟩) hHeld ?_
                      rotate_left
                      · intro u hu
                        try dsimp only at hu
                        go_simp
                        try with_reducible rfl
                      try simp only [Act.put, List.setIfInBounds_toArray, List.set_cons_zero, List.set_cons_succ]
                      refine UpTo.take 14 [15, 16, 17, 18, 19, 20, 21, 22] (v := ?_) (by (simp only [List.getElem?_toArray, List.getElem?_cons_succ, List.getElem?_cons_zero]; rfl)) (by kernel_rfl) (by kernel_rfl) (by kernel_rfl) (by kernel_rfl) (by exact fun _ _ _ h => h) (Or.inl ⟨by rfl, ?_⟩) hHeld ?_
                      rotate_left
                      · intro u hu
                        try dsimp only at hu
                        go_simp
                        try with_reducible rfl
                      try simp only [Act.put, List.setIfInBounds_toArray, List.set_cons_zero, List.set_cons_succ]
                      refine UpTo.take 15 [16, 17, 18, 19, 20, 21, 22] (v := ?_) (by (simp only [List.getElem?_toArray, List.getElem?_cons_succ, List.getElem?_cons_zero]; rfl)) (by kernel_rfl) (by kernel_rfl) (by kernel_rfl) (by kernel_rfl) (by exact fun _ _ _ h => h) (Or.inl ⟨by rfl, ?_⟩) hHeld ?_
                      rotate_left
                      · intro u hu
                        try dsimp only at hu
                        go_simp
                        try with_reducible rfl
                      try simp only [Act.put, List.setIfInBounds_toArray, List.set_cons_zero, List.set_cons_succ]
                      refine UpTo.next 11 (by kernel_rfl) (by (simp only [List.getElem?_toArray, List.getElem?_cons_succ, List.getElem?_cons_zero]; rfl)) (fun K hK => ?_)
                      rw [if_pos (by rfl)]
                      go_simp
                      go_at_call 23
                      refine (l8Rest_any _ TL 2 (by omega) (by omega) 2 rfl hTLs).mono ?_
                      rintro e w8 ⟨⟨s9, rfl, hs9⟩, h8⟩
                      obtain rfl := h8.symm
                      dsimp only
                      have hs9s : s9.size ≤ 1100000 := by rw [hs9, toB_size]; have := restL_len TL.data.toList 2; have := size_list TL; omega
                      have HS9 := hide hs9
                      clear hs9
                      refine hK.out _ _ (fun _ => hHeld) ?_
                      clear hK K
                      try simp only [Act.put, List.setIfInBounds_toArray, List.set_cons_zero, List.set_cons_succ]
                      refine UpTo.next 12 (by kernel_rfl) (by (simp only [List.getElem?_toArray, List.getElem?_cons_succ, List.getElem?_cons_zero]; rfl)) (fun K hK => ?_)
                      rw [if_pos (by rfl)]
                      go_simp
                      go_at_call 22
                      refine (l8Unquote_any _ s9 hs9s).mono ?_
                      rintro e wu ⟨⟨sA, rfl, hsA⟩, ku⟩
                      dsimp only
                      have HSA := hide hsA
                      have KU := hide (Kept.trans KD.out ku)
                      refine hK.out _ _ (fun _ => HH.out _ KU.out) ?_
                      clear hK K hHeld hsA
                      try simp only [Act.put, List.setIfInBounds_toArray, List.set_cons_zero, List.set_cons_succ]
                      have hHeld := HH.out _ KU.out
                      refine UpTo.next 16 (by kernel_rfl) (by (simp only [List.getElem?_toArray, List.getElem?_cons_succ, List.getElem?_cons_zero]; rfl)) (fun K hK => ?_)
                      rw [if_pos (by rfl)]
                      go_simp
                      go_at_call 21
                      refine (l8Loose_any _ T1 hT1s).mono ?_
                      rintro e w8 ⟨rfl, h8⟩
                      obtain rfl := h8.symm
                      dsimp only
                      rw [← HC1.out]
                      refine hK.out _ _ (fun _ => hHeld) ?_
                      clear hK K
                      try simp only [Act.put, List.setIfInBounds_toArray, List.set_cons_zero, List.set_cons_succ]
                      refine UpTo.take 17 [18, 19, 20, 21, 22] (v := ?_) (by (simp only [List.getElem?_toArray, List.getElem?_cons_succ, List.getElem?_cons_zero]; rfl)) (by kernel_rfl) (by kernel_rfl) (by kernel_rfl) (by kernel_rfl) (by exact fun _ _ _ h => h) (Or.inl ⟨by rfl, ?_⟩) hHeld ?_
                      rotate_left
                      · intro u hu
                        try dsimp only at hu
                        go_simp
                        try with_reducible rfl
                      try simp only [Act.put, List.setIfInBounds_toArray, List.set_cons_zero, List.set_cons_succ]
                      refine UpTo.next 18 (by kernel_rfl) (by (simp only [List.getElem?_toArray, List.getElem?_cons_succ, List.getElem?_cons_zero]; rfl)) (fun K hK => ?_)
                      rw [if_pos (by rfl)]
                      go_simp
                      have KB := hide (KU.out.alloc (.cells #[.string sA, .int .i64 c1] 61))
                      have HNw := hide (boxC wu [.string sA, .int .i64 c1])
                      refine hK.out _ _ (fun _ => HH.out _ KB.out) ?_
                      clear hK K hHeld
                      try simp only [Act.put, List.setIfInBounds_toArray, List.set_cons_zero, List.set_cons_succ]
                      have hHeld := HH.out _ KB.out
                      generalize hwb : wu.alloc (.cells #[.string sA, .int .i64 c1] 61) = wb at HNw KB hHeld ⊢
                      clear hwb
                      have HYb := hide (ownsRow_kept' QZ.out KB.out)
                      refine UpTo.next 19 (by kernel_rfl) (by (simp only [List.getElem?_toArray, List.getElem?_cons_succ, List.getElem?_cons_zero]; rfl)) (fun K hK => ?_)
                      rw [if_pos (by rfl)]
                      refine wp_append_own _ (.tmp 120) (.tmp 132) 57 rfl H2 61 inc (.agg #[.string ByteArray.empty, .int .i64 0]) 2 24 Tryz.underlying57 hp0 hp1 hp2 hp3 rfl (by decide) (.slice ac s0.cases.length cc) s0.cases.length zs rfl HYb.out ⟨wu.heap.size, 0, none⟩ 1 1 [.string sA, .int .i64 c1] rfl rfl HNw.out (oneC sA c1) HMc1.out HMc2.out (Nat.le_trans q2 KB.out.size) ?_
                      intro v7 w7 hown7 hgr7 _
                      obtain ⟨a7, cp7, rfl⟩ := own_slice hown7
                      have HT := hide (caseMore (c := ⟨sA, c1⟩) rfl HR2.out HV2.out hc2 HhH.out HOw2.out HNP2.out HN2.out HK2.out q1 q2 Q3.out Q4.out Q5.out q6 QZ.out QP.out KB.out hown7 hgr7)
                      have hc7 := HT.out.2.2.1
                      have hf7 := HT.out.2.2.2.1
                      have hx7 := HT.out.2.2.2.2
                      have hf6 := HT.out.1
                      have kg : Keeps wb.heap.size [61] wb w7 := .of_grown HYb.out hgr7 (.inr (by simp))
                      obtain ⟨curS, hcS⟩ := own_blk (ownsRow_kept' Q3.out KB.out)
                      obtain ⟨curW, hcW⟩ := (HW2.out.kept KB.out).blk
                      obtain ⟨curN, hcN⟩ := own_blk (ownsRow_kept' HN2.out KB.out)
                      have hS7 := And.intro ((cell_keeps hcS kg (heap_lt hcS) (by decide) (ss.length * 8 + 2)).trans hHeld.1) (And.intro ((cell_keeps hcN kg (heap_lt hcN) (by decide) k).trans hHeld.2.1) ((cell_keeps hcW kg (heap_lt hcW) (by decide) 1).trans hHeld.2.2))
                      clear kg hcS hcW hcN hown7 hgr7 hc2 hfz
                      refine hK.out _ _ (fun _ => hS7) ?_
                      clear hK K hHeld
                      have hHeld := hS7
                      clear hS7
                      try simp only [Act.put, List.setIfInBounds_toArray, List.set_cons_zero, List.set_cons_succ]
                      refine UpTo.take 20 [21, 22] (v := ?_) (by (simp only [List.getElem?_toArray, List.getElem?_cons_succ, List.getElem?_cons_zero]; rfl)) (by kernel_rfl) (by kernel_rfl) (by kernel_rfl) (by kernel_rfl) (by exact fun _ _ _ h => h) (Or.inl ⟨by rfl, ?_⟩) hHeld ?_
                      rotate_left
                      · intro u hu
                        try dsimp only at hu
                        go_simp
                        try with_reducible rfl
                      try simp only [Act.put, List.setIfInBounds_toArray, List.set_cons_zero, List.set_cons_succ]
                      refine UpTo.take 21 [22] (v := ?_) (by (simp only [List.getElem?_toArray, List.getElem?_cons_succ, List.getElem?_cons_zero]; rfl)) (by kernel_rfl) (by kernel_rfl) (by kernel_rfl) (by kernel_rfl) (by exact fun _ _ _ h => h) (Or.inl ⟨by rfl, ?_⟩) hHeld ?_
                      rotate_left
                      · intro u hu
                        try dsimp only at hu
                        go_simp
                        try with_reducible rfl
                      try simp only [Act.put, List.setIfInBounds_toArray, List.set_cons_zero, List.set_cons_succ]
                      refine UpTo.next 22 (by kernel_rfl) (by (simp only [List.getElem?_toArray, List.getElem?_cons_succ, List.getElem?_cons_zero]; rfl)) (fun K hK => ?_)
                      rw [if_pos (by rfl)]
                      go_simp
                      refine hK.out _ _ (fun h => absurd rfl h) ?_
                      clear hK K
                      try simp only [Act.put, List.setIfInBounds_toArray, List.set_cons_zero, List.set_cons_succ]
                      refine UpTo.done (by kernel_rfl) ?_
                      have HSt : Hid (stepsF ln d.steps = ss ++ [{ s0 with cases := s0.cases ++ [⟨sA, c1⟩] }]) := by show _ = _; rw [HSt.out, HSA.out, HS9.out, HC1b.out]; rw [toB_list, HTL.out]
                      go_wp2
                      go_roundw
                      case rel => exact ⟨k + 1, _, by omega, by go_num, hide HT.out.2.1.1, hide HT.out.2.1.2.1, HT.out.2.1.2.2.1, hide (by rw [HLs3.out, HSt.out]; exact HT.out.2.1.2.2.2.1), hide HT.out.2.1.2.2.2.2.1, hide HT.out.2.1.2.2.2.2.2⟩
                      case measure => simp [intOf]; omega
                  · have hE4 := hE
                    clear hE
                    exact absurd ⟨hE1, hE2, hE3, hE4⟩ hO
    · obtain rfl : k = (cuts 10 l).length := by omega
      have HL : Hid (readK l (cuts 10 l).length = readL l) := by show _ = _; unfold readK readL; rw [List.take_length]
      obtain ⟨a, cp, rfl, hNo⟩ := HM.out.nodes
      have hMs := hide (HM.out.setVar (o := 0) (u := .slice a (readK l (cuts 10 l).length).length cp) HR.out)
      have HRg := hide (World.rangeAt_setCells_same wr w.heap.size 0 [.slice a (readK l (cuts 10 l).length).length cp] (HR.out.row.there (o := 0) (m := 1) (Nat.le_refl _)))
      have HKf := hide (Kept.setCells (Nat.le_refl _) [.slice a (readK l (cuts 10 l).length).length cp] 0 HK.out)
      obtain ⟨⟨_, x0⟩, g0⟩ := HR.out.row.at (i := 0) (by omega)
      have hvl := HV.out.lt
      clear hNo
      go_wp2
      refine bodyPost_ret_cell [.slice a (readK l (cuts 10 l).length).length cp] _ Tryz.results9 rfl HRg.out Tryz.underlying24 rfl Tryz.sizeWebI rfl ⟨⟨a, cp, by rw [← HL.out], w.heap.size + 2, ?_⟩, HKf.out⟩
      rw [← HL.out]
      exact hMs.out

end Go.Proofs.YtinkfgkjdaaeaaaGreatDoor
