import Derived.Test.YtlllckfifkgcnaaDoorDCopy

/-
  THE WALK over spec.l1Copy, itself.
-/
namespace Go.Proofs.YtlllckfifkgcnaaDoor
open Go.RowKit

/-- What l1Copy gives. -/
def Copied (w w' : World) (cost : Int) (L : List StepD) (e : Ending) : Prop :=
  ∃ (v : Value) (xs : List Value), e = .returned (.agg #[.int .i64 cost, v]) ∧ w'.ownsRow w.heap.size 50 8 v L.length xs ∧ PackedO w' w.heap.size xs L ∧ Kept w w'

theorem SBox.copied (w : World) (s : StepD) (aa : Option Addr) (ca : Nat) (ac : Option Addr) (cc : Nat) : SBox (w.alloc (.cells #[.slice aa s.asks.length ca, .int .i64 s.on, .slice ac s.cases.length cc, .int .i64 s.els, .int .i64 s.fall, .bool s.fin, .bool s.bad, .string s.give] 50)) w.heap.size (.slice aa s.asks.length ca) (.slice ac s.cases.length cc) s := by
  have hr := range_new w #[.slice aa s.asks.length ca, .int .i64 s.on, .slice ac s.cases.length cc, .int .i64 s.els, .int .i64 s.fall, .bool s.fin, .bool s.bad, .string s.give] 50
  have hc : ∀ j v, (#[.slice aa s.asks.length ca, .int .i64 s.on, .slice ac s.cases.length cc, .int .i64 s.els, .int .i64 s.fall, .bool s.fin, .bool s.bad, .string s.give] : Array Value).toList[j]? = some v → (w.alloc (.cells #[.slice aa s.asks.length ca, .int .i64 s.on, .slice ac s.cases.length cc, .int .i64 s.els, .int .i64 s.fall, .bool s.fin, .bool s.bad, .string s.give] 50)).cell? ⟨w.heap.size, j, none⟩ = some v := fun j v hv => by
    have := hr j v hv
    rw [Nat.zero_add] at this
    exact this
  exact ⟨RowT.made w _ _, hc 0 _ rfl, hc 1 _ rfl, hc 2 _ rfl, hc 3 _ rfl, hc 4 _ rfl, hc 5 _ rfl, hc 6 _ rfl, hc 7 _ rfl⟩

theorem CS1.mk' {wr W1 w1 w2 : World} {s : StepD} {v0 v1 v2 : Value} (k1 : Kept wr W1) (hb : SBox W1 wr.heap.size v0 v2 s) {n0 : Nat} {xs0 : List Value} {u0 : Value} (k2 : Kept W1 w1) (hO0 : w1.ownsRow wr.heap.size 9 1 u0 n0 xs0) (hg : w1.grownBy w2 u0.ownBlock)
    (hO : w2.ownsRow wr.heap.size 9 1 v1 s.asks.length (s.asks.map Value.string)) : CS1 wr (w2.setCell ⟨wr.heap.size, 0, none⟩ v1) s v1 v2 := by
  have hb2 : SBox w2 wr.heap.size v0 v2 s := (hb.kept k2).same (SameKind.of_grown hO0 hg) (by decide)
  exact ⟨(kept_of_grown (k1.trans k2) (Nat.le_refl _) hO0 hg).setCell (Nat.le_refl _) _, hb2.asks v1 s.asks, owns_kept hO (hb2.row.same _) (by decide)⟩
theorem CS1.box {wr W1 w1 w2 : World} {s : StepD} {v0 v2 : Value} (hb : SBox W1 wr.heap.size v0 v2 s) {n0 : Nat} {xs0 : List Value} {u0 : Value} (k2 : Kept W1 w1) (hO0 : w1.ownsRow wr.heap.size 9 1 u0 n0 xs0) (hg : w1.grownBy w2 u0.ownBlock) : SBox w2 wr.heap.size v0 v2 s :=
  (hb.kept k2).same (SameKind.of_grown hO0 hg) (by decide)
theorem CS2.mk' {wr W1 w1 w2 : World} {s : StepD} {v1 v0 v2 : Value} (h : CS1 wr W1 s v1 v0) {n0 : Nat} {xs0 : List Value} {u0 : Value} (k2 : Kept W1 w1) (hO0 : w1.ownsRow wr.heap.size 62 2 u0 n0 xs0) (hg : w1.grownBy w2 u0.ownBlock)
    (hO : w2.ownsRow wr.heap.size 62 2 v2 s.cases.length (dCaseCells s.cases)) : CS2 wr (w2.setCell ⟨wr.heap.size, 2, none⟩ v2) s v1 v2 := by
  obtain ⟨h1, h2, h3⟩ := h
  have hk := SameKind.of_grown hO0 hg
  have hb2 : SBox w2 wr.heap.size v1 v0 s := (h2.kept k2).same hk (by decide)
  exact ⟨⟨(kept_of_grown (h1.trans k2) (Nat.le_refl _) hO0 hg).setCell (Nat.le_refl _) _, hb2.cases v2 s.cases, owns_kept (owns_kept (ownsRow_kept' h3 k2) hk (by decide)) (hb2.row.same _) (by decide)⟩, owns_kept hO (hb2.row.same _) (by decide)⟩
theorem CS2.box {wr W1 w1 w2 : World} {s : StepD} {v1 v0 : Value} (h : CS1 wr W1 s v1 v0) {n0 : Nat} {xs0 : List Value} {u0 : Value} (k2 : Kept W1 w1) (hO0 : w1.ownsRow wr.heap.size 62 2 u0 n0 xs0) (hg : w1.grownBy w2 u0.ownBlock) : SBox w2 wr.heap.size v1 v0 s :=
  (h.2.1.kept k2).same (SameKind.of_grown hO0 hg) (by decide)
theorem grown_refl (w : World) (r : Option Nat) : w.grownBy w r := ⟨rfl, rfl, rfl, Nat.le_refl _, fun _ _ _ => rfl⟩
theorem emptyRow (w : World) {base : Nat} (hb : base ≤ w.heap.size) (t : TypeId) (size : Nat) : (w.alloc (.cells #[] t)).ownsRow base t size (.slice (some ⟨w.heap.size, 0, none⟩) 0 0) 0 [] :=
  World.ownsRow_made w #[] 0 hb (Nat.zero_le _) (by simp)

set_option maxRecDepth 100000 in
set_option maxHeartbeats 3200000 in
theorem copy_any (w : World) (cost : Int) (a : Option Addr) (cap : Nat) (l : List StepD) (hl : l.length ≤ 1000) {mN : Nat} (hmN : mN ≤ 1000) (hs : ∀ s ∈ l, s.TinyN mN) (hS : StepsN w a l) :
    Calls Tryd.prog 34 #[.agg #[.int .i64 cost, .slice a l.length cap]] w fun e w' => Copied w w' cost l e := by
  go_enter Tryd.func34, Tryd.ntmps34
  go_wp2
  have k0 : Kept w (((w.alloc (.cells #[.int .i64 cost, .slice a l.length cap] 25)).alloc (.cells #[.int .i64 0, .slice none 0 0] 25)).alloc (.cells #[.int .i64 cost, .slice none 0 0] 25)) := (((Kept.refl _).alloc _).alloc _).alloc _
  go_loopg [4] l.length (fun g i wr => ∃ (k : Nat) (v : Value) (xs : List Value), k + g = l.length ∧ i = .int .i64 k ∧ CSt w wr a l.length cap cost v (l.take k) xs)
  case atStart =>
    have hO := range_new ((w.alloc (.cells #[.int .i64 cost, .slice a l.length cap] 25)).alloc (.cells #[.int .i64 0, .slice none 0 0] 25)) #[.int .i64 cost, .slice none 0 0] 25
    simp only [World.size_alloc] at hO
    refine ⟨0, .slice none 0 0, [], by omega, rfl, ⟨k0, ?_, ?_, ?_, ?_, hO 0 _ rfl, hO 1 _ rfl, World.ownsRow_nil _ _ _ _, PackedO.nil _ _⟩⟩
    · exact RowT.kept (RowT.made w #[.int .i64 cost, .slice a l.length cap] 25) (((Kept.refl _).alloc _).alloc _)
    · rw [Kept.cell (w := w.alloc (.cells #[.int .i64 cost, .slice a l.length cap] 25)) (((Kept.refl _).alloc _).alloc _) (by simp)]
      exact range_new w _ _ 1 _ rfl
    · exact RowT.kept (by have := RowT.made (w.alloc (.cells #[.int .i64 cost, .slice a l.length cap] 25)) #[.int .i64 0, .slice none 0 0] 25; simpa using this) ((Kept.refl _).alloc _)
    · have := RowT.made ((w.alloc (.cells #[.int .i64 cost, .slice a l.length cap] 25)).alloc (.cells #[.int .i64 0, .slice none 0 0] 25)) #[.int .i64 cost, .slice none 0 0] 25
      simpa using this
  case round =>
    clear k0
    obtain ⟨k, v, xs, hk, rfl, hC⟩ := hrel
    have HC := hide hC
    have p1 := hC.arg
    have zp := hC.argr.lt
    clear hC
    by_cases hlt : k < l.length
    · obtain ⟨b, o, aa, ca, ac, cc, rfl, hb, hrg, hA, hCs, hna, hnc⟩ := (hS.kept HC.out.kept) k hlt
      have hty := hs (l.getD k StepD.zero) (by simp [List.getD, hlt])
      obtain ⟨s, hsd⟩ : ∃ s, s = l.getD k StepD.zero := ⟨_, rfl⟩
      rw [← hsd] at hrg hA hCs hty hna hnc
      have HSd := hide hsd
      clear hsd
      have c0 := hrg 0 _ rfl
      have c1 := hrg 1 _ rfl
      have c2 := hrg 2 _ rfl
      have c3 := hrg 3 _ rfl
      have c4 := hrg 4 _ rfl
      have c5 := hrg 5 _ rfl
      have c6 := hrg 6 _ rfl
      have c7 := hrg 7 _ rfl
      rw [Nat.add_zero] at c0
      clear hrg
      have HA := hide hA
      have HCs := hide hCs
      have HB0 := hide (SBox.copied wr s aa ca ac cc)
      have HK0 : Hid (Kept wr (wr.alloc (.cells #[.slice aa s.asks.length ca, .int .i64 s.on, .slice ac s.cases.length cc, .int .i64 s.els, .int .i64 s.fall, .bool s.fin, .bool s.bad, .string s.give] 50))) := (Kept.refl _).alloc _
      have hal := hty.asks
      have hcl := hty.cases
      have HTy := hide hty
      clear hA hCs hty
      have hlt' : (k : Int) < l.length := by omega
      go_upto_region 6 with fail
      obtain ⟨W1, hW1⟩ : ∃ W1, W1 = wr.alloc (.cells #[.slice aa s.asks.length ca, .int .i64 s.on, .slice ac s.cases.length cc, .int .i64 s.els, .int .i64 s.fall, .bool s.fin, .bool s.bad, .string s.give] 50) := ⟨_, rfl⟩
      rw [← hW1] at HB0 HK0 ⊢
      clear hW1 c0 c1 c2 c3 c4 c5 c6 c7 p1
      have y0 := HB0.out.c0
      have zs := HB0.out.row.lt
      have hW1s := HK0.out.size
      obtain ⟨_, f0⟩ := HB0.out.cell (o := 0) (by omega)
      obtain ⟨ia, ha0, ha1, ha2, ha3⟩ := dInfo_parts Tryd.dInfoStr
      obtain ⟨ic, hc0, hc1, hc2, hc3⟩ := dInfo_parts Tryd.dInfoCase
      have HE := hide (emptyRow W1 (base := wr.heap.size) HK0.out.size 9 1)
      have HKE : Hid (Kept W1 (W1.alloc (.cells #[] 9))) := (Kept.refl _).alloc _
      go_cut [5] from 9 to 36 (fun s5 wx => ∃ v1, s5 = .pointer (some ⟨wr.heap.size, 0, none⟩) ∧ CS1 wr wx s v1 (.slice ac s.cases.length cc))
      case first =>
        rcases aa with _ | ad
        · obtain ⟨hn0, hca0⟩ := hna rfl
          have HNil : Hid (s.asks = []) := List.eq_nil_of_length_eq_zero hn0
          rw [hn0, hca0] at y0
          clear hna hnc hal hn0 hca0
          go_wp2_with fail
          go_meet
          rw [← World.setCell_alloc_past _ _ _ _ zs]
          exact ⟨_, rfl, CS1.mk' HK0.out HB0.out HKE.out HE.out (grown_refl _ _) (by rw [HNil.out]; exact HE.out)⟩
        · have HNw := hide (d_strs_news ((HA.out.kept HK0.out).kept HKE.out))
          have hbs : wr.heap.size ≤ (W1.alloc (.cells #[] 9)).heap.size := (HK0.out.trans HKE.out).size
          clear hna hnc
          go_wp2_with (at_builtin; refine wpList_append_own _ rfl (.tmp 21) (.tmp 23) 32 rfl wr.heap.size 9 ia _ 1 16 Tryd.underlying32 ha0 ha1 ha2 ha3 rfl (by decide) (.slice (some ⟨W1.heap.size, 0, none⟩) 0 0) 0 [] rfl HE.out ad s.asks.length ca (s.asks.map Value.string) rfl (by simp) HNw.out (d_strs_one _) (by unfold maxLen; omega) (by omega) hbs ?_; intro v1 w2 hown1 hgr1 _; rw [Nat.zero_add, List.nil_append] at hown1; obtain ⟨av1, cv1, rfl⟩ := own_slice hown1; have hb2 := CS1.box HB0.out HKE.out HE.out hgr1; have y2 := hb2.c0; have z2 := hb2.row.lt; obtain ⟨_, f2⟩ := hb2.cell (o := 0) (by omega); have HO1 := hide hown1; have HG1 := hide hgr1; clear hown1 hgr1 hb2)
          go_meet
          exact ⟨_, rfl, CS1.mk' HK0.out HB0.out HKE.out HE.out HG1.out HO1.out⟩
      case rest =>
        clear HE HKE y0 zs f0 hW1s
        obtain ⟨v1, rfl, h1⟩ := hcut
        obtain ⟨wd, rfl⟩ : ∃ wd, wd = wc := ⟨_, rfl⟩
        have H1 := hide h1
        clear h1 HB0 HK0
        have y2 := H1.out.2.1.c2
        have zs := H1.out.2.1.row.lt
        obtain ⟨_, f2⟩ := H1.out.2.1.cell (o := 2) (by omega)
        have HE := hide (emptyRow wd (base := wr.heap.size) H1.out.1.size 62 2)
        have HKE : Hid (Kept wd (wd.alloc (.cells #[] 62))) := (Kept.refl _).alloc _
        go_upto_region 7 with fail
        go_cut [5] from 9 to 36 (fun s5 wx => ∃ v2, s5 = .pointer (some ⟨wr.heap.size, 0, none⟩) ∧ CS2 wr wx s v1 v2)
        case first =>
          rcases ac with _ | ad
          · obtain ⟨hn0, hca0⟩ := hnc rfl
            have HNil : Hid (s.cases = []) := List.eq_nil_of_length_eq_zero hn0
            rw [hn0, hca0] at y2
            clear hna hnc hcl hn0 hca0
            go_wp2_with fail
            go_meet
            rw [← World.setCell_alloc_past _ _ _ _ zs]
            exact ⟨_, rfl, CS2.mk' H1.out HKE.out HE.out (grown_refl _ _) (by rw [HNil.out]; exact HE.out)⟩
          · have HNw := hide (d_cases_news ((HCs.out.kept H1.out.1).kept HKE.out))
            have hbs : wr.heap.size ≤ (wd.alloc (.cells #[] 62)).heap.size := (H1.out.1.trans HKE.out).size
            clear hna hnc
            go_wp2_with (at_builtin; refine wpList_append_own _ rfl (.tmp 26) (.tmp 28) 48 rfl wr.heap.size 62 ic _ 2 24 Tryd.underlying48 hc0 hc1 hc2 hc3 rfl (by decide) (.slice (some ⟨wd.heap.size, 0, none⟩) 0 0) 0 [] rfl HE.out ad s.cases.length cc (dCaseCells s.cases) rfl (dCaseCells_length _) HNw.out (dCaseCells_one _) (by unfold maxLen; omega) (by omega) hbs ?_; intro v2 w2 hown1 hgr1 _; rw [Nat.zero_add, List.nil_append] at hown1; obtain ⟨av1, cv1, rfl⟩ := own_slice hown1; have hb2 := CS2.box H1.out HKE.out HE.out hgr1; have y2 := hb2.c2; have z2 := hb2.row.lt; obtain ⟨_, f2⟩ := hb2.cell (o := 2) (by omega); have HO1 := hide hown1; have HG1 := hide hgr1; clear hown1 hgr1 hb2)
            go_meet
            exact ⟨_, rfl, CS2.mk' H1.out HKE.out HE.out HG1.out HO1.out⟩
        case rest =>
          clear HE HKE y2 zs f2 H1
          obtain ⟨v2, rfl, h2⟩ := hcut
          obtain ⟨⟨k4, hb4, hO1⟩, hO2⟩ := h2
          obtain ⟨aa1, ca1, rfl⟩ := own_slice hO1
          obtain ⟨ac1, cc1, rfl⟩ := own_slice hO2
          have HOS : Hid (OStep wc wr.heap.size (s.cells aa1 ca1 ac1 cc1) s) := ⟨aa1, ca1, ac1, cc1, rfl, hO1, hO2⟩
          have HB4 := hide hb4
          have HK4 := hide k4
          clear hO1 hO2
          have c0 := hb4.c0
          have c1 := hb4.c1
          have c2 := hb4.c2
          have c3 := hb4.c3
          have c4 := hb4.c4
          have c5 := hb4.c5
          have c6 := hb4.c6
          have c7 := hb4.c7
          have cz := hb4.row.lt
          clear hb4 k4
          have hC4 := HC.out.of_kept HK4.out
          obtain ⟨av0, cv0, rfl⟩ := own_slice HC.out.own
          have o1 := hC4.o1
          have oz := hC4.out.lt
          have k1 : Kept wc (wc.alloc (.cells #[.slice aa1 s.asks.length ca1, .int .i64 s.on, .slice ac1 s.cases.length cc1, .int .i64 s.els, .int .i64 s.fall, .bool s.fin, .bool s.bad, .string s.give] 50)) := (Kept.refl _).alloc _
          have HK1 := hide k1
          have HOw := hide (hC4.of_kept k1).own
          have HBz := hide (hC4.of_kept k1).kept.size
          have hnews : ∀ j u, (s.cells aa1 ca1 ac1 cc1)[j]? = some u → (wc.alloc (.cells #[.slice aa1 s.asks.length ca1, .int .i64 s.on, .slice ac1 s.cases.length cc1, .int .i64 s.els, .int .i64 s.fall, .bool s.fin, .bool s.bad, .string s.give] 50)).cell? ((⟨wc.heap.size, 0, none⟩ : Addr).add j) = some u := fun j u hu => by rw [Addr.add_mid]; exact range_new wc #[.slice aa1 s.asks.length ca1, .int .i64 s.on, .slice ac1 s.cases.length cc1, .int .i64 s.els, .int .i64 s.fall, .bool s.fin, .bool s.bad, .string s.give] 50 j u hu
          have HNw := hide hnews
          obtain ⟨is, hs0, hs1, hs2, hs3⟩ := dInfo_parts Tryd.dInfoStep
          have htl : (l.take k).length = k := by rw [List.length_take]; omega
          rw [htl] at o1 HOw HC
          have hkb : k ≤ 1000 := by omega
          have HTl := hide htl
          have HKK := hide (HK4.out.trans k1)
          clear k1 hnews hC4 hna hnc htl
          go_wp2_with (at_builtin; refine wpList_append_own _ rfl (.tmp 32) (.tmp 34) 23 rfl w.heap.size 50 is _ 8 96 Tryd.underlying23 hs0 hs1 hs2 hs3 rfl (by decide) (.slice av0 k cv0) k xs rfl HOw.out ⟨wc.heap.size, 0, none⟩ 1 1 (s.cells aa1 ca1 ac1 cc1) rfl rfl HNw.out (d_step_one s aa1 ca1 ac1 cc1) (by unfold maxLen; omega) (by omega) HBz.out ?_; intro v' w2 hown2 hgr _; have hb2 := HC.out.pushRow HKK.out hgr; have z2 := hb2.2.lt; obtain ⟨⟨_, y2⟩, f2⟩ := hb2.2.row.at (i := 1) (by omega); have HO2 := hide hown2; obtain ⟨av, cv, rfl⟩ := own_slice hown2; have HG2 := hide hgr; clear hown2 hgr hb2)
          go_roundg (gk - 1)
          case measure => omega
          case rel =>
            have et : l.take (k + 1) = l.take k ++ [s] := by
              rw [List.take_succ_eq_append_getElem hlt, HSd.out]
              simp [List.getD, hlt]
            refine ⟨k + 1, .slice av (k + 1) cv, xs ++ s.cells aa1 ca1 ac1 cc1, by omega, by go_num, ?_⟩
            rw [et]
            exact HC.out.push HK4.out HK1.out HOS.out (by rw [HTl.out]; exact HO2.out) HG2.out
    · have hkl : k = l.length := by omega
      subst hkl
      rw [List.take_length] at HC
      have o0 := HC.out.o0
      obtain ⟨av, cv, rfl⟩ := own_slice HC.out.own
      have o1 := HC.out.o1
      have oz := HC.out.out.lt
      obtain ⟨⟨_, x0⟩, g0⟩ := HC.out.res.row.at (i := 0) (by omega)
      obtain ⟨⟨_, x1⟩, g1⟩ := HC.out.res.row.at (i := 1) (by omega)
      have rz := HC.out.res.lt
      go_wp2
      have hR := World.rangeAt_setCells_same wr (w.heap.size + 1) 0 [.int .i64 cost, .slice av l.length cv] (HC.out.res.row.there (o := 0) (m := 2) (Nat.le_refl _))
      have hk1 := HC.out.res.same (o := 0) (.int .i64 cost)
      have hk2 := (HC.out.res.set (o := 0) (.int .i64 cost)).same (o := 1) (.slice av l.length cv)
      have hk := hk1.trans hk2
      exact bodyPost_ret_cell [.int .i64 cost, .slice av l.length cv] _ Tryd.results34 rfl hR Tryd.underlying25 rfl Tryd.dSizeAction rfl ⟨_, xs, rfl, owns_kept HC.out.own hk (by decide), HC.out.pack.same hk (by decide) (by decide), (HC.out.kept.setCell (by simp) _).setCell (by simp) _⟩

end Go.Proofs.YtlllckfifkgcnaaDoor
