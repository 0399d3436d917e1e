import Derived.Test.YtghipdfemoofhaaGreatDoorKVWhy
import Derived.Test.YtghipdfemoofhaaGreatDoorKBGood
namespace Go.Proofs.YtghipdfemoofhaaGreatDoor
open Go.RowKit
theorem below_cut (b : ByteArray) : (belowB ++ b).extract 6 (6 + b.size) = b := ByteArray.extract_append_eq_right rfl rfl
def WhySp (W : Acts) (σ : Env) (name : ByteArray) (L D : List ByteArray) (nm : ByteArray) : Prop := (D = [] ∧ nm = name) ∨ (D ≠ [] ∧ ∃ rest, L = D ++ rest ∧ WhyC W σ nm rest)
theorem WhySp.cases {W : Acts} {σ : Env} {name : ByteArray} {L D : List ByteArray} {nm : ByteArray} (hX : WhyX W σ name L) (h : WhySp W σ name L D nm) :
    (σ nm = none ∧ ((D = [] ∧ L = []) ∨ (D ≠ [] ∧ L = D ++ [nm]))) ∨ ∃ r, σ nm = some r ∧ ((¬ (r.over = true ∧ r.fail = true) ∧ L = D) ∨
      (r.over = true ∧ r.fail = true ∧ ∃ A, W nm = some A ∧ ((((stepOf A r.at').fin = true ∨ r.text = spentB) ∧ L = D ++ [nm]) ∨
        ∃ b l, (stepOf A r.at').fin = false ∧ r.text = belowB ++ b ∧ L = (D ++ [nm]) ++ l ∧ WhyC W σ b l))) := by
  rcases h with ⟨rfl, rfl⟩ | ⟨hD, rest, hL, hC⟩
  · rcases hX with ⟨h1, h2⟩ | ⟨r, h1, h2, h3⟩ | ⟨r, h1, h2, h3, h4⟩
    · exact .inl ⟨h1, .inl ⟨rfl, h2⟩⟩
    · exact .inr ⟨r, h1, .inl ⟨h2, h3⟩⟩
    · refine .inr ⟨r, h1, .inr ⟨h2, h3, ?_⟩⟩
      cases h4 with
      | gone h => rw [h1] at h; cases h
      | own h _ _ hA he =>
        rw [h1] at h
        cases h
        exact ⟨_, hA, .inl ⟨he, rfl⟩⟩
      | more h _ _ hA hn ht hb hc =>
        rw [h1] at h
        cases h
        exact ⟨_, hA, .inr ⟨_, _, hn, ht, rfl, hc⟩⟩
  · cases hC with
    | gone h => exact .inl ⟨h, .inr ⟨hD, hL⟩⟩
    | own h ho hf hA he => exact .inr ⟨_, h, .inr ⟨ho, hf, _, hA, .inl ⟨he, hL⟩⟩⟩
    | more h ho hf hA hn ht hb hc => exact .inr ⟨_, h, .inr ⟨ho, hf, _, hA, .inr ⟨_, _, hn, ht, by rw [hL]; simp, hc⟩⟩⟩
theorem RBox.grown {w w' : World} {b : Nat} {r : RunX} {xa : Option Addr} {xc : Nat} (h : RBox w b r xa xc) {base n : Nat} {v : Value} {xs : List Value} (ho : w.ownsRow base 9 1 v n xs) (g : w.grownBy w' v.ownBlock) : RBox w' b r xa xc := by
  have hb : w'.heap[b]? = w.heap[b]? := g.block b h.row.lt (fun e => type_ne h.row.type (owns_type ho e.symm) (by decide) rfl)
  exact ⟨h.row.block hb, fun j v hv => (World.cell?_of_block (w := w) hb).trans (h.rng j v hv)⟩
def WhyEnd (webl : List NodeD) (roots : List ByteArray) (sl : List RunX) (name : ByteArray) (w' : World) (e : Ending) : Prop :=
  ∃ (da : Option Addr) (c : Nat) (ns : List ByteArray), e = .returned (.slice da ns.length c) ∧ TStrs w' 9 da ns ∧ WhyAns webl roots sl name ns
set_option maxRecDepth 100000 in
set_option maxHeartbeats 6400000 in
theorem specWhy_any (w : World) (a : Option Addr) (cap : Nat) (webl : List NodeD) (ra : Option Addr) (rc : Nat) (roots : List ByteArray) (d : Option Addr) (dc : Nat) (sl : List RunX) (name : ByteArray) (hwl : webl.length ≤ 1048576) (hft : ∀ y ∈ webl, y.Fits) (hrl : roots.length ≤ 1048576) (hrs : ∀ s ∈ roots, s.size ≤ maxLen) (hsl : sl.length ≤ 1048576) (hst : ∀ x ∈ sl, x.texts.length ≤ 1048576)
    (hN : Nodes w a webl) (hS : RunsX w d sl) (hR : Strs w ra roots) :
    Calls Tryz.prog 37 #[.agg #[.slice a webl.length cap], .agg #[.slice ra roots.length rc, .slice d sl.length dc], .string name] w fun e w' => WhyEnd webl roots sl name w' e ∧ Kept w w' := by
  obtain ⟨WB, hWB⟩ : ∃ WB, WB = (w.alloc (.cells #[.slice a webl.length cap] 34)).alloc (.cells #[.slice ra roots.length rc, .slice d sl.length dc] 38) := ⟨_, rfl⟩
  have kB : Kept w WB := by rw [hWB]; exact ((Kept.refl _).alloc _).alloc _
  have hBs : WB.heap.size = w.heap.size + 2 := by rw [hWB]; simp
  have b0 : WB.cell? ⟨w.heap.size, 0, none⟩ = some (.slice a webl.length cap) := by rw [hWB, Kept.cell (w := w.alloc (.cells #[.slice a webl.length cap] 34)) ((Kept.refl _).alloc _) (by simp)]; exact range_new w _ _ 0 _ rfl
  have s0 : WB.cell? ⟨w.heap.size + 1, 0, none⟩ = some (.slice ra roots.length rc) := by have := range_new (w.alloc (.cells #[.slice a webl.length cap] 34)) #[.slice ra roots.length rc, .slice d sl.length dc] 38 0 _ rfl; rw [World.size_alloc] at this; rw [hWB]; exact this
  have s1 : WB.cell? ⟨w.heap.size + 1, 1, none⟩ = some (.slice d sl.length dc) := by have := range_new (w.alloc (.cells #[.slice a webl.length cap] 34)) #[.slice ra roots.length rc, .slice d sl.length dc] 38 1 _ rfl; rw [World.size_alloc] at this; rw [hWB]; exact this
  have z0 : w.heap.size < WB.heap.size := by omega
  have z1 : w.heap.size + 1 < WB.heap.size := by omega
  have HC : Hid (∀ w', Kept WB w' → w'.cell? ⟨w.heap.size, 0, none⟩ = some (.slice a webl.length cap) ∧ w'.cell? ⟨w.heap.size + 1, 0, none⟩ = some (.slice ra roots.length rc) ∧ w'.cell? ⟨w.heap.size + 1, 1, none⟩ = some (.slice d sl.length dc) ∧ w.heap.size < w'.heap.size ∧ w.heap.size + 1 < w'.heap.size) := fun w' K => ⟨(K.cell z0).trans b0, (K.cell z1).trans s0, (K.cell z1).trans s1, Nat.lt_of_lt_of_le z0 K.size, Nat.lt_of_lt_of_le z1 K.size⟩
  have kE : Kept WB (WB.alloc (.cells #[] 9)) := (Kept.refl _).alloc _
  have HOwn : Hid ((WB.alloc (.cells #[] 9)).ownsRow WB.heap.size 9 1 (.slice (some ⟨WB.heap.size, 0, none⟩) 0 0) 0 (([] : List ByteArray).map Value.string)) := World.ownsRow_made WB #[] 0 (Nat.le_refl _) (Nat.zero_le _) rfl
  have HKB := hide kB
  clear kB hBs b0 s0 s1
  go_enter Tryz.func37, Tryz.ntmps37
  go_upto_region 1 with fail
  rw [← hWB]
  clear hWB
  go_upto_region 2 with fail
  obtain ⟨WE, hWE⟩ : ∃ WE, WE = WB.alloc (.cells #[] 9) := ⟨_, rfl⟩
  rw [← hWE] at kE HOwn ⊢
  clear hWE
  obtain ⟨b0, s0, s1, y0, y1⟩ := HC.out _ kE
  go_wp2_with fail
  refine (validState_any _ a cap webl ra rc roots d dc sl hwl hft hrl hrs hsl hst (hN.kept (HKB.out.trans kE)) (hS.kept (HKB.out.trans kE)) (hR.kept (HKB.out.trans kE))).mono ?_
  rintro e w1 ⟨⟨bv, rfl, hv⟩, k1⟩
  have HV := hide hv
  have K1 := kE.trans k1
  have HO1 := hide (ownsRow_kept' HOwn.out k1)
  clear hv b0 s0 s1 y0 y1 HOwn kE k1
  cases bv
  · go_wp2_with fail
    go_ret
    exact ⟨⟨some ⟨WB.heap.size, 0, none⟩, 0, [], rfl, .inl rfl, .inr ⟨fun h => (by have := HV.out.2 h; cases this), rfl⟩⟩, HKB.out.trans K1⟩
  have hval := HV.out.1 rfl
  have HVal := hide hval
  obtain ⟨L, hX, hLl, _⟩ := hval.why name
  have HX := hide hX
  clear hval hX HV
  go_upto_region 4 with fail
  go_loopg [2, 7] (L.length + 1) (fun gg x2 x7 wr => ∃ (D : List ByteArray) (nm : ByteArray), x2 = .string nm ∧ gg + D.length = L.length + 1 ∧ Hid (WhySp (actsOf webl) (envOf sl) name L D nm) ∧ Kept WB wr ∧ Hid (wr.ownsRow WB.heap.size 9 1 x7 D.length (D.map Value.string)))
  case atStart => exact ⟨[], name, rfl, rfl, hide (.inl ⟨rfl, rfl⟩), K1, HO1⟩
  case round =>
    clear HO1
    obtain ⟨D, nm, rfl, hgD, HSp, Kr, HO⟩ := hrel
    obtain ⟨av, cv, rfl⟩ := own_slice HO.out
    obtain ⟨c0, c1, c2, y0, y1⟩ := HC.out _ Kr
    have hDl : D.length ≤ 1401 := by omega
    go_wp2_with fail
    refine (l4At_place wr ra roots.length rc d dc sl nm hsl (hS.kept (HKB.out.trans Kr))).mono ?_
    rintro e w2 ⟨⟨p, rfl, hp⟩, k2⟩
    have K2 := Kr.trans k2
    have HO2 := hide (ownsRow_kept' HO.out k2)
    have hcs := HSp.out.cases HX.out
    clear c0 c1 c2 y0 y1 k2
    obtain ⟨c0, c1, c2, y0, y1⟩ := HC.out _ K2
    rcases hp with ⟨k, hk, rfl, henv, hkn⟩ | ⟨rfl, henv⟩
    rotate_left
    · rcases hcs with ⟨_, hcs⟩ | ⟨r, hr, _⟩
      rotate_left
      · rw [henv] at hr; cases hr
      have HEn := hide henv
      clear henv
      rcases hcs with ⟨rfl, hL⟩ | ⟨hD, hL⟩
      · have HL := hide hL
        clear hL
        go_wp2_with fail
        go_ret
        exact ⟨⟨av, cv, [], rfl, (tstrs_owned HO2.out).1, .inl ⟨HVal.out, by rw [← HL.out]; exact HX.out⟩⟩, HKB.out.trans K2⟩
      · have HL := hide hL
        have hD0 : (0 : Int) < (D.length : Int) := by have := List.length_pos_iff.2 hD; omega
        clear hL hD
        have HNs : Hid (Strs (w2.alloc (.cells #[.string nm] 9)) (some ⟨w2.heap.size, 0, none⟩) [nm]) := fun q hq => by
          obtain rfl : q = 0 := by simpa using hq
          exact ⟨w2.heap.size, 0, rfl, by simp, range_new w2 #[.string nm] 9 0 _ rfl⟩
        have kV : Kept w2 (w2.alloc (.cells #[.string nm] 9)) := (Kept.refl _).alloc _
        have HOw := hide (ownsRow_kept' HO2.out kV)
        have KK := hide (K2.trans kV)
        have hbz : WB.heap.size ≤ (w2.alloc (.cells #[.string nm] 9)).heap.size := KK.out.size
        obtain ⟨ic, hc0, hc1, hc2, hc3⟩ := xInfo_parts Tryz.xInfoStr
        clear kV
        go_wp2_with (at_builtin; refine wpList_append_strs rfl (.tmp 25) (.tmp 27) 25 rfl WB.heap.size 9 ic _ 16 Tryz.underlying25 hc0 hc1 hc2 hc3 rfl (.slice av D.length cv) D.length (D.map Value.string) rfl HOw.out (some ⟨w2.heap.size, 0, none⟩) 1 [nm] rfl HNs.out (by unfold maxLen; simp; omega) (by simp; omega) hbz ?_; intro v' w4 ho4 hg4 hv4; have HP := hide ho4; obtain ⟨av4, cv4, rfl⟩ := own_slice ho4; have KP := kept_of_grown KK.out (Nat.le_refl _) HOw.out hg4; clear ho4 hg4 hv4)
        go_ret
        have hlp : (D ++ [nm]).length = D.length + [nm].length := by simp
        have ho : w4.ownsRow WB.heap.size 9 1 (.slice av4 (D ++ [nm]).length cv4) (D ++ [nm]).length ((D ++ [nm]).map Value.string) := by rw [hlp, List.map_append]; exact HP.out
        exact ⟨⟨av4, cv4, D ++ [nm], by rw [hlp]; rfl, (tstrs_owned ho).1, .inl ⟨HVal.out, by rw [← HL.out]; exact HX.out⟩⟩, HKB.out.trans KP⟩
    obtain ⟨r, hr⟩ : ∃ r, r = sl.getD k RunX.zero := ⟨_, rfl⟩
    rw [← hr] at henv hkn
    rcases hcs with ⟨h1, _⟩ | ⟨r', hr', hcs⟩
    · rw [henv] at h1; cases h1
    obtain rfl : r = r' := Option.some.inj (henv.symm.trans hr')
    clear hr'
    obtain ⟨rb, ro, xa, xc, e1, hrb, hrc, _, _⟩ := (hS.kept (HKB.out.trans K2)) k hk
    rw [← hr] at hrc
    rw [e1] at c2
    have t0 := hrc 0 _ rfl
    have t1 := hrc 1 _ rfl
    have t2 := hrc 2 _ rfl
    have t3 := hrc 3 _ rfl
    have t4 := hrc 4 _ rfl
    have t5 := hrc 5 _ rfl
    have t6 := hrc 6 _ rfl
    rw [Nat.add_zero] at t0
    have hki : (k : Int) < (sl.length : Int) := by omega
    have HR := hide hr
    have HCs := hide hcs
    have HEn := hide henv
    clear hcs henv hkn hrc hr e1
    obtain ⟨W3, hW3⟩ : ∃ W3, W3 = w2.alloc (.cells #[.string r.name, .bool r.over, .bool r.fail, .string r.text, .int .i64 r.at', .int .i64 r.visits, .slice xa r.texts.length xc] 72) := ⟨_, rfl⟩
    have HBx : Hid (RBox W3 w2.heap.size r xa xc) := by rw [hW3]; exact ⟨RowT.made w2 _ _, range_new w2 _ _⟩
    have k3 : Kept w2 W3 := by rw [hW3]; exact (Kept.refl _).alloc _
    go_upto_region 10 with fail
    rw [← hW3]
    clear hW3 t0 t1 t2 t3 t4 t5 t6 c0 c1 c2 y0 y1
    have K3 := K2.trans k3
    have HO3 := hide (ownsRow_kept' HO2.out k3)
    obtain ⟨_, q1, q2, q3, q4, _, _⟩ := HBx.out.all
    have qz := HBx.out.row.lt
    clear k3
    by_cases hof : r.over = true ∧ r.fail = true
    rotate_left
    · have hLD : L = D := by
        rcases HCs.out with ⟨_, h⟩ | ⟨h1, h2, _⟩
        · exact h
        · exact absurd ⟨h1, h2⟩ hof
      have HL := hide hLD
      have hend : r.over = false ∨ (r.over = true ∧ r.fail = false) := by
        cases h1 : r.over
        · exact .inl rfl
        · cases h2 : r.fail
          · exact .inr ⟨rfl, rfl⟩
          · exact absurd ⟨h1, h2⟩ hof
      clear hLD hof
      rcases hend with h1 | ⟨h1, h2⟩
      · rw [h1] at q1
        go_wp2_with fail
        go_ret
        exact ⟨⟨av, cv, D, rfl, (tstrs_owned HO3.out).1, .inl ⟨HVal.out, by rw [← HL.out]; exact HX.out⟩⟩, HKB.out.trans K3⟩
      · rw [h1] at q1
        rw [h2] at q2
        go_wp2_with fail
        go_ret
        exact ⟨⟨av, cv, D, rfl, (tstrs_owned HO3.out).1, .inl ⟨HVal.out, by rw [← HL.out]; exact HX.out⟩⟩, HKB.out.trans K3⟩
    have hcs : ∃ A, actsOf webl nm = some A ∧ ((((stepOf A r.at').fin = true ∨ r.text = spentB) ∧ L = D ++ [nm]) ∨ ∃ b l, (stepOf A r.at').fin = false ∧ r.text = belowB ++ b ∧ L = (D ++ [nm]) ++ l ∧ WhyC (actsOf webl) (envOf sl) b l) := by
      rcases HCs.out with ⟨h, _⟩ | ⟨_, _, h⟩
      · exact absurd hof h
      · exact h
    rw [hof.1] at q1
    rw [hof.2] at q2
    obtain ⟨A, hA, hcs⟩ := hcs
    have HCs2 := hide hcs
    clear hof hcs HCs
    have HO2 := HO3
    have hact := (HVal.out.good.good r (env_mem HEn.out).1).act
    have hrn : r.name = nm := (env_mem HEn.out).2
    clear hki
    obtain ⟨k, hk, hkn, hkf, rfl⟩ := acts_first hA
    obtain ⟨y, hy⟩ : ∃ y, y = webl.getD k NodeD.zero := ⟨_, rfl⟩
    rw [← hy] at hA
    have ha : 0 ≤ r.at' ∧ r.at' < y.steps.length := by
      obtain ⟨A', hA', h0, h1⟩ := hact
      rw [hrn, hA] at hA'
      cases hA'
      exact ⟨h0, h1⟩
    obtain ⟨nb, nq, cs, e1, hnb0, hcs, na, nc, rfl, hSt⟩ := hN k hk
    subst e1
    rw [← hy] at hcs hSt hkn
    obtain ⟨ix, hix⟩ : ∃ ix : Nat, r.at' = (ix : Int) := ⟨r.at'.toNat, by omega⟩
    have hixl : ix < y.steps.length := by omega
    obtain ⟨tb, tq, cs2, e2, htb, hcs2, aa, ca, ac, cc, rfl, _, _, _⟩ := hSt ix hixl
    subst e2
    obtain ⟨s, hs⟩ : ∃ s, s = y.steps.getD ix StepD.zero := ⟨_, rfl⟩
    rw [← hs] at hcs2
    have n1 := hcs 1 _ rfl
    have n2 := hcs 2 _ rfl
    have m5 := hcs2 5 _ rfl
    have HStep : Hid (stepOf ⟨y.cost, y.steps⟩ r.at' = s) := by show _ = _; unfold stepOf; rw [hix, hs]; rfl
    have HKn : Hid ((webl.getD k NodeD.zero).name = nm) := by rw [← hy]; exact hkn
    have HKf := hide hkf
    have HAct := hide hA
    have hki : (k : Int) < (webl.length : Int) := by omega
    have hii : (ix : Int) < (y.steps.length : Int) := by omega
    rw [hix] at q4
    rw [← hy] at HCs2
    have HIx := hide hix
    clear hact hrn hcs hcs2 hSt hs hy hkn hkf hA ha hix
    have HNs : Hid (Strs (W3.alloc (.cells #[.string nm] 9)) (some ⟨W3.heap.size, 0, none⟩) [nm]) := fun q hq => by
      obtain rfl : q = 0 := by simpa using hq
      exact ⟨W3.heap.size, 0, rfl, by simp, range_new W3 #[.string nm] 9 0 _ rfl⟩
    have kV : Kept W3 (W3.alloc (.cells #[.string nm] 9)) := (Kept.refl _).alloc _
    have HOw := hide (ownsRow_kept' HO2.out kV)
    have KK := hide (K3.trans kV)
    have hbz : WB.heap.size ≤ (W3.alloc (.cells #[.string nm] 9)).heap.size := KK.out.size
    obtain ⟨ic, hc0, hc1, hc2, hc3⟩ := xInfo_parts Tryz.xInfoStr
    clear kV
    go_upto_region 13 with (at_builtin; refine wpList_append_strs rfl (.tmp 44) (.tmp 46) 25 rfl WB.heap.size 9 ic _ 16 Tryz.underlying25 hc0 hc1 hc2 hc3 rfl (.slice av D.length cv) D.length (D.map Value.string) rfl HOw.out (some ⟨W3.heap.size, 0, none⟩) 1 [nm] rfl HNs.out (by unfold maxLen; simp; omega) (by simp; omega) hbz ?_; intro v' w4 ho4 hg4 hv4; have HP := hide ho4; obtain ⟨av4, cv4, rfl⟩ := own_slice ho4; have KP := kept_of_grown KK.out (Nat.le_refl _) HOw.out hg4; have HBx4 := hide ((HBx.out.kept ((Kept.refl _).alloc _)).grown HOw.out hg4); clear ho4 hg4 hv4)
    have hnb : nb < w4.heap.size := Nat.lt_of_lt_of_le hnb0 (HKB.out.trans KP).size
    have HS13 : Hid (∀ w', Kept w4 w' → w'.cell? ⟨w.heap.size, 0, none⟩ = some (.slice (some ⟨nb, nq, none⟩) webl.length cap) ∧ w'.cell? ⟨nb, nq + k * 3 + 1, none⟩ = some (.int .i64 y.cost) ∧ w'.cell? ⟨nb, nq + k * 3 + 2, none⟩ = some (.slice (some ⟨tb, tq, none⟩) y.steps.length nc)) := fun w' K => ⟨(HC.out w' (KP.trans K)).1, ((HKB.out.trans (KP.trans K)).cell hnb0).trans n1, ((HKB.out.trans (KP.trans K)).cell hnb0).trans n2⟩
    have HN4 := hide (hN.kept (HKB.out.trans KP))
    have tz4 : tb < w4.heap.size := Nat.lt_of_lt_of_le htb (HKB.out.trans KP).size
    have HM5 : Hid (∀ w', Kept w4 w' → w'.cell? ⟨tb, tq + ix * 8 + 5, none⟩ = some (.bool s.fin)) := fun w' K => ((HKB.out.trans (KP.trans K)).cell htb).trans m5
    have HHK := hide (show w.heap.size < w4.heap.size from Nat.lt_of_lt_of_le z0 KP.size)
    have hw4 := HHK.out
    clear q1 q2 q3 q4 qz n1 n2 m5
    go_upto_region 13 with fail
    go_cut [10] from 48 to 55 (fun s10 wx => ∃ ab, s10 = .pointer (some ⟨ab, 0, none⟩) ∧ Kept w4 wx ∧ wx.cell? ⟨ab, 1, none⟩ = some (.slice (some ⟨tb, tq, none⟩) y.steps.length nc) ∧ ab < wx.heap.size)
    case first =>
      refine UpTo.region (by kernel_rfl) (fun w' => w'.cell? ⟨w.heap.size, 0, none⟩ = some (.slice (some ⟨nb, nq, none⟩) webl.length cap) ∧ w'.cell? ⟨nb, nq + k * 3 + 1, none⟩ = some (.int .i64 y.cost) ∧ w'.cell? ⟨nb, nq + k * 3 + 2, none⟩ = some (.slice (some ⟨tb, tq, none⟩) y.steps.length nc)) 9 (HS13.out _ ((Kept.refl w4).drew)) (fun hHeld => ?_)
      have KD : Kept w4 w4.drew := (Kept.refl w4).drew
      generalize hwd : w4.drew = wd at hHeld KD ⊢
      clear hwd
      refine UpTo.tk 0 [1, 5, 6, 7, 9] ?_ hHeld ?_ ?_
      rotate_left
      · intro u hu; (try dsimp only at hu); go_simp; (try with_reducible rfl)
      try simp only [Act.put, List.setIfInBounds_toArray, List.set_cons_zero, List.set_cons_succ]
      refine UpTo.tk 1 [5, 6, 7, 9] ?_ hHeld ?_ ?_
      rotate_left
      · intro u hu; (try dsimp only at hu); go_simp; (try with_reducible rfl)
      try simp only [Act.put, List.setIfInBounds_toArray, List.set_cons_zero, List.set_cons_succ]
      refine UpTo.tk 2 [4, 5, 6, 7, 9] ?_ hHeld ?_ ?_
      rotate_left
      · intro u hu; (try dsimp only at hu); go_simp; (try with_reducible rfl)
      try simp only [Act.put, List.setIfInBounds_toArray, List.set_cons_zero, List.set_cons_succ]
      refine UpTo.tk 3 [4, 5, 6, 7, 9] ?_ hHeld ?_ ?_
      rotate_left
      · intro u hu; (try dsimp only at hu); go_simp; (try with_reducible rfl)
      try simp only [Act.put, List.setIfInBounds_toArray, List.set_cons_zero, List.set_cons_succ]
      refine UpTo.two 4 8 (by kernel_rfl) (by (simp only [List.getElem?_toArray, List.getElem?_cons_succ, List.getElem?_cons_zero]; rfl)) (by (simp only [List.getElem?_toArray, List.getElem?_cons_succ, List.getElem?_cons_zero]; rfl)) (fun K hK => ?_) (fun K hK => ?_)
      · rw [if_pos (by rfl)]
        go_simp
        go_at_call 67
        refine (l2At_place wd (some ⟨nb, nq, none⟩) cap webl nm hwl (HN4.out.kept KD)).mono ?_
        rintro e w5 ⟨⟨q, rfl, hq⟩, k5⟩
        have K5 := KD.trans k5
        obtain rfl : q = (k : Int) := by
          rcases hq with ⟨k', _, e', _, h1, h2⟩ | ⟨_, h1⟩
          · rw [e', first_unique HKn.out HKf.out h1 h2]
          · rw [HAct.out] at h1; cases h1
        clear hq
        dsimp only
        refine hK.out _ _ (fun _ => HS13.out _ K5) ?_
        clear hK K
        try simp only [Act.put, List.setIfInBounds_toArray, List.set_cons_zero, List.set_cons_succ]
        clear hHeld
        have hHeld := HS13.out _ K5
        refine UpTo.tk 5 [6, 7, 9] ?_ hHeld ?_ ?_
        rotate_left
        · intro u hu; (try dsimp only at hu); go_simp; (try with_reducible rfl)
        try simp only [Act.put, List.setIfInBounds_toArray, List.set_cons_zero, List.set_cons_succ]
        refine UpTo.tk 6 [7, 9] ?_ hHeld ?_ ?_
        rotate_left
        · intro u hu; (try dsimp only at hu); go_simp; (try with_reducible rfl)
        try simp only [Act.put, List.setIfInBounds_toArray, List.set_cons_zero, List.set_cons_succ]
        refine UpTo.tk 7 [9] ?_ hHeld ?_ ?_
        rotate_left
        · intro u hu; (try dsimp only at hu); go_simp; (try with_reducible rfl)
        try simp only [Act.put, List.setIfInBounds_toArray, List.set_cons_zero, List.set_cons_succ]
        refine UpTo.nx 8 (fun K hK => ?_)
        go_simp
        have K6 : Kept w5 (w5.alloc (.cells #[.int .i64 0, .slice none 0 0] 75)) := (Kept.refl _).alloc _
        refine hK.out _ _ (fun _ => HS13.out _ (K5.trans K6)) ?_
        clear hK K
        try simp only [Act.put, List.setIfInBounds_toArray, List.set_cons_zero, List.set_cons_succ]
        have hRw : RowT (w5.alloc (.cells #[.int .i64 0, .slice none 0 0] 75)) w5.heap.size 75 2 := RowT.made w5 _ _
        have KE := K5.trans K6
        generalize hwe : w5.alloc (.cells #[.int .i64 0, .slice none 0 0] 75) = wE at hRw KE ⊢
        clear hwe K6
        obtain ⟨⟨_, v0⟩, f0⟩ := hRw.row.at (i := 0) (by omega)
        obtain ⟨⟨_, v1⟩, f1⟩ := hRw.row.at (i := 1) (by omega)
        have vz := hRw.lt
        refine UpTo.nx 9 (fun K hK => ?_)
        go_simp
        refine hK.out _ _ (fun h => absurd rfl h) ?_
        clear hK K
        try simp only [Act.put, List.setIfInBounds_toArray, List.set_cons_zero, List.set_cons_succ]
        refine UpTo.done (by kernel_rfl) ?_
        go_wp2_with fail
        go_meet
        exact ⟨w5.heap.size, rfl, Below.setCell (Below.setCell KE (p := ⟨w5.heap.size, 0, none⟩) K5.size _) (p := ⟨w5.heap.size, 1, none⟩) K5.size _, set_hit (hRw.set _).row (by omega) _, by rw [size_setCell, size_setCell]; exact vz⟩
      · rw [if_pos (by rfl)]
        go_simp
        have K6 : Kept wd (wd.alloc (.cells #[.int .i64 0, .slice none 0 0] 75)) := (Kept.refl _).alloc _
        have K6b := KD.trans K6
        refine hK.out _ _ (fun _ => HS13.out _ K6b) ?_
        clear hK K
        try simp only [Act.put, List.setIfInBounds_toArray, List.set_cons_zero, List.set_cons_succ]
        refine UpTo.nx 4 (fun K hK => ?_)
        rw [if_pos (by rfl)]
        go_simp
        go_at_call 67
        refine (l2At_place (wd.alloc (.cells #[.int .i64 0, .slice none 0 0] 75)) (some ⟨nb, nq, none⟩) cap webl nm hwl (HN4.out.kept K6b)).mono ?_
        rintro e w5 ⟨⟨q, rfl, hq⟩, k5⟩
        have K5 := K6b.trans k5
        obtain rfl : q = (k : Int) := by
          rcases hq with ⟨k', _, e', _, h1, h2⟩ | ⟨_, h1⟩
          · rw [e', first_unique HKn.out HKf.out h1 h2]
          · rw [HAct.out] at h1; cases h1
        clear hq
        dsimp only
        refine hK.out _ _ (fun _ => HS13.out _ K5) ?_
        clear hK K
        try simp only [Act.put, List.setIfInBounds_toArray, List.set_cons_zero, List.set_cons_succ]
        clear hHeld
        have hHeld := HS13.out _ K5
        refine UpTo.tk 5 [6, 7, 9] ?_ hHeld ?_ ?_
        rotate_left
        · intro u hu; (try dsimp only at hu); go_simp; (try with_reducible rfl)
        try simp only [Act.put, List.setIfInBounds_toArray, List.set_cons_zero, List.set_cons_succ]
        refine UpTo.tk 6 [7, 9] ?_ hHeld ?_ ?_
        rotate_left
        · intro u hu; (try dsimp only at hu); go_simp; (try with_reducible rfl)
        try simp only [Act.put, List.setIfInBounds_toArray, List.set_cons_zero, List.set_cons_succ]
        refine UpTo.tk 7 [9] ?_ hHeld ?_ ?_
        rotate_left
        · intro u hu; (try dsimp only at hu); go_simp; (try with_reducible rfl)
        try simp only [Act.put, List.setIfInBounds_toArray, List.set_cons_zero, List.set_cons_succ]
        have hRw : RowT w5 wd.heap.size 75 2 := (RowT.made wd #[.int .i64 0, .slice none 0 0] 75).kept k5
        obtain ⟨⟨_, v0⟩, f0⟩ := hRw.row.at (i := 0) (by omega)
        obtain ⟨⟨_, v1⟩, f1⟩ := hRw.row.at (i := 1) (by omega)
        have vz := hRw.lt
        refine UpTo.nx 9 (fun K hK => ?_)
        go_simp
        refine hK.out _ _ (fun h => absurd rfl h) ?_
        clear hK K
        try simp only [Act.put, List.setIfInBounds_toArray, List.set_cons_zero, List.set_cons_succ]
        refine UpTo.done (by kernel_rfl) ?_
        go_wp2_with fail
        go_meet
        exact ⟨wd.heap.size, rfl, Below.setCell (Below.setCell K5 (p := ⟨wd.heap.size, 0, none⟩) KD.size _) (p := ⟨wd.heap.size, 1, none⟩) KD.size _, set_hit (hRw.set _).row (by omega) _, by rw [size_setCell, size_setCell]; exact vz⟩
    case rest =>
      obtain ⟨ab, rfl, Kx, a1, abz⟩ := hcut
      obtain ⟨w6, rfl⟩ : ∃ w6, w6 = wc := ⟨_, rfl⟩
      have HBx6 := hide (HBx4.out.kept Kx)
      obtain ⟨_, _, _, q3, q4, _, _⟩ := HBx6.out.all
      have qz := HBx6.out.row.lt
      have m5 := HM5.out _ Kx
      have tz6 : tb < w6.heap.size := Nat.lt_of_lt_of_le tz4 Kx.size
      have HP6 := hide (ownsRow_kept' HP.out Kx)
      have K6 := KP.trans Kx
      rw [HIx.out] at q4
      have hlp : (D ++ [nm]).length = D.length + [nm].length := by simp
      have HO6 : Hid (w6.ownsRow WB.heap.size 9 1 (.slice av4 (D ++ [nm]).length cv4) (D ++ [nm]).length ((D ++ [nm]).map Value.string)) := by rw [hlp, List.map_append]; exact HP6.out
      have hcs := HCs2.out
      rw [HStep.out] at hcs
      have HLp := hide hlp
      clear hlp HP6 HP HCs2 HS13
      rcases hcs with ⟨he, hL⟩ | ⟨b, l, hn, ht, hL, hC⟩
      · have HL := hide hL
        have hee : s.fin = true ∨ (s.fin = false ∧ r.text = spentB) := by
          rcases he with h | h
          · exact .inl h
          · cases h1 : s.fin
            · exact .inr ⟨rfl, h⟩
            · exact .inl rfl
        clear hL he
        rcases hee with h | ⟨h, h2⟩
        · rw [h] at m5
          go_wp2_with fail
          go_ret
          exact ⟨⟨av4, cv4, D ++ [nm], by rw [HLp.out]; rfl, (tstrs_owned HO6.out).1, .inl ⟨HVal.out, by rw [← HL.out]; exact HX.out⟩⟩, HKB.out.trans K6⟩
        · rw [h] at m5
          rw [h2] at q3
          unfold spentB at q3
          go_wp2_with fail
          go_ret
          exact ⟨⟨av4, cv4, D ++ [nm], by rw [HLp.out]; rfl, (tstrs_owned HO6.out).1, .inl ⟨HVal.out, by rw [← HL.out]; exact HX.out⟩⟩, HKB.out.trans K6⟩
      · rw [hn] at m5
        have HL := hide hL
        have HCb := hide hC
        have HTx := hide ht
        rw [ht] at q3
        have hsz : (belowB ++ b).size = 6 + b.size := by rw [ByteArray.size_append]; rfl
        have hne : ((belowB ++ b).toList == [115, 112, 101, 110, 116]) = false := by
          cases h : ((belowB ++ b).toList == [115, 112, 101, 110, 116])
          · rfl
          · have e := congrArg List.length (eq_of_beq h)
            have e2 : (belowB ++ b).toList.length = (belowB ++ b).size := by simp [ByteArray.toList_eq]
            rw [e2, hsz] at e
            simp at e
            omega
        obtain ⟨tx, htx⟩ : ∃ tx, tx = belowB ++ b := ⟨_, rfl⟩
        rw [← htx] at q3 hsz hne
        have HTb := hide htx
        clear hL hC ht htx
        go_wp2_with fail
        go_roundg (gk - 1)
        case measure => have h1 := congrArg List.length HL.out; rw [List.length_append, HLp.out] at h1; simp at h1; omega
        case rel =>
          have hlL := congrArg List.length HL.out
          rw [List.length_append, HLp.out] at hlL
          simp only [List.length_singleton] at hlL
          refine ⟨D ++ [nm], b, by rw [HTb.out, below_cut], by rw [HLp.out, List.length_singleton]; omega, hide (.inr ⟨by simp, l, HL.out, HCb.out⟩), K6, hide ?_⟩
          have h := HO6.out
          rw [show (.slice av4 (D ++ [nm]).length cv4 : Value) = .slice av4 (D.length + 1) cv4 from by rw [HLp.out]; rfl] at h
          exact h
end Go.Proofs.YtghipdfemoofhaaGreatDoor
