import Derived.Test.YtghipdfemoofhaaGreatDoorKXValid0
import Derived.Deep.QuietTactic
import Derived.BigQuiet

namespace Go.Proofs.YtghipdfemoofhaaGreatDoor
open Go.RowKit

theorem place_at {l : List RunX} {n : ByteArray} {r : RunX} {j : Nat} {q : Int} (ha : AscX l) (hj : j < l.length) (hje : l.getD j RunX.zero = r) (hr : envOf l n = some r) (h : PlaceX l n q) : q = (j : Int) := by
  rcases h with ⟨k, hk, e1, h1, h2⟩ | ⟨_, h1⟩
  · rw [e1]
    have e2 : l.getD k RunX.zero = l.getD j RunX.zero := by rw [hr] at h1; rw [← Option.some.inj h1, hje]
    simp only [List.getD, List.getElem?_eq_getElem hj, List.getElem?_eq_getElem hk, Option.getD_some] at e2
    have e3 := congrArg RunX.name e2
    have hasc := List.pairwise_iff_getElem.1 ha
    rcases Nat.lt_trichotomy k j with h | h | h
    · exact absurd e3 (lessX_ne (hasc k j hk hj h))
    · rw [h]
    · exact absurd e3.symm (lessX_ne (hasc j k hj hk h))
  · rw [hr] at h1; cases h1

set_option maxRecDepth 100000 in
set_option maxHeartbeats 12800000 in
theorem validState_any (w : World) (a : Option Addr) (cap : Nat) (webl : List NodeD) (ra : Option Addr) (rc : Nat) (roots : List ByteArray) (d : Option Addr) (dc : Nat) (sl : List RunX) (hwl : webl.length ≤ 1048576) (hft : ∀ y ∈ webl, y.Fits) (hrl : roots.length ≤ 1048576) (hrs : ∀ s ∈ roots, s.size ≤ maxLen) (hsl : sl.length ≤ 1048576) (hst : ∀ x ∈ sl, x.texts.length ≤ 1048576)
    (hN : Nodes w a webl) (hS : RunsX w d sl) (hR : Strs w ra roots) :
    Calls Tryz.prog 25 #[.agg #[.slice a webl.length cap], .agg #[.slice ra roots.length rc, .slice d sl.length dc]] w fun e w' => SaidB e (ValidX webl roots sl) ∧ Kept w w' := by
  obtain ⟨WB, hWB⟩ : ∃ WB, WB = (w.alloc (.cells #[.slice a webl.length cap] 34)).alloc (.cells #[.slice ra roots.length rc, .slice d sl.length dc] 38) := ⟨_, rfl⟩
  have kB : Kept w WB := by rw [hWB]; exact ((Kept.refl _).alloc _).alloc _
  have hBs : WB.heap.size = w.heap.size + 2 := by rw [hWB]; simp
  have b0 : WB.cell? ⟨w.heap.size, 0, none⟩ = some (.slice a webl.length cap) := by rw [hWB, Kept.cell (w := w.alloc (.cells #[.slice a webl.length cap] 34)) ((Kept.refl _).alloc _) (by simp)]; exact range_new w _ _ 0 _ rfl
  have s0 : WB.cell? ⟨w.heap.size + 1, 0, none⟩ = some (.slice ra roots.length rc) := by have := range_new (w.alloc (.cells #[.slice a webl.length cap] 34)) #[.slice ra roots.length rc, .slice d sl.length dc] 38 0 _ rfl; rw [World.size_alloc] at this; rw [hWB]; exact this
  have s1 : WB.cell? ⟨w.heap.size + 1, 1, none⟩ = some (.slice d sl.length dc) := by have := range_new (w.alloc (.cells #[.slice a webl.length cap] 34)) #[.slice ra roots.length rc, .slice d sl.length dc] 38 1 _ rfl; rw [World.size_alloc] at this; rw [hWB]; exact this
  have z0 : w.heap.size < WB.heap.size := by omega
  have z1 : w.heap.size + 1 < WB.heap.size := by omega
  have HC : Hid (∀ w', Kept WB w' → w'.cell? ⟨w.heap.size, 0, none⟩ = some (.slice a webl.length cap) ∧ w'.cell? ⟨w.heap.size + 1, 0, none⟩ = some (.slice ra roots.length rc) ∧ w'.cell? ⟨w.heap.size + 1, 1, none⟩ = some (.slice d sl.length dc) ∧ w.heap.size < w'.heap.size ∧ w.heap.size + 1 < w'.heap.size) := fun w' K => ⟨(K.cell z0).trans b0, (K.cell z1).trans s0, (K.cell z1).trans s1, Nat.lt_of_lt_of_le z0 K.size, Nat.lt_of_lt_of_le z1 K.size⟩
  have HKB := hide kB
  clear kB hBs b0 s0 s1
  go_enter Tryz.func25, Tryz.ntmps25
  go_upto_region 1 with fail
  rw [← hWB]
  clear hWB
  obtain ⟨b0, s0, s1, _, _⟩ := HC.out _ (Kept.refl _)
  go_wp2_with fail
  refine (specCheckWeb_any _ a cap webl (by unfold maxLen; omega) hft (hN.kept HKB.out)).mono ?_
  rintro e w1 ⟨⟨c, rfl, hc⟩, k1⟩
  clear b0 s0 s1 z0 z1
  obtain ⟨b0, s0, s1, z0, z1⟩ := HC.out _ k1
  by_cases hc0 : c = 0
  rotate_left
  · have hcb : (c != 0) = true := by simpa using hc0
    have HCn : Hid (¬ WebCode webl 0) := fun h => hc0 (hc.unique h)
    clear hc0 hc
    go_wp2_with fail
    go_ret
    exact ⟨⟨false, rfl, by simp only [Bool.false_eq_true, false_iff]; exact fun h => HCn.out h.1⟩, HKB.out.trans k1⟩
  subst hc0
  have HW := hide hc
  clear hc
  go_wp2_with fail
  refine (l3RootsOk_any _ ra rc roots (by unfold maxLen; omega) hrs (hR.kept (HKB.out.trans k1))).mono ?_
  rintro e w2 ⟨hsay, k2⟩
  have K2 := k1.trans k2
  clear b0 s0 s1 z0 z1
  obtain ⟨b0, s0, s1, z0, z1⟩ := HC.out _ K2
  rcases hsay.cases with ⟨rfl, hyes⟩ | ⟨rfl, hno⟩
  rotate_left
  · have HNo := hide hno
    clear hno hsay
    go_wp2_with fail
    go_ret
    exact ⟨⟨false, rfl, by simp only [Bool.false_eq_true, false_iff]; exact fun h => HNo.out h.2.1⟩, HKB.out.trans K2⟩
  have HY := hide hyes
  clear hyes hsay
  by_cases hle : sl.length ≤ webl.length
  rotate_left
  · have hgt : (webl.length : Int) < (sl.length : Int) := by omega
    go_wp2_with fail
    go_ret
    exact ⟨⟨false, rfl, by simp only [Bool.false_eq_true, false_iff]; exact fun h => hle h.2.2.1⟩, HKB.out.trans K2⟩
  have hgt : ¬ (webl.length : Int) < (sl.length : Int) := by omega
  obtain ⟨rb, ro, rfl, _, _⟩ := hR 0 (by have := HY.out.1; omega)
  have hwl6 := web_len HW.out
  have hrl1 := HY.out.2.1
  go_wp2_with fail
  refine (startX_any w2 a cap webl rb ro rc roots (by omega) hft HW.out HY.out hrs (hN.kept (HKB.out.trans K2)) (hR.kept (HKB.out.trans K2))).mono ?_
  rintro e w3 ⟨xa, xc, xd, xe, xs, rfl, hT3, hO3, hP3, k3⟩
  have K3 := K2.trans k3
  have HX3 : Hid (Strs w3 xa roots ∧ RunsX w3 xd (startL webl roots)) := by
    obtain ⟨a9, c9, e9, h9⟩ := owned_strs hT3
    simp only [Value.slice.injEq, true_and] at e9
    rw [← e9.1] at h9
    obtain ⟨_, a8, c8, e8, h8⟩ := PackedX.runs hO3 hP3 (Kept.refl _)
    simp only [Value.slice.injEq, true_and] at e8
    rw [← e8.1] at h8
    exact ⟨h9, h8.runs⟩
  clear hT3 hO3 hP3 k3
  obtain ⟨xb, hxb⟩ : ∃ xb, xb = w3.heap.size := ⟨_, rfl⟩
  have hxz : w3.heap.size ≤ xb := by omega
  have HXb := hide hxb
  clear b0 s0 s1 z0 z1
  go_upto_region 4 with fail
  rw [← hxb]
  clear hxb
  go_wp2
  go_loopg [6] (2 * potL webl (startL webl roots) + 1) (fun gg x6 wr => ∃ (L : List RunX) (bb : Bool) (xa : Option Addr) (xc : Nat) (xd : Option Addr) (xe : Nat), x6 = .bool bb ∧ Kept w3 wr ∧ XVar wr xb roots L xa xc xd xe ∧ Hid (OutV webl roots sl L bb gg))
  case atStart => exact ⟨startL webl roots, true, xa, xc, xd, xe, rfl, (Kept.refl _).alloc _, by rw [HXb.out]; exact XVar.made HX3.out.1 HX3.out.2, hide (OutV.begin HW.out roots sl)⟩
  case round =>
    clear HX3 HXb
    obtain ⟨L, bb, xa, xc, xd, xe, rfl, Kr, hX, HV⟩ := hrel
    obtain ⟨wO, rfl⟩ : ∃ wO, wO = wr := ⟨_, rfl⟩
    obtain ⟨gO, rfl⟩ : ∃ gO, gO = gk := ⟨_, rfl⟩
    have hLl : L.length ≤ 60 := by have := HV.out.good.len; omega
    obtain ⟨b0, s0, s1, z0, z1⟩ := HC.out _ (K3.trans Kr)
    have m0 := hX.c0
    have m1 := hX.c1
    have mz := hX.row.lt
    have HX := hide hX
    clear hX
    cases bb
    · go_wp2_with fail
      refine (same_any wO xa (some ⟨rb, ro, none⟩) xd d xc rc xe dc roots roots L sl hrl hrl (by omega) hsl (fun x hx => by have h1 := (HV.out.good.good x hx).tl; have h2 := (HV.out.good.good x hx).hi; omega) hst HX.out.rts (hR.kept (HKB.out.trans (K3.trans Kr))) HX.out.rns (hS.kept (HKB.out.trans (K3.trans Kr)))).mono ?_
      rintro e w5 ⟨⟨b5, rfl, h5⟩, k5⟩
      have H5 := hide h5
      clear h5
      go_wp2_with fail
      go_ret
      refine ⟨⟨b5, rfl, ?_⟩, HKB.out.trans ((K3.trans Kr).trans k5)⟩
      rw [H5.out]
      obtain ⟨kk, hl⟩ := HV.out.led
      have h := goalX_iff HV.out.good hl (HV.out.fin rfl)
      exact ⟨fun ⟨_, e⟩ => ⟨HW.out, HY.out, hle, h.1 e⟩, fun ⟨_, _, _, g⟩ => ⟨by trivial, h.2 g⟩⟩
    · go_wp2_with fail
      refine (ready_any wO a cap webl xa roots.length xc xd xe L (by omega) (by omega) (web_small HW.out) (fun r hr _ _ => (HV.out.good.good r hr).act) (hN.kept (HKB.out.trans (K3.trans Kr))) HX.out.rns).mono ?_
      rintro e w6 ⟨⟨da, lc, ns, rfl, hRL, hOw⟩, k6⟩
      have HRL := hide hRL
      have HB6 := hide (StrsB.owned (xb := xb) hOw mz)
      have hnl : ns.length ≤ 60 := by have := hRL.len; omega
      have HX6 := hide (HX.out.kept k6)
      have K6 := Kr.trans k6
      clear hRL hOw b0 s0 s1 z0 z1 m0 m1 mz HX k6
      obtain ⟨L0, hL0⟩ : ∃ L0, L0 = L := ⟨_, rfl⟩
      have HN6 : Hid (RoundX webl (envOf sl) (envOf (startL webl roots)) ns L0 L 0 false) := by rw [hL0]; exact RoundX.start HV.out.good HV.out.led HRL.out
      rw [← hL0] at HV HRL
      clear hL0 hLl
      go_wp2
      go_loopg [6, 8] ns.length (fun gg x6 x8 wr => ∃ (i : Nat) (b : Bool) (L : List RunX) (xa : Option Addr) (xc : Nat) (xd : Option Addr) (xe : Nat), x6 = .bool b ∧ x8 = .int .i64 (i : Int) ∧ i + gg = ns.length ∧ KeptBut xb (xb + 1) w6 wr ∧ XVar wr xb roots L xa xc xd xe ∧ Hid (RoundX webl (envOf sl) (envOf (startL webl roots)) ns L0 L i b))
      case atStart => exact ⟨0, false, L, xa, xc, xd, xe, rfl, rfl, by omega, KeptBut.refl _ _ _, HX6.out, HN6⟩
      case round =>
        clear HX6 HN6
        obtain ⟨i, b, L, xa, xc, xd, xe, rfl, rfl, hig, KB, hX, HV2⟩ := hrel
        obtain ⟨wI, rfl⟩ : ∃ wI, wI = wr := ⟨_, rfl⟩
        have hLl : L.length ≤ 60 := by have := HV2.out.good.len; omega
        have Kr2 : Kept w3 wI := KB.kept K6 hxz
        by_cases hlt : (i : Int) < (ns.length : Int)
        rotate_left
        · obtain rfl : i = ns.length := by omega
          obtain ⟨h1, h2⟩ := HV.out.next HRL.out HV2.out
          have HV3 := hide h1
          clear h1
          go_wp2_with fail
          go_roundg (2 * potL webl L + (if b = true then 1 else 0))
          case measure => exact h2
          case rel => exact ⟨L, b, xa, xc, xd, xe, rfl, Kr2, hX, HV3⟩
        have hil : i < ns.length := by omega
        obtain ⟨n, hn⟩ : ∃ n, n = ns.getD i ByteArray.empty := ⟨_, rfl⟩
        obtain ⟨lb, lo, rfl, hlb, hlx, hlc⟩ := HB6.out.but KB i hil
        rw [← hn] at hlc
        obtain ⟨pb, po, rfl, _, _⟩ := hX.rts 0 (by have := HY.out.1; omega)
        have hrd := HV2.out.rest i (Nat.le_refl _) hil
        rw [← hn] at hrd
        obtain ⟨r, hr, hcg⟩ := hrd
        obtain ⟨j, hj, hje⟩ : ∃ j, j < L.length ∧ L.getD j RunX.zero = r := by
          obtain ⟨k, h1, h2⟩ := List.getElem_of_mem (env_mem hr).1
          exact ⟨k, h1, by simp only [List.getD, List.getElem?_eq_getElem h1, Option.getD_some, h2]⟩
        obtain ⟨fb, fo, ta, tc, rfl, hfb, hcs, hTx, hXn⟩ := hX.rns j hj
        rw [hje] at hcs hTx
        have HEr := hide hr
        have HCg := hide hcg
        have HN := hide hn
        have HJe := hide hje
        have m0 := hX.c0
        have m1 := hX.c1
        have mz := hX.row.lt
        have HX := hide hX
        have t0 : wI.cell? ⟨fb, fo + j * 7, none⟩ = some (.string r.name) := hcs 0 _ rfl
        have t1 : wI.cell? ⟨fb, fo + j * 7 + 1, none⟩ = some (.bool r.over) := hcs 1 _ rfl
        have t2 : wI.cell? ⟨fb, fo + j * 7 + 2, none⟩ = some (.bool r.fail) := hcs 2 _ rfl
        have t3 : wI.cell? ⟨fb, fo + j * 7 + 3, none⟩ = some (.string r.text) := hcs 3 _ rfl
        have t4 : wI.cell? ⟨fb, fo + j * 7 + 4, none⟩ = some (.int .i64 r.at') := hcs 4 _ rfl
        have t5 : wI.cell? ⟨fb, fo + j * 7 + 5, none⟩ = some (.int .i64 r.visits) := hcs 5 _ rfl
        have t6 : wI.cell? ⟨fb, fo + j * 7 + 6, none⟩ = some (.slice ta r.texts.length tc) := hcs 6 _ rfl
        have HS11 : Hid (∀ w', Kept wI w' → w'.cell? ⟨w.heap.size + 1, 0, none⟩ = some (.slice (some ⟨rb, ro, none⟩) roots.length rc) ∧ w'.cell? ⟨w.heap.size + 1, 1, none⟩ = some (.slice d sl.length dc) ∧ w'.cell? ⟨lb, lo + i, none⟩ = some (.string n)) := fun w' K => ⟨(HC.out _ (K3.trans (Kr2.trans K))).2.1, (HC.out _ (K3.trans (Kr2.trans K))).2.2.1, (K.cell hlb).trans hlc⟩
        have HS12 : Hid (∀ w', Kept wI w' → w'.cell? ⟨xb, 0, none⟩ = some (.slice (some ⟨pb, po, none⟩) roots.length xc) ∧ w'.cell? ⟨xb, 1, none⟩ = some (.slice (some ⟨fb, fo, none⟩) L.length xe) ∧ w'.cell? ⟨lb, lo + i, none⟩ = some (.string n) ∧ w'.cell? ⟨fb, fo + j * 7, none⟩ = some (.string r.name) ∧ w'.cell? ⟨fb, fo + j * 7 + 1, none⟩ = some (.bool r.over) ∧ w'.cell? ⟨fb, fo + j * 7 + 2, none⟩ = some (.bool r.fail) ∧ w'.cell? ⟨fb, fo + j * 7 + 3, none⟩ = some (.string r.text) ∧ w'.cell? ⟨fb, fo + j * 7 + 4, none⟩ = some (.int .i64 r.at') ∧ w'.cell? ⟨fb, fo + j * 7 + 5, none⟩ = some (.int .i64 r.visits) ∧ w'.cell? ⟨fb, fo + j * 7 + 6, none⟩ = some (.slice ta r.texts.length tc)) := fun w' K => ⟨(K.cell mz).trans m0, (K.cell mz).trans m1, (K.cell hlb).trans hlc, (K.cell hfb).trans t0, (K.cell hfb).trans t1, (K.cell hfb).trans t2, (K.cell hfb).trans t3, (K.cell hfb).trans t4, (K.cell hfb).trans t5, (K.cell hfb).trans t6⟩
        have HS14 : Hid (∀ w', Kept wI w' → w'.cell? ⟨w.heap.size, 0, none⟩ = some (.slice a webl.length cap) ∧ w'.cell? ⟨xb, 0, none⟩ = some (.slice (some ⟨pb, po, none⟩) roots.length xc) ∧ w'.cell? ⟨xb, 1, none⟩ = some (.slice (some ⟨fb, fo, none⟩) L.length xe) ∧ w'.cell? ⟨lb, lo + i, none⟩ = some (.string n)) := fun w' K => ⟨(HC.out _ (K3.trans (Kr2.trans K))).1, (K.cell mz).trans m0, (K.cell mz).trans m1, (K.cell hlb).trans hlc⟩
        clear hr hcg hn hje hX hcs hTx hXn t0 t1 t2 t3 t4 t5 t6 m0 m1 hlc
        have i0 : (i : Int) < (ns.length : Int) := hlt
        go_upto_region 11 with fail
        refine UpTo.region (by kernel_rfl) (fun w' => w'.cell? ⟨w.heap.size + 1, 0, none⟩ = some (.slice (some ⟨rb, ro, none⟩) roots.length rc) ∧ w'.cell? ⟨w.heap.size + 1, 1, none⟩ = some (.slice d sl.length dc) ∧ w'.cell? ⟨lb, lo + i, none⟩ = some (.string n)) 6 (HS11.out _ ((Kept.refl wI).drew)) (fun hHeld => ?_)
        have KD : Kept wI wI.drew := (Kept.refl wI).drew
        generalize hwd : wI.drew = wd at hHeld KD ⊢
        clear hwd
        refine UpTo.take 0 [5, 6] (v := ?_) (by (simp only [List.getElem?_toArray, List.getElem?_cons_zero]; rfl)) (by kernel_rfl) (by kernel_rfl) (by kernel_rfl) (by kernel_rfl) (by exact fun _ _ _ h => h) (Or.inl ⟨by rfl, ?_⟩) hHeld ?_
        rotate_left
        · intro u hu
          try dsimp only at hu
          go_simp
          try with_reducible rfl
        try simp only [Act.put, List.setIfInBounds_toArray, List.set_cons_zero, List.set_cons_succ]
        refine UpTo.take 1 [3, 4, 5, 6] (v := ?_) (by (simp only [List.getElem?_toArray, List.getElem?_cons_succ, List.getElem?_cons_zero]; rfl)) (by kernel_rfl) (by kernel_rfl) (by kernel_rfl) (by kernel_rfl) (by exact fun _ _ _ h => h) (Or.inl ⟨by rfl, ?_⟩) hHeld ?_
        rotate_left
        · intro u hu
          try dsimp only at hu
          go_simp
          try with_reducible rfl
        try simp only [Act.put, List.setIfInBounds_toArray, List.set_cons_zero, List.set_cons_succ]
        refine UpTo.take 2 [3, 4, 5, 6] (v := ?_) (by (simp only [List.getElem?_toArray, List.getElem?_cons_succ, List.getElem?_cons_zero]; rfl)) (by kernel_rfl) (by kernel_rfl) (by kernel_rfl) (by kernel_rfl) (by exact fun _ _ _ h => h) (Or.inl ⟨by rfl, ?_⟩) hHeld ?_
        rotate_left
        · intro u hu
          try dsimp only at hu
          go_simp
          try with_reducible rfl
        try simp only [Act.put, List.setIfInBounds_toArray, List.set_cons_zero, List.set_cons_succ]
        refine UpTo.take 3 [4, 5, 6] (v := ?_) (by (simp only [List.getElem?_toArray, List.getElem?_cons_succ, List.getElem?_cons_zero]; rfl)) (by kernel_rfl) (by kernel_rfl) (by kernel_rfl) (by kernel_rfl) (by exact fun _ _ _ h => h) (Or.inl ⟨by rfl, ?_⟩) hHeld ?_
        rotate_left
        · intro u hu
          try dsimp only at hu
          go_simp
          try with_reducible rfl
        try simp only [Act.put, List.setIfInBounds_toArray, List.set_cons_zero, List.set_cons_succ]
        refine UpTo.take 4 [5, 6] (v := ?_) (by (simp only [List.getElem?_toArray, List.getElem?_cons_succ, List.getElem?_cons_zero]; rfl)) (by kernel_rfl) (by kernel_rfl) (by kernel_rfl) (by kernel_rfl) (by exact fun _ _ _ h => h) (Or.inl ⟨by rfl, ?_⟩) hHeld ?_
        rotate_left
        · intro u hu
          try dsimp only at hu
          go_simp
          try with_reducible rfl
        try simp only [Act.put, List.setIfInBounds_toArray, List.set_cons_zero, List.set_cons_succ]
        refine UpTo.next 5 (by kernel_rfl) (by (simp only [List.getElem?_toArray, List.getElem?_cons_succ, List.getElem?_cons_zero]; rfl)) (fun K hK => ?_)
        rw [if_pos (by rfl)]
        go_simp
        go_at_call 63
        refine (l4At_place wd (some ⟨rb, ro, none⟩) roots.length rc d dc sl n hsl (hS.kept (HKB.out.trans (K3.trans (Kr2.trans KD))))).mono ?_
        rintro e w7 ⟨⟨q7, rfl, hq7⟩, k7⟩
        have K7 := KD.trans k7
        have HQ7 := hide hq7
        refine hK.out _ _ (fun _ => HS11.out _ K7) ?_
        clear hK K hHeld hq7
        try simp only [Act.put, List.setIfInBounds_toArray, List.set_cons_zero, List.set_cons_succ]
        refine UpTo.next 6 (by kernel_rfl) (by (simp only [List.getElem?_toArray, List.getElem?_cons_succ, List.getElem?_cons_zero]; rfl)) (fun K hK => ?_)
        go_simp
        refine hK.out _ _ (fun h => absurd rfl h) ?_
        clear hK K
        try simp only [Act.put, List.setIfInBounds_toArray, List.set_cons_zero, List.set_cons_succ]
        refine UpTo.done (by kernel_rfl) ?_
        clear KD k7
        go_upto_region 12 with fail
        go_cut [10] from 49 to 58 (fun s10 wx => ∃ gb, s10 = .pointer (some ⟨gb, 0, none⟩) ∧ Kept w7 wx ∧ RBox wx gb r ta tc)
        case first =>
          refine UpTo.region (by kernel_rfl) (fun w' => w'.cell? ⟨xb, 0, none⟩ = some (.slice (some ⟨pb, po, none⟩) roots.length xc) ∧ w'.cell? ⟨xb, 1, none⟩ = some (.slice (some ⟨fb, fo, none⟩) L.length xe) ∧ w'.cell? ⟨lb, lo + i, none⟩ = some (.string n) ∧ w'.cell? ⟨fb, fo + j * 7, none⟩ = some (.string r.name) ∧ w'.cell? ⟨fb, fo + j * 7 + 1, none⟩ = some (.bool r.over) ∧ w'.cell? ⟨fb, fo + j * 7 + 2, none⟩ = some (.bool r.fail) ∧ w'.cell? ⟨fb, fo + j * 7 + 3, none⟩ = some (.string r.text) ∧ w'.cell? ⟨fb, fo + j * 7 + 4, none⟩ = some (.int .i64 r.at') ∧ w'.cell? ⟨fb, fo + j * 7 + 5, none⟩ = some (.int .i64 r.visits) ∧ w'.cell? ⟨fb, fo + j * 7 + 6, none⟩ = some (.slice ta r.texts.length tc)) 11 (HS12.out _ (K7.drew)) (fun hHeld => ?_)
          have KD : Kept w7 w7.drew := (Kept.refl w7).drew
          generalize hwd : w7.drew = wd at hHeld KD ⊢
          clear hwd
          refine UpTo.take 0 [1, 8, 9, 11] (v := ?_) (by (simp only [List.getElem?_toArray, List.getElem?_cons_zero]; rfl)) (by kernel_rfl) (by kernel_rfl) (by kernel_rfl) (by kernel_rfl) (by exact fun _ _ _ h => h) (Or.inl ⟨by rfl, ?_⟩) hHeld ?_
          rotate_left
          · intro u hu
            try dsimp only at hu
            go_simp
            try with_reducible rfl
          try simp only [Act.put, List.setIfInBounds_toArray, List.set_cons_zero, List.set_cons_succ]
          refine UpTo.take 1 [8, 9, 11] (v := ?_) (by (simp only [List.getElem?_toArray, List.getElem?_cons_succ, List.getElem?_cons_zero]; rfl)) (by kernel_rfl) (by kernel_rfl) (by kernel_rfl) (by kernel_rfl) (by exact fun _ _ _ h => h) (Or.inl ⟨by rfl, ?_⟩) hHeld ?_
          rotate_left
          · intro u hu
            try dsimp only at hu
            go_simp
            try with_reducible rfl
          try simp only [Act.put, List.setIfInBounds_toArray, List.set_cons_zero, List.set_cons_succ]
          refine UpTo.take 2 [7, 8, 9, 11] (v := ?_) (by (simp only [List.getElem?_toArray, List.getElem?_cons_succ, List.getElem?_cons_zero]; rfl)) (by kernel_rfl) (by kernel_rfl) (by kernel_rfl) (by kernel_rfl) (by exact fun _ _ _ h => h) (Or.inl ⟨by rfl, ?_⟩) hHeld ?_
          rotate_left
          · intro u hu
            try dsimp only at hu
            go_simp
            try with_reducible rfl
          try simp only [Act.put, List.setIfInBounds_toArray, List.set_cons_zero, List.set_cons_succ]
          refine UpTo.take 3 [5, 6, 7, 8, 9, 11] (v := ?_) (by (simp only [List.getElem?_toArray, List.getElem?_cons_succ, List.getElem?_cons_zero]; rfl)) (by kernel_rfl) (by kernel_rfl) (by kernel_rfl) (by kernel_rfl) (by exact fun _ _ _ h => h) (Or.inl ⟨by rfl, ?_⟩) hHeld ?_
          rotate_left
          · intro u hu
            try dsimp only at hu
            go_simp
            try with_reducible rfl
          try simp only [Act.put, List.setIfInBounds_toArray, List.set_cons_zero, List.set_cons_succ]
          refine UpTo.take 4 [5, 6, 7, 8, 9, 11] (v := ?_) (by (simp only [List.getElem?_toArray, List.getElem?_cons_succ, List.getElem?_cons_zero]; rfl)) (by kernel_rfl) (by kernel_rfl) (by kernel_rfl) (by kernel_rfl) (by exact fun _ _ _ h => h) (Or.inl ⟨by rfl, ?_⟩) hHeld ?_
          rotate_left
          · intro u hu
            try dsimp only at hu
            go_simp
            try with_reducible rfl
          try simp only [Act.put, List.setIfInBounds_toArray, List.set_cons_zero, List.set_cons_succ]
          refine UpTo.take 5 [6, 7, 8, 9, 11] (v := ?_) (by (simp only [List.getElem?_toArray, List.getElem?_cons_succ, List.getElem?_cons_zero]; rfl)) (by kernel_rfl) (by kernel_rfl) (by kernel_rfl) (by kernel_rfl) (by exact fun _ _ _ h => h) (Or.inl ⟨by rfl, ?_⟩) hHeld ?_
          rotate_left
          · intro u hu
            try dsimp only at hu
            go_simp
            try with_reducible rfl
          try simp only [Act.put, List.setIfInBounds_toArray, List.set_cons_zero, List.set_cons_succ]
          refine UpTo.take 6 [7, 8, 9, 11] (v := ?_) (by (simp only [List.getElem?_toArray, List.getElem?_cons_succ, List.getElem?_cons_zero]; rfl)) (by kernel_rfl) (by kernel_rfl) (by kernel_rfl) (by kernel_rfl) (by exact fun _ _ _ h => h) (Or.inl ⟨by rfl, ?_⟩) hHeld ?_
          rotate_left
          · intro u hu
            try dsimp only at hu
            go_simp
            try with_reducible rfl
          try simp only [Act.put, List.setIfInBounds_toArray, List.set_cons_zero, List.set_cons_succ]
          refine UpTo.two 7 10 (by kernel_rfl) (by (simp only [List.getElem?_toArray, List.getElem?_cons_succ, List.getElem?_cons_zero]; rfl)) (by (simp only [List.getElem?_toArray, List.getElem?_cons_succ, List.getElem?_cons_zero]; rfl)) (fun K hK => ?_) (fun K hK => ?_)
          · rw [if_pos (by rfl)]
            go_simp
            go_at_call 63
            refine (l4At_place wd (some ⟨pb, po, none⟩) roots.length xc (some ⟨fb, fo, none⟩) xe L n (by omega) (HX.out.rns.kept (K7.trans KD))).mono ?_
            rintro e w8 ⟨⟨q8, rfl, hq8⟩, k8⟩
            obtain rfl := place_at HV2.out.good.asc hj HJe.out HEr.out hq8
            have hjl : (j : Int) < (L.length : Int) := by omega
            have K8 := (K7.trans KD).trans k8
            refine hK.out _ _ (fun _ => HS12.out _ K8) ?_
            clear hK K hHeld hq8
            have hHeld := HS12.out _ K8
            try simp only [Act.put, List.setIfInBounds_toArray, List.set_cons_zero, List.set_cons_succ]
            refine UpTo.take 8 [9, 11] (v := ?_) (by (simp only [List.getElem?_toArray, List.getElem?_cons_succ, List.getElem?_cons_zero]; rfl)) (by kernel_rfl) (by kernel_rfl) (by kernel_rfl) (by kernel_rfl) (by exact fun _ _ _ h => h) (Or.inl ⟨by rfl, ?_⟩) hHeld ?_
            rotate_left
            · intro u hu
              try dsimp only at hu
              go_simp
              try with_reducible rfl
            try simp only [Act.put, List.setIfInBounds_toArray, List.set_cons_zero, List.set_cons_succ]
            refine UpTo.take 9 [11] (v := ?_) (by (simp only [List.getElem?_toArray, List.getElem?_cons_succ, List.getElem?_cons_zero]; rfl)) (by kernel_rfl) (by kernel_rfl) (by kernel_rfl) (by kernel_rfl) (by exact fun _ _ _ h => h) (Or.inl ⟨by rfl, ?_⟩) hHeld ?_
            rotate_left
            · intro u hu
              try dsimp only at hu
              go_simp
              try with_reducible rfl
            try simp only [Act.put, List.setIfInBounds_toArray, List.set_cons_zero, List.set_cons_succ]
            refine UpTo.next 10 (by kernel_rfl) (by (simp only [List.getElem?_toArray, List.getElem?_cons_succ, List.getElem?_cons_zero]; rfl)) (fun K hK => ?_)
            go_simp
            have K9 : Kept w8 (w8.alloc (.cells #[.string ⟨#[]⟩, .bool false, .bool false, .string ⟨#[]⟩, .int .i64 0, .int .i64 0, .slice none 0 0] 72)) := (Kept.refl _).alloc _
            have hRw : RowT (w8.alloc (.cells #[.string ⟨#[]⟩, .bool false, .bool false, .string ⟨#[]⟩, .int .i64 0, .int .i64 0, .slice none 0 0] 72)) w8.heap.size 72 7 := RowT.made w8 _ _
            have KE := (KD.trans k8).trans K9
            have nz := (KD.trans k8).size
            obtain ⟨gb, hgb⟩ : ∃ gb, gb = w8.heap.size := ⟨_, rfl⟩
            refine hK.out _ _ (fun _ => HS12.out _ (K7.trans KE)) ?_
            clear hK K
            rw [← hgb] at hRw nz ⊢
            generalize hwe : w8.alloc (.cells #[.string ⟨#[]⟩, .bool false, .bool false, .string ⟨#[]⟩, .int .i64 0, .int .i64 0, .slice none 0 0] 72) = wE at hRw KE ⊢
            clear hwe K9 hgb
            try simp only [Act.put, List.setIfInBounds_toArray, List.set_cons_zero, List.set_cons_succ]
            obtain ⟨⟨_, v0⟩, f0⟩ := hRw.row.at (i := 0) (by omega)
            obtain ⟨⟨_, v1⟩, f1⟩ := hRw.row.at (i := 1) (by omega)
            obtain ⟨⟨_, v2⟩, f2⟩ := hRw.row.at (i := 2) (by omega)
            obtain ⟨⟨_, v3⟩, f3⟩ := hRw.row.at (i := 3) (by omega)
            obtain ⟨⟨_, v4⟩, f4⟩ := hRw.row.at (i := 4) (by omega)
            obtain ⟨⟨_, v5⟩, f5⟩ := hRw.row.at (i := 5) (by omega)
            obtain ⟨⟨_, v6⟩, f6⟩ := hRw.row.at (i := 6) (by omega)
            have vz := hRw.lt
            refine UpTo.next 11 (by kernel_rfl) (by (simp only [List.getElem?_toArray, List.getElem?_cons_succ, List.getElem?_cons_zero]; rfl)) (fun K hK => ?_)
            go_simp
            refine hK.out _ _ (fun h => absurd rfl h) ?_
            clear hK K
            try simp only [Act.put, List.setIfInBounds_toArray, List.set_cons_zero, List.set_cons_succ]
            refine UpTo.done (by kernel_rfl) ?_
            go_wp2_with fail
            go_meet
            exact ⟨gb, rfl, kept_sets (g := gb) nz [.string r.name, .bool r.over, .bool r.fail, .string r.text, .int .i64 r.at', .int .i64 r.visits, .slice ta r.texts.length tc] 0 KE, RBox.laid hRw⟩
          · rw [if_pos (by rfl)]
            go_simp
            have K9 : Kept wd (wd.alloc (.cells #[.string ⟨#[]⟩, .bool false, .bool false, .string ⟨#[]⟩, .int .i64 0, .int .i64 0, .slice none 0 0] 72)) := (Kept.refl _).alloc _
            have hRw0 : RowT (wd.alloc (.cells #[.string ⟨#[]⟩, .bool false, .bool false, .string ⟨#[]⟩, .int .i64 0, .int .i64 0, .slice none 0 0] 72)) wd.heap.size 72 7 := RowT.made wd _ _
            have KF := KD.trans K9
            have nz := KD.size
            obtain ⟨gb, hgb⟩ : ∃ gb, gb = wd.heap.size := ⟨_, rfl⟩
            refine hK.out _ _ (fun _ => HS12.out _ (K7.trans KF)) ?_
            clear hK K
            rw [← hgb] at hRw0 nz ⊢
            generalize hwe : wd.alloc (.cells #[.string ⟨#[]⟩, .bool false, .bool false, .string ⟨#[]⟩, .int .i64 0, .int .i64 0, .slice none 0 0] 72) = wF at hRw0 KF ⊢
            clear hwe K9 hgb
            try simp only [Act.put, List.setIfInBounds_toArray, List.set_cons_zero, List.set_cons_succ]
            refine UpTo.next 7 (by kernel_rfl) (by (simp only [List.getElem?_toArray, List.getElem?_cons_succ, List.getElem?_cons_zero]; rfl)) (fun K hK => ?_)
            rw [if_pos (by rfl)]
            go_simp
            go_at_call 63
            refine (l4At_place wF (some ⟨pb, po, none⟩) roots.length xc (some ⟨fb, fo, none⟩) xe L n (by omega) (HX.out.rns.kept (K7.trans KF))).mono ?_
            rintro e w8 ⟨⟨q8, rfl, hq8⟩, k8⟩
            obtain rfl := place_at HV2.out.good.asc hj HJe.out HEr.out hq8
            have hjl : (j : Int) < (L.length : Int) := by omega
            have K8 := (K7.trans KF).trans k8
            refine hK.out _ _ (fun _ => HS12.out _ K8) ?_
            clear hK K hHeld hq8
            have hHeld := HS12.out _ K8
            try simp only [Act.put, List.setIfInBounds_toArray, List.set_cons_zero, List.set_cons_succ]
            refine UpTo.take 8 [9, 11] (v := ?_) (by (simp only [List.getElem?_toArray, List.getElem?_cons_succ, List.getElem?_cons_zero]; rfl)) (by kernel_rfl) (by kernel_rfl) (by kernel_rfl) (by kernel_rfl) (by exact fun _ _ _ h => h) (Or.inl ⟨by rfl, ?_⟩) hHeld ?_
            rotate_left
            · intro u hu
              try dsimp only at hu
              go_simp
              try with_reducible rfl
            try simp only [Act.put, List.setIfInBounds_toArray, List.set_cons_zero, List.set_cons_succ]
            refine UpTo.take 9 [11] (v := ?_) (by (simp only [List.getElem?_toArray, List.getElem?_cons_succ, List.getElem?_cons_zero]; rfl)) (by kernel_rfl) (by kernel_rfl) (by kernel_rfl) (by kernel_rfl) (by exact fun _ _ _ h => h) (Or.inl ⟨by rfl, ?_⟩) hHeld ?_
            rotate_left
            · intro u hu
              try dsimp only at hu
              go_simp
              try with_reducible rfl
            try simp only [Act.put, List.setIfInBounds_toArray, List.set_cons_zero, List.set_cons_succ]
            have hRw := hRw0.kept k8
            have KE := KF.trans k8
            obtain ⟨⟨_, v0⟩, f0⟩ := hRw.row.at (i := 0) (by omega)
            obtain ⟨⟨_, v1⟩, f1⟩ := hRw.row.at (i := 1) (by omega)
            obtain ⟨⟨_, v2⟩, f2⟩ := hRw.row.at (i := 2) (by omega)
            obtain ⟨⟨_, v3⟩, f3⟩ := hRw.row.at (i := 3) (by omega)
            obtain ⟨⟨_, v4⟩, f4⟩ := hRw.row.at (i := 4) (by omega)
            obtain ⟨⟨_, v5⟩, f5⟩ := hRw.row.at (i := 5) (by omega)
            obtain ⟨⟨_, v6⟩, f6⟩ := hRw.row.at (i := 6) (by omega)
            have vz := hRw.lt
            refine UpTo.next 11 (by kernel_rfl) (by (simp only [List.getElem?_toArray, List.getElem?_cons_succ, List.getElem?_cons_zero]; rfl)) (fun K hK => ?_)
            go_simp
            refine hK.out _ _ (fun h => absurd rfl h) ?_
            clear hK K
            try simp only [Act.put, List.setIfInBounds_toArray, List.set_cons_zero, List.set_cons_succ]
            refine UpTo.done (by kernel_rfl) ?_
            go_wp2_with fail
            go_meet
            exact ⟨gb, rfl, kept_sets (g := gb) nz [.string r.name, .bool r.over, .bool r.fail, .string r.text, .int .i64 r.at', .int .i64 r.visits, .slice ta r.texts.length tc] 0 KE, RBox.laid hRw⟩
        case rest =>
          obtain ⟨gb, rfl, k8, hbx⟩ := hcut
          obtain ⟨w8, rfl⟩ : ∃ w8, w8 = wc := ⟨_, rfl⟩
          have K8 := K7.trans k8
          obtain ⟨_, _, _, _, _, g5, _⟩ := hbx.all
          have gz := hbx.row.lt
          obtain ⟨_, s1, _⟩ := HS11.out _ K8
          have z1 := (HC.out _ (K3.trans (Kr2.trans K8))).2.2.2.2
          have HSk : Hid (¬ Behind (W := actsOf webl) behindS (envOf sl) (envOf L) n → RoundX webl (envOf sl) (envOf (startL webl roots)) ns L0 L (i + 1) b) := fun h => HV2.out.skip (by rw [← HN.out]; exact h)
          clear hbx k8
          go_upto_region 13 with fail
          rcases HQ7.out with ⟨q, hq, rfl, hge, _⟩ | ⟨rfl, hge⟩
          rotate_left
          · have HGe := hide hge
            clear hge
            go_quiet (fail)
            go_wp2_with fail
            go_roundg (gk - 1)
            case measure => omega
            case rel => exact ⟨i + 1, b, L, _, xc, _, xe, rfl, by go_num, by omega, (KB.trans (KeptBut.of_kept K8)).drewN nq, HX.out.kept (K8.drewN nq), hide (HSk.out (not_behind_none HGe.out))⟩
          obtain ⟨g, hg⟩ : ∃ g, g = sl.getD q RunX.zero := ⟨_, rfl⟩
          rw [← hg] at hge
          have HGe := hide hge
          obtain ⟨hb, ho, ua, uc, rfl, hhb, hcs, _, _⟩ := hS q hq
          rw [← hg] at hcs
          have KW := HKB.out.trans (K3.trans (Kr2.trans K8))
          have u1 := (KW.cell hhb).trans (hcs 1 _ rfl)
          have u5 := (KW.cell hhb).trans (hcs 5 _ rfl)
          have uz := Nat.lt_of_lt_of_le hhb KW.size
          have q0 : ¬ (q : Int) < 0 := by omega
          have ql : (q : Int) < (sl.length : Int) := by omega
          clear hge hcs hg
          by_cases h1 : g.visits < r.visits
          · go_quiet (fail)
            go_wp2_with fail
            go_roundg (gk - 1)
            case measure => omega
            case rel => exact ⟨i + 1, b, L, _, xc, _, xe, rfl, by go_num, by omega, (KB.trans (KeptBut.of_kept K8)).drewN nq, HX.out.kept (K8.drewN nq), hide (HSk.out (not_behind HEr.out HGe.out (by rintro (h | ⟨h, _⟩) <;> omega)))⟩
          by_cases h2 : r.visits = g.visits
          · have h2b : (r.visits == g.visits) = true := by simp [h2]
            have H2 := hide h2
            clear h2
            cases hov : g.over
            · rw [hov] at u1
              go_quiet (fail)
              go_wp2_with fail
              go_roundg (gk - 1)
              case measure => omega
              case rel => exact ⟨i + 1, b, L, _, xc, _, xe, rfl, by go_num, by omega, (KB.trans (KeptBut.of_kept K8)).drewN nq, HX.out.kept (K8.drewN nq), hide (HSk.out (not_behind HEr.out HGe.out (by have := H2.out; rintro (h | ⟨_, h, _⟩); omega; rw [hov] at h; cases h)))⟩
            · rw [hov] at u1
              by_cases h3 : r.visits < 20
              · go_quiet (fail)
                go_wp2_with fail
                go_roundg (gk - 1)
                case measure => omega
                case rel => exact ⟨i + 1, b, L, _, xc, _, xe, rfl, by go_num, by omega, (KB.trans (KeptBut.of_kept K8)).drewN nq, HX.out.kept (K8.drewN nq), hide (HSk.out (not_behind HEr.out HGe.out (by have := H2.out; rintro (h | ⟨_, _, h⟩) <;> omega)))⟩
              · have HBe : Hid (Behind (W := actsOf webl) behindS (envOf sl) (envOf L) n) := ⟨⟨r, HEr.out, HCg.out⟩, r, g, HEr.out, HGe.out, .inr ⟨H2.out, hov, by omega⟩⟩
                go_quiet (fail)
                have K9 := K8.drewN nq
                generalize hw9 : w8.drewN nq = w9 at K9 ⊢
                clear hw9
                go_upto_region 14 with fail
                refine UpTo.region (by kernel_rfl) (fun w' => w'.cell? ⟨w.heap.size, 0, none⟩ = some (.slice a webl.length cap) ∧ w'.cell? ⟨xb, 0, none⟩ = some (.slice (some ⟨pb, po, none⟩) roots.length xc) ∧ w'.cell? ⟨xb, 1, none⟩ = some (.slice (some ⟨fb, fo, none⟩) L.length xe) ∧ w'.cell? ⟨lb, lo + i, none⟩ = some (.string n)) 7 (HS14.out _ (K9.drew)) (fun hHeld => ?_)
                have KD : Kept w9 w9.drew := (Kept.refl w9).drew
                generalize hwd : w9.drew = wd at hHeld KD ⊢
                clear hwd
                refine UpTo.take 0 [6, 7] (v := ?_) (by (simp only [List.getElem?_toArray, List.getElem?_cons_zero]; rfl)) (by kernel_rfl) (by kernel_rfl) (by kernel_rfl) (by kernel_rfl) (by exact fun _ _ _ h => h) (Or.inl ⟨by rfl, ?_⟩) hHeld ?_
                rotate_left
                · intro u hu
                  try dsimp only at hu
                  go_simp
                  try with_reducible rfl
                try simp only [Act.put, List.setIfInBounds_toArray, List.set_cons_zero, List.set_cons_succ]
                refine UpTo.take 1 [6, 7] (v := ?_) (by (simp only [List.getElem?_toArray, List.getElem?_cons_succ, List.getElem?_cons_zero]; rfl)) (by kernel_rfl) (by kernel_rfl) (by kernel_rfl) (by kernel_rfl) (by exact fun _ _ _ h => h) (Or.inl ⟨by rfl, ?_⟩) hHeld ?_
                rotate_left
                · intro u hu
                  try dsimp only at hu
                  go_simp
                  try with_reducible rfl
                try simp only [Act.put, List.setIfInBounds_toArray, List.set_cons_zero, List.set_cons_succ]
                refine UpTo.take 2 [4, 5, 6, 7] (v := ?_) (by (simp only [List.getElem?_toArray, List.getElem?_cons_succ, List.getElem?_cons_zero]; rfl)) (by kernel_rfl) (by kernel_rfl) (by kernel_rfl) (by kernel_rfl) (by exact fun _ _ _ h => h) (Or.inl ⟨by rfl, ?_⟩) hHeld ?_
                rotate_left
                · intro u hu
                  try dsimp only at hu
                  go_simp
                  try with_reducible rfl
                try simp only [Act.put, List.setIfInBounds_toArray, List.set_cons_zero, List.set_cons_succ]
                refine UpTo.take 3 [4, 5, 6, 7] (v := ?_) (by (simp only [List.getElem?_toArray, List.getElem?_cons_succ, List.getElem?_cons_zero]; rfl)) (by kernel_rfl) (by kernel_rfl) (by kernel_rfl) (by kernel_rfl) (by exact fun _ _ _ h => h) (Or.inl ⟨by rfl, ?_⟩) hHeld ?_
                rotate_left
                · intro u hu
                  try dsimp only at hu
                  go_simp
                  try with_reducible rfl
                try simp only [Act.put, List.setIfInBounds_toArray, List.set_cons_zero, List.set_cons_succ]
                refine UpTo.take 4 [5, 6, 7] (v := ?_) (by (simp only [List.getElem?_toArray, List.getElem?_cons_succ, List.getElem?_cons_zero]; rfl)) (by kernel_rfl) (by kernel_rfl) (by kernel_rfl) (by kernel_rfl) (by exact fun _ _ _ h => h) (Or.inl ⟨by rfl, ?_⟩) hHeld ?_
                rotate_left
                · intro u hu
                  try dsimp only at hu
                  go_simp
                  try with_reducible rfl
                try simp only [Act.put, List.setIfInBounds_toArray, List.set_cons_zero, List.set_cons_succ]
                refine UpTo.take 5 [6, 7] (v := ?_) (by (simp only [List.getElem?_toArray, List.getElem?_cons_succ, List.getElem?_cons_zero]; rfl)) (by kernel_rfl) (by kernel_rfl) (by kernel_rfl) (by kernel_rfl) (by exact fun _ _ _ h => h) (Or.inl ⟨by rfl, ?_⟩) hHeld ?_
                rotate_left
                · intro u hu
                  try dsimp only at hu
                  go_simp
                  try with_reducible rfl
                try simp only [Act.put, List.setIfInBounds_toArray, List.set_cons_zero, List.set_cons_succ]
                refine UpTo.next 6 (by kernel_rfl) (by (simp only [List.getElem?_toArray, List.getElem?_cons_succ, List.getElem?_cons_zero]; rfl)) (fun K hK => ?_)
                rw [if_pos (by rfl)]
                go_simp
                go_at_call 56
                have KX := K9.trans KD
                refine (doX_any wd a cap webl pb po xc roots (some ⟨fb, fo, none⟩) xe L n r (by omega) (by omega) (web_small HW.out) (web_acts HW.out) hft hrl1 HV2.out.good HEr.out HCg.out (hN.kept (HKB.out.trans (K3.trans (Kr2.trans KX)))) (HX.out.rns.kept KX) (HX.out.rts.kept KX)).mono ?_
                rintro e wA ⟨xa2, xc2, xd2, xe2, xs2, rfl, hTA, hOA, hPA, kA⟩
                have KA := KX.trans kA
                have zA := KX.size
                have HLa := hide (XVar.laid (by omega) (HX.out.row.kept KA) hTA hOA hPA)
                have HDd : Hid (RoundX webl (envOf sl) (envOf (startL webl roots)) ns L0 (doL (actsOf webl) L r) (i + 1) true) := HV2.out.did (web_acts HW.out) (HRL.out.nodup HV.out.good.asc) hil (by rw [← HN.out]; exact HBe.out) (by rw [← HN.out]; exact HEr.out)
                clear hTA hOA hPA kA
                obtain ⟨T, hTT⟩ : ∃ T, T = doL (actsOf webl) L r := ⟨_, rfl⟩
                rw [← hTT] at HLa HDd ⊢
                clear hTT
                have hRA := HX.out.row.kept KA
                obtain ⟨⟨_, x0⟩, f0⟩ := hRA.row.at (i := 0) (by omega)
                obtain ⟨⟨_, x1⟩, f1⟩ := hRA.row.at (i := 1) (by omega)
                have xzA := hRA.lt
                clear hRA
                refine hK.out _ _ (fun _ => HS14.out _ KA) ?_
                clear hK K hHeld
                try simp only [Act.put, List.setIfInBounds_toArray, List.set_cons_zero, List.set_cons_succ]
                refine UpTo.next 7 (by kernel_rfl) (by (simp only [List.getElem?_toArray, List.getElem?_cons_succ, List.getElem?_cons_zero]; rfl)) (fun K hK => ?_)
                go_simp
                refine hK.out _ _ (fun h => absurd rfl h) ?_
                clear hK K
                try simp only [Act.put, List.setIfInBounds_toArray, List.set_cons_zero, List.set_cons_succ]
                refine UpTo.done (by kernel_rfl) ?_
                go_wp2_with fail
                go_roundg (gk - 1)
                case measure => omega
                case rel => exact ⟨i + 1, true, T, xa2, xc2, xd2, xe2, rfl, by go_num, by omega, KeptBut.sets (Nat.le_refl _) (Nat.lt_succ_self _) [.slice xa2 roots.length xc2, .slice xd2 T.length xe2] 0 (KB.trans (KeptBut.of_kept KA)), HLa.out, HDd⟩
          · have h2b : (r.visits == g.visits) = false := by simpa using h2
            have h1' : r.visits < g.visits := by omega
            clear h2
            have HBe : Hid (Behind (W := actsOf webl) behindS (envOf sl) (envOf L) n) := ⟨⟨r, HEr.out, HCg.out⟩, r, g, HEr.out, HGe.out, .inl h1'⟩
            go_quiet (fail)
            have K9 := K8.drewN nq
            generalize hw9 : w8.drewN nq = w9 at K9 ⊢
            clear hw9
            go_upto_region 14 with fail
            refine UpTo.region (by kernel_rfl) (fun w' => w'.cell? ⟨w.heap.size, 0, none⟩ = some (.slice a webl.length cap) ∧ w'.cell? ⟨xb, 0, none⟩ = some (.slice (some ⟨pb, po, none⟩) roots.length xc) ∧ w'.cell? ⟨xb, 1, none⟩ = some (.slice (some ⟨fb, fo, none⟩) L.length xe) ∧ w'.cell? ⟨lb, lo + i, none⟩ = some (.string n)) 7 (HS14.out _ (K9.drew)) (fun hHeld => ?_)
            have KD : Kept w9 w9.drew := (Kept.refl w9).drew
            generalize hwd : w9.drew = wd at hHeld KD ⊢
            clear hwd
            refine UpTo.take 0 [6, 7] (v := ?_) (by (simp only [List.getElem?_toArray, List.getElem?_cons_zero]; rfl)) (by kernel_rfl) (by kernel_rfl) (by kernel_rfl) (by kernel_rfl) (by exact fun _ _ _ h => h) (Or.inl ⟨by rfl, ?_⟩) hHeld ?_
            rotate_left
            · intro u hu
              try dsimp only at hu
              go_simp
              try with_reducible rfl
            try simp only [Act.put, List.setIfInBounds_toArray, List.set_cons_zero, List.set_cons_succ]
            refine UpTo.take 1 [6, 7] (v := ?_) (by (simp only [List.getElem?_toArray, List.getElem?_cons_succ, List.getElem?_cons_zero]; rfl)) (by kernel_rfl) (by kernel_rfl) (by kernel_rfl) (by kernel_rfl) (by exact fun _ _ _ h => h) (Or.inl ⟨by rfl, ?_⟩) hHeld ?_
            rotate_left
            · intro u hu
              try dsimp only at hu
              go_simp
              try with_reducible rfl
            try simp only [Act.put, List.setIfInBounds_toArray, List.set_cons_zero, List.set_cons_succ]
            refine UpTo.take 2 [4, 5, 6, 7] (v := ?_) (by (simp only [List.getElem?_toArray, List.getElem?_cons_succ, List.getElem?_cons_zero]; rfl)) (by kernel_rfl) (by kernel_rfl) (by kernel_rfl) (by kernel_rfl) (by exact fun _ _ _ h => h) (Or.inl ⟨by rfl, ?_⟩) hHeld ?_
            rotate_left
            · intro u hu
              try dsimp only at hu
              go_simp
              try with_reducible rfl
            try simp only [Act.put, List.setIfInBounds_toArray, List.set_cons_zero, List.set_cons_succ]
            refine UpTo.take 3 [4, 5, 6, 7] (v := ?_) (by (simp only [List.getElem?_toArray, List.getElem?_cons_succ, List.getElem?_cons_zero]; rfl)) (by kernel_rfl) (by kernel_rfl) (by kernel_rfl) (by kernel_rfl) (by exact fun _ _ _ h => h) (Or.inl ⟨by rfl, ?_⟩) hHeld ?_
            rotate_left
            · intro u hu
              try dsimp only at hu
              go_simp
              try with_reducible rfl
            try simp only [Act.put, List.setIfInBounds_toArray, List.set_cons_zero, List.set_cons_succ]
            refine UpTo.take 4 [5, 6, 7] (v := ?_) (by (simp only [List.getElem?_toArray, List.getElem?_cons_succ, List.getElem?_cons_zero]; rfl)) (by kernel_rfl) (by kernel_rfl) (by kernel_rfl) (by kernel_rfl) (by exact fun _ _ _ h => h) (Or.inl ⟨by rfl, ?_⟩) hHeld ?_
            rotate_left
            · intro u hu
              try dsimp only at hu
              go_simp
              try with_reducible rfl
            try simp only [Act.put, List.setIfInBounds_toArray, List.set_cons_zero, List.set_cons_succ]
            refine UpTo.take 5 [6, 7] (v := ?_) (by (simp only [List.getElem?_toArray, List.getElem?_cons_succ, List.getElem?_cons_zero]; rfl)) (by kernel_rfl) (by kernel_rfl) (by kernel_rfl) (by kernel_rfl) (by exact fun _ _ _ h => h) (Or.inl ⟨by rfl, ?_⟩) hHeld ?_
            rotate_left
            · intro u hu
              try dsimp only at hu
              go_simp
              try with_reducible rfl
            try simp only [Act.put, List.setIfInBounds_toArray, List.set_cons_zero, List.set_cons_succ]
            refine UpTo.next 6 (by kernel_rfl) (by (simp only [List.getElem?_toArray, List.getElem?_cons_succ, List.getElem?_cons_zero]; rfl)) (fun K hK => ?_)
            rw [if_pos (by rfl)]
            go_simp
            go_at_call 56
            have KX := K9.trans KD
            refine (doX_any wd a cap webl pb po xc roots (some ⟨fb, fo, none⟩) xe L n r (by omega) (by omega) (web_small HW.out) (web_acts HW.out) hft hrl1 HV2.out.good HEr.out HCg.out (hN.kept (HKB.out.trans (K3.trans (Kr2.trans KX)))) (HX.out.rns.kept KX) (HX.out.rts.kept KX)).mono ?_
            rintro e wA ⟨xa2, xc2, xd2, xe2, xs2, rfl, hTA, hOA, hPA, kA⟩
            have KA := KX.trans kA
            have zA := KX.size
            have HLa := hide (XVar.laid (by omega) (HX.out.row.kept KA) hTA hOA hPA)
            have HDd : Hid (RoundX webl (envOf sl) (envOf (startL webl roots)) ns L0 (doL (actsOf webl) L r) (i + 1) true) := HV2.out.did (web_acts HW.out) (HRL.out.nodup HV.out.good.asc) hil (by rw [← HN.out]; exact HBe.out) (by rw [← HN.out]; exact HEr.out)
            clear hTA hOA hPA kA
            obtain ⟨T, hTT⟩ : ∃ T, T = doL (actsOf webl) L r := ⟨_, rfl⟩
            rw [← hTT] at HLa HDd ⊢
            clear hTT
            have hRA := HX.out.row.kept KA
            obtain ⟨⟨_, x0⟩, f0⟩ := hRA.row.at (i := 0) (by omega)
            obtain ⟨⟨_, x1⟩, f1⟩ := hRA.row.at (i := 1) (by omega)
            have xzA := hRA.lt
            clear hRA
            refine hK.out _ _ (fun _ => HS14.out _ KA) ?_
            clear hK K hHeld
            try simp only [Act.put, List.setIfInBounds_toArray, List.set_cons_zero, List.set_cons_succ]
            refine UpTo.next 7 (by kernel_rfl) (by (simp only [List.getElem?_toArray, List.getElem?_cons_succ, List.getElem?_cons_zero]; rfl)) (fun K hK => ?_)
            go_simp
            refine hK.out _ _ (fun h => absurd rfl h) ?_
            clear hK K
            try simp only [Act.put, List.setIfInBounds_toArray, List.set_cons_zero, List.set_cons_succ]
            refine UpTo.done (by kernel_rfl) ?_
            go_wp2_with fail
            go_roundg (gk - 1)
            case measure => omega
            case rel => exact ⟨i + 1, true, T, xa2, xc2, xd2, xe2, rfl, by go_num, by omega, KeptBut.sets (Nat.le_refl _) (Nat.lt_succ_self _) [.slice xa2 roots.length xc2, .slice xd2 T.length xe2] 0 (KB.trans (KeptBut.of_kept KA)), HLa.out, HDd⟩

end Go.Proofs.YtghipdfemoofhaaGreatDoor

namespace Go.Proofs.YtghipdfemoofhaaGreatDoor
open Go.RowKit

end Go.Proofs.YtghipdfemoofhaaGreatDoor

namespace Go.Proofs.YtghipdfemoofhaaGreatDoor
open Go.RowKit

theorem ValidX.good {webl : List NodeD} {roots : List ByteArray} {sl : List RunX} (h : ValidX webl roots sl) : GoodL webl sl := by
  obtain ⟨_, _, _, k, L, hg, _, _, rfl⟩ := h
  exact hg
theorem GoodL.texts {webl : List NodeD} {l : List RunX} (h : GoodL webl l) : ∀ r ∈ l, r.texts.length ≤ 1000 := fun r hr => by
  have h1 := (h.good r hr).tl
  have h2 := (h.good r hr).hi
  omega

def ReadyEnd (webl : List NodeD) (roots : List ByteArray) (sl : List RunX) (w' : World) (e : Ending) : Prop :=
  ∃ (da : Option Addr) (c : Nat) (ns : List ByteArray), e = .returned (.slice da ns.length c) ∧ TStrs w' 9 da ns ∧ ((ValidX webl roots sl ∧ ReadyL (actsOf webl) (envOf sl) sl ns) ∨ (¬ ValidX webl roots sl ∧ ns = []))

set_option maxRecDepth 100000 in
set_option maxHeartbeats 1600000 in
theorem specReady_any (w : World) (a : Option Addr) (cap : Nat) (webl : List NodeD) (ra : Option Addr) (rc : Nat) (roots : List ByteArray) (d : Option Addr) (dc : Nat) (sl : List RunX) (hwl : webl.length ≤ 1048576) (hft : ∀ y ∈ webl, y.Fits) (hrl : roots.length ≤ 1048576) (hrs : ∀ s ∈ roots, s.size ≤ maxLen) (hsl : sl.length ≤ 1048576) (hst : ∀ x ∈ sl, x.texts.length ≤ 1048576)
    (hN : Nodes w a webl) (hS : RunsX w d sl) (hR : Strs w ra roots) :
    Calls Tryz.prog 11 #[.agg #[.slice a webl.length cap], .agg #[.slice ra roots.length rc, .slice d sl.length dc]] w fun e w' => ReadyEnd webl roots sl w' e ∧ Kept w w' := by
  obtain ⟨WB, hWB⟩ : ∃ WB, WB = (w.alloc (.cells #[.slice a webl.length cap] 34)).alloc (.cells #[.slice ra roots.length rc, .slice d sl.length dc] 38) := ⟨_, rfl⟩
  have kB : Kept w WB := by rw [hWB]; exact ((Kept.refl _).alloc _).alloc _
  have hBs : WB.heap.size = w.heap.size + 2 := by rw [hWB]; simp
  have b0 : WB.cell? ⟨w.heap.size, 0, none⟩ = some (.slice a webl.length cap) := by rw [hWB, Kept.cell (w := w.alloc (.cells #[.slice a webl.length cap] 34)) ((Kept.refl _).alloc _) (by simp)]; exact range_new w _ _ 0 _ rfl
  have s0 : WB.cell? ⟨w.heap.size + 1, 0, none⟩ = some (.slice ra roots.length rc) := by have := range_new (w.alloc (.cells #[.slice a webl.length cap] 34)) #[.slice ra roots.length rc, .slice d sl.length dc] 38 0 _ rfl; rw [World.size_alloc] at this; rw [hWB]; exact this
  have s1 : WB.cell? ⟨w.heap.size + 1, 1, none⟩ = some (.slice d sl.length dc) := by have := range_new (w.alloc (.cells #[.slice a webl.length cap] 34)) #[.slice ra roots.length rc, .slice d sl.length dc] 38 1 _ rfl; rw [World.size_alloc] at this; rw [hWB]; exact this
  have z0 : w.heap.size < WB.heap.size := by omega
  have z1 : w.heap.size + 1 < WB.heap.size := by omega
  have HC : Hid (∀ w', Kept WB w' → w'.cell? ⟨w.heap.size, 0, none⟩ = some (.slice a webl.length cap) ∧ w'.cell? ⟨w.heap.size + 1, 0, none⟩ = some (.slice ra roots.length rc) ∧ w'.cell? ⟨w.heap.size + 1, 1, none⟩ = some (.slice d sl.length dc) ∧ w.heap.size < w'.heap.size ∧ w.heap.size + 1 < w'.heap.size) := fun w' K => ⟨(K.cell z0).trans b0, (K.cell z1).trans s0, (K.cell z1).trans s1, Nat.lt_of_lt_of_le z0 K.size, Nat.lt_of_lt_of_le z1 K.size⟩
  have HKB := hide kB
  clear kB hBs b0 s0 s1
  go_enter Tryz.func11, Tryz.ntmps11
  go_upto_region 1 with fail
  rw [← hWB]
  clear hWB
  obtain ⟨b0, s0, s1, _, _⟩ := HC.out _ (Kept.refl _)
  go_wp2_with fail
  refine (validState_any _ a cap webl ra rc roots d dc sl hwl hft hrl hrs hsl hst (hN.kept HKB.out) (hS.kept HKB.out) (hR.kept HKB.out)).mono ?_
  rintro e w1 ⟨⟨bv, rfl, hv⟩, k1⟩
  have HV := hide hv
  clear hv b0 s0 s1 z0 z1
  obtain ⟨b0, s0, s1, z0, z1⟩ := HC.out _ k1
  cases bv
  · go_wp2_with fail
    go_ret
    exact ⟨⟨some ⟨w1.heap.size, 0, none⟩, 0, [], rfl, .inl rfl, .inr ⟨fun h => (by have := HV.out.2 h; cases this), rfl⟩⟩, (HKB.out.trans k1).alloc _⟩
  · have hval := HV.out.1 rfl
    have HVal := hide hval
    have hgl := hval.good
    have hwl6 := web_len hval.1
    have hll := hgl.len
    clear hval
    go_wp2_with fail
    refine (ready_any w1 a cap webl ra roots.length rc d dc sl hwl hsl (web_small HVal.out.1) (fun r hr _ _ => (hgl.good r hr).act) (hN.kept (HKB.out.trans k1)) (hS.kept (HKB.out.trans k1))).mono ?_
    rintro e w2 ⟨⟨da, c, ns, rfl, hRL, hOw⟩, k2⟩
    have HRL := hide hRL
    have HOw := hide hOw
    clear hRL hOw
    go_wp2_with fail
    go_ret
    exact ⟨⟨da, c, ns, rfl, (tstrs_owned HOw.out).1, .inl ⟨HVal.out, HRL.out⟩⟩, HKB.out.trans (k1.trans k2)⟩

def DoneX (webl : List NodeD) (sl : List RunX) (name : ByteArray) (T : List RunX) : Prop :=
  (∃ r, envOf sl name = some r ∧ CanGo (actsOf webl) (envOf sl) r ∧ T = doL (actsOf webl) sl r) ∨ (¬ ReadyX (actsOf webl) (envOf sl) name ∧ T = sl)
theorem DoneX.good {webl : List NodeD} {sl T : List RunX} {name : ByteArray} (h : DoneX webl sl name T) (hok : ActsOk (actsOf webl)) (hg : GoodL webl sl) : GoodL webl T := by
  rcases h with ⟨r, h1, h2, rfl⟩ | ⟨_, rfl⟩
  · exact doL_good hok hg (env_mem h1).1 h2
  · exact hg
theorem DoneX.unique {webl : List NodeD} {sl T T' : List RunX} {name : ByteArray} (h : DoneX webl sl name T) (h' : DoneX webl sl name T') : T = T' := by
  rcases h with ⟨r, h1, h2, rfl⟩ | ⟨h1, rfl⟩ <;> rcases h' with ⟨r', g1, g2, rfl⟩ | ⟨g1, rfl⟩
  · rw [h1] at g1; cases g1; rfl
  · exact absurd ⟨r, h1, h2⟩ g1
  · exact absurd ⟨r', g1, g2⟩ h1
  · rfl
end Go.Proofs.YtghipdfemoofhaaGreatDoor
