import Derived.Test.YtghipdfemoofhaaGreatDoorKXValid0
import Derived.Deep.QuietTactic
import Derived.BigQuiet
import Derived.Test.YtghipdfemoofhaaGreatDoorKVOrder
namespace Go.Proofs.YtghipdfemoofhaaGreatDoor
open Go.RowKit
theorem place_at {l : List RunX} {n : ByteArray} {r : RunX} {j : Nat} {q : Int} (ha : AscX l) (hj : j < l.length) (hje : l.getD j RunX.zero = r) (hr : envOf l n = some r) (h : PlaceX l n q) : q = (j : Int) := by
  rcases h with ⟨k, hk, e1, h1, h2⟩ | ⟨_, h1⟩
  · rw [e1]
    have e2 : l.getD k RunX.zero = l.getD j RunX.zero := by rw [hr] at h1; rw [← Option.some.inj h1, hje]
    simp only [List.getD, List.getElem?_eq_getElem hj, List.getElem?_eq_getElem hk, Option.getD_some] at e2
    have e3 := congrArg RunX.name e2
    have hasc := List.pairwise_iff_getElem.1 ha
    rcases Nat.lt_trichotomy k j with h | h | h
    · exact absurd e3 (lessX_ne (hasc k j hk hj h))
    · rw [h]
    · exact absurd e3.symm (lessX_ne (hasc j k hj hk h))
  · rw [hr] at h1; cases h1
set_option maxRecDepth 100000 in
set_option maxHeartbeats 12800000 in
theorem validState_any (w : World) (a : Option Addr) (cap : Nat) (webl : List NodeD) (ra : Option Addr) (rc : Nat) (roots : List ByteArray) (d : Option Addr) (dc : Nat) (sl : List RunX) (hwl : webl.length ≤ 1048576) (hft : ∀ y ∈ webl, y.Fits) (hrl : roots.length ≤ 1048576) (hrs : ∀ s ∈ roots, s.size ≤ maxLen) (hsl : sl.length ≤ 1048576) (hst : ∀ x ∈ sl, x.texts.length ≤ 1048576)
    (hN : Nodes w a webl) (hS : RunsX w d sl) (hR : Strs w ra roots) :
    Calls Tryz.prog 25 #[.agg #[.slice a webl.length cap], .agg #[.slice ra roots.length rc, .slice d sl.length dc]] w fun e w' => SaidB e (ValidX webl roots sl) ∧ Kept w w' := by
  obtain ⟨WB, hWB⟩ : ∃ WB, WB = (w.alloc (.cells #[.slice a webl.length cap] 34)).alloc (.cells #[.slice ra roots.length rc, .slice d sl.length dc] 38) := ⟨_, rfl⟩
  have kB : Kept w WB := by rw [hWB]; exact ((Kept.refl _).alloc _).alloc _
  have hBs : WB.heap.size = w.heap.size + 2 := by rw [hWB]; simp
  have b0 : WB.cell? ⟨w.heap.size, 0, none⟩ = some (.slice a webl.length cap) := by rw [hWB, Kept.cell (w := w.alloc (.cells #[.slice a webl.length cap] 34)) ((Kept.refl _).alloc _) (by simp)]; exact range_new w _ _ 0 _ rfl
  have s0 : WB.cell? ⟨w.heap.size + 1, 0, none⟩ = some (.slice ra roots.length rc) := by have := range_new (w.alloc (.cells #[.slice a webl.length cap] 34)) #[.slice ra roots.length rc, .slice d sl.length dc] 38 0 _ rfl; rw [World.size_alloc] at this; rw [hWB]; exact this
  have s1 : WB.cell? ⟨w.heap.size + 1, 1, none⟩ = some (.slice d sl.length dc) := by have := range_new (w.alloc (.cells #[.slice a webl.length cap] 34)) #[.slice ra roots.length rc, .slice d sl.length dc] 38 1 _ rfl; rw [World.size_alloc] at this; rw [hWB]; exact this
  have z0 : w.heap.size < WB.heap.size := by omega
  have z1 : w.heap.size + 1 < WB.heap.size := by omega
  have HC : Hid (∀ w', Kept WB w' → w'.cell? ⟨w.heap.size, 0, none⟩ = some (.slice a webl.length cap) ∧ w'.cell? ⟨w.heap.size + 1, 0, none⟩ = some (.slice ra roots.length rc) ∧ w'.cell? ⟨w.heap.size + 1, 1, none⟩ = some (.slice d sl.length dc) ∧ w.heap.size < w'.heap.size ∧ w.heap.size + 1 < w'.heap.size) := fun w' K => ⟨(K.cell z0).trans b0, (K.cell z1).trans s0, (K.cell z1).trans s1, Nat.lt_of_lt_of_le z0 K.size, Nat.lt_of_lt_of_le z1 K.size⟩
  have HKB := hide kB
  clear kB hBs b0 s0 s1
  go_enter Tryz.func25, Tryz.ntmps25
  go_upto_region 1 with fail
  rw [← hWB]
  clear hWB
  obtain ⟨b0, s0, s1, _, _⟩ := HC.out _ (Kept.refl _)
  go_wp2_with fail
  refine (specCheckWeb_any _ a cap webl (by unfold maxLen; omega) hft (hN.kept HKB.out)).mono ?_
  rintro e w1 ⟨⟨c, rfl, hc⟩, k1⟩
  clear b0 s0 s1 z0 z1
  obtain ⟨b0, s0, s1, z0, z1⟩ := HC.out _ k1
  by_cases hc0 : c = 0
  rotate_left
  · have hcb : (c != 0) = true := by simpa using hc0
    have HCn : Hid (¬ WebCode webl 0) := fun h => hc0 (hc.unique h)
    clear hc0 hc
    go_wp2_with fail
    go_ret
    exact ⟨⟨false, rfl, by simp only [Bool.false_eq_true, false_iff]; exact fun h => HCn.out h.1⟩, HKB.out.trans k1⟩
  subst hc0
  have HW := hide hc
  clear hc
  go_wp2_with fail
  refine (l3RootsOk_any _ ra rc roots (by unfold maxLen; omega) hrs (hR.kept (HKB.out.trans k1))).mono ?_
  rintro e w2 ⟨hsay, k2⟩
  have K2 := k1.trans k2
  clear b0 s0 s1 z0 z1
  obtain ⟨b0, s0, s1, z0, z1⟩ := HC.out _ K2
  rcases hsay.cases with ⟨rfl, hyes⟩ | ⟨rfl, hno⟩
  rotate_left
  · have HNo := hide hno
    clear hno hsay
    go_wp2_with fail
    go_ret
    exact ⟨⟨false, rfl, by simp only [Bool.false_eq_true, false_iff]; exact fun h => HNo.out h.2.1⟩, HKB.out.trans K2⟩
  have HY := hide hyes
  clear hyes hsay
  by_cases hle : sl.length ≤ webl.length
  rotate_left
  · have hgt : (webl.length : Int) < (sl.length : Int) := by omega
    go_wp2_with fail
    go_ret
    exact ⟨⟨false, rfl, by simp only [Bool.false_eq_true, false_iff]; exact fun h => hle h.2.2.1⟩, HKB.out.trans K2⟩
  have hgt : ¬ (webl.length : Int) < (sl.length : Int) := by omega
  obtain ⟨rb, ro, rfl, _, _⟩ := hR 0 (by have := HY.out.1; omega)
  have hwl6 := web_len HW.out
  have hrl1 := HY.out.2.1
  go_wp2_with fail
  refine (startX_any w2 a cap webl rb ro rc roots (by omega) hft HW.out HY.out hrs (hN.kept (HKB.out.trans K2)) (hR.kept (HKB.out.trans K2))).mono ?_
  rintro e w3 ⟨xa, xc, xd, xe, xs, rfl, hT3, hO3, hP3, k3⟩
  have K3 := K2.trans k3
  have HX3 : Hid (Strs w3 xa roots ∧ RunsX w3 xd (startL webl roots)) := by
    obtain ⟨a9, c9, e9, h9⟩ := owned_strs hT3
    simp only [Value.slice.injEq, true_and] at e9
    rw [← e9.1] at h9
    obtain ⟨_, a8, c8, e8, h8⟩ := PackedX.runs hO3 hP3 (Kept.refl _)
    simp only [Value.slice.injEq, true_and] at e8
    rw [← e8.1] at h8
    exact ⟨h9, h8.runs⟩
  clear hT3 hO3 hP3 k3
  obtain ⟨xb, hxb⟩ : ∃ xb, xb = w3.heap.size := ⟨_, rfl⟩
  have hxz : w3.heap.size ≤ xb := by omega
  have HXb := hide hxb
  clear b0 s0 s1 z0 z1
  go_upto_region 4 with fail
  rw [← hxb]
  clear hxb
  go_wp2
  go_loopg [6] (2 * potL webl (startL webl roots) + 1) (fun gg x6 wr => ∃ (L : List RunX) (bb : Bool) (xa : Option Addr) (xc : Nat) (xd : Option Addr) (xe : Nat), x6 = .bool bb ∧ Kept w3 wr ∧ XVar wr xb roots L xa xc xd xe ∧ Hid (OutV webl roots sl L bb gg))
  case atStart => exact ⟨startL webl roots, true, xa, xc, xd, xe, rfl, (Kept.refl _).alloc _, by rw [HXb.out]; exact XVar.made HX3.out.1 HX3.out.2, hide (OutV.begin HW.out roots sl)⟩
  case round =>
    clear HX3 HXb
    obtain ⟨L, bb, xa, xc, xd, xe, rfl, Kr, hX, HV⟩ := hrel
    obtain ⟨wO, rfl⟩ : ∃ wO, wO = wr := ⟨_, rfl⟩
    obtain ⟨gO, rfl⟩ : ∃ gO, gO = gk := ⟨_, rfl⟩
    have hLl : L.length ≤ 60 := by have := HV.out.good.len; omega
    obtain ⟨b0, s0, s1, z0, z1⟩ := HC.out _ (K3.trans Kr)
    have m0 := hX.c0
    have m1 := hX.c1
    have mz := hX.row.lt
    have HX := hide hX
    clear hX
    cases bb
    · go_wp2_with fail
      refine (same_any wO xa (some ⟨rb, ro, none⟩) xd d xc rc xe dc roots roots L sl hrl hrl (by omega) hsl (fun x hx => by have h1 := (HV.out.good.good x hx).tl; have h2 := (HV.out.good.good x hx).hi; omega) hst HX.out.rts (hR.kept (HKB.out.trans (K3.trans Kr))) HX.out.rns (hS.kept (HKB.out.trans (K3.trans Kr)))).mono ?_
      rintro e w5 ⟨⟨b5, rfl, h5⟩, k5⟩
      have H5 := hide h5
      clear h5
      go_wp2_with fail
      go_ret
      refine ⟨⟨b5, rfl, ?_⟩, HKB.out.trans ((K3.trans Kr).trans k5)⟩
      rw [H5.out]
      obtain ⟨kk, hl⟩ := HV.out.led
      have h := goalX_iff HV.out.good hl (HV.out.fin rfl)
      exact ⟨fun ⟨_, e⟩ => ⟨HW.out, HY.out, hle, h.1 e⟩, fun ⟨_, _, _, g⟩ => ⟨by trivial, h.2 g⟩⟩
    · go_wp2_with fail
      refine (ready_any wO a cap webl xa roots.length xc xd xe L (by omega) (by omega) (web_small HW.out) (fun r hr _ _ => (HV.out.good.good r hr).act) (hN.kept (HKB.out.trans (K3.trans Kr))) HX.out.rns).mono ?_
      rintro e w6 ⟨⟨da, lc, ns, rfl, hRL, hOw⟩, k6⟩
      have HRL := hide hRL
      have HB6 := hide (StrsB.owned (xb := xb) hOw mz)
      have hnl : ns.length ≤ 60 := by have := hRL.len; omega
      have HX6 := hide (HX.out.kept k6)
      have K6 := Kr.trans k6
      clear hRL hOw b0 s0 s1 z0 z1 m0 m1 mz HX k6
      obtain ⟨L0, hL0⟩ : ∃ L0, L0 = L := ⟨_, rfl⟩
      have HN6 : Hid (RoundX webl (envOf sl) (envOf (startL webl roots)) ns L0 L 0 false) := by rw [hL0]; exact RoundX.start HV.out.good HV.out.led HRL.out
      rw [← hL0] at HV HRL
      clear hL0 hLl
      go_wp2
      go_loopg [6, 8] ns.length (fun gg x6 x8 wr => ∃ (i : Nat) (b : Bool) (L : List RunX) (xa : Option Addr) (xc : Nat) (xd : Option Addr) (xe : Nat), x6 = .bool b ∧ x8 = .int .i64 (i : Int) ∧ i + gg = ns.length ∧ KeptBut xb (xb + 1) w6 wr ∧ XVar wr xb roots L xa xc xd xe ∧ Hid (RoundX webl (envOf sl) (envOf (startL webl roots)) ns L0 L i b))
      case atStart => exact ⟨0, false, L, xa, xc, xd, xe, rfl, rfl, by omega, KeptBut.refl _ _ _, HX6.out, HN6⟩
      case round =>
        clear HX6 HN6
        obtain ⟨i, b, L, xa, xc, xd, xe, rfl, rfl, hig, KB, hX, HV2⟩ := hrel
        obtain ⟨wI, rfl⟩ : ∃ wI, wI = wr := ⟨_, rfl⟩
        have hLl : L.length ≤ 60 := by have := HV2.out.good.len; omega
        have Kr2 : Kept w3 wI := KB.kept K6 hxz
        by_cases hlt : (i : Int) < (ns.length : Int)
        rotate_left
        · obtain rfl : i = ns.length := by omega
          obtain ⟨h1, h2⟩ := HV.out.next HRL.out HV2.out
          have HV3 := hide h1
          clear h1
          go_wp2_with fail
          go_roundg (2 * potL webl L + (if b = true then 1 else 0))
          case measure => exact h2
          case rel => exact ⟨L, b, xa, xc, xd, xe, rfl, Kr2, hX, HV3⟩
        have hil : i < ns.length := by omega
        obtain ⟨n, hn⟩ : ∃ n, n = ns.getD i ByteArray.empty := ⟨_, rfl⟩
        obtain ⟨lb, lo, rfl, hlb, hlx, hlc⟩ := HB6.out.but KB i hil
        rw [← hn] at hlc
        obtain ⟨pb, po, rfl, _, _⟩ := hX.rts 0 (by have := HY.out.1; omega)
        have hrd := HV2.out.rest i (Nat.le_refl _) hil
        rw [← hn] at hrd
        obtain ⟨r, hr, hcg⟩ := hrd
        obtain ⟨j, hj, hje⟩ : ∃ j, j < L.length ∧ L.getD j RunX.zero = r := by
          obtain ⟨k, h1, h2⟩ := List.getElem_of_mem (env_mem hr).1
          exact ⟨k, h1, by simp only [List.getD, List.getElem?_eq_getElem h1, Option.getD_some, h2]⟩
        obtain ⟨fb, fo, ta, tc, rfl, hfb, hcs, hTx, hXn⟩ := hX.rns j hj
        rw [hje] at hcs hTx
        have HEr := hide hr
        have HCg := hide hcg
        have HN := hide hn
        have HJe := hide hje
        have m0 := hX.c0
        have m1 := hX.c1
        have mz := hX.row.lt
        have HX := hide hX
        have t0 : wI.cell? ⟨fb, fo + j * 7, none⟩ = some (.string r.name) := hcs 0 _ rfl
        have t1 : wI.cell? ⟨fb, fo + j * 7 + 1, none⟩ = some (.bool r.over) := hcs 1 _ rfl
        have t2 : wI.cell? ⟨fb, fo + j * 7 + 2, none⟩ = some (.bool r.fail) := hcs 2 _ rfl
        have t3 : wI.cell? ⟨fb, fo + j * 7 + 3, none⟩ = some (.string r.text) := hcs 3 _ rfl
        have t4 : wI.cell? ⟨fb, fo + j * 7 + 4, none⟩ = some (.int .i64 r.at') := hcs 4 _ rfl
        have t5 : wI.cell? ⟨fb, fo + j * 7 + 5, none⟩ = some (.int .i64 r.visits) := hcs 5 _ rfl
        have t6 : wI.cell? ⟨fb, fo + j * 7 + 6, none⟩ = some (.slice ta r.texts.length tc) := hcs 6 _ rfl
        have HS11 : Hid (∀ w', Kept wI w' → w'.cell? ⟨w.heap.size + 1, 0, none⟩ = some (.slice (some ⟨rb, ro, none⟩) roots.length rc) ∧ w'.cell? ⟨w.heap.size + 1, 1, none⟩ = some (.slice d sl.length dc) ∧ w'.cell? ⟨lb, lo + i, none⟩ = some (.string n)) := fun w' K => ⟨(HC.out _ (K3.trans (Kr2.trans K))).2.1, (HC.out _ (K3.trans (Kr2.trans K))).2.2.1, (K.cell hlb).trans hlc⟩
        have HS12 : Hid (∀ w', Kept wI w' → w'.cell? ⟨xb, 0, none⟩ = some (.slice (some ⟨pb, po, none⟩) roots.length xc) ∧ w'.cell? ⟨xb, 1, none⟩ = some (.slice (some ⟨fb, fo, none⟩) L.length xe) ∧ w'.cell? ⟨lb, lo + i, none⟩ = some (.string n) ∧ w'.cell? ⟨fb, fo + j * 7, none⟩ = some (.string r.name) ∧ w'.cell? ⟨fb, fo + j * 7 + 1, none⟩ = some (.bool r.over) ∧ w'.cell? ⟨fb, fo + j * 7 + 2, none⟩ = some (.bool r.fail) ∧ w'.cell? ⟨fb, fo + j * 7 + 3, none⟩ = some (.string r.text) ∧ w'.cell? ⟨fb, fo + j * 7 + 4, none⟩ = some (.int .i64 r.at') ∧ w'.cell? ⟨fb, fo + j * 7 + 5, none⟩ = some (.int .i64 r.visits) ∧ w'.cell? ⟨fb, fo + j * 7 + 6, none⟩ = some (.slice ta r.texts.length tc)) := fun w' K => ⟨(K.cell mz).trans m0, (K.cell mz).trans m1, (K.cell hlb).trans hlc, (K.cell hfb).trans t0, (K.cell hfb).trans t1, (K.cell hfb).trans t2, (K.cell hfb).trans t3, (K.cell hfb).trans t4, (K.cell hfb).trans t5, (K.cell hfb).trans t6⟩
        have HS14 : Hid (∀ w', Kept wI w' → w'.cell? ⟨w.heap.size, 0, none⟩ = some (.slice a webl.length cap) ∧ w'.cell? ⟨xb, 0, none⟩ = some (.slice (some ⟨pb, po, none⟩) roots.length xc) ∧ w'.cell? ⟨xb, 1, none⟩ = some (.slice (some ⟨fb, fo, none⟩) L.length xe) ∧ w'.cell? ⟨lb, lo + i, none⟩ = some (.string n)) := fun w' K => ⟨(HC.out _ (K3.trans (Kr2.trans K))).1, (K.cell mz).trans m0, (K.cell mz).trans m1, (K.cell hlb).trans hlc⟩
        clear hr hcg hn hje hX hcs hTx hXn t0 t1 t2 t3 t4 t5 t6 m0 m1 hlc
        have i0 : (i : Int) < (ns.length : Int) := hlt
        go_upto_region 11 with fail
        refine UpTo.region (by kernel_rfl) (fun w' => w'.cell? ⟨w.heap.size + 1, 0, none⟩ = some (.slice (some ⟨rb, ro, none⟩) roots.length rc) ∧ w'.cell? ⟨w.heap.size + 1, 1, none⟩ = some (.slice d sl.length dc) ∧ w'.cell? ⟨lb, lo + i, none⟩ = some (.string n)) 6 (HS11.out _ ((Kept.refl wI).drew)) (fun hHeld => ?_)
        have KD : Kept wI wI.drew := (Kept.refl wI).drew
        generalize hwd : wI.drew = wd at hHeld KD ⊢
        clear hwd
        refine UpTo.tk 0 [5, 6] ?_ hHeld ?_ ?_
        rotate_left
        · intro u hu; (try dsimp only at hu); go_simp; (try with_reducible rfl)
        try simp only [Act.put, List.setIfInBounds_toArray, List.set_cons_zero, List.set_cons_succ]
        refine UpTo.tk 1 [3, 4, 5, 6] ?_ hHeld ?_ ?_
        rotate_left
        · intro u hu; (try dsimp only at hu); go_simp; (try with_reducible rfl)
        try simp only [Act.put, List.setIfInBounds_toArray, List.set_cons_zero, List.set_cons_succ]
        refine UpTo.tk 2 [3, 4, 5, 6] ?_ hHeld ?_ ?_
        rotate_left
        · intro u hu; (try dsimp only at hu); go_simp; (try with_reducible rfl)
        try simp only [Act.put, List.setIfInBounds_toArray, List.set_cons_zero, List.set_cons_succ]
        refine UpTo.tk 3 [4, 5, 6] ?_ hHeld ?_ ?_
        rotate_left
        · intro u hu; (try dsimp only at hu); go_simp; (try with_reducible rfl)
        try simp only [Act.put, List.setIfInBounds_toArray, List.set_cons_zero, List.set_cons_succ]
        refine UpTo.tk 4 [5, 6] ?_ hHeld ?_ ?_
        rotate_left
        · intro u hu; (try dsimp only at hu); go_simp; (try with_reducible rfl)
        try simp only [Act.put, List.setIfInBounds_toArray, List.set_cons_zero, List.set_cons_succ]
        refine UpTo.nx 5 (fun K hK => ?_)
        rw [if_pos (by rfl)]
        go_simp
        go_at_call 63
        refine (l4At_place wd (some ⟨rb, ro, none⟩) roots.length rc d dc sl n hsl (hS.kept (HKB.out.trans (K3.trans (Kr2.trans KD))))).mono ?_
        rintro e w7 ⟨⟨q7, rfl, hq7⟩, k7⟩
        have K7 := KD.trans k7
        have HQ7 := hide hq7
        refine hK.out _ _ (fun _ => HS11.out _ K7) ?_
        clear hK K hHeld hq7
        try simp only [Act.put, List.setIfInBounds_toArray, List.set_cons_zero, List.set_cons_succ]
        refine UpTo.nx 6 (fun K hK => ?_)
        go_simp
        refine hK.out _ _ (fun h => absurd rfl h) ?_
        clear hK K
        try simp only [Act.put, List.setIfInBounds_toArray, List.set_cons_zero, List.set_cons_succ]
        refine UpTo.done (by kernel_rfl) ?_
        clear KD k7
        go_upto_region 12 with fail
        go_cut [10] from 49 to 58 (fun s10 wx => ∃ gb, s10 = .pointer (some ⟨gb, 0, none⟩) ∧ Kept w7 wx ∧ RBox wx gb r ta tc)
        case first =>
          refine UpTo.region (by kernel_rfl) (fun w' => w'.cell? ⟨xb, 0, none⟩ = some (.slice (some ⟨pb, po, none⟩) roots.length xc) ∧ w'.cell? ⟨xb, 1, none⟩ = some (.slice (some ⟨fb, fo, none⟩) L.length xe) ∧ w'.cell? ⟨lb, lo + i, none⟩ = some (.string n) ∧ w'.cell? ⟨fb, fo + j * 7, none⟩ = some (.string r.name) ∧ w'.cell? ⟨fb, fo + j * 7 + 1, none⟩ = some (.bool r.over) ∧ w'.cell? ⟨fb, fo + j * 7 + 2, none⟩ = some (.bool r.fail) ∧ w'.cell? ⟨fb, fo + j * 7 + 3, none⟩ = some (.string r.text) ∧ w'.cell? ⟨fb, fo + j * 7 + 4, none⟩ = some (.int .i64 r.at') ∧ w'.cell? ⟨fb, fo + j * 7 + 5, none⟩ = some (.int .i64 r.visits) ∧ w'.cell? ⟨fb, fo + j * 7 + 6, none⟩ = some (.slice ta r.texts.length tc)) 11 (HS12.out _ (K7.drew)) (fun hHeld => ?_)
          have KD : Kept w7 w7.drew := (Kept.refl w7).drew
          generalize hwd : w7.drew = wd at hHeld KD ⊢
          clear hwd
          refine UpTo.tk 0 [1, 8, 9, 11] ?_ hHeld ?_ ?_
          rotate_left
          · intro u hu; (try dsimp only at hu); go_simp; (try with_reducible rfl)
          try simp only [Act.put, List.setIfInBounds_toArray, List.set_cons_zero, List.set_cons_succ]
          refine UpTo.tk 1 [8, 9, 11] ?_ hHeld ?_ ?_
          rotate_left
          · intro u hu; (try dsimp only at hu); go_simp; (try with_reducible rfl)
          try simp only [Act.put, List.setIfInBounds_toArray, List.set_cons_zero, List.set_cons_succ]
          refine UpTo.tk 2 [7, 8, 9, 11] ?_ hHeld ?_ ?_
          rotate_left
          · intro u hu; (try dsimp only at hu); go_simp; (try with_reducible rfl)
          try simp only [Act.put, List.setIfInBounds_toArray, List.set_cons_zero, List.set_cons_succ]
          refine UpTo.tk 3 [5, 6, 7, 8, 9, 11] ?_ hHeld ?_ ?_
          rotate_left
          · intro u hu; (try dsimp only at hu); go_simp; (try with_reducible rfl)
          try simp only [Act.put, List.setIfInBounds_toArray, List.set_cons_zero, List.set_cons_succ]
          refine UpTo.tk 4 [5, 6, 7, 8, 9, 11] ?_ hHeld ?_ ?_
          rotate_left
          · intro u hu; (try dsimp only at hu); go_simp; (try with_reducible rfl)
          try simp only [Act.put, List.setIfInBounds_toArray, List.set_cons_zero, List.set_cons_succ]
          refine UpTo.tk 5 [6, 7, 8, 9, 11] ?_ hHeld ?_ ?_
          rotate_left
          · intro u hu; (try dsimp only at hu); go_simp; (try with_reducible rfl)
          try simp only [Act.put, List.setIfInBounds_toArray, List.set_cons_zero, List.set_cons_succ]
          refine UpTo.tk 6 [7, 8, 9, 11] ?_ hHeld ?_ ?_
          rotate_left
          · intro u hu; (try dsimp only at hu); go_simp; (try with_reducible rfl)
          try simp only [Act.put, List.setIfInBounds_toArray, List.set_cons_zero, List.set_cons_succ]
          refine UpTo.two 7 10 (by kernel_rfl) (by (simp only [List.getElem?_toArray, List.getElem?_cons_succ, List.getElem?_cons_zero]; rfl)) (by (simp only [List.getElem?_toArray, List.getElem?_cons_succ, List.getElem?_cons_zero]; rfl)) (fun K hK => ?_) (fun K hK => ?_)
          · rw [if_pos (by rfl)]
            go_simp
            go_at_call 63
            refine (l4At_place wd (some ⟨pb, po, none⟩) roots.length xc (some ⟨fb, fo, none⟩) xe L n (by omega) (HX.out.rns.kept (K7.trans KD))).mono ?_
            rintro e w8 ⟨⟨q8, rfl, hq8⟩, k8⟩
            obtain rfl := place_at HV2.out.good.asc hj HJe.out HEr.out hq8
            have hjl : (j : Int) < (L.length : Int) := by omega
            have K8 := (K7.trans KD).trans k8
            refine hK.out _ _ (fun _ => HS12.out _ K8) ?_
            clear hK K hHeld hq8
            have hHeld := HS12.out _ K8
            try simp only [Act.put, List.setIfInBounds_toArray, List.set_cons_zero, List.set_cons_succ]
            refine UpTo.tk 8 [9, 11] ?_ hHeld ?_ ?_
            rotate_left
            · intro u hu; (try dsimp only at hu); go_simp; (try with_reducible rfl)
            try simp only [Act.put, List.setIfInBounds_toArray, List.set_cons_zero, List.set_cons_succ]
            refine UpTo.tk 9 [11] ?_ hHeld ?_ ?_
            rotate_left
            · intro u hu; (try dsimp only at hu); go_simp; (try with_reducible rfl)
            try simp only [Act.put, List.setIfInBounds_toArray, List.set_cons_zero, List.set_cons_succ]
            refine UpTo.nx 10 (fun K hK => ?_)
            go_simp
            have K9 : Kept w8 (w8.alloc (.cells #[.string ⟨#[]⟩, .bool false, .bool false, .string ⟨#[]⟩, .int .i64 0, .int .i64 0, .slice none 0 0] 72)) := (Kept.refl _).alloc _
            have hRw : RowT (w8.alloc (.cells #[.string ⟨#[]⟩, .bool false, .bool false, .string ⟨#[]⟩, .int .i64 0, .int .i64 0, .slice none 0 0] 72)) w8.heap.size 72 7 := RowT.made w8 _ _
            have KE := (KD.trans k8).trans K9
            have nz := (KD.trans k8).size
            obtain ⟨gb, hgb⟩ : ∃ gb, gb = w8.heap.size := ⟨_, rfl⟩
            refine hK.out _ _ (fun _ => HS12.out _ (K7.trans KE)) ?_
            clear hK K
            rw [← hgb] at hRw nz ⊢
            generalize hwe : w8.alloc (.cells #[.string ⟨#[]⟩, .bool false, .bool false, .string ⟨#[]⟩, .int .i64 0, .int .i64 0, .slice none 0 0] 72) = wE at hRw KE ⊢
            clear hwe K9 hgb
            try simp only [Act.put, List.setIfInBounds_toArray, List.set_cons_zero, List.set_cons_succ]
            obtain ⟨⟨_, v0⟩, f0⟩ := hRw.row.at (i := 0) (by omega)
            obtain ⟨⟨_, v1⟩, f1⟩ := hRw.row.at (i := 1) (by omega)
            obtain ⟨⟨_, v2⟩, f2⟩ := hRw.row.at (i := 2) (by omega)
            obtain ⟨⟨_, v3⟩, f3⟩ := hRw.row.at (i := 3) (by omega)
            obtain ⟨⟨_, v4⟩, f4⟩ := hRw.row.at (i := 4) (by omega)
            obtain ⟨⟨_, v5⟩, f5⟩ := hRw.row.at (i := 5) (by omega)
            obtain ⟨⟨_, v6⟩, f6⟩ := hRw.row.at (i := 6) (by omega)
            have vz := hRw.lt
            refine UpTo.nx 11 (fun K hK => ?_)
            go_simp
            refine hK.out _ _ (fun h => absurd rfl h) ?_
            clear hK K
            try simp only [Act.put, List.setIfInBounds_toArray, List.set_cons_zero, List.set_cons_succ]
            refine UpTo.done (by kernel_rfl) ?_
            go_wp2_with fail
            go_meet
            exact ⟨gb, rfl, kept_sets (g := gb) nz [.string r.name, .bool r.over, .bool r.fail, .string r.text, .int .i64 r.at', .int .i64 r.visits, .slice ta r.texts.length tc] 0 KE, RBox.laid hRw⟩
          · rw [if_pos (by rfl)]
            go_simp
            have K9 : Kept wd (wd.alloc (.cells #[.string ⟨#[]⟩, .bool false, .bool false, .string ⟨#[]⟩, .int .i64 0, .int .i64 0, .slice none 0 0] 72)) := (Kept.refl _).alloc _
            have hRw0 : RowT (wd.alloc (.cells #[.string ⟨#[]⟩, .bool false, .bool false, .string ⟨#[]⟩, .int .i64 0, .int .i64 0, .slice none 0 0] 72)) wd.heap.size 72 7 := RowT.made wd _ _
            have KF := KD.trans K9
            have nz := KD.size
            obtain ⟨gb, hgb⟩ : ∃ gb, gb = wd.heap.size := ⟨_, rfl⟩
            refine hK.out _ _ (fun _ => HS12.out _ (K7.trans KF)) ?_
            clear hK K
            rw [← hgb] at hRw0 nz ⊢
            generalize hwe : wd.alloc (.cells #[.string ⟨#[]⟩, .bool false, .bool false, .string ⟨#[]⟩, .int .i64 0, .int .i64 0, .slice none 0 0] 72) = wF at hRw0 KF ⊢
            clear hwe K9 hgb
            try simp only [Act.put, List.setIfInBounds_toArray, List.set_cons_zero, List.set_cons_succ]
            refine UpTo.nx 7 (fun K hK => ?_)
            rw [if_pos (by rfl)]
            go_simp
            go_at_call 63
            refine (l4At_place wF (some ⟨pb, po, none⟩) roots.length xc (some ⟨fb, fo, none⟩) xe L n (by omega) (HX.out.rns.kept (K7.trans KF))).mono ?_
            rintro e w8 ⟨⟨q8, rfl, hq8⟩, k8⟩
            obtain rfl := place_at HV2.out.good.asc hj HJe.out HEr.out hq8
            have hjl : (j : Int) < (L.length : Int) := by omega
            have K8 := (K7.trans KF).trans k8
            refine hK.out _ _ (fun _ => HS12.out _ K8) ?_
            clear hK K hHeld hq8
            have hHeld := HS12.out _ K8
            try simp only [Act.put, List.setIfInBounds_toArray, List.set_cons_zero, List.set_cons_succ]
            refine UpTo.tk 8 [9, 11] ?_ hHeld ?_ ?_
            rotate_left
            · intro u hu; (try dsimp only at hu); go_simp; (try with_reducible rfl)
            try simp only [Act.put, List.setIfInBounds_toArray, List.set_cons_zero, List.set_cons_succ]
            refine UpTo.tk 9 [11] ?_ hHeld ?_ ?_
            rotate_left
            · intro u hu; (try dsimp only at hu); go_simp; (try with_reducible rfl)
            try simp only [Act.put, List.setIfInBounds_toArray, List.set_cons_zero, List.set_cons_succ]
            have hRw := hRw0.kept k8
            have KE := KF.trans k8
            obtain ⟨⟨_, v0⟩, f0⟩ := hRw.row.at (i := 0) (by omega)
            obtain ⟨⟨_, v1⟩, f1⟩ := hRw.row.at (i := 1) (by omega)
            obtain ⟨⟨_, v2⟩, f2⟩ := hRw.row.at (i := 2) (by omega)
            obtain ⟨⟨_, v3⟩, f3⟩ := hRw.row.at (i := 3) (by omega)
            obtain ⟨⟨_, v4⟩, f4⟩ := hRw.row.at (i := 4) (by omega)
            obtain ⟨⟨_, v5⟩, f5⟩ := hRw.row.at (i := 5) (by omega)
            obtain ⟨⟨_, v6⟩, f6⟩ := hRw.row.at (i := 6) (by omega)
            have vz := hRw.lt
            refine UpTo.nx 11 (fun K hK => ?_)
            go_simp
            refine hK.out _ _ (fun h => absurd rfl h) ?_
            clear hK K
            try simp only [Act.put, List.setIfInBounds_toArray, List.set_cons_zero, List.set_cons_succ]
            refine UpTo.done (by kernel_rfl) ?_
            go_wp2_with fail
            go_meet
            exact ⟨gb, rfl, kept_sets (g := gb) nz [.string r.name, .bool r.over, .bool r.fail, .string r.text, .int .i64 r.at', .int .i64 r.visits, .slice ta r.texts.length tc] 0 KE, RBox.laid hRw⟩
        case rest =>
          obtain ⟨gb, rfl, k8, hbx⟩ := hcut
          obtain ⟨w8, rfl⟩ : ∃ w8, w8 = wc := ⟨_, rfl⟩
          have K8 := K7.trans k8
          obtain ⟨_, _, _, _, _, g5, _⟩ := hbx.all
          have gz := hbx.row.lt
          obtain ⟨_, s1, _⟩ := HS11.out _ K8
          have z1 := (HC.out _ (K3.trans (Kr2.trans K8))).2.2.2.2
          have HSk : Hid (¬ Behind (W := actsOf webl) behindS (envOf sl) (envOf L) n → RoundX webl (envOf sl) (envOf (startL webl roots)) ns L0 L (i + 1) b) := fun h => HV2.out.skip (by rw [← HN.out]; exact h)
          clear hbx k8
          go_upto_region 13 with fail
          rcases HQ7.out with ⟨q, hq, rfl, hge, _⟩ | ⟨rfl, hge⟩
          rotate_left
          · have HGe := hide hge
            clear hge
            go_quiet (fail)
            go_wp2_with fail
            go_roundg (gk - 1)
            case measure => omega
            case rel => exact ⟨i + 1, b, L, _, xc, _, xe, rfl, by go_num, by omega, (KB.trans (KeptBut.of_kept K8)).drewN nq, HX.out.kept (K8.drewN nq), hide (HSk.out (not_behind_none HGe.out))⟩
          obtain ⟨g, hg⟩ : ∃ g, g = sl.getD q RunX.zero := ⟨_, rfl⟩
          rw [← hg] at hge
          have HGe := hide hge
          obtain ⟨hb, ho, ua, uc, rfl, hhb, hcs, _, _⟩ := hS q hq
          rw [← hg] at hcs
          have KW := HKB.out.trans (K3.trans (Kr2.trans K8))
          have u1 := (KW.cell hhb).trans (hcs 1 _ rfl)
          have u5 := (KW.cell hhb).trans (hcs 5 _ rfl)
          have uz := Nat.lt_of_lt_of_le hhb KW.size
          have q0 : ¬ (q : Int) < 0 := by omega
          have ql : (q : Int) < (sl.length : Int) := by omega
          clear hge hcs hg
          by_cases h1 : g.visits < r.visits
          · go_quiet (fail)
            go_wp2_with fail
            go_roundg (gk - 1)
            case measure => omega
            case rel => exact ⟨i + 1, b, L, _, xc, _, xe, rfl, by go_num, by omega, (KB.trans (KeptBut.of_kept K8)).drewN nq, HX.out.kept (K8.drewN nq), hide (HSk.out (not_behind HEr.out HGe.out (by rintro (h | ⟨h, _⟩) <;> omega)))⟩
          by_cases h2 : r.visits = g.visits
          · have h2b : (r.visits == g.visits) = true := by simp [h2]
            have H2 := hide h2
            clear h2
            cases hov : g.over
            · rw [hov] at u1
              go_quiet (fail)
              go_wp2_with fail
              go_roundg (gk - 1)
              case measure => omega
              case rel => exact ⟨i + 1, b, L, _, xc, _, xe, rfl, by go_num, by omega, (KB.trans (KeptBut.of_kept K8)).drewN nq, HX.out.kept (K8.drewN nq), hide (HSk.out (not_behind HEr.out HGe.out (by have := H2.out; rintro (h | ⟨_, h, _⟩); omega; rw [hov] at h; cases h)))⟩
            · rw [hov] at u1
              by_cases h3 : r.visits < 20
              · go_quiet (fail)
                go_wp2_with fail
                go_roundg (gk - 1)
                case measure => omega
                case rel => exact ⟨i + 1, b, L, _, xc, _, xe, rfl, by go_num, by omega, (KB.trans (KeptBut.of_kept K8)).drewN nq, HX.out.kept (K8.drewN nq), hide (HSk.out (not_behind HEr.out HGe.out (by have := H2.out; rintro (h | ⟨_, _, h⟩) <;> omega)))⟩
              · have HBe : Hid (Behind (W := actsOf webl) behindS (envOf sl) (envOf L) n) := ⟨⟨r, HEr.out, HCg.out⟩, r, g, HEr.out, HGe.out, .inr ⟨H2.out, hov, by omega⟩⟩
                go_quiet (fail)
                have K9 := K8.drewN nq
                generalize hw9 : w8.drewN nq = w9 at K9 ⊢
                clear hw9
                go_upto_region 14 with fail
                refine UpTo.region (by kernel_rfl) (fun w' => w'.cell? ⟨w.heap.size, 0, none⟩ = some (.slice a webl.length cap) ∧ w'.cell? ⟨xb, 0, none⟩ = some (.slice (some ⟨pb, po, none⟩) roots.length xc) ∧ w'.cell? ⟨xb, 1, none⟩ = some (.slice (some ⟨fb, fo, none⟩) L.length xe) ∧ w'.cell? ⟨lb, lo + i, none⟩ = some (.string n)) 7 (HS14.out _ (K9.drew)) (fun hHeld => ?_)
                have KD : Kept w9 w9.drew := (Kept.refl w9).drew
                generalize hwd : w9.drew = wd at hHeld KD ⊢
                clear hwd
                refine UpTo.tk 0 [6, 7] ?_ hHeld ?_ ?_
                rotate_left
                · intro u hu; (try dsimp only at hu); go_simp; (try with_reducible rfl)
                try simp only [Act.put, List.setIfInBounds_toArray, List.set_cons_zero, List.set_cons_succ]
                refine UpTo.tk 1 [6, 7] ?_ hHeld ?_ ?_
                rotate_left
                · intro u hu; (try dsimp only at hu); go_simp; (try with_reducible rfl)
                try simp only [Act.put, List.setIfInBounds_toArray, List.set_cons_zero, List.set_cons_succ]
                refine UpTo.tk 2 [4, 5, 6, 7] ?_ hHeld ?_ ?_
                rotate_left
                · intro u hu; (try dsimp only at hu); go_simp; (try with_reducible rfl)
                try simp only [Act.put, List.setIfInBounds_toArray, List.set_cons_zero, List.set_cons_succ]
                refine UpTo.tk 3 [4, 5, 6, 7] ?_ hHeld ?_ ?_
                rotate_left
                · intro u hu; (try dsimp only at hu); go_simp; (try with_reducible rfl)
                try simp only [Act.put, List.setIfInBounds_toArray, List.set_cons_zero, List.set_cons_succ]
                refine UpTo.tk 4 [5, 6, 7] ?_ hHeld ?_ ?_
                rotate_left
                · intro u hu; (try dsimp only at hu); go_simp; (try with_reducible rfl)
                try simp only [Act.put, List.setIfInBounds_toArray, List.set_cons_zero, List.set_cons_succ]
                refine UpTo.tk 5 [6, 7] ?_ hHeld ?_ ?_
                rotate_left
                · intro u hu; (try dsimp only at hu); go_simp; (try with_reducible rfl)
                try simp only [Act.put, List.setIfInBounds_toArray, List.set_cons_zero, List.set_cons_succ]
                refine UpTo.nx 6 (fun K hK => ?_)
                rw [if_pos (by rfl)]
                go_simp
                go_at_call 56
                have KX := K9.trans KD
                refine (doX_any wd a cap webl pb po xc roots (some ⟨fb, fo, none⟩) xe L n r (by omega) (by omega) (web_small HW.out) (web_acts HW.out) hft hrl1 HV2.out.good HEr.out HCg.out (hN.kept (HKB.out.trans (K3.trans (Kr2.trans KX)))) (HX.out.rns.kept KX) (HX.out.rts.kept KX)).mono ?_
                rintro e wA ⟨xa2, xc2, xd2, xe2, xs2, rfl, hTA, hOA, hPA, kA⟩
                have KA := KX.trans kA
                have zA := KX.size
                have HLa := hide (XVar.laid (by omega) (HX.out.row.kept KA) hTA hOA hPA)
                have HDd : Hid (RoundX webl (envOf sl) (envOf (startL webl roots)) ns L0 (doL (actsOf webl) L r) (i + 1) true) := HV2.out.did (web_acts HW.out) (HRL.out.nodup HV.out.good.asc) hil (by rw [← HN.out]; exact HBe.out) (by rw [← HN.out]; exact HEr.out)
                clear hTA hOA hPA kA
                obtain ⟨T, hTT⟩ : ∃ T, T = doL (actsOf webl) L r := ⟨_, rfl⟩
                rw [← hTT] at HLa HDd ⊢
                clear hTT
                have hRA := HX.out.row.kept KA
                obtain ⟨⟨_, x0⟩, f0⟩ := hRA.row.at (i := 0) (by omega)
                obtain ⟨⟨_, x1⟩, f1⟩ := hRA.row.at (i := 1) (by omega)
                have xzA := hRA.lt
                clear hRA
                refine hK.out _ _ (fun _ => HS14.out _ KA) ?_
                clear hK K hHeld
                try simp only [Act.put, List.setIfInBounds_toArray, List.set_cons_zero, List.set_cons_succ]
                refine UpTo.nx 7 (fun K hK => ?_)
                go_simp
                refine hK.out _ _ (fun h => absurd rfl h) ?_
                clear hK K
                try simp only [Act.put, List.setIfInBounds_toArray, List.set_cons_zero, List.set_cons_succ]
                refine UpTo.done (by kernel_rfl) ?_
                go_wp2_with fail
                go_roundg (gk - 1)
                case measure => omega
                case rel => exact ⟨i + 1, true, T, xa2, xc2, xd2, xe2, rfl, by go_num, by omega, KeptBut.sets (Nat.le_refl _) (Nat.lt_succ_self _) [.slice xa2 roots.length xc2, .slice xd2 T.length xe2] 0 (KB.trans (KeptBut.of_kept KA)), HLa.out, HDd⟩
          · have h2b : (r.visits == g.visits) = false := by simpa using h2
            have h1' : r.visits < g.visits := by omega
            clear h2
            have HBe : Hid (Behind (W := actsOf webl) behindS (envOf sl) (envOf L) n) := ⟨⟨r, HEr.out, HCg.out⟩, r, g, HEr.out, HGe.out, .inl h1'⟩
            go_quiet (fail)
            have K9 := K8.drewN nq
            generalize hw9 : w8.drewN nq = w9 at K9 ⊢
            clear hw9
            go_upto_region 14 with fail
            refine UpTo.region (by kernel_rfl) (fun w' => w'.cell? ⟨w.heap.size, 0, none⟩ = some (.slice a webl.length cap) ∧ w'.cell? ⟨xb, 0, none⟩ = some (.slice (some ⟨pb, po, none⟩) roots.length xc) ∧ w'.cell? ⟨xb, 1, none⟩ = some (.slice (some ⟨fb, fo, none⟩) L.length xe) ∧ w'.cell? ⟨lb, lo + i, none⟩ = some (.string n)) 7 (HS14.out _ (K9.drew)) (fun hHeld => ?_)
            have KD : Kept w9 w9.drew := (Kept.refl w9).drew
            generalize hwd : w9.drew = wd at hHeld KD ⊢
            clear hwd
            refine UpTo.tk 0 [6, 7] ?_ hHeld ?_ ?_
            rotate_left
            · intro u hu; (try dsimp only at hu); go_simp; (try with_reducible rfl)
            try simp only [Act.put, List.setIfInBounds_toArray, List.set_cons_zero, List.set_cons_succ]
            refine UpTo.tk 1 [6, 7] ?_ hHeld ?_ ?_
            rotate_left
            · intro u hu; (try dsimp only at hu); go_simp; (try with_reducible rfl)
            try simp only [Act.put, List.setIfInBounds_toArray, List.set_cons_zero, List.set_cons_succ]
            refine UpTo.tk 2 [4, 5, 6, 7] ?_ hHeld ?_ ?_
            rotate_left
            · intro u hu; (try dsimp only at hu); go_simp; (try with_reducible rfl)
            try simp only [Act.put, List.setIfInBounds_toArray, List.set_cons_zero, List.set_cons_succ]
            refine UpTo.tk 3 [4, 5, 6, 7] ?_ hHeld ?_ ?_
            rotate_left
            · intro u hu; (try dsimp only at hu); go_simp; (try with_reducible rfl)
            try simp only [Act.put, List.setIfInBounds_toArray, List.set_cons_zero, List.set_cons_succ]
            refine UpTo.tk 4 [5, 6, 7] ?_ hHeld ?_ ?_
            rotate_left
            · intro u hu; (try dsimp only at hu); go_simp; (try with_reducible rfl)
            try simp only [Act.put, List.setIfInBounds_toArray, List.set_cons_zero, List.set_cons_succ]
            refine UpTo.tk 5 [6, 7] ?_ hHeld ?_ ?_
            rotate_left
            · intro u hu; (try dsimp only at hu); go_simp; (try with_reducible rfl)
            try simp only [Act.put, List.setIfInBounds_toArray, List.set_cons_zero, List.set_cons_succ]
            refine UpTo.nx 6 (fun K hK => ?_)
            rw [if_pos (by rfl)]
            go_simp
            go_at_call 56
            have KX := K9.trans KD
            refine (doX_any wd a cap webl pb po xc roots (some ⟨fb, fo, none⟩) xe L n r (by omega) (by omega) (web_small HW.out) (web_acts HW.out) hft hrl1 HV2.out.good HEr.out HCg.out (hN.kept (HKB.out.trans (K3.trans (Kr2.trans KX)))) (HX.out.rns.kept KX) (HX.out.rts.kept KX)).mono ?_
            rintro e wA ⟨xa2, xc2, xd2, xe2, xs2, rfl, hTA, hOA, hPA, kA⟩
            have KA := KX.trans kA
            have zA := KX.size
            have HLa := hide (XVar.laid (by omega) (HX.out.row.kept KA) hTA hOA hPA)
            have HDd : Hid (RoundX webl (envOf sl) (envOf (startL webl roots)) ns L0 (doL (actsOf webl) L r) (i + 1) true) := HV2.out.did (web_acts HW.out) (HRL.out.nodup HV.out.good.asc) hil (by rw [← HN.out]; exact HBe.out) (by rw [← HN.out]; exact HEr.out)
            clear hTA hOA hPA kA
            obtain ⟨T, hTT⟩ : ∃ T, T = doL (actsOf webl) L r := ⟨_, rfl⟩
            rw [← hTT] at HLa HDd ⊢
            clear hTT
            have hRA := HX.out.row.kept KA
            obtain ⟨⟨_, x0⟩, f0⟩ := hRA.row.at (i := 0) (by omega)
            obtain ⟨⟨_, x1⟩, f1⟩ := hRA.row.at (i := 1) (by omega)
            have xzA := hRA.lt
            clear hRA
            refine hK.out _ _ (fun _ => HS14.out _ KA) ?_
            clear hK K hHeld
            try simp only [Act.put, List.setIfInBounds_toArray, List.set_cons_zero, List.set_cons_succ]
            refine UpTo.nx 7 (fun K hK => ?_)
            go_simp
            refine hK.out _ _ (fun h => absurd rfl h) ?_
            clear hK K
            try simp only [Act.put, List.setIfInBounds_toArray, List.set_cons_zero, List.set_cons_succ]
            refine UpTo.done (by kernel_rfl) ?_
            go_wp2_with fail
            go_roundg (gk - 1)
            case measure => omega
            case rel => exact ⟨i + 1, true, T, xa2, xc2, xd2, xe2, rfl, by go_num, by omega, KeptBut.sets (Nat.le_refl _) (Nat.lt_succ_self _) [.slice xa2 roots.length xc2, .slice xd2 T.length xe2] 0 (KB.trans (KeptBut.of_kept KA)), HLa.out, HDd⟩
theorem ValidX.good {webl : List NodeD} {roots : List ByteArray} {sl : List RunX} (h : ValidX webl roots sl) : GoodL webl sl := by
  obtain ⟨_, _, _, k, L, hg, _, _, rfl⟩ := h
  exact hg
theorem GoodL.texts {webl : List NodeD} {l : List RunX} (h : GoodL webl l) : ∀ r ∈ l, r.texts.length ≤ 1000 := fun r hr => by
  have h1 := (h.good r hr).tl
  have h2 := (h.good r hr).hi
  omega
def DoneX (webl : List NodeD) (sl : List RunX) (name : ByteArray) (T : List RunX) : Prop :=
  (∃ r, envOf sl name = some r ∧ CanGo (actsOf webl) (envOf sl) r ∧ T = doL (actsOf webl) sl r) ∨ (¬ ReadyX (actsOf webl) (envOf sl) name ∧ T = sl)
theorem DoneX.good {webl : List NodeD} {sl T : List RunX} {name : ByteArray} (h : DoneX webl sl name T) (hok : ActsOk (actsOf webl)) (hg : GoodL webl sl) : GoodL webl T := by
  rcases h with ⟨r, h1, h2, rfl⟩ | ⟨_, rfl⟩
  · exact doL_good hok hg (env_mem h1).1 h2
  · exact hg
theorem DoneX.unique {webl : List NodeD} {sl T T' : List RunX} {name : ByteArray} (h : DoneX webl sl name T) (h' : DoneX webl sl name T') : T = T' := by
  rcases h with ⟨r, h1, h2, rfl⟩ | ⟨h1, rfl⟩ <;> rcases h' with ⟨r', g1, g2, rfl⟩ | ⟨g1, rfl⟩
  · rw [h1] at g1; cases g1; rfl
  · exact absurd ⟨r, h1, h2⟩ g1
  · exact absurd ⟨r', g1, g2⟩ h1
  · rfl
end Go.Proofs.YtghipdfemoofhaaGreatDoor
namespace Go.Proofs.YtghipdfemoofhaaGreatDoor
def belowB : ByteArray := ⟨#[98, 101, 108, 111, 119, 32]⟩
theorem below_inj {a b : ByteArray} (h : belowB ++ a = belowB ++ b) : a = b := by
  have h1 := congrArg (fun x : ByteArray => x.data.toList) h
  simp only [ByteArray.data_append, Array.toList_append] at h1
  exact ByteArray.ext (Array.toList_inj.1 (List.append_cancel_left h1))
theorem below_spent {b : ByteArray} : belowB ++ b ≠ spentB := fun h => by
  have h1 := congrArg ByteArray.size h
  rw [ByteArray.size_append] at h1
  have h2 : belowB.size = 6 := by decide
  have h3 : spentB.size = 5 := by decide
  omega
section
variable (W : Acts) (σ : Env)
inductive WhyC : ByteArray → List ByteArray → Prop
  | gone {n : ByteArray} (h : σ n = none) : WhyC n [n]
  | own {n : ByteArray} {r : RunX} {A : ActionD} (h : σ n = some r) (ho : r.over = true) (hf : r.fail = true) (hA : W n = some A) (he : (stepOf A r.at').fin = true ∨ r.text = spentB) : WhyC n [n]
  | more {n b : ByteArray} {l : List ByteArray} {r : RunX} {A : ActionD} (h : σ n = some r) (ho : r.over = true) (hf : r.fail = true) (hA : W n = some A) (hn : (stepOf A r.at').fin = false) (ht : r.text = belowB ++ b) (hb : 1 ≤ b.size) (hc : WhyC b l) : WhyC n (n :: l)
def WhyX (n : ByteArray) (out : List ByteArray) : Prop :=
  (σ n = none ∧ out = []) ∨ (∃ r, σ n = some r ∧ ¬ (r.over = true ∧ r.fail = true) ∧ out = []) ∨ (∃ r, σ n = some r ∧ r.over = true ∧ r.fail = true ∧ WhyC W σ n out)
structure WhyInv (k : Nat) (ord : ByteArray → Nat) : Prop where
  lt : ∀ n r, σ n = some r → r.over = true → ord n < k
  ok : ∀ n r, σ n = some r → r.over = true → r.fail = true → ∃ A, W n = some A ∧ (((stepOf A r.at').fin = true ∨ r.text = spentB) ∨
    (∃ b, (stepOf A r.at').fin = false ∧ b ∈ (stepOf A r.at').asks ∧ r.text = belowB ++ b ∧ ((W b = none ∧ σ b = none) ∨ ∃ q, σ b = some q ∧ q.over = true ∧ q.fail = true ∧ ord b < ord n)))
end
theorem WhyC.unique {W : Acts} {σ : Env} {n : ByteArray} {l m : List ByteArray} (h : WhyC W σ n l) (g : WhyC W σ n m) : l = m := by
  induction h generalizing m with
  | gone h =>
    cases g with
    | gone => rfl
    | own => rfl
    | more h' => rw [h] at h'; cases h'
  | own h ho hf hA he =>
    cases g with
    | gone => rfl
    | own => rfl
    | more h' ho' hf' hA' hn' ht' =>
      rw [h] at h'; cases h'
      rw [hA] at hA'; cases hA'
      rcases he with e | e
      · rw [hn'] at e; cases e
      · rw [e] at ht'; exact absurd ht'.symm below_spent
  | more h ho hf hA hn ht hb hc ih =>
    cases g with
    | gone h' => rw [h] at h'; cases h'
    | own h' ho' hf' hA' he' =>
      rw [h] at h'; cases h'
      rw [hA] at hA'; cases hA'
      rcases he' with e | e
      · rw [hn] at e; cases e
      · rw [e] at ht; exact absurd ht.symm below_spent
    | more h' ho' hf' hA' hn' ht' hb' hc' =>
      rw [h] at h'; cases h'
      have e := below_inj (ht.symm.trans ht')
      subst e
      rw [ih hc']
theorem WhyX.unique {W : Acts} {σ : Env} {n : ByteArray} {l m : List ByteArray} (h : WhyX W σ n l) (g : WhyX W σ n m) : l = m := by
  rcases h with ⟨h1, rfl⟩ | ⟨r, h1, h2, rfl⟩ | ⟨r, h1, h2, h3, h4⟩ <;> rcases g with ⟨g1, rfl⟩ | ⟨q, g1, g2, rfl⟩ | ⟨q, g1, g2, g3, g4⟩
  · rfl
  · rfl
  · rw [h1] at g1; cases g1
  · rfl
  · rfl
  · rw [h1] at g1; cases g1; exact absurd ⟨g2, g3⟩ h2
  · rw [h1] at g1; cases g1
  · rw [h1] at g1; cases g1; exact absurd ⟨h2, h3⟩ g2
  · exact h4.unique g4
theorem WhyC.len {W : Acts} {σ : Env} {n : ByteArray} {l : List ByteArray} (h : WhyC W σ n l) : 1 ≤ l.length := by
  cases h <;> simp
theorem WhyC.head {W : Acts} {σ : Env} {n : ByteArray} {l : List ByteArray} (h : WhyC W σ n l) : ∃ m, l = n :: m := by
  cases h with
  | gone => exact ⟨[], rfl⟩
  | own => exact ⟨[], rfl⟩
  | more => exact ⟨_, rfl⟩
theorem answersOf_at {W : Acts} {σ : Env} : ∀ {l : List ByteArray} {xs : List AnswerD}, answersOf W σ l = some xs → ∀ {i : Nat}, i < xs.length → i < l.length ∧ ansOf W σ (l.getD i ByteArray.empty) = some (xs.getD i AnswerD.zero)
  | [], xs, h, i, hi => by
    simp only [answersOf, Option.some.injEq] at h
    subst h
    simp at hi
  | a :: l, xs, h, i, hi => by
    unfold answersOf at h
    cases ha : ansOf W σ a with
    | none => simp [ha] at h
    | some x =>
      cases hl : answersOf W σ l with
      | none => simp [ha, hl] at h
      | some ys =>
        simp only [ha, hl, Option.some.injEq] at h
        subst h
        cases i with
        | zero => exact ⟨by simp, by simpa using ha⟩
        | succ i =>
          obtain ⟨h1, h2⟩ := answersOf_at hl (i := i) (by simpa using hi)
          exact ⟨by simpa using h1, by simpa using h2⟩
theorem goodEnv_do {webl : List NodeD} {σ : Env} {n : ByteArray} (hok : ActsOk (actsOf webl)) (h : GoodEnv webl σ) (hr : ReadyX (actsOf webl) σ n) : GoodEnv webl (doX (actsOf webl) σ n) := by
  obtain ⟨r, hr, hc⟩ := hr
  intro m q hq
  rw [doX_eq hr] at hq
  by_cases e : m = n
  · rw [if_pos e] at hq
    cases hq
    exact ⟨by rw [nextOf_name, e]; exact (h n r hr).1, nextOf_good hok h (h n r hr).2 hc⟩
  · rw [if_neg e] at hq
    cases hm : σ m with
    | some x =>
      rw [hm] at hq
      cases hq
      exact h m _ hm
    | none =>
      rw [hm] at hq
      simp only at hq
      split at hq
      · rename_i h2
        cases hq
        exact ⟨rfl, fresh_good hok h2.2⟩
      · cases hq
theorem next_why {webl : List NodeD} {σ : Env} {r : RunX} (hg : GoodEnv webl σ) (hr : σ r.name = some r) (hc : CanGo (actsOf webl) σ r) (ho : (nextOf (actsOf webl) σ r).1.over = true) : ∃ A, actsOf webl r.name = some A ∧ (((stepOf A (nextOf (actsOf webl) σ r).1.at').fin = true ∨ (nextOf (actsOf webl) σ r).1.text = spentB) ∨
    (∃ b, (stepOf A (nextOf (actsOf webl) σ r).1.at').fin = false ∧ b ∈ (stepOf A (nextOf (actsOf webl) σ r).1.at').asks ∧ (nextOf (actsOf webl) σ r).1.text = belowB ++ b ∧ ∃ x, ansOf (actsOf webl) σ b = some x ∧ x.fail = true)) := by
  have hgd := (hg _ _ hr).2
  obtain ⟨A, hA, _, _⟩ := hgd.act
  refine ⟨A, hA, ?_⟩
  have harr : ∀ q : RunX, q.over = false → (arrive A q).1.over = true → (stepOf A (arrive A q).1.at').fin = true := fun q hq h => by
    unfold arrive at h ⊢
    simp only at h ⊢
    by_cases hf : (stepOf A q.at').fin = true
    · rw [if_pos hf]; exact hf
    · rw [if_neg hf] at h; simp only at h; rw [hq] at h; cases h
  unfold nextOf at ho ⊢
  rw [hA] at ho ⊢
  simp only at ho ⊢
  by_cases hv : r.visits = 0
  · rw [if_pos hv] at ho ⊢
    exact .inl (.inl (harr r hc.1 ho))
  · rw [if_neg hv] at ho ⊢
    rcases hc.2 with e | ⟨A', xs, hA', hxs⟩
    · exact absurd e hv
    · rw [hA] at hA'
      cases hA'
      rw [hxs] at ho ⊢
      simp only at ho ⊢
      by_cases h20 : r.visits = 20
      · rw [if_pos h20]
        exact .inl (.inr rfl)
      · rw [if_neg h20] at ho ⊢
        by_cases hgo : (goOnF (stepOf A r.at') xs).over = true
        · rw [if_pos hgo]
          refine .inr ?_
          show ∃ b, (stepOf A r.at').fin = false ∧ b ∈ (stepOf A r.at').asks ∧ (goOnF (stepOf A r.at') xs).text = belowB ++ b ∧ _
          unfold goOnF at hgo ⊢
          cases hf : failAt xs 0 with
          | none => rw [hf] at hgo; simp at hgo
          | some i =>
            rw [hf] at hgo
            simp only at hgo ⊢
            obtain ⟨j, e1, h2, h3, _⟩ := failAt_some hf
            have e2 : i = j := by omega
            subst e2
            by_cases hfa : (stepOf A r.at').fall = -1
            · rw [if_pos hfa]
              obtain ⟨g1, g2⟩ := answersOf_at hxs h2
              refine ⟨(stepOf A r.at').asks.getD i ByteArray.empty, hgd.stp A hA hc.1 hv, ?_, rfl, _, g2, h3⟩
              simp only [List.getD, List.getElem?_eq_getElem g1, Option.getD_some]
              exact List.getElem_mem g1
            · rw [if_neg hfa] at hgo; simp at hgo
        · rw [if_neg hgo] at ho ⊢
          exact .inl (.inl (harr { r with texts := r.texts ++ goodOf xs, at' := (goOnF (stepOf A r.at') xs).at' } hc.1 ho))
theorem WhyInv.did {webl : List NodeD} {σ : Env} {k : Nat} {ord : ByteArray → Nat} (h : WhyInv (actsOf webl) σ k ord) (hg : GoodEnv webl σ) {n : ByteArray} (hn : ReadyX (actsOf webl) σ n) : WhyInv (actsOf webl) (doX (actsOf webl) σ n) (k + 1) (fun m => if m = n then k else ord m) := by
  obtain ⟨r, hr, hc⟩ := hn
  have hrn : r.name = n := (hg n r hr).1
  have hwn : ∀ m, actsOf webl m = none → σ m = none := fun m hm => by
    cases h1 : σ m with
    | none => rfl
    | some q =>
      obtain ⟨g1, g2⟩ := hg m q h1
      obtain ⟨A, hA, _⟩ := g2.act
      rw [g1, hm] at hA
      cases hA
  have old : ∀ m q, m ≠ n → doX (actsOf webl) σ n m = some q → q.over = true → σ m = some q := fun m q e hq ho => by
    rw [doX_eq hr, if_neg e] at hq
    cases hm : σ m with
    | some x => rw [hm] at hq; exact hq
    | none =>
      rw [hm] at hq
      simp only at hq
      split at hq
      · cases hq; cases ho
      · cases hq
  have keep : ∀ b q, σ b = some q → q.over = true → b ≠ n ∧ doX (actsOf webl) σ n b = some q := fun b q hb ho => by
    have hne : b ≠ n := fun e => by
      rw [e, hr] at hb
      cases hb
      rw [hc.1] at ho
      cases ho
    exact ⟨hne, doX_other hne hb⟩
  have none : ∀ b, actsOf webl b = none → doX (actsOf webl) σ n b = none := fun b hb => by
    have hne : b ≠ n := fun e => by
      have := hwn b hb
      rw [e, hr] at this
      cases this
    rw [doX_eq hr, if_neg hne, hwn b hb]
    simp only
    rw [if_neg (by rw [hb]; simp)]
  refine ⟨fun m q hq ho => ?_, fun m q hq ho hf => ?_⟩
  · by_cases e : m = n
    · simp only [if_pos e]; omega
    · simp only [if_neg e]
      have := h.lt m q (old m q e hq ho) ho
      omega
  · by_cases e : m = n
    · subst e
      rw [doX_here hr] at hq
      cases hq
      obtain ⟨A, hA, h2⟩ := next_why hg (by rw [hrn]; exact hr) hc ho
      rw [hrn] at hA
      refine ⟨A, hA, h2.imp id ?_⟩
      rintro ⟨b, g1, g2, g3, x, g4, g5⟩
      refine ⟨b, g1, g2, g3, ?_⟩
      unfold ansOf at g4
      cases hb : actsOf webl b with
      | none => exact .inl ⟨rfl, none b hb⟩
      | some B =>
        rw [hb] at g4
        simp only at g4
        cases hs : σ b with
        | none => rw [hs] at g4; cases g4
        | some q =>
          rw [hs] at g4
          simp only at g4
          by_cases hqo : q.over = true
          · rw [if_pos hqo] at g4
            cases g4
            obtain ⟨k1, k2⟩ := keep b q hs hqo
            exact .inr ⟨q, k2, hqo, g5, by simp only [if_neg k1, if_true]; exact h.lt b q hs hqo⟩
          · rw [if_neg hqo] at g4
            cases g4
    · obtain ⟨A, hA, h2⟩ := h.ok m q (old m q e hq ho) ho hf
      refine ⟨A, hA, h2.imp id ?_⟩
      rintro ⟨b, g1, g2, g3, ⟨g4, _⟩ | ⟨p, g4, g5, g6, g7⟩⟩
      · exact ⟨b, g1, g2, g3, .inl ⟨g4, none b g4⟩⟩
      · obtain ⟨k1, k2⟩ := keep b p g4 g5
        exact ⟨b, g1, g2, g3, .inr ⟨p, k2, g5, g6, by simp only [if_neg k1, if_neg e]; exact g7⟩⟩
theorem WhyInv.chain {webl : List NodeD} {σ : Env} {k : Nat} {ord : ByteArray → Nat} (hok : ActsOk (actsOf webl)) (h : WhyInv (actsOf webl) σ k ord) (hg : GoodEnv webl σ) : ∀ (m : Nat) (n : ByteArray) (r : RunX), ord n ≤ m → σ n = some r → r.over = true → r.fail = true → ∃ l, WhyC (actsOf webl) σ n l ∧ l.length ≤ ord n + 2 ∧ ∀ x ∈ l, 1 ≤ x.size ∧ x.size ≤ 20 := by
  intro m
  induction m with
  | zero =>
    intro n r hm hr ho hf
    obtain ⟨A, hA, h2 | ⟨b, g1, g2, g3, ⟨g4, g5⟩ | ⟨p, g4, g5, g6, g7⟩⟩⟩ := h.ok n r hr ho hf
    · exact ⟨[n], .own hr ho hf hA h2, by simp, fun x hx => by rw [List.mem_singleton] at hx; rw [hx]; exact ⟨(hok n A hA).2.1, (hok n A hA).2.2.1⟩⟩
    · obtain ⟨A', hA', h0, h1⟩ := (hg n r hr).2.act
      rw [(hg n r hr).1, hA] at hA'
      cases hA'
      have hb := (asks_ok (hok n A hA).1 h0 h1).2 b g2
      exact ⟨[n, b], .more hr ho hf hA g1 g3 hb.1 (.gone g5), by simp, fun x hx => by
        rcases List.mem_cons.1 hx with rfl | hx
        · exact ⟨(hok x A hA).2.1, (hok x A hA).2.2.1⟩
        · rw [List.mem_singleton] at hx; rw [hx]; exact ⟨hb.1, hb.2.1⟩⟩
    · omega
  | succ m ih =>
    intro n r hm hr ho hf
    obtain ⟨A, hA, h2 | ⟨b, g1, g2, g3, ⟨g4, g5⟩ | ⟨p, g4, g5, g6, g7⟩⟩⟩ := h.ok n r hr ho hf
    · exact ⟨[n], .own hr ho hf hA h2, by simp, fun x hx => by rw [List.mem_singleton] at hx; rw [hx]; exact ⟨(hok n A hA).2.1, (hok n A hA).2.2.1⟩⟩
    · obtain ⟨A', hA', h0, h1⟩ := (hg n r hr).2.act
      rw [(hg n r hr).1, hA] at hA'
      cases hA'
      have hb := (asks_ok (hok n A hA).1 h0 h1).2 b g2
      exact ⟨[n, b], .more hr ho hf hA g1 g3 hb.1 (.gone g5), by simp, fun x hx => by
        rcases List.mem_cons.1 hx with rfl | hx
        · exact ⟨(hok x A hA).2.1, (hok x A hA).2.2.1⟩
        · rw [List.mem_singleton] at hx; rw [hx]; exact ⟨hb.1, hb.2.1⟩⟩
    · obtain ⟨l, k1, k2, k3⟩ := ih b p (by omega) g4 g5 g6
      obtain ⟨A', hA', h0, h1⟩ := (hg n r hr).2.act
      rw [(hg n r hr).1, hA] at hA'
      cases hA'
      have hb := (asks_ok (hok n A hA).1 h0 h1).2 b g2
      exact ⟨n :: l, .more hr ho hf hA g1 g3 hb.1 k1, by simp only [List.length_cons]; omega, fun x hx => by
        rcases List.mem_cons.1 hx with rfl | hx
        · exact ⟨(hok x A hA).2.1, (hok x A hA).2.2.1⟩
        · exact k3 x hx⟩
def OpenOk (σ : Env) : Prop := ∀ n r, σ n = some r → r.over = false → r.fail = false
theorem arrive_open {A : ActionD} {r : RunX} (h : r.fail = false) (ho : (arrive A r).1.over = false) : (arrive A r).1.fail = false := by
  unfold arrive at ho ⊢
  simp only at ho ⊢
  by_cases hf : (stepOf A r.at').fin = true
  · rw [if_pos hf] at ho; cases ho
  · rw [if_neg hf]; exact h
theorem next_open {W : Acts} {σ : Env} {r : RunX} (h : r.fail = false) (ho : (nextOf W σ r).1.over = false) : (nextOf W σ r).1.fail = false := by
  unfold nextOf at ho ⊢
  cases hA : W r.name with
  | none => exact h
  | some A =>
    rw [hA] at ho
    simp only at ho ⊢
    by_cases hv : r.visits = 0
    · rw [if_pos hv] at ho ⊢; exact arrive_open h ho
    · rw [if_neg hv] at ho ⊢
      cases hx : answersOf W σ (stepOf A r.at').asks with
      | none => exact h
      | some xs =>
        rw [hx] at ho
        simp only at ho ⊢
        by_cases h20 : r.visits = 20
        · rw [if_pos h20] at ho; cases ho
        · rw [if_neg h20] at ho ⊢
          by_cases hgo : (goOnF (stepOf A r.at') xs).over = true
          · rw [if_pos hgo] at ho; cases ho
          · rw [if_neg hgo] at ho ⊢; exact arrive_open (by exact h) ho
theorem OpenOk.did {W : Acts} {σ : Env} (h : OpenOk σ) {n : ByteArray} (hn : ReadyX W σ n) : OpenOk (doX W σ n) := by
  obtain ⟨r, hr, hc⟩ := hn
  intro m q hq ho
  rw [doX_eq hr] at hq
  by_cases e : m = n
  · rw [if_pos e] at hq
    cases hq
    exact next_open (h n r hr hc.1) ho
  · rw [if_neg e] at hq
    cases hm : σ m with
    | some x => rw [hm] at hq; cases hq; exact h m _ hm ho
    | none =>
      rw [hm] at hq
      simp only at hq
      split at hq
      · cases hq; rfl
      · cases hq
theorem ValidX.open {webl : List NodeD} {roots : List ByteArray} {sl : List RunX} (hv : ValidX webl roots sl) : OpenOk (envOf sl) := by
  obtain ⟨_, _, _, j, L, hgL, hl, _, rfl⟩ := hv
  refine hl.keeps (P := OpenOk) (fun σ m h hm => h.did hm.1) (fun m r hr ho => ?_)
  rw [startL_env] at hr
  split at hr
  · cases hr; rfl
  · cases hr
theorem ValidX.why {webl : List NodeD} {roots : List ByteArray} {sl : List RunX} (hv : ValidX webl roots sl) (n : ByteArray) : ∃ out, WhyX (actsOf webl) (envOf sl) n out ∧ out.length ≤ 1400 ∧ ∀ x ∈ out, 1 ≤ x.size ∧ x.size ≤ 20 := by
  have hok := web_acts hv.1
  have hp : potL webl (startL webl roots) ≤ 1380 := by
    have h1 := potL_le23 webl (startL webl roots)
    have h2 := web_len hv.1
    omega
  obtain ⟨_, _, _, j, L, hgL, hl, _, rfl⟩ := hv
  have hs := startL_good hok roots
  have hinv : (fun σ : Env => GoodEnv webl σ ∧ ∃ k ord, k + potAll (webl.map (·.name)) σ ≤ 1380 ∧ WhyInv (actsOf webl) σ k ord) (envOf L) := by
    refine hl.keeps (P := fun σ : Env => GoodEnv webl σ ∧ ∃ k ord, k + potAll (webl.map (·.name)) σ ≤ 1380 ∧ WhyInv (actsOf webl) σ k ord) ?_ ⟨hs.env, 0, fun _ => 0, by unfold potL at hp; omega, ⟨fun m r hr ho => ?_, fun m r hr ho => ?_⟩⟩
    · rintro σ m ⟨hg, k, ord, hk, hI⟩ hm
      have hwf : WfX (actsOf webl) σ := fun a r hr => by
        obtain ⟨h1, h2⟩ := hg a r hr
        obtain ⟨A, hA, _⟩ := h2.act
        exact ⟨h1, by rw [← h1, hA]; rfl, h2.lo, h2.hi⟩
      refine ⟨goodEnv_do hok hg hm.1, k + 1, _, ?_, hI.did hg hm.1⟩
      obtain ⟨r, hr, _⟩ := hm.1
      have := (potAll_do hwf hm.1 (webl.map (·.name))).2 (acts_in (hwf m r hr).web)
      omega
    · rw [startL_env] at hr
      split at hr
      · cases hr; cases ho
      · cases hr
    · rw [startL_env] at hr
      split at hr
      · cases hr; cases ho
      · cases hr
  obtain ⟨hg, k, ord, hk, hI⟩ := hinv
  cases hn : envOf L n with
  | none => exact ⟨[], .inl ⟨hn, rfl⟩, by simp, fun x hx => by cases hx⟩
  | some r =>
    by_cases hof : r.over = true ∧ r.fail = true
    · obtain ⟨l, h1, h2, h3⟩ := hI.chain hok hg (ord n) n r (Nat.le_refl _) hn hof.1 hof.2
      have := hI.lt n r hn hof.1
      exact ⟨l, .inr (.inr ⟨r, hn, hof.1, hof.2, h1⟩), by omega, h3⟩
    · exact ⟨[], .inr (.inl ⟨r, hn, hof, rfl⟩), by simp, fun x hx => by cases hx⟩
def WhyAns (webl : List NodeD) (roots : List ByteArray) (sl : List RunX) (name : ByteArray) (ns : List ByteArray) : Prop := (ValidX webl roots sl ∧ WhyX (actsOf webl) (envOf sl) name ns) ∨ (¬ ValidX webl roots sl ∧ ns = [])
theorem WhyAns.len {webl : List NodeD} {roots : List ByteArray} {sl : List RunX} {name : ByteArray} {ns : List ByteArray} (h : WhyAns webl roots sl name ns) : ns.length ≤ 1400 := by
  rcases h with ⟨h1, h2⟩ | ⟨_, rfl⟩
  · obtain ⟨out, g1, g2, _⟩ := h1.why name
    rw [h2.unique g1]
    exact g2
  · exact Nat.zero_le _
theorem WhyAns.one {webl : List NodeD} {roots : List ByteArray} {sl : List RunX} {name : ByteArray} {ns ms : List ByteArray} (h : WhyAns webl roots sl name ns) (k : WhyAns webl roots sl name ms) : ms = ns := by
  rcases h with ⟨h1, h2⟩ | ⟨h1, h2⟩
  · rcases k with ⟨k1, k2⟩ | ⟨k1, k2⟩
    · exact k2.unique h2
    · exact absurd h1 k1
  · rcases k with ⟨k1, k2⟩ | ⟨k1, k2⟩
    · exact absurd k1 h1
    · rw [h2, k2]
end Go.Proofs.YtghipdfemoofhaaGreatDoor
