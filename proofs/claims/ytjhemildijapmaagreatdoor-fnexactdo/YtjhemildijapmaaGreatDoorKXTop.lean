import Derived.Test.YtjhemildijapmaaGreatDoorKXValid0
import Derived.Deep.QuietTactic
import Derived.BigQuiet
namespace Go.Proofs.YtjhemildijapmaaGreatDoor
open Go.RowKit
theorem place_at {l : List RunX} {n : ByteArray} {r : RunX} {j : Nat} {q : Int} (ha : AscX l) (hj : j < l.length) (hje : l.getD j RunX.zero = r) (hr : envOf l n = some r) (h : PlaceX l n q) : q = (j : Int) := by
  rcases h with ⟨k, hk, e1, h1, h2⟩ | ⟨_, h1⟩
  · rw [e1]
    have e2 : l.getD k RunX.zero = l.getD j RunX.zero := by rw [hr] at h1; rw [← Option.some.inj h1, hje]
    simp only [List.getD, List.getElem?_eq_getElem hj, List.getElem?_eq_getElem hk, Option.getD_some] at e2
    have e3 := congrArg RunX.name e2
    have hasc := List.pairwise_iff_getElem.1 ha
    rcases Nat.lt_trichotomy k j with h | h | h
    · exact absurd e3 (lessX_ne (hasc k j hk hj h))
    · rw [h]
    · exact absurd e3.symm (lessX_ne (hasc j k hj hk h))
  · rw [hr] at h1; cases h1
set_option maxRecDepth 100000 in
set_option maxHeartbeats 12800000 in
theorem validState_any (w : World) (a : Option Addr) (cap : Nat) (webl : List NodeD) (ra : Option Addr) (rc : Nat) (roots : List ByteArray) (d : Option Addr) (dc : Nat) (sl : List RunX) (hwl : webl.length ≤ 1048576) (hft : ∀ y ∈ webl, y.Fits) (hrl : roots.length ≤ 1048576) (hrs : ∀ s ∈ roots, s.size ≤ maxLen) (hsl : sl.length ≤ 1048576) (hst : ∀ x ∈ sl, x.texts.length ≤ 1048576)
    (hN : Nodes w a webl) (hS : RunsX w d sl) (hR : Strs w ra roots) :
    Calls Tryz.prog 18 #[.agg #[.slice a webl.length cap], .agg #[.slice ra roots.length rc, .slice d sl.length dc]] w fun e w' => SaidB e (ValidX webl roots sl) ∧ Kept w w' := by
  obtain ⟨WB, hWB⟩ : ∃ WB, WB = (w.alloc (.cells #[.slice a webl.length cap] 37)).alloc (.cells #[.slice ra roots.length rc, .slice d sl.length dc] 33) := ⟨_, rfl⟩
  have kB : Kept w WB := by rw [hWB]; exact ((Kept.refl _).alloc _).alloc _
  have hBs : WB.heap.size = w.heap.size + 2 := by rw [hWB]; simp
  have b0 : WB.cell? ⟨w.heap.size, 0, none⟩ = some (.slice a webl.length cap) := by rw [hWB, Kept.cell (w := w.alloc (.cells #[.slice a webl.length cap] 37)) ((Kept.refl _).alloc _) (by simp)]; exact range_new w _ _ 0 _ rfl
  have s0 : WB.cell? ⟨w.heap.size + 1, 0, none⟩ = some (.slice ra roots.length rc) := by have := range_new (w.alloc (.cells #[.slice a webl.length cap] 37)) #[.slice ra roots.length rc, .slice d sl.length dc] 33 0 _ rfl; rw [World.size_alloc] at this; rw [hWB]; exact this
  have s1 : WB.cell? ⟨w.heap.size + 1, 1, none⟩ = some (.slice d sl.length dc) := by have := range_new (w.alloc (.cells #[.slice a webl.length cap] 37)) #[.slice ra roots.length rc, .slice d sl.length dc] 33 1 _ rfl; rw [World.size_alloc] at this; rw [hWB]; exact this
  have z0 : w.heap.size < WB.heap.size := by omega
  have z1 : w.heap.size + 1 < WB.heap.size := by omega
  have HC : Hid (∀ w', Kept WB w' → w'.cell? ⟨w.heap.size, 0, none⟩ = some (.slice a webl.length cap) ∧ w'.cell? ⟨w.heap.size + 1, 0, none⟩ = some (.slice ra roots.length rc) ∧ w'.cell? ⟨w.heap.size + 1, 1, none⟩ = some (.slice d sl.length dc) ∧ w.heap.size < w'.heap.size ∧ w.heap.size + 1 < w'.heap.size) := fun w' K => ⟨(K.cell z0).trans b0, (K.cell z1).trans s0, (K.cell z1).trans s1, Nat.lt_of_lt_of_le z0 K.size, Nat.lt_of_lt_of_le z1 K.size⟩
  have HKB := hide kB
  clear kB hBs b0 s0 s1
  go_enter Tryz.func18, Tryz.ntmps18
  go_upto_region 1 with fail
  rw [← hWB]
  clear hWB
  obtain ⟨b0, s0, s1, _, _⟩ := HC.out _ (Kept.refl _)
  go_wp2_with fail
  refine (specCheckWeb_any _ a cap webl (by unfold maxLen; omega) hft (hN.kept HKB.out)).mono ?_
  rintro e w1 ⟨⟨c, rfl, hc⟩, k1⟩
  clear b0 s0 s1 z0 z1
  obtain ⟨b0, s0, s1, z0, z1⟩ := HC.out _ k1
  by_cases hc0 : c = 0
  rotate_left
  · have hcb : (c != 0) = true := by simpa using hc0
    have HCn : Hid (¬ WebCode webl 0) := fun h => hc0 (hc.unique h)
    clear hc0 hc
    go_wp2_with fail
    go_ret
    exact ⟨⟨false, rfl, by simp only [Bool.false_eq_true, false_iff]; exact fun h => HCn.out h.1⟩, HKB.out.trans k1⟩
  subst hc0
  have HW := hide hc
  clear hc
  go_wp2_with fail
  refine (l3RootsOk_any _ ra rc roots (by unfold maxLen; omega) hrs (hR.kept (HKB.out.trans k1))).mono ?_
  rintro e w2 ⟨hsay, k2⟩
  have K2 := k1.trans k2
  clear b0 s0 s1 z0 z1
  obtain ⟨b0, s0, s1, z0, z1⟩ := HC.out _ K2
  rcases hsay.cases with ⟨rfl, hyes⟩ | ⟨rfl, hno⟩
  rotate_left
  · have HNo := hide hno
    clear hno hsay
    go_wp2_with fail
    go_ret
    exact ⟨⟨false, rfl, by simp only [Bool.false_eq_true, false_iff]; exact fun h => HNo.out h.2.1⟩, HKB.out.trans K2⟩
  have HY := hide hyes
  clear hyes hsay
  by_cases hle : sl.length ≤ webl.length
  rotate_left
  · have hgt : (webl.length : Int) < (sl.length : Int) := by omega
    go_wp2_with fail
    go_ret
    exact ⟨⟨false, rfl, by simp only [Bool.false_eq_true, false_iff]; exact fun h => hle h.2.2.1⟩, HKB.out.trans K2⟩
  have hgt : ¬ (webl.length : Int) < (sl.length : Int) := by omega
  obtain ⟨rb, ro, rfl, _, _⟩ := hR 0 (by have := HY.out.1; omega)
  have hwl6 := web_len HW.out
  have hrl1 := HY.out.2.1
  go_wp2_with fail
  refine (startX_any w2 a cap webl rb ro rc roots (by omega) hft HW.out HY.out hrs (hN.kept (HKB.out.trans K2)) (hR.kept (HKB.out.trans K2))).mono ?_
  rintro e w3 ⟨xa, xc, xd, xe, xs, rfl, hT3, hO3, hP3, k3⟩
  have K3 := K2.trans k3
  have HX3 : Hid (Strs w3 xa roots ∧ RunsX w3 xd (startL webl roots)) := by
    obtain ⟨a9, c9, e9, h9⟩ := owned_strs hT3
    simp only [Value.slice.injEq, true_and] at e9
    rw [← e9.1] at h9
    obtain ⟨_, a8, c8, e8, h8⟩ := PackedX.runs hO3 hP3 (Kept.refl _)
    simp only [Value.slice.injEq, true_and] at e8
    rw [← e8.1] at h8
    exact ⟨h9, h8.runs⟩
  clear hT3 hO3 hP3 k3
  obtain ⟨xb, hxb⟩ : ∃ xb, xb = w3.heap.size := ⟨_, rfl⟩
  have hxz : w3.heap.size ≤ xb := by omega
  have HXb := hide hxb
  clear b0 s0 s1 z0 z1
  go_upto_region 4 with fail
  rw [← hxb]
  clear hxb
  go_wp2
  go_loopg [6] (2 * potL webl (startL webl roots) + 1) (fun gg x6 wr => ∃ (L : List RunX) (bb : Bool) (xa : Option Addr) (xc : Nat) (xd : Option Addr) (xe : Nat), x6 = .bool bb ∧ Kept w3 wr ∧ XVar wr xb roots L xa xc xd xe ∧ Hid (OutV webl roots sl L bb gg))
  case atStart => exact ⟨startL webl roots, true, xa, xc, xd, xe, rfl, (Kept.refl _).alloc _, by rw [HXb.out]; exact XVar.made HX3.out.1 HX3.out.2, hide (OutV.begin HW.out roots sl)⟩
  case round =>
    clear HX3 HXb
    obtain ⟨L, bb, xa, xc, xd, xe, rfl, Kr, hX, HV⟩ := hrel
    obtain ⟨wO, rfl⟩ : ∃ wO, wO = wr := ⟨_, rfl⟩
    obtain ⟨gO, rfl⟩ : ∃ gO, gO = gk := ⟨_, rfl⟩
    have hLl : L.length ≤ 60 := by have := HV.out.good.len; omega
    obtain ⟨b0, s0, s1, z0, z1⟩ := HC.out _ (K3.trans Kr)
    have m0 := hX.c0
    have m1 := hX.c1
    have mz := hX.row.lt
    have HX := hide hX
    clear hX
    cases bb
    · go_wp2_with fail
      refine (same_any wO xa (some ⟨rb, ro, none⟩) xd d xc rc xe dc roots roots L sl hrl hrl (by omega) hsl (fun x hx => by have h1 := (HV.out.good.good x hx).tl; have h2 := (HV.out.good.good x hx).hi; omega) hst HX.out.rts (hR.kept (HKB.out.trans (K3.trans Kr))) HX.out.rns (hS.kept (HKB.out.trans (K3.trans Kr)))).mono ?_
      rintro e w5 ⟨⟨b5, rfl, h5⟩, k5⟩
      have H5 := hide h5
      clear h5
      go_wp2_with fail
      go_ret
      refine ⟨⟨b5, rfl, ?_⟩, HKB.out.trans ((K3.trans Kr).trans k5)⟩
      rw [H5.out]
      obtain ⟨kk, hl⟩ := HV.out.led
      have h := goalX_iff HV.out.good hl (HV.out.fin rfl)
      exact ⟨fun ⟨_, e⟩ => ⟨HW.out, HY.out, hle, h.1 e⟩, fun ⟨_, _, _, g⟩ => ⟨by trivial, h.2 g⟩⟩
    · go_wp2_with fail
      refine (ready_any wO a cap webl xa roots.length xc xd xe L (by omega) (by omega) (web_small HW.out) (fun r hr _ _ => (HV.out.good.good r hr).act) (hN.kept (HKB.out.trans (K3.trans Kr))) HX.out.rns).mono ?_
      rintro e w6 ⟨⟨da, lc, ns, rfl, hRL, hOw⟩, k6⟩
      have HRL := hide hRL
      have HB6 := hide (StrsB.owned (xb := xb) hOw mz)
      have hnl : ns.length ≤ 60 := by have := hRL.len; omega
      have HX6 := hide (HX.out.kept k6)
      have K6 := Kr.trans k6
      clear hRL hOw b0 s0 s1 z0 z1 m0 m1 mz HX k6
      obtain ⟨L0, hL0⟩ : ∃ L0, L0 = L := ⟨_, rfl⟩
      have HN6 : Hid (RoundX webl (envOf sl) (envOf (startL webl roots)) ns L0 L 0 false) := by rw [hL0]; exact RoundX.start HV.out.good HV.out.led HRL.out
      rw [← hL0] at HV HRL
      clear hL0 hLl
      go_wp2
      go_loopg [6, 8] ns.length (fun gg x6 x8 wr => ∃ (i : Nat) (b : Bool) (L : List RunX) (xa : Option Addr) (xc : Nat) (xd : Option Addr) (xe : Nat), x6 = .bool b ∧ x8 = .int .i64 (i : Int) ∧ i + gg = ns.length ∧ KeptBut xb (xb + 1) w6 wr ∧ XVar wr xb roots L xa xc xd xe ∧ Hid (RoundX webl (envOf sl) (envOf (startL webl roots)) ns L0 L i b))
      case atStart => exact ⟨0, false, L, xa, xc, xd, xe, rfl, rfl, by omega, KeptBut.refl _ _ _, HX6.out, HN6⟩
      case round =>
        clear HX6 HN6
        obtain ⟨i, b, L, xa, xc, xd, xe, rfl, rfl, hig, KB, hX, HV2⟩ := hrel
        obtain ⟨wI, rfl⟩ : ∃ wI, wI = wr := ⟨_, rfl⟩
        have hLl : L.length ≤ 60 := by have := HV2.out.good.len; omega
        have Kr2 : Kept w3 wI := KB.kept K6 hxz
        by_cases hlt : (i : Int) < (ns.length : Int)
        rotate_left
        · obtain rfl : i = ns.length := by omega
          obtain ⟨h1, h2⟩ := HV.out.next HRL.out HV2.out
          have HV3 := hide h1
          clear h1
          go_wp2_with fail
          go_roundg (2 * potL webl L + (if b = true then 1 else 0))
          case measure => exact h2
          case rel => exact ⟨L, b, xa, xc, xd, xe, rfl, Kr2, hX, HV3⟩
        have hil : i < ns.length := by omega
        obtain ⟨n, hn⟩ : ∃ n, n = ns.getD i ByteArray.empty := ⟨_, rfl⟩
        obtain ⟨lb, lo, rfl, hlb, hlx, hlc⟩ := HB6.out.but KB i hil
        rw [← hn] at hlc
        obtain ⟨pb, po, rfl, _, _⟩ := hX.rts 0 (by have := HY.out.1; omega)
        have hrd := HV2.out.rest i (Nat.le_refl _) hil
        rw [← hn] at hrd
        obtain ⟨r, hr, hcg⟩ := hrd
        obtain ⟨j, hj, hje⟩ : ∃ j, j < L.length ∧ L.getD j RunX.zero = r := by
          obtain ⟨k, h1, h2⟩ := List.getElem_of_mem (env_mem hr).1
          exact ⟨k, h1, by simp only [List.getD, List.getElem?_eq_getElem h1, Option.getD_some, h2]⟩
        obtain ⟨fb, fo, ta, tc, rfl, hfb, hcs, hTx, hXn⟩ := hX.rns j hj
        rw [hje] at hcs hTx
        have HEr := hide hr
        have HCg := hide hcg
        have HN := hide hn
        have HJe := hide hje
        have m0 := hX.c0
        have m1 := hX.c1
        have mz := hX.row.lt
        have HX := hide hX
        have t0 : wI.cell? ⟨fb, fo + j * 7, none⟩ = some (.string r.name) := hcs 0 _ rfl
        have t1 : wI.cell? ⟨fb, fo + j * 7 + 1, none⟩ = some (.bool r.over) := hcs 1 _ rfl
        have t2 : wI.cell? ⟨fb, fo + j * 7 + 2, none⟩ = some (.bool r.fail) := hcs 2 _ rfl
        have t3 : wI.cell? ⟨fb, fo + j * 7 + 3, none⟩ = some (.string r.text) := hcs 3 _ rfl
        have t4 : wI.cell? ⟨fb, fo + j * 7 + 4, none⟩ = some (.int .i64 r.at') := hcs 4 _ rfl
        have t5 : wI.cell? ⟨fb, fo + j * 7 + 5, none⟩ = some (.int .i64 r.visits) := hcs 5 _ rfl
        have t6 : wI.cell? ⟨fb, fo + j * 7 + 6, none⟩ = some (.slice ta r.texts.length tc) := hcs 6 _ rfl
        have HS11 : Hid (∀ w', Kept wI w' → w'.cell? ⟨w.heap.size + 1, 0, none⟩ = some (.slice (some ⟨rb, ro, none⟩) roots.length rc) ∧ w'.cell? ⟨w.heap.size + 1, 1, none⟩ = some (.slice d sl.length dc) ∧ w'.cell? ⟨lb, lo + i, none⟩ = some (.string n)) := fun w' K => ⟨(HC.out _ (K3.trans (Kr2.trans K))).2.1, (HC.out _ (K3.trans (Kr2.trans K))).2.2.1, (K.cell hlb).trans hlc⟩
        have HS12 : Hid (∀ w', Kept wI w' → w'.cell? ⟨xb, 0, none⟩ = some (.slice (some ⟨pb, po, none⟩) roots.length xc) ∧ w'.cell? ⟨xb, 1, none⟩ = some (.slice (some ⟨fb, fo, none⟩) L.length xe) ∧ w'.cell? ⟨lb, lo + i, none⟩ = some (.string n) ∧ w'.cell? ⟨fb, fo + j * 7, none⟩ = some (.string r.name) ∧ w'.cell? ⟨fb, fo + j * 7 + 1, none⟩ = some (.bool r.over) ∧ w'.cell? ⟨fb, fo + j * 7 + 2, none⟩ = some (.bool r.fail) ∧ w'.cell? ⟨fb, fo + j * 7 + 3, none⟩ = some (.string r.text) ∧ w'.cell? ⟨fb, fo + j * 7 + 4, none⟩ = some (.int .i64 r.at') ∧ w'.cell? ⟨fb, fo + j * 7 + 5, none⟩ = some (.int .i64 r.visits) ∧ w'.cell? ⟨fb, fo + j * 7 + 6, none⟩ = some (.slice ta r.texts.length tc)) := fun w' K => ⟨(K.cell mz).trans m0, (K.cell mz).trans m1, (K.cell hlb).trans hlc, (K.cell hfb).trans t0, (K.cell hfb).trans t1, (K.cell hfb).trans t2, (K.cell hfb).trans t3, (K.cell hfb).trans t4, (K.cell hfb).trans t5, (K.cell hfb).trans t6⟩
        have HS14 : Hid (∀ w', Kept wI w' → w'.cell? ⟨w.heap.size, 0, none⟩ = some (.slice a webl.length cap) ∧ w'.cell? ⟨xb, 0, none⟩ = some (.slice (some ⟨pb, po, none⟩) roots.length xc) ∧ w'.cell? ⟨xb, 1, none⟩ = some (.slice (some ⟨fb, fo, none⟩) L.length xe) ∧ w'.cell? ⟨lb, lo + i, none⟩ = some (.string n)) := fun w' K => ⟨(HC.out _ (K3.trans (Kr2.trans K))).1, (K.cell mz).trans m0, (K.cell mz).trans m1, (K.cell hlb).trans hlc⟩
        clear hr hcg hn hje hX hcs hTx hXn t0 t1 t2 t3 t4 t5 t6 m0 m1 hlc
        have i0 : (i : Int) < (ns.length : Int) := hlt
        go_upto_region 11 with fail
        refine UpTo.rg 6 HS11.out fun wd KD hHeld => ?_
        refine UpTo.tk 0 hHeld ?_
        refine UpTo.tk 1 hHeld ?_
        refine UpTo.tk 2 hHeld ?_
        refine UpTo.tk 3 hHeld ?_
        refine UpTo.tk 4 hHeld ?_
        refine UpTo.nx 5 (fun K hK => ?_)
        rw [if_pos (by rfl)]
        go_simp
        go_at_call 42
        refine (l4At_place wd (some ⟨rb, ro, none⟩) roots.length rc d dc sl n hsl (hS.kept (HKB.out.trans (K3.trans (Kr2.trans KD))))).mono ?_
        rintro e w7 ⟨⟨q7, rfl, hq7⟩, k7⟩
        have K7 := KD.trans k7
        have HQ7 := hide hq7
        refine hK.out _ _ (fun _ => HS11.out _ K7) ?_
        clear hK K hHeld hq7
        try simp only [Act.put, upA, upB, upC]
        refine UpTo.nx 6 (fun K hK => ?_)
        go_simp
        refine hK.out _ _ (fun h => absurd rfl h) ?_
        clear hK K
        try simp only [Act.put, upA, upB, upC]
        refine UpTo.dn ?_
        clear KD k7
        go_upto_region 12 with fail
        go_cut [10] from 49 to 58 (fun s10 wx => ∃ gb, s10 = .pointer (some ⟨gb, 0, none⟩) ∧ Kept w7 wx ∧ RBox wx gb r ta tc)
        case first =>
          refine UpTo.rk 11 HS12.out (K7.drew) (fun hHeld => ?_)
          have KD : Kept w7 w7.drew := (Kept.refl w7).drew
          generalize hwd : w7.drew = wd at hHeld KD ⊢
          clear hwd
          refine UpTo.tk 0 hHeld ?_
          refine UpTo.tk 1 hHeld ?_
          refine UpTo.tk 2 hHeld ?_
          refine UpTo.tk 3 hHeld ?_
          refine UpTo.tk 4 hHeld ?_
          refine UpTo.tk 5 hHeld ?_
          refine UpTo.tk 6 hHeld ?_
          refine UpTo.tw 7 10 (fun K hK => ?_) (fun K hK => ?_)
          · rw [if_pos (by rfl)]
            go_simp
            go_at_call 42
            refine (l4At_place wd (some ⟨pb, po, none⟩) roots.length xc (some ⟨fb, fo, none⟩) xe L n (by omega) (HX.out.rns.kept (K7.trans KD))).mono ?_
            rintro e w8 ⟨⟨q8, rfl, hq8⟩, k8⟩
            obtain rfl := place_at HV2.out.good.asc hj HJe.out HEr.out hq8
            have hjl : (j : Int) < (L.length : Int) := by omega
            have K8 := (K7.trans KD).trans k8
            refine hK.out _ _ (fun _ => HS12.out _ K8) ?_
            clear hK K hHeld hq8
            have hHeld := HS12.out _ K8
            try simp only [Act.put, upA, upB, upC]
            refine UpTo.tk 8 hHeld ?_
            refine UpTo.tk 9 hHeld ?_
            refine UpTo.nx 10 (fun K hK => ?_)
            go_simp
            have K9 : Kept w8 (w8.alloc (.cells #[.string ⟨#[]⟩, .bool false, .bool false, .string ⟨#[]⟩, .int .i64 0, .int .i64 0, .slice none 0 0] 59)) := (Kept.refl _).alloc _
            have hRw : RowT (w8.alloc (.cells #[.string ⟨#[]⟩, .bool false, .bool false, .string ⟨#[]⟩, .int .i64 0, .int .i64 0, .slice none 0 0] 59)) w8.heap.size 59 7 := RowT.made w8 _ _
            have KE := (KD.trans k8).trans K9
            have nz := (KD.trans k8).size
            obtain ⟨gb, hgb⟩ : ∃ gb, gb = w8.heap.size := ⟨_, rfl⟩
            refine hK.out _ _ (fun _ => HS12.out _ (K7.trans KE)) ?_
            clear hK K
            rw [← hgb] at hRw nz ⊢
            generalize hwe : w8.alloc (.cells #[.string ⟨#[]⟩, .bool false, .bool false, .string ⟨#[]⟩, .int .i64 0, .int .i64 0, .slice none 0 0] 59) = wE at hRw KE ⊢
            clear hwe K9 hgb
            try simp only [Act.put, upA, upB, upC]
            obtain ⟨⟨_, v0⟩, f0⟩ := hRw.row.at (i := 0) (by omega)
            obtain ⟨⟨_, v1⟩, f1⟩ := hRw.row.at (i := 1) (by omega)
            obtain ⟨⟨_, v2⟩, f2⟩ := hRw.row.at (i := 2) (by omega)
            obtain ⟨⟨_, v3⟩, f3⟩ := hRw.row.at (i := 3) (by omega)
            obtain ⟨⟨_, v4⟩, f4⟩ := hRw.row.at (i := 4) (by omega)
            obtain ⟨⟨_, v5⟩, f5⟩ := hRw.row.at (i := 5) (by omega)
            obtain ⟨⟨_, v6⟩, f6⟩ := hRw.row.at (i := 6) (by omega)
            have vz := hRw.lt
            refine UpTo.nx 11 (fun K hK => ?_)
            go_simp
            refine hK.out _ _ (fun h => absurd rfl h) ?_
            clear hK K
            try simp only [Act.put, upA, upB, upC]
            refine UpTo.dn ?_
            go_wp2_with fail
            go_meet
            exact ⟨gb, rfl, kept_sets (g := gb) nz [.string r.name, .bool r.over, .bool r.fail, .string r.text, .int .i64 r.at', .int .i64 r.visits, .slice ta r.texts.length tc] 0 KE, RBox.laid hRw⟩
          · rw [if_pos (by rfl)]
            go_simp
            have K9 : Kept wd (wd.alloc (.cells #[.string ⟨#[]⟩, .bool false, .bool false, .string ⟨#[]⟩, .int .i64 0, .int .i64 0, .slice none 0 0] 59)) := (Kept.refl _).alloc _
            have hRw0 : RowT (wd.alloc (.cells #[.string ⟨#[]⟩, .bool false, .bool false, .string ⟨#[]⟩, .int .i64 0, .int .i64 0, .slice none 0 0] 59)) wd.heap.size 59 7 := RowT.made wd _ _
            have KF := KD.trans K9
            have nz := KD.size
            obtain ⟨gb, hgb⟩ : ∃ gb, gb = wd.heap.size := ⟨_, rfl⟩
            refine hK.out _ _ (fun _ => HS12.out _ (K7.trans KF)) ?_
            clear hK K
            rw [← hgb] at hRw0 nz ⊢
            generalize hwe : wd.alloc (.cells #[.string ⟨#[]⟩, .bool false, .bool false, .string ⟨#[]⟩, .int .i64 0, .int .i64 0, .slice none 0 0] 59) = wF at hRw0 KF ⊢
            clear hwe K9 hgb
            try simp only [Act.put, upA, upB, upC]
            refine UpTo.nx 7 (fun K hK => ?_)
            rw [if_pos (by rfl)]
            go_simp
            go_at_call 42
            refine (l4At_place wF (some ⟨pb, po, none⟩) roots.length xc (some ⟨fb, fo, none⟩) xe L n (by omega) (HX.out.rns.kept (K7.trans KF))).mono ?_
            rintro e w8 ⟨⟨q8, rfl, hq8⟩, k8⟩
            obtain rfl := place_at HV2.out.good.asc hj HJe.out HEr.out hq8
            have hjl : (j : Int) < (L.length : Int) := by omega
            have K8 := (K7.trans KF).trans k8
            refine hK.out _ _ (fun _ => HS12.out _ K8) ?_
            clear hK K hHeld hq8
            have hHeld := HS12.out _ K8
            try simp only [Act.put, upA, upB, upC]
            refine UpTo.tk 8 hHeld ?_
            refine UpTo.tk 9 hHeld ?_
            have hRw := hRw0.kept k8
            have KE := KF.trans k8
            obtain ⟨⟨_, v0⟩, f0⟩ := hRw.row.at (i := 0) (by omega)
            obtain ⟨⟨_, v1⟩, f1⟩ := hRw.row.at (i := 1) (by omega)
            obtain ⟨⟨_, v2⟩, f2⟩ := hRw.row.at (i := 2) (by omega)
            obtain ⟨⟨_, v3⟩, f3⟩ := hRw.row.at (i := 3) (by omega)
            obtain ⟨⟨_, v4⟩, f4⟩ := hRw.row.at (i := 4) (by omega)
            obtain ⟨⟨_, v5⟩, f5⟩ := hRw.row.at (i := 5) (by omega)
            obtain ⟨⟨_, v6⟩, f6⟩ := hRw.row.at (i := 6) (by omega)
            have vz := hRw.lt
            refine UpTo.nx 11 (fun K hK => ?_)
            go_simp
            refine hK.out _ _ (fun h => absurd rfl h) ?_
            clear hK K
            try simp only [Act.put, upA, upB, upC]
            refine UpTo.dn ?_
            go_wp2_with fail
            go_meet
            exact ⟨gb, rfl, kept_sets (g := gb) nz [.string r.name, .bool r.over, .bool r.fail, .string r.text, .int .i64 r.at', .int .i64 r.visits, .slice ta r.texts.length tc] 0 KE, RBox.laid hRw⟩
        case rest =>
          obtain ⟨gb, rfl, k8, hbx⟩ := hcut
          obtain ⟨w8, rfl⟩ : ∃ w8, w8 = wc := ⟨_, rfl⟩
          have K8 := K7.trans k8
          obtain ⟨_, _, _, _, _, g5, _⟩ := hbx.all
          have gz := hbx.row.lt
          obtain ⟨_, s1, _⟩ := HS11.out _ K8
          have z1 := (HC.out _ (K3.trans (Kr2.trans K8))).2.2.2.2
          have HSk : Hid (¬ Behind (W := actsOf webl) behindS (envOf sl) (envOf L) n → RoundX webl (envOf sl) (envOf (startL webl roots)) ns L0 L (i + 1) b) := fun h => HV2.out.skip (by rw [← HN.out]; exact h)
          clear hbx k8
          go_upto_region 13 with fail
          rcases HQ7.out with ⟨q, hq, rfl, hge, _⟩ | ⟨rfl, hge⟩
          rotate_left
          · have HGe := hide hge
            clear hge
            go_quiet (fail)
            go_wp2_with fail
            go_roundg (gk - 1)
            case measure => omega
            case rel => exact ⟨i + 1, b, L, _, xc, _, xe, rfl, by go_num, by omega, (KB.trans (KeptBut.of_kept K8)).drewN nq, HX.out.kept (K8.drewN nq), hide (HSk.out (not_behind_none HGe.out))⟩
          obtain ⟨g, hg⟩ : ∃ g, g = sl.getD q RunX.zero := ⟨_, rfl⟩
          rw [← hg] at hge
          have HGe := hide hge
          obtain ⟨hb, ho, ua, uc, rfl, hhb, hcs, _, _⟩ := hS q hq
          rw [← hg] at hcs
          have KW := HKB.out.trans (K3.trans (Kr2.trans K8))
          have u1 := (KW.cell hhb).trans (hcs 1 _ rfl)
          have u5 := (KW.cell hhb).trans (hcs 5 _ rfl)
          have uz := Nat.lt_of_lt_of_le hhb KW.size
          have q0 : ¬ (q : Int) < 0 := by omega
          have ql : (q : Int) < (sl.length : Int) := by omega
          clear hge hcs hg
          by_cases h1 : g.visits < r.visits
          · go_quiet (fail)
            go_wp2_with fail
            go_roundg (gk - 1)
            case measure => omega
            case rel => exact ⟨i + 1, b, L, _, xc, _, xe, rfl, by go_num, by omega, (KB.trans (KeptBut.of_kept K8)).drewN nq, HX.out.kept (K8.drewN nq), hide (HSk.out (not_behind HEr.out HGe.out (by rintro (h | ⟨h, _⟩) <;> omega)))⟩
          by_cases h2 : r.visits = g.visits
          · have h2b : (r.visits == g.visits) = true := by simp [h2]
            have H2 := hide h2
            clear h2
            cases hov : g.over
            · rw [hov] at u1
              go_quiet (fail)
              go_wp2_with fail
              go_roundg (gk - 1)
              case measure => omega
              case rel => exact ⟨i + 1, b, L, _, xc, _, xe, rfl, by go_num, by omega, (KB.trans (KeptBut.of_kept K8)).drewN nq, HX.out.kept (K8.drewN nq), hide (HSk.out (not_behind HEr.out HGe.out (by have := H2.out; rintro (h | ⟨_, h, _⟩); omega; rw [hov] at h; cases h)))⟩
            · rw [hov] at u1
              by_cases h3 : r.visits < 20
              · go_quiet (fail)
                go_wp2_with fail
                go_roundg (gk - 1)
                case measure => omega
                case rel => exact ⟨i + 1, b, L, _, xc, _, xe, rfl, by go_num, by omega, (KB.trans (KeptBut.of_kept K8)).drewN nq, HX.out.kept (K8.drewN nq), hide (HSk.out (not_behind HEr.out HGe.out (by have := H2.out; rintro (h | ⟨_, _, h⟩) <;> omega)))⟩
              · have HBe : Hid (Behind (W := actsOf webl) behindS (envOf sl) (envOf L) n) := ⟨⟨r, HEr.out, HCg.out⟩, r, g, HEr.out, HGe.out, .inr ⟨H2.out, hov, by omega⟩⟩
                go_quiet (fail)
                have K9 := K8.drewN nq
                generalize hw9 : w8.drewN nq = w9 at K9 ⊢
                clear hw9
                go_upto_region 14 with fail
                refine UpTo.rk 7 HS14.out (K9.drew) (fun hHeld => ?_)
                have KD : Kept w9 w9.drew := (Kept.refl w9).drew
                generalize hwd : w9.drew = wd at hHeld KD ⊢
                clear hwd
                refine UpTo.tk 0 hHeld ?_
                refine UpTo.tk 1 hHeld ?_
                refine UpTo.tk 2 hHeld ?_
                refine UpTo.tk 3 hHeld ?_
                refine UpTo.tk 4 hHeld ?_
                refine UpTo.tk 5 hHeld ?_
                refine UpTo.nx 6 (fun K hK => ?_)
                rw [if_pos (by rfl)]
                go_simp
                go_at_call 20
                have KX := K9.trans KD
                refine (doX_any wd a cap webl pb po xc roots (some ⟨fb, fo, none⟩) xe L n r (by omega) (by omega) (web_small HW.out) (web_acts HW.out) hft hrl1 HV2.out.good HEr.out HCg.out (hN.kept (HKB.out.trans (K3.trans (Kr2.trans KX)))) (HX.out.rns.kept KX) (HX.out.rts.kept KX)).mono ?_
                rintro e wA ⟨xa2, xc2, xd2, xe2, xs2, rfl, hTA, hOA, hPA, kA⟩
                have KA := KX.trans kA
                have zA := KX.size
                have HLa := hide (XVar.laid (by omega) (HX.out.row.kept KA) hTA hOA hPA)
                have HDd : Hid (RoundX webl (envOf sl) (envOf (startL webl roots)) ns L0 (doL (actsOf webl) L r) (i + 1) true) := HV2.out.did (web_acts HW.out) (HRL.out.nodup HV.out.good.asc) hil (by rw [← HN.out]; exact HBe.out) (by rw [← HN.out]; exact HEr.out)
                clear hTA hOA hPA kA
                obtain ⟨T, hTT⟩ : ∃ T, T = doL (actsOf webl) L r := ⟨_, rfl⟩
                rw [← hTT] at HLa HDd ⊢
                clear hTT
                have hRA := HX.out.row.kept KA
                obtain ⟨⟨_, x0⟩, f0⟩ := hRA.row.at (i := 0) (by omega)
                obtain ⟨⟨_, x1⟩, f1⟩ := hRA.row.at (i := 1) (by omega)
                have xzA := hRA.lt
                clear hRA
                refine hK.out _ _ (fun _ => HS14.out _ KA) ?_
                clear hK K hHeld
                try simp only [Act.put, upA, upB, upC]
                refine UpTo.nx 7 (fun K hK => ?_)
                go_simp
                refine hK.out _ _ (fun h => absurd rfl h) ?_
                clear hK K
                try simp only [Act.put, upA, upB, upC]
                refine UpTo.dn ?_
                go_wp2_with fail
                go_roundg (gk - 1)
                case measure => omega
                case rel => exact ⟨i + 1, true, T, xa2, xc2, xd2, xe2, rfl, by go_num, by omega, KeptBut.sets (Nat.le_refl _) (Nat.lt_succ_self _) [.slice xa2 roots.length xc2, .slice xd2 T.length xe2] 0 (KB.trans (KeptBut.of_kept KA)), HLa.out, HDd⟩
          · have h2b : (r.visits == g.visits) = false := by simpa using h2
            have h1' : r.visits < g.visits := by omega
            clear h2
            have HBe : Hid (Behind (W := actsOf webl) behindS (envOf sl) (envOf L) n) := ⟨⟨r, HEr.out, HCg.out⟩, r, g, HEr.out, HGe.out, .inl h1'⟩
            go_quiet (fail)
            have K9 := K8.drewN nq
            generalize hw9 : w8.drewN nq = w9 at K9 ⊢
            clear hw9
            go_upto_region 14 with fail
            refine UpTo.rk 7 HS14.out (K9.drew) (fun hHeld => ?_)
            have KD : Kept w9 w9.drew := (Kept.refl w9).drew
            generalize hwd : w9.drew = wd at hHeld KD ⊢
            clear hwd
            refine UpTo.tk 0 hHeld ?_
            refine UpTo.tk 1 hHeld ?_
            refine UpTo.tk 2 hHeld ?_
            refine UpTo.tk 3 hHeld ?_
            refine UpTo.tk 4 hHeld ?_
            refine UpTo.tk 5 hHeld ?_
            refine UpTo.nx 6 (fun K hK => ?_)
            rw [if_pos (by rfl)]
            go_simp
            go_at_call 20
            have KX := K9.trans KD
            refine (doX_any wd a cap webl pb po xc roots (some ⟨fb, fo, none⟩) xe L n r (by omega) (by omega) (web_small HW.out) (web_acts HW.out) hft hrl1 HV2.out.good HEr.out HCg.out (hN.kept (HKB.out.trans (K3.trans (Kr2.trans KX)))) (HX.out.rns.kept KX) (HX.out.rts.kept KX)).mono ?_
            rintro e wA ⟨xa2, xc2, xd2, xe2, xs2, rfl, hTA, hOA, hPA, kA⟩
            have KA := KX.trans kA
            have zA := KX.size
            have HLa := hide (XVar.laid (by omega) (HX.out.row.kept KA) hTA hOA hPA)
            have HDd : Hid (RoundX webl (envOf sl) (envOf (startL webl roots)) ns L0 (doL (actsOf webl) L r) (i + 1) true) := HV2.out.did (web_acts HW.out) (HRL.out.nodup HV.out.good.asc) hil (by rw [← HN.out]; exact HBe.out) (by rw [← HN.out]; exact HEr.out)
            clear hTA hOA hPA kA
            obtain ⟨T, hTT⟩ : ∃ T, T = doL (actsOf webl) L r := ⟨_, rfl⟩
            rw [← hTT] at HLa HDd ⊢
            clear hTT
            have hRA := HX.out.row.kept KA
            obtain ⟨⟨_, x0⟩, f0⟩ := hRA.row.at (i := 0) (by omega)
            obtain ⟨⟨_, x1⟩, f1⟩ := hRA.row.at (i := 1) (by omega)
            have xzA := hRA.lt
            clear hRA
            refine hK.out _ _ (fun _ => HS14.out _ KA) ?_
            clear hK K hHeld
            try simp only [Act.put, upA, upB, upC]
            refine UpTo.nx 7 (fun K hK => ?_)
            go_simp
            refine hK.out _ _ (fun h => absurd rfl h) ?_
            clear hK K
            try simp only [Act.put, upA, upB, upC]
            refine UpTo.dn ?_
            go_wp2_with fail
            go_roundg (gk - 1)
            case measure => omega
            case rel => exact ⟨i + 1, true, T, xa2, xc2, xd2, xe2, rfl, by go_num, by omega, KeptBut.sets (Nat.le_refl _) (Nat.lt_succ_self _) [.slice xa2 roots.length xc2, .slice xd2 T.length xe2] 0 (KB.trans (KeptBut.of_kept KA)), HLa.out, HDd⟩
set_option maxRecDepth 100000 in
set_option maxHeartbeats 12800000 in
theorem doX_no (w : World) (a : Option Addr) (cap : Nat) (webl : List NodeD) (rb ro rc : Nat) (roots : List ByteArray) (d : Option Addr) (dc : Nat) (l : List RunX) (name : ByteArray) (hwl : webl.length ≤ 1000) (hlw : l.length ≤ 900) (hsz : SmallAsks webl) (hrl : roots.length ≤ 10)
    (hgl : GoodL webl l) (hTl : ∀ r ∈ l, r.texts.length ≤ 1000) (hnr : ¬ ReadyX (actsOf webl) (envOf l) name) (hN : Nodes w a webl) (hS : RunsX w d l) (hR : Strs w (some ⟨rb, ro, none⟩) roots) :
    Calls Tryz.prog 20 #[.agg #[.slice a webl.length cap], .agg #[.slice (some ⟨rb, ro, none⟩) roots.length rc, .slice d l.length dc], .string name] w fun e w' => StateX roots l w w' e := by
  obtain ⟨WB, hWB⟩ : ∃ WB, WB = ((w.alloc (.cells #[.slice a webl.length cap] 37)).alloc (.cells #[.slice (some ⟨rb, ro, none⟩) roots.length rc, .slice d l.length dc] 33)).alloc (.cells #[.slice none 0 0, .slice none 0 0] 33) := ⟨_, rfl⟩
  have kB : Kept w WB := by rw [hWB]; exact (((Kept.refl _).alloc _).alloc _).alloc _
  have hBs : WB.heap.size = w.heap.size + 3 := by rw [hWB]; simp
  have b0 : WB.cell? ⟨w.heap.size, 0, none⟩ = some (.slice a webl.length cap) := by rw [hWB, Kept.cell (w := w.alloc (.cells #[.slice a webl.length cap] 37)) (((Kept.refl _).alloc _).alloc _) (by simp)]; exact range_new w _ _ 0 _ rfl
  have s0 : WB.cell? ⟨w.heap.size + 1, 0, none⟩ = some (.slice (some ⟨rb, ro, none⟩) roots.length rc) := by have := range_new (w.alloc (.cells #[.slice a webl.length cap] 37)) #[.slice (some ⟨rb, ro, none⟩) roots.length rc, .slice d l.length dc] 33 0 _ rfl; rw [World.size_alloc] at this; rw [hWB, Kept.cell (w := (w.alloc (.cells #[.slice a webl.length cap] 37)).alloc (.cells #[.slice (some ⟨rb, ro, none⟩) roots.length rc, .slice d l.length dc] 33)) ((Kept.refl _).alloc _) (by simp)]; exact this
  have s1 : WB.cell? ⟨w.heap.size + 1, 1, none⟩ = some (.slice d l.length dc) := by have := range_new (w.alloc (.cells #[.slice a webl.length cap] 37)) #[.slice (some ⟨rb, ro, none⟩) roots.length rc, .slice d l.length dc] 33 1 _ rfl; rw [World.size_alloc] at this; rw [hWB, Kept.cell (w := (w.alloc (.cells #[.slice a webl.length cap] 37)).alloc (.cells #[.slice (some ⟨rb, ro, none⟩) roots.length rc, .slice d l.length dc] 33)) ((Kept.refl _).alloc _) (by simp)]; exact this
  have HRes : Hid (RowT WB (w.heap.size + 1 + 1) 33 2) := by
    have h1 := RowT.made ((w.alloc (.cells #[.slice a webl.length cap] 37)).alloc (.cells #[.slice (some ⟨rb, ro, none⟩) roots.length rc, .slice d l.length dc] 33)) #[.slice none 0 0, .slice none 0 0] 33
    simp only [World.size_alloc] at h1
    rw [hWB]
    exact h1
  have z0 : w.heap.size < WB.heap.size := by omega
  have z1 : w.heap.size + 1 < WB.heap.size := by omega
  have z2 : w.heap.size + 1 + 1 < WB.heap.size := by omega
  have hll : l.length ≤ 1048576 := by omega
  have hwb : webl.length ≤ 1048576 := by omega
  have HSO : Hid (∀ w', Kept WB w' → w'.cell? ⟨w.heap.size, 0, none⟩ = some (.slice a webl.length cap) ∧ w'.cell? ⟨w.heap.size + 1, 0, none⟩ = some (.slice (some ⟨rb, ro, none⟩) roots.length rc) ∧ w'.cell? ⟨w.heap.size + 1, 1, none⟩ = some (.slice d l.length dc)) := fun w' K => ⟨(K.cell z0).trans b0, (K.cell z1).trans s0, (K.cell z1).trans s1⟩
  have HKB := hide kB
  have HNr := hide hnr
  clear kB hBs b0 s0 s1 hnr
  have HFin : Hid (∀ w9 (ra : Option Addr) (rc9 : Nat) (d9 : Option Addr) (dc9 : Nat) (xs9 : List Value) (W : World), Kept WB W → Kept W w9 → w9.ownsRow W.heap.size 9 1 (.slice ra roots.length rc9) roots.length (roots.map Value.string) → w9.ownsRow W.heap.size 59 7 (.slice d9 l.length dc9) l.length xs9 → PackedX w9 (fun b => W.heap.size ≤ b) xs9 l → StateX roots l w (w9.setCells (w.heap.size + 1 + 1) 0 [.slice ra roots.length rc9, .slice d9 l.length dc9]) (.returned (.agg #[.slice ra roots.length rc9, .slice d9 l.length dc9]))) := fun w9 ra rc9 d9 dc9 xs9 W KW K9 hT9 hO9 hP9 => by
    have zW := KW.size
    have hO := owns_set (owns_set hO9 (p := ⟨w.heap.size + 1 + 1, 0, none⟩) (by show w.heap.size + 1 + 1 < _; omega) (.slice ra roots.length rc9)) (p := ⟨w.heap.size + 1 + 1, 1, none⟩) (by show w.heap.size + 1 + 1 < _; omega) (.slice d9 l.length dc9)
    have hT := owns_set (owns_set hT9 (p := ⟨w.heap.size + 1 + 1, 0, none⟩) (by show w.heap.size + 1 + 1 < _; omega) (.slice ra roots.length rc9)) (p := ⟨w.heap.size + 1 + 1, 1, none⟩) (by show w.heap.size + 1 + 1 < _; omega) (.slice d9 l.length dc9)
    have hP := (hP9.set (c := w.heap.size + 1 + 1) (p := 0) (fun b h => by omega) (.slice ra roots.length rc9)).set (c := w.heap.size + 1 + 1) (p := 1) (fun b h => by omega) (.slice d9 l.length dc9)
    exact ⟨ra, rc9, d9, dc9, xs9, rfl, owns_base hT (by omega), owns_base hO (by omega), packedX_weak hP (fun b h => by omega), kept_sets (g := w.heap.size + 1 + 1) (by omega) [.slice ra roots.length rc9, .slice d9 l.length dc9] 0 (HKB.out.trans (KW.trans K9))⟩
  go_enter Tryz.func20, Tryz.ntmps20
  go_upto_region 1 with fail
  rw [← hWB]
  clear hWB
  obtain ⟨b0, s0, s1⟩ := HSO.out _ (Kept.refl _)
  go_wp2_with fail
  refine (l4At_place _ (some ⟨rb, ro, none⟩) roots.length rc d dc l name hll (hS.kept HKB.out)).mono ?_
  rintro e w1 ⟨⟨q1, rfl, hq1⟩, K1⟩
  clear b0 s0 s1
  have HQ := hide hq1
  clear hq1
  go_upto_region 2 with fail
  rcases HQ.out with ⟨k, hk, rfl, henv, _⟩ | ⟨rfl, _⟩
  rotate_left
  · refine UpTo.rk 12 HSO.out (K1.drew) (fun hHeld => ?_)
    have KD : Kept w1 w1.drew := (Kept.refl w1).drew
    generalize hwd : w1.drew = wd at hHeld KD ⊢
    clear hwd
    refine UpTo.tk 0 hHeld ?_
    refine UpTo.tk 1 hHeld ?_
    refine UpTo.tk 2 hHeld ?_
    refine UpTo.un 3 hHeld ?_
    refine UpTo.un 4 hHeld ?_
    refine UpTo.un 5 hHeld ?_
    refine UpTo.un 6 hHeld ?_
    refine UpTo.un 7 hHeld ?_
    refine UpTo.un 8 hHeld ?_
    refine UpTo.un 9 hHeld ?_
    refine UpTo.un 10 hHeld ?_
    refine UpTo.un 11 hHeld ?_
    refine UpTo.nx 12 (fun K hK => ?_)
    go_simp
    refine hK.out _ _ (fun h => absurd rfl h) ?_
    clear hK K
    try simp only [Act.put, upA, upB, upC]
    have K2 := K1.trans KD
    obtain ⟨w2, hw2⟩ : ∃ w2, w2 = wd := ⟨_, rfl⟩
    rw [← hw2] at K2 ⊢
    clear hw2 KD hHeld
    refine UpTo.dn ?_
    obtain ⟨b0, s0, s1⟩ := HSO.out _ K2
    have y1 := Nat.lt_of_lt_of_le z1 K2.size
    go_upto_region 3 with fail
    go_wp2_with fail
    refine (copyX_any w2 rb ro rc roots d dc l (by omega) (by omega) hTl (hR.kept (HKB.out.trans K2)) (hS.kept (HKB.out.trans K2))).mono ?_
    rintro e w9 ⟨ra, rc9, d9, dc9, xs9, rfl, hT9, hO9, hP9, k9⟩
    have HE := hide (HFin.out w9 ra rc9 d9 dc9 xs9 w2 K2 k9 hT9 hO9 hP9)
    have HR9 := hide ((HRes.out.kept K2).kept k9)
    obtain ⟨⟨_, x0⟩, f0⟩ := HR9.out.row.at (i := 0) (by omega)
    obtain ⟨⟨_, x1⟩, f1⟩ := HR9.out.row.at (i := 1) (by omega)
    have hrz9 := HR9.out.lt
    clear hT9 hO9 hP9 b0 s0 s1
    go_wp2_with fail
    have hRg := World.rangeAt_setCells_same w9 (w.heap.size + 1 + 1) 0 [.slice ra roots.length rc9, .slice d9 l.length dc9] (HR9.out.row.there (o := 0) (m := 2) (Nat.le_refl _))
    exact bodyPost_ret_cell [.slice ra roots.length rc9, .slice d9 l.length dc9] _ Tryz.results20 rfl hRg Tryz.underlying33 rfl Tryz.xSizeState rfl HE.out
  obtain ⟨r, hke⟩ : ∃ r, r = l.getD k RunX.zero := ⟨_, rfl⟩
  obtain ⟨b, o, xa, xc, rfl, hb0, hcs, _, _⟩ := hS k hk
  rw [← hke] at hcs henv
  have hbB := Nat.lt_of_lt_of_le hb0 HKB.out.size
  have hrl2 : r ∈ l := by rw [hke]; simp [List.getD, hk]
  have t0 : WB.cell? ⟨b, o + k * 7, none⟩ = some (.string r.name) := (HKB.out.cell hb0).trans (hcs 0 _ rfl)
  have t1 : WB.cell? ⟨b, o + k * 7 + 1, none⟩ = some (.bool r.over) := (HKB.out.cell hb0).trans (hcs 1 _ rfl)
  have t2 : WB.cell? ⟨b, o + k * 7 + 2, none⟩ = some (.bool r.fail) := (HKB.out.cell hb0).trans (hcs 2 _ rfl)
  have t3 : WB.cell? ⟨b, o + k * 7 + 3, none⟩ = some (.string r.text) := (HKB.out.cell hb0).trans (hcs 3 _ rfl)
  have t4 : WB.cell? ⟨b, o + k * 7 + 4, none⟩ = some (.int .i64 r.at') := (HKB.out.cell hb0).trans (hcs 4 _ rfl)
  have t5 : WB.cell? ⟨b, o + k * 7 + 5, none⟩ = some (.int .i64 r.visits) := (HKB.out.cell hb0).trans (hcs 5 _ rfl)
  have t6 : WB.cell? ⟨b, o + k * 7 + 6, none⟩ = some (.slice xa r.texts.length xc) := (HKB.out.cell hb0).trans (hcs 6 _ rfl)
  have HSB : Hid (∀ w', Kept WB w' → w'.cell? ⟨w.heap.size, 0, none⟩ = some (.slice a webl.length cap) ∧ w'.cell? ⟨w.heap.size + 1, 0, none⟩ = some (.slice (some ⟨rb, ro, none⟩) roots.length rc) ∧ w'.cell? ⟨w.heap.size + 1, 1, none⟩ = some (.slice (some ⟨b, o, none⟩) l.length dc) ∧ w'.cell? ⟨b, o + k * 7, none⟩ = some (.string r.name) ∧ w'.cell? ⟨b, o + k * 7 + 1, none⟩ = some (.bool r.over) ∧ w'.cell? ⟨b, o + k * 7 + 2, none⟩ = some (.bool r.fail) ∧ w'.cell? ⟨b, o + k * 7 + 3, none⟩ = some (.string r.text) ∧ w'.cell? ⟨b, o + k * 7 + 4, none⟩ = some (.int .i64 r.at') ∧ w'.cell? ⟨b, o + k * 7 + 5, none⟩ = some (.int .i64 r.visits) ∧ w'.cell? ⟨b, o + k * 7 + 6, none⟩ = some (.slice xa r.texts.length xc)) := fun w' K => ⟨(HSO.out w' K).1, (HSO.out w' K).2.1, (HSO.out w' K).2.2, (K.cell hbB).trans t0, (K.cell hbB).trans t1, (K.cell hbB).trans t2, (K.cell hbB).trans t3, (K.cell hbB).trans t4, (K.cell hbB).trans t5, (K.cell hbB).trans t6⟩
  have HNc : Hid (¬ CanGo (actsOf webl) (envOf l) r) := fun h => HNr.out ⟨r, henv, h⟩
  clear t0 t1 t2 t3 t4 t5 t6 hcs hke henv
  have hk0 : ¬ (k : Int) < 0 := by omega
  have hkl : (k : Int) < (l.length : Int) := by omega
  refine UpTo.rk 12 HSB.out (K1.drew) (fun hHeld => ?_)
  have KD : Kept w1 w1.drew := (Kept.refl w1).drew
  generalize hwd : w1.drew = wd at hHeld KD ⊢
  clear hwd
  refine UpTo.tk 0 hHeld ?_
  refine UpTo.tk 1 hHeld ?_
  refine UpTo.tk 2 hHeld ?_
  refine UpTo.tk 3 hHeld ?_
  refine UpTo.tk 4 hHeld ?_
  refine UpTo.tk 5 hHeld ?_
  refine UpTo.tk 6 hHeld ?_
  refine UpTo.tk 7 hHeld ?_
  refine UpTo.tk 8 hHeld ?_
  refine UpTo.tk 9 hHeld ?_
  refine UpTo.nx 10 (fun K hK => ?_)
  rw [if_pos (by rfl)]
  go_simp
  go_at_call 44
  refine (canGo_any wd a cap webl (some ⟨rb, ro, none⟩) roots.length rc (some ⟨b, o, none⟩) dc l r xa xc hwb hll hsz (fun _ _ => (hgl.good r hrl2).act) (hN.kept (HKB.out.trans (K1.trans KD))) (hS.kept (HKB.out.trans (K1.trans KD)))).mono ?_
  rintro e w2 ⟨hsay, k2⟩
  have K2 := (K1.trans KD).trans k2
  rcases hsay.cases with ⟨rfl, hyes⟩ | ⟨rfl, _⟩
  · exact absurd hyes HNc.out
  clear hsay k2
  refine hK.out _ _ (fun _ => HSB.out _ K2) ?_
  clear hK K hHeld KD K1
  have hHeld := HSB.out _ K2
  try simp only [Act.put, upA, upB, upC]
  refine UpTo.tk 11 hHeld ?_
  refine UpTo.nx 12 (fun K hK => ?_)
  go_simp
  refine hK.out _ _ (fun h => absurd rfl h) ?_
  clear hK K hHeld
  try simp only [Act.put, upA, upB, upC]
  refine UpTo.dn ?_
  obtain ⟨b0, s0, s1⟩ := HSO.out _ K2
  have y1 := Nat.lt_of_lt_of_le z1 K2.size
  go_upto_region 3 with fail
  go_wp2_with fail
  refine (copyX_any w2 rb ro rc roots (some ⟨b, o, none⟩) dc l (by omega) (by omega) hTl (hR.kept (HKB.out.trans K2)) (hS.kept (HKB.out.trans K2))).mono ?_
  rintro e w9 ⟨ra, rc9, d9, dc9, xs9, rfl, hT9, hO9, hP9, k9⟩
  have HE := hide (HFin.out w9 ra rc9 d9 dc9 xs9 w2 K2 k9 hT9 hO9 hP9)
  have HR9 := hide ((HRes.out.kept K2).kept k9)
  obtain ⟨⟨_, x0⟩, f0⟩ := HR9.out.row.at (i := 0) (by omega)
  obtain ⟨⟨_, x1⟩, f1⟩ := HR9.out.row.at (i := 1) (by omega)
  have hrz9 := HR9.out.lt
  clear hT9 hO9 hP9 b0 s0 s1
  go_wp2_with fail
  have hRg := World.rangeAt_setCells_same w9 (w.heap.size + 1 + 1) 0 [.slice ra roots.length rc9, .slice d9 l.length dc9] (HR9.out.row.there (o := 0) (m := 2) (Nat.le_refl _))
  exact bodyPost_ret_cell [.slice ra roots.length rc9, .slice d9 l.length dc9] _ Tryz.results20 rfl hRg Tryz.underlying33 rfl Tryz.xSizeState rfl HE.out
theorem ValidX.good {webl : List NodeD} {roots : List ByteArray} {sl : List RunX} (h : ValidX webl roots sl) : GoodL webl sl := by
  obtain ⟨_, _, _, k, L, hg, _, _, rfl⟩ := h
  exact hg
theorem GoodL.texts {webl : List NodeD} {l : List RunX} (h : GoodL webl l) : ∀ r ∈ l, r.texts.length ≤ 1000 := fun r hr => by
  have h1 := (h.good r hr).tl
  have h2 := (h.good r hr).hi
  omega
def DoneX (webl : List NodeD) (sl : List RunX) (name : ByteArray) (T : List RunX) : Prop :=
  (∃ r, envOf sl name = some r ∧ CanGo (actsOf webl) (envOf sl) r ∧ T = doL (actsOf webl) sl r) ∨ (¬ ReadyX (actsOf webl) (envOf sl) name ∧ T = sl)
theorem DoneX.good {webl : List NodeD} {sl T : List RunX} {name : ByteArray} (h : DoneX webl sl name T) (hok : ActsOk (actsOf webl)) (hg : GoodL webl sl) : GoodL webl T := by
  rcases h with ⟨r, h1, h2, rfl⟩ | ⟨_, rfl⟩
  · exact doL_good hok hg (env_mem h1).1 h2
  · exact hg
theorem DoneX.unique {webl : List NodeD} {sl T T' : List RunX} {name : ByteArray} (h : DoneX webl sl name T) (h' : DoneX webl sl name T') : T = T' := by
  rcases h with ⟨r, h1, h2, rfl⟩ | ⟨h1, rfl⟩ <;> rcases h' with ⟨r', g1, g2, rfl⟩ | ⟨g1, rfl⟩
  · rw [h1] at g1; cases g1; rfl
  · exact absurd ⟨r, h1, h2⟩ g1
  · exact absurd ⟨r', g1, g2⟩ h1
  · rfl
def DoEnd (webl : List NodeD) (roots : List ByteArray) (sl : List RunX) (name : ByteArray) (w w' : World) (e : Ending) : Prop :=
  (ValidX webl roots sl ∧ ∃ T, DoneX webl sl name T ∧ StateX roots T w w' e) ∨ (¬ ValidX webl roots sl ∧ e = .returned (.agg #[.slice none 0 0, .slice none 0 0]) ∧ Kept w w')
theorem specDo_step (w : World) (a : Option Addr) (cap : Nat) (webl : List NodeD) (rb ro rc : Nat) (roots : List ByteArray) (d : Option Addr) (dc : Nat) (sl : List RunX) (name : ByteArray) (hft : ∀ y ∈ webl, y.Fits) (hv : ValidX webl roots sl)
    (hN : Nodes w a webl) (hS : RunsX w d sl) (hR : Strs w (some ⟨rb, ro, none⟩) roots) :
    Calls Tryz.prog 20 #[.agg #[.slice a webl.length cap], .agg #[.slice (some ⟨rb, ro, none⟩) roots.length rc, .slice d sl.length dc], .string name] w fun e w' => ∃ T, DoneX webl sl name T ∧ StateX roots T w w' e := by
  have hg := hv.good
  have h1 := web_len hv.1
  have h2 := hg.len
  have h3 := hv.2.1.2.1
  by_cases hr : ReadyX (actsOf webl) (envOf sl) name
  · obtain ⟨r, hr1, hr2⟩ := hr
    exact (doX_any w a cap webl rb ro rc roots d dc sl name r (by omega) (by omega) (web_small hv.1) (web_acts hv.1) hft h3 hg hr1 hr2 hN hS hR).mono fun e w' h => ⟨_, .inl ⟨r, hr1, hr2, rfl⟩, h⟩
  · exact (doX_no w a cap webl rb ro rc roots d dc sl name (by omega) (by omega) (web_small hv.1) h3 hg hg.texts hr hN hS hR).mono fun e w' h => ⟨_, .inr ⟨hr, rfl⟩, h⟩
set_option maxRecDepth 100000 in
set_option maxHeartbeats 1600000 in
theorem specDo_any (w : World) (a : Option Addr) (cap : Nat) (webl : List NodeD) (ra : Option Addr) (rc : Nat) (roots : List ByteArray) (d : Option Addr) (dc : Nat) (sl : List RunX) (name : ByteArray) (hwl : webl.length ≤ 1048576) (hft : ∀ y ∈ webl, y.Fits) (hrl : roots.length ≤ 1048576) (hrs : ∀ s ∈ roots, s.size ≤ maxLen) (hsl : sl.length ≤ 1048576) (hst : ∀ x ∈ sl, x.texts.length ≤ 1048576)
    (hN : Nodes w a webl) (hS : RunsX w d sl) (hR : Strs w ra roots) :
    Calls Tryz.prog 6 #[.agg #[.slice a webl.length cap], .agg #[.slice ra roots.length rc, .slice d sl.length dc], .string name] w fun e w' => DoEnd webl roots sl name w w' e := by
  obtain ⟨WB, hWB⟩ : ∃ WB, WB = ((w.alloc (.cells #[.slice a webl.length cap] 37)).alloc (.cells #[.slice ra roots.length rc, .slice d sl.length dc] 33)).alloc (.cells #[.slice none 0 0, .slice none 0 0] 33) := ⟨_, rfl⟩
  have kB : Kept w WB := by rw [hWB]; exact (((Kept.refl _).alloc _).alloc _).alloc _
  have hBs : WB.heap.size = w.heap.size + 3 := by rw [hWB]; simp
  have b0 : WB.cell? ⟨w.heap.size, 0, none⟩ = some (.slice a webl.length cap) := by rw [hWB, Kept.cell (w := w.alloc (.cells #[.slice a webl.length cap] 37)) (((Kept.refl _).alloc _).alloc _) (by simp)]; exact range_new w _ _ 0 _ rfl
  have s0 : WB.cell? ⟨w.heap.size + 1, 0, none⟩ = some (.slice ra roots.length rc) := by have := range_new (w.alloc (.cells #[.slice a webl.length cap] 37)) #[.slice ra roots.length rc, .slice d sl.length dc] 33 0 _ rfl; rw [World.size_alloc] at this; rw [hWB, Kept.cell (w := (w.alloc (.cells #[.slice a webl.length cap] 37)).alloc (.cells #[.slice ra roots.length rc, .slice d sl.length dc] 33)) ((Kept.refl _).alloc _) (by simp)]; exact this
  have s1 : WB.cell? ⟨w.heap.size + 1, 1, none⟩ = some (.slice d sl.length dc) := by have := range_new (w.alloc (.cells #[.slice a webl.length cap] 37)) #[.slice ra roots.length rc, .slice d sl.length dc] 33 1 _ rfl; rw [World.size_alloc] at this; rw [hWB, Kept.cell (w := (w.alloc (.cells #[.slice a webl.length cap] 37)).alloc (.cells #[.slice ra roots.length rc, .slice d sl.length dc] 33)) ((Kept.refl _).alloc _) (by simp)]; exact this
  have HRes : Hid (RowT WB (w.heap.size + 1 + 1) 33 2) := by
    have h1 := RowT.made ((w.alloc (.cells #[.slice a webl.length cap] 37)).alloc (.cells #[.slice ra roots.length rc, .slice d sl.length dc] 33)) #[.slice none 0 0, .slice none 0 0] 33
    simp only [World.size_alloc] at h1
    rw [hWB]
    exact h1
  have z0 : w.heap.size < WB.heap.size := by omega
  have z1 : w.heap.size + 1 < WB.heap.size := by omega
  have z2 : w.heap.size + 1 + 1 < WB.heap.size := by omega
  have HC : Hid (∀ w', Kept WB w' → w'.cell? ⟨w.heap.size, 0, none⟩ = some (.slice a webl.length cap) ∧ w'.cell? ⟨w.heap.size + 1, 0, none⟩ = some (.slice ra roots.length rc) ∧ w'.cell? ⟨w.heap.size + 1, 1, none⟩ = some (.slice d sl.length dc) ∧ w.heap.size < w'.heap.size ∧ w.heap.size + 1 < w'.heap.size) := fun w' K => ⟨(K.cell z0).trans b0, (K.cell z1).trans s0, (K.cell z1).trans s1, Nat.lt_of_lt_of_le z0 K.size, Nat.lt_of_lt_of_le z1 K.size⟩
  have HKB := hide kB
  clear kB hBs b0 s0 s1
  go_enter Tryz.func6, Tryz.ntmps6
  go_upto_region 1 with fail
  rw [← hWB]
  clear hWB
  obtain ⟨b0, s0, s1, _, _⟩ := HC.out _ (Kept.refl _)
  go_wp2_with fail
  refine (validState_any _ a cap webl ra rc roots d dc sl hwl hft hrl hrs hsl hst (hN.kept HKB.out) (hS.kept HKB.out) (hR.kept HKB.out)).mono ?_
  rintro e w1 ⟨⟨bv, rfl, hv⟩, k1⟩
  have HV := hide hv
  clear hv b0 s0 s1 z0 z1
  obtain ⟨b0, s0, s1, z0, z1⟩ := HC.out _ k1
  have HR1 := hide (HRes.out.kept k1)
  obtain ⟨⟨_, x0⟩, f0⟩ := HR1.out.row.at (i := 0) (by omega)
  obtain ⟨⟨_, x1⟩, f1⟩ := HR1.out.row.at (i := 1) (by omega)
  have zr := HR1.out.lt
  cases bv
  · go_wp2_with fail
    have hRg := World.rangeAt_setCells_same w1 (w.heap.size + 1 + 1) 0 [.slice none 0 0, .slice none 0 0] (HR1.out.row.there (o := 0) (m := 2) (Nat.le_refl _))
    exact bodyPost_ret_cell [.slice none 0 0, .slice none 0 0] _ Tryz.results6 rfl hRg Tryz.underlying33 rfl Tryz.xSizeState rfl (.inr ⟨fun h => (by have := HV.out.2 h; cases this), rfl, kept_sets (g := w.heap.size + 1 + 1) (by omega) [.slice none 0 0, .slice none 0 0] 0 (HKB.out.trans k1)⟩)
  · have hval := HV.out.1 rfl
    have HVal := hide hval
    have hr1 := hval.2.1.1
    have hr10 := hval.2.1.2.1
    have hw6 := web_len hval.1
    obtain ⟨rb, ro, rfl, _, _⟩ := hR 0 (by omega)
    clear hval x0 x1 f0 f1
    go_wp2_with fail
    refine (specDo_step w1 a cap webl rb ro rc roots d dc sl name hft HVal.out (hN.kept (HKB.out.trans k1)) (hS.kept (HKB.out.trans k1)) (hR.kept (HKB.out.trans k1))).mono ?_
    rintro e w2 ⟨T, hD, ra2, rc2, d2, dc2, xs2, rfl, hT2, hO2, hP2, k2⟩
    have HD := hide hD
    have hgT := hD.good (web_acts HVal.out.1) HVal.out.good
    have hTl := hgT.len
    obtain ⟨a9, c9, e9, h9⟩ := owned_strs hT2
    simp only [Value.slice.injEq, true_and] at e9
    rw [← e9.1] at h9
    obtain ⟨_, a8, c8, e8, h8⟩ := PackedX.runs hO2 hP2 (Kept.refl _)
    simp only [Value.slice.injEq, true_and] at e8
    rw [← e8.1] at h8
    obtain ⟨rb2, ro2, rfl, _, _⟩ := h9 0 (by omega)
    have H9 := hide h9
    have H8 := hide h8.runs
    have HG := hide hgT
    have K2 := k1.trans k2
    clear hD hgT h9 h8 hT2 hO2 hP2 e9 e8 b0 s0 s1 z0 z1 zr
    go_wp2_with fail
    refine (copyX_any w2 rb2 ro2 rc2 roots d2 dc2 T (by omega) (by omega) HG.out.texts H9.out H8.out).mono ?_
    rintro e w3 ⟨ra3, rc3, d3, dc3, xs3, rfl, hT3, hO3, hP3, k3⟩
    have HR3 := hide ((HRes.out.kept K2).kept k3)
    obtain ⟨⟨_, x0⟩, f0⟩ := HR3.out.row.at (i := 0) (by omega)
    obtain ⟨⟨_, x1⟩, f1⟩ := HR3.out.row.at (i := 1) (by omega)
    have zr := HR3.out.lt
    have zK := K2.size
    have HT3 := hide hT3
    have HO3 := hide hO3
    have HP3 := hide hP3
    clear hT3 hO3 hP3
    go_wp2_with fail
    have hRg := World.rangeAt_setCells_same w3 (w.heap.size + 1 + 1) 0 [.slice ra3 roots.length rc3, .slice d3 T.length dc3] (HR3.out.row.there (o := 0) (m := 2) (Nat.le_refl _))
    have hO := owns_set (owns_set HO3.out (p := ⟨w.heap.size + 1 + 1, 0, none⟩) (by show w.heap.size + 1 + 1 < _; omega) (.slice ra3 roots.length rc3)) (p := ⟨w.heap.size + 1 + 1, 1, none⟩) (by show w.heap.size + 1 + 1 < _; omega) (.slice d3 T.length dc3)
    have hT := owns_set (owns_set HT3.out (p := ⟨w.heap.size + 1 + 1, 0, none⟩) (by show w.heap.size + 1 + 1 < _; omega) (.slice ra3 roots.length rc3)) (p := ⟨w.heap.size + 1 + 1, 1, none⟩) (by show w.heap.size + 1 + 1 < _; omega) (.slice d3 T.length dc3)
    have hP := (HP3.out.set (c := w.heap.size + 1 + 1) (p := 0) (fun b h => by omega) (.slice ra3 roots.length rc3)).set (c := w.heap.size + 1 + 1) (p := 1) (fun b h => by omega) (.slice d3 T.length dc3)
    exact bodyPost_ret_cell [.slice ra3 roots.length rc3, .slice d3 T.length dc3] _ Tryz.results6 rfl hRg Tryz.underlying33 rfl Tryz.xSizeState rfl (.inl ⟨HVal.out, T, HD.out, ra3, rc3, d3, dc3, xs3, rfl, owns_base hT (by omega), owns_base hO (by omega), packedX_weak hP (fun b h => by omega), kept_sets (g := w.heap.size + 1 + 1) (by omega) [.slice ra3 roots.length rc3, .slice d3 T.length dc3] 0 (HKB.out.trans (K2.trans k3))⟩)
end Go.Proofs.YtjhemildijapmaaGreatDoor
