import Derived.Test.YticdoifcfokckaaGreatDoorKRDo
import Derived.Test.YticdoifcfokckaaGreatDoorKRHeld
import Derived.Deep.MidRow
namespace Go.Proofs.YticdoifcfokckaaGreatDoor
open Go.RowKit
set_option maxRecDepth 100000 in
set_option maxHeartbeats 25600000 in
theorem lawDo (w : World) (a : Option Addr) (cap : Nat) (l : List NodeD) (rd : Option Addr) (rc : Nat) (roots : List ByteArray) (ga : Option Addr) (gc : Nat) (sl : List RunX) (name : ByteArray) (hl : l.length ≤ maxLen) (hs : ∀ s ∈ l, s.Fits) (hrl : roots.length ≤ maxLen) (hrs : ∀ s ∈ roots, s.size ≤ maxLen) (hsl : sl.length ≤ maxLen) (hsf : ∀ r ∈ sl, r.Fits) (hN : Nodes w a l) (hR : Strs w rd roots) (hG : RunsX w ga sl) (hFi : FinishOk w) :
    Calls Tryz.prog 4 #[.agg #[.slice a l.length cap], .agg #[.slice rd roots.length rc, .slice ga sl.length gc], .string name] w fun e w' => e = .returned (.bool true) ∧ Kept w w' := by
  obtain ⟨W0, hW0⟩ : ∃ W0, W0 = (w.alloc (.cells #[.slice a l.length cap] 24)).alloc (.cells #[.slice rd roots.length rc, .slice ga sl.length gc] 28) := ⟨_, rfl⟩
  have k0 : Kept w W0 := by rw [hW0]; exact ((Kept.refl _).alloc _).alloc _
  have HBox : Hid (∀ w', Kept W0 w' → (fun w' => w'.cell? ⟨w.heap.size, 0, none⟩ = some (.slice a l.length cap) ∧ w'.cell? ⟨w.heap.size + 1, 0, none⟩ = some (.slice rd roots.length rc) ∧ w'.cell? ⟨w.heap.size + 1, 1, none⟩ = some (.slice ga sl.length gc)) w') := fun w' kk => by
    have q0 := (box1 (w := w) (v := .slice a l.length cap) (t := 24) (w1 := w') (Kept.trans (by rw [hW0]; exact (Kept.refl _).alloc _) kk)).1
    have q1 := box2 (w := w.alloc (.cells #[.slice a l.length cap] 24)) (v0 := .slice rd roots.length rc) (v1 := .slice ga sl.length gc) (t := 28) (w1 := w') (Kept.trans (by rw [hW0]; exact Kept.refl _) kk)
    simp only [World.size_alloc] at q1
    exact ⟨q0, q1.1, q1.2⟩
  have z0 : w.heap.size + 1 + 1 ≤ W0.heap.size := by rw [hW0]; simp
  go_enter Tryz.func4, Tryz.ntmps4
  by_cases hnm : (1048576 : Int) < (name.size : Int)
  · go_wp2
    rw [← hW0]
    go_ret
    exact ⟨rfl, k0⟩
  go_wp2_with fail
  rw [← hW0]
  clear hW0 hnm
  refine (szWeb_any _ a cap l 1048576 hl hs (hN.kept k0) (by omega) (by omega)).mono ?_
  rintro e w1 ⟨rfl, K1⟩
  by_cases hle : (szNodesD l : Int) ≤ 1048576
  rotate_left
  · rw [szL_neg (by omega)]
    go_wp2
    go_ret
    exact ⟨rfl, k0.trans K1⟩
  rw [szL_pos hle]
  obtain ⟨hl2, hs2⟩ := small_of_szN (l := l) (n := 1048576) (by omega)
  obtain ⟨b0, b1, b2⟩ := HBox.out _ K1
  go_wp2_with fail
  refine (szState_any _ rd ga rc gc roots sl _ hrl hrs hsl hsf (hR.kept (k0.trans K1)) (hG.kept (k0.trans K1)) (by omega) (by omega)).mono ?_
  rintro e w2 ⟨rfl, k2⟩
  have K2 := K1.trans k2
  clear b0 b1 b2 K1 k2
  by_cases hle2 : (szStateD roots sl : Int) ≤ 1048576 - szNodesD l
  rotate_left
  · rw [szL_neg (by omega)]
    go_wp2
    go_ret
    exact ⟨rfl, k0.trans K2⟩
  rw [szL_pos hle2]
  obtain ⟨hr2, hsl2, hst2⟩ := small_runs (roots := roots) (l := sl) (n := 1048576) (by omega)
  have hcN : 1 + (l.map cntNode).sum + roots.length + (sl.map cntRun).sum ≤ 33554432 := by
    have h1 := cntNodesR_le l
    have h2 := cntRuns_le sl
    have h3 : szStateD roots sl = szStrs roots + szRunsD sl := rfl
    omega
  have hnn : ¬ ((1048576 : Int) - szNodesD l - szStateD roots sl < 0) := by omega
  have HCn := hide hcN
  clear hle hle2 hcN
  obtain ⟨b0, b1, b2⟩ := HBox.out _ K2
  have hz2 := K2.size
  have KW2 := k0.trans K2
  have HSO : Hid (∀ w', Kept w2 w' → (fun w' => w'.cell? ⟨w.heap.size, 0, none⟩ = some (.slice a l.length cap) ∧ w'.cell? ⟨w.heap.size + 1, 0, none⟩ = some (.slice rd roots.length rc) ∧ w'.cell? ⟨w.heap.size + 1, 1, none⟩ = some (.slice ga sl.length gc)) w') := fun w' kk => HBox.out w' (K2.trans kk)
  go_upto_region 10 with fail
  refine region_cut (DoJ w2 l roots sl name 29 30 31 32 33 34 8) ?_ ?_
  · refine UpTo.region (by kernel_rfl) (fun w' => w'.cell? ⟨w.heap.size, 0, none⟩ = some (.slice a l.length cap) ∧ w'.cell? ⟨w.heap.size + 1, 0, none⟩ = some (.slice rd roots.length rc) ∧ w'.cell? ⟨w.heap.size + 1, 1, none⟩ = some (.slice ga sl.length gc)) 7 (HSO.out _ ((Kept.refl w2).drew)) (fun hHeld => ?_)
    have KD : Kept w2 w2.drew := (Kept.refl w2).drew
    generalize hwd : w2.drew = wd at hHeld KD ⊢
    clear hwd
    refine UpTo.take 0 [1, 3, 5, 7] (v := ?_) (by (simp only [List.getElem?_toArray, List.getElem?_cons_zero]; rfl)) (by kernel_rfl) (by kernel_rfl) (by kernel_rfl) (by kernel_rfl) (by exact fun _ _ _ h => nomatch h.1) (Or.inl ⟨by rfl, ?_⟩) hHeld ?_
    rotate_left
    · intro u hu; (try dsimp only at hu); go_simp; (try with_reducible rfl)
    try simp only [Act.put, List.setIfInBounds_toArray, List.set_cons_zero, List.set_cons_succ]
    refine UpTo.take 2 [3, 5, 7] (v := ?_) (by (simp only [List.getElem?_toArray, List.getElem?_cons_succ, List.getElem?_cons_zero]; rfl)) (by kernel_rfl) (by kernel_rfl) (by kernel_rfl) (by kernel_rfl) (by exact fun _ _ _ h => nomatch h.1) (Or.inl ⟨by rfl, ?_⟩) hHeld ?_
    rotate_left
    · intro u hu; (try dsimp only at hu); go_simp; (try with_reducible rfl)
    try simp only [Act.put, List.setIfInBounds_toArray, List.set_cons_zero, List.set_cons_succ]
    refine UpTo.take 4 [5, 7] (v := ?_) (by (simp only [List.getElem?_toArray, List.getElem?_cons_succ, List.getElem?_cons_zero]; rfl)) (by kernel_rfl) (by kernel_rfl) (by kernel_rfl) (by kernel_rfl) (by exact fun _ _ _ h => nomatch h.1) (Or.inl ⟨by rfl, ?_⟩) hHeld ?_
    rotate_left
    · intro u hu; (try dsimp only at hu); go_simp; (try with_reducible rfl)
    try simp only [Act.put, List.setIfInBounds_toArray, List.set_cons_zero, List.set_cons_succ]
    refine UpTo.two 1 6 (by kernel_rfl) (by (simp only [List.getElem?_toArray, List.getElem?_cons_succ, List.getElem?_cons_zero]; rfl)) (by (simp only [List.getElem?_toArray, List.getElem?_cons_succ, List.getElem?_cons_zero]; rfl)) (fun K hK => ?_) (fun K hK => ?_)
    · rw [if_pos (by rfl)]
      go_simp
      go_at_call 11
      refine (toWeb_any _ a cap l hl2 hs2 (hN.kept (KW2.trans KD))).mono ?_
      rintro e w3 ⟨bw, rfl, hN3, k3, hb1⟩
      have KC3 := KD.trans k3
      refine hK.out _ _ (fun _ => HSO.out _ KC3) ?_
      clear hK K
      try simp only [Act.put, List.setIfInBounds_toArray, List.set_cons_zero, List.set_cons_succ]
      refine UpTo.two 3 6 (by kernel_rfl) (by (simp only [List.getElem?_toArray, List.getElem?_cons_succ, List.getElem?_cons_zero]; rfl)) (by (simp only [List.getElem?_toArray, List.getElem?_cons_succ, List.getElem?_cons_zero]; rfl)) (fun K hK => ?_) (fun K hK => ?_)
      · rw [if_pos (by rfl)]
        go_simp
        go_at_call 12
        refine (toStateX_any _ rd ga rc gc roots sl hr2 hsl2 hst2 (hR.kept (KW2.trans KC3)) (hG.kept (KW2.trans KC3))).mono ?_
        rintro e w4 ⟨c1, c2, rfl, hR4, hG4, k4, hc1, hc2⟩
        have KC4 := KC3.trans k4
        refine hK.out _ _ (fun _ => HSO.out _ KC4) ?_
        clear hK K
        try simp only [Act.put, List.setIfInBounds_toArray, List.set_cons_zero, List.set_cons_succ]
        refine UpTo.two 5 6 (by kernel_rfl) (by (simp only [List.getElem?_toArray, List.getElem?_cons_succ, List.getElem?_cons_zero]; rfl)) (by (simp only [List.getElem?_toArray, List.getElem?_cons_succ, List.getElem?_cons_zero]; rfl)) (fun K hK => ?_) (fun K hK => ?_)
        · rw [if_pos (by rfl)]
          go_simp
          go_at_call 21
          refine (specDo_any _ (some ⟨bw, 0, none⟩) l.length l (some ⟨c1, 0, none⟩) roots.length roots (some ⟨c2, 0, none⟩) sl.length sl name hl2 hs hr2 hrs hsl2 hst2 (hN3.kept k4).nodes (hG4.runs.kept (Kept.refl _)) (hR4.kept (Kept.refl _))).mono ?_
          rintro e w5 h5
          obtain ⟨R, T, ra, rc5, d5, dc5, rfl, hD5, hO5, k5⟩ := h5.out
          have KC5 := KC4.trans k5
          refine hK.out _ _ (fun _ => HSO.out _ KC5) ?_
          clear hK K h5
          try simp only [Act.put, List.setIfInBounds_toArray, List.set_cons_zero, List.set_cons_succ]
          refine UpTo.nx 6 (fun K hK => ?_)
          go_simp
          refine hK.out _ _ (fun _ => HSO.out _ (KC5.trans ((Kept.refl _).alloc _))) ?_
          clear hK K
          try simp only [Act.put, List.setIfInBounds_toArray, List.set_cons_zero, List.set_cons_succ]
          have hRw : RowT (w5.alloc (.cells #[.slice none 0 0, .slice none 0 0] 38)) w5.heap.size 38 2 := RowT.made w5 _ _
          have KA : Kept w5 (w5.alloc (.cells #[.slice none 0 0, .slice none 0 0] 38)) := (Kept.refl _).alloc _
          have nz := KC5.size
          obtain ⟨nb, hnb⟩ : ∃ nb, nb = w5.heap.size := ⟨_, rfl⟩
          rw [← hnb] at hRw ⊢
          generalize hwe : w5.alloc (.cells #[.slice none 0 0, .slice none 0 0] 38) = wA at hRw KA ⊢
          clear hwe
          have KCA := KC5.trans KA
          have nl := hRw.lt
          have nz2 : w2.heap.size ≤ nb := by omega
          have HNB := hide hnb
          clear hnb nz
          have hRF := hRw
          have hO := hO5 wA nb [.slice ra R.length rc5, .slice d5 T.length dc5] (.inr (by have := HNB.out; omega)) KA
          refine UpTo.nx 7 (fun K hK => ?_)
          rw [if_pos (by rfl)]
          refine wp_store_mid 38 _ _ rfl nb 0 #[.slice ra R.length rc5, .slice d5 T.length dc5] (by rfl) (by rfl) hRF.there (by kernel_rfl) (two_one ..) ?_
          refine hK.out _ _ (fun h => absurd rfl h) ?_
          clear hK K
          try simp only [Act.put]
          refine UpTo.done (by kernel_rfl) ⟨rfl, ?_⟩
          refine ⟨.agg #[.slice a l.length cap], .agg #[.slice (some ⟨bw, 0, none⟩) l.length l.length], .agg #[.slice rd roots.length rc, .slice ga sl.length gc], .agg #[.slice (some ⟨c1, 0, none⟩) roots.length roots.length, .slice (some ⟨c2, 0, none⟩) sl.length sl.length], .string name, .agg #[.slice ra R.length rc5, .slice d5 T.length dc5], nb, R, T, ra, rc5, d5, dc5, ?_, by omega, ?_, (box_sets hRF).1, (box_sets hRF).2, hD5, hO.1, hO.2, kept_sets (by omega) _ 0 KCA⟩
          · simp only [Act.put, List.setIfInBounds_toArray, List.set_cons_zero, List.set_cons_succ]
          · rw [size_setCells]; exact hRF.lt
        · go_simp
          refine hK.out _ _ (fun _ => HSO.out _ (KC4.trans ((Kept.refl _).alloc _))) ?_
          clear hK K
          try simp only [Act.put, List.setIfInBounds_toArray, List.set_cons_zero, List.set_cons_succ]
          have hRw : RowT (w4.alloc (.cells #[.slice none 0 0, .slice none 0 0] 38)) w4.heap.size 38 2 := RowT.made w4 _ _
          have KA : Kept w4 (w4.alloc (.cells #[.slice none 0 0, .slice none 0 0] 38)) := (Kept.refl _).alloc _
          have nz := KC4.size
          obtain ⟨nb, hnb⟩ : ∃ nb, nb = w4.heap.size := ⟨_, rfl⟩
          rw [← hnb] at hRw ⊢
          generalize hwe : w4.alloc (.cells #[.slice none 0 0, .slice none 0 0] 38) = wA at hRw KA ⊢
          clear hwe
          have KCA := KC4.trans KA
          have nl := hRw.lt
          have nz2 : w2.heap.size ≤ nb := by omega
          have HNB := hide hnb
          clear hnb nz
          refine UpTo.nx 5 (fun K hK => ?_)
          rw [if_pos (by rfl)]
          go_simp
          go_at_call 21
          refine (specDo_any _ (some ⟨bw, 0, none⟩) l.length l (some ⟨c1, 0, none⟩) roots.length roots (some ⟨c2, 0, none⟩) sl.length sl name hl2 hs hr2 hrs hsl2 hst2 (hN3.kept (k4.trans KA)).nodes (hG4.runs.kept KA) (hR4.kept KA)).mono ?_
          rintro e w5 h5
          obtain ⟨R, T, ra, rc5, d5, dc5, rfl, hD5, hO5, k5⟩ := h5.out
          have KC5 := KCA.trans k5
          refine hK.out _ _ (fun _ => HSO.out _ KC5) ?_
          clear hK K h5
          try simp only [Act.put, List.setIfInBounds_toArray, List.set_cons_zero, List.set_cons_succ]
          have hRF := hRw.kept k5
          have hO := hO5 w5 nb [.slice ra R.length rc5, .slice d5 T.length dc5] (.inl (by omega)) (Kept.refl _)
          refine UpTo.nx 7 (fun K hK => ?_)
          rw [if_pos (by rfl)]
          refine wp_store_mid 38 _ _ rfl nb 0 #[.slice ra R.length rc5, .slice d5 T.length dc5] (by rfl) (by rfl) hRF.there (by kernel_rfl) (two_one ..) ?_
          refine hK.out _ _ (fun h => absurd rfl h) ?_
          clear hK K
          try simp only [Act.put]
          refine UpTo.done (by kernel_rfl) ⟨rfl, ?_⟩
          refine ⟨.agg #[.slice a l.length cap], .agg #[.slice (some ⟨bw, 0, none⟩) l.length l.length], .agg #[.slice rd roots.length rc, .slice ga sl.length gc], .agg #[.slice (some ⟨c1, 0, none⟩) roots.length roots.length, .slice (some ⟨c2, 0, none⟩) sl.length sl.length], .string name, .agg #[.slice ra R.length rc5, .slice d5 T.length dc5], nb, R, T, ra, rc5, d5, dc5, ?_, by omega, ?_, (box_sets hRF).1, (box_sets hRF).2, hD5, hO.1, hO.2, kept_sets (by omega) _ 0 KC5⟩
          · simp only [Act.put, List.setIfInBounds_toArray, List.set_cons_zero, List.set_cons_succ]
          · rw [size_setCells]; exact hRF.lt
      · go_simp
        refine hK.out _ _ (fun _ => HSO.out _ (KC3.trans ((Kept.refl _).alloc _))) ?_
        clear hK K
        try simp only [Act.put, List.setIfInBounds_toArray, List.set_cons_zero, List.set_cons_succ]
        have hRw : RowT (w3.alloc (.cells #[.slice none 0 0, .slice none 0 0] 38)) w3.heap.size 38 2 := RowT.made w3 _ _
        have KA : Kept w3 (w3.alloc (.cells #[.slice none 0 0, .slice none 0 0] 38)) := (Kept.refl _).alloc _
        have nz := KC3.size
        obtain ⟨nb, hnb⟩ : ∃ nb, nb = w3.heap.size := ⟨_, rfl⟩
        rw [← hnb] at hRw ⊢
        generalize hwe : w3.alloc (.cells #[.slice none 0 0, .slice none 0 0] 38) = wA at hRw KA ⊢
        clear hwe
        have KCA := KC3.trans KA
        have nl := hRw.lt
        have nz2 : w2.heap.size ≤ nb := by omega
        have HNB := hide hnb
        clear hnb nz
        refine UpTo.nx 3 (fun K hK => ?_)
        rw [if_pos (by rfl)]
        go_simp
        go_at_call 12
        refine (toStateX_any _ rd ga rc gc roots sl hr2 hsl2 hst2 (hR.kept (KW2.trans KCA)) (hG.kept (KW2.trans KCA))).mono ?_
        rintro e w4 ⟨c1, c2, rfl, hR4, hG4, k4, hc1, hc2⟩
        have KC4 := KCA.trans k4
        refine hK.out _ _ (fun _ => HSO.out _ KC4) ?_
        clear hK K
        try simp only [Act.put, List.setIfInBounds_toArray, List.set_cons_zero, List.set_cons_succ]
        refine UpTo.nx 5 (fun K hK => ?_)
        rw [if_pos (by rfl)]
        go_simp
        go_at_call 21
        refine (specDo_any _ (some ⟨bw, 0, none⟩) l.length l (some ⟨c1, 0, none⟩) roots.length roots (some ⟨c2, 0, none⟩) sl.length sl name hl2 hs hr2 hrs hsl2 hst2 (hN3.kept (KA.trans k4)).nodes (hG4.runs.kept (Kept.refl _)) (hR4.kept (Kept.refl _))).mono ?_
        rintro e w5 h5
        obtain ⟨R, T, ra, rc5, d5, dc5, rfl, hD5, hO5, k5⟩ := h5.out
        have KC5 := KC4.trans k5
        refine hK.out _ _ (fun _ => HSO.out _ KC5) ?_
        clear hK K h5
        try simp only [Act.put, List.setIfInBounds_toArray, List.set_cons_zero, List.set_cons_succ]
        have z4 := k4.size
        have hRF := hRw.kept (k4.trans k5)
        have hO := hO5 w5 nb [.slice ra R.length rc5, .slice d5 T.length dc5] (.inl (by omega)) (Kept.refl _)
        refine UpTo.nx 7 (fun K hK => ?_)
        rw [if_pos (by rfl)]
        refine wp_store_mid 38 _ _ rfl nb 0 #[.slice ra R.length rc5, .slice d5 T.length dc5] (by rfl) (by rfl) hRF.there (by kernel_rfl) (two_one ..) ?_
        refine hK.out _ _ (fun h => absurd rfl h) ?_
        clear hK K
        try simp only [Act.put]
        refine UpTo.done (by kernel_rfl) ⟨rfl, ?_⟩
        refine ⟨.agg #[.slice a l.length cap], .agg #[.slice (some ⟨bw, 0, none⟩) l.length l.length], .agg #[.slice rd roots.length rc, .slice ga sl.length gc], .agg #[.slice (some ⟨c1, 0, none⟩) roots.length roots.length, .slice (some ⟨c2, 0, none⟩) sl.length sl.length], .string name, .agg #[.slice ra R.length rc5, .slice d5 T.length dc5], nb, R, T, ra, rc5, d5, dc5, ?_, by omega, ?_, (box_sets hRF).1, (box_sets hRF).2, hD5, hO.1, hO.2, kept_sets (by omega) _ 0 KC5⟩
        · simp only [Act.put, List.setIfInBounds_toArray, List.set_cons_zero, List.set_cons_succ]
        · rw [size_setCells]; exact hRF.lt
    · go_simp
      refine hK.out _ _ (fun _ => HSO.out _ (KD.trans ((Kept.refl _).alloc _))) ?_
      clear hK K
      try simp only [Act.put, List.setIfInBounds_toArray, List.set_cons_zero, List.set_cons_succ]
      have hRw : RowT (wd.alloc (.cells #[.slice none 0 0, .slice none 0 0] 38)) wd.heap.size 38 2 := RowT.made wd _ _
      have KA : Kept wd (wd.alloc (.cells #[.slice none 0 0, .slice none 0 0] 38)) := (Kept.refl _).alloc _
      have nz := KD.size
      obtain ⟨nb, hnb⟩ : ∃ nb, nb = wd.heap.size := ⟨_, rfl⟩
      rw [← hnb] at hRw ⊢
      generalize hwe : wd.alloc (.cells #[.slice none 0 0, .slice none 0 0] 38) = wA at hRw KA ⊢
      clear hwe
      have KCA := KD.trans KA
      have nl := hRw.lt
      have nz2 : w2.heap.size ≤ nb := by omega
      have HNB := hide hnb
      clear hnb nz
      refine UpTo.nx 1 (fun K hK => ?_)
      rw [if_pos (by rfl)]
      go_simp
      go_at_call 11
      refine (toWeb_any _ a cap l hl2 hs2 (hN.kept (KW2.trans KCA))).mono ?_
      rintro e w3 ⟨bw, rfl, hN3, k3, hb1⟩
      have KC3 := KCA.trans k3
      refine hK.out _ _ (fun _ => HSO.out _ KC3) ?_
      clear hK K
      try simp only [Act.put, List.setIfInBounds_toArray, List.set_cons_zero, List.set_cons_succ]
      refine UpTo.nx 3 (fun K hK => ?_)
      rw [if_pos (by rfl)]
      go_simp
      go_at_call 12
      refine (toStateX_any _ rd ga rc gc roots sl hr2 hsl2 hst2 (hR.kept (KW2.trans KC3)) (hG.kept (KW2.trans KC3))).mono ?_
      rintro e w4 ⟨c1, c2, rfl, hR4, hG4, k4, hc1, hc2⟩
      have KC4 := KC3.trans k4
      refine hK.out _ _ (fun _ => HSO.out _ KC4) ?_
      clear hK K
      try simp only [Act.put, List.setIfInBounds_toArray, List.set_cons_zero, List.set_cons_succ]
      refine UpTo.nx 5 (fun K hK => ?_)
      rw [if_pos (by rfl)]
      go_simp
      go_at_call 21
      refine (specDo_any _ (some ⟨bw, 0, none⟩) l.length l (some ⟨c1, 0, none⟩) roots.length roots (some ⟨c2, 0, none⟩) sl.length sl name hl2 hs hr2 hrs hsl2 hst2 (hN3.kept k4).nodes (hG4.runs.kept (Kept.refl _)) (hR4.kept (Kept.refl _))).mono ?_
      rintro e w5 h5
      obtain ⟨R, T, ra, rc5, d5, dc5, rfl, hD5, hO5, k5⟩ := h5.out
      have KC5 := KC4.trans k5
      refine hK.out _ _ (fun _ => HSO.out _ KC5) ?_
      clear hK K h5
      try simp only [Act.put, List.setIfInBounds_toArray, List.set_cons_zero, List.set_cons_succ]
      have z3 := k3.size
      have z4 := k4.size
      have hRF := hRw.kept ((k3.trans k4).trans k5)
      have hO := hO5 w5 nb [.slice ra R.length rc5, .slice d5 T.length dc5] (.inl (by omega)) (Kept.refl _)
      refine UpTo.nx 7 (fun K hK => ?_)
      rw [if_pos (by rfl)]
      refine wp_store_mid 38 _ _ rfl nb 0 #[.slice ra R.length rc5, .slice d5 T.length dc5] (by rfl) (by rfl) hRF.there (by kernel_rfl) (two_one ..) ?_
      refine hK.out _ _ (fun h => absurd rfl h) ?_
      clear hK K
      try simp only [Act.put]
      refine UpTo.done (by kernel_rfl) ⟨rfl, ?_⟩
      refine ⟨.agg #[.slice a l.length cap], .agg #[.slice (some ⟨bw, 0, none⟩) l.length l.length], .agg #[.slice rd roots.length rc, .slice ga sl.length gc], .agg #[.slice (some ⟨c1, 0, none⟩) roots.length roots.length, .slice (some ⟨c2, 0, none⟩) sl.length sl.length], .string name, .agg #[.slice ra R.length rc5, .slice d5 T.length dc5], nb, R, T, ra, rc5, d5, dc5, ?_, by omega, ?_, (box_sets hRF).1, (box_sets hRF).2, hD5, hO.1, hO.2, kept_sets (by omega) _ 0 KC5⟩
      · simp only [Act.put, List.setIfInBounds_toArray, List.set_cons_zero, List.set_cons_succ]
      · rw [size_setCells]; exact hRF.lt
  rintro _ w5 ⟨v0, v1, v2, v3, v4, v5, p8, R, T, r8, rc8, d8, dc8, rfl, hp1, hp2, c80, c81, hD5, hS5, hT5, K3⟩
  try simp only [Act.put, List.setIfInBounds_toArray, List.set_cons_zero, List.set_cons_succ]
  have K5 := K2.trans K3
  have HP8 : Hid (∀ w', Kept w5 w' → w'.cell? ⟨p8, 0, none⟩ = some (.slice r8 R.length rc8) ∧ w'.cell? ⟨p8, 1, none⟩ = some (.slice d8 T.length dc8)) := fun w' kk => ⟨(kk.cell hp2).trans c80, (kk.cell hp2).trans c81⟩
  have HT := hide hS5
  have HU := hide hT5
  have HD5 := hide hD5
  clear K3 HSO K2 b0 b1 b2 hS5 hT5 hD5 hnn c80 c81 KW2
  obtain ⟨b0, b1, b2⟩ := HBox.out _ K5
  go_wp2_with fail
  refine (toWeb_in _ a cap l hl2 hs2 (hN.kept (k0.trans K5))).mono ?_
  rintro e w6 ⟨bx, rfl, hNx, k6⟩
  obtain ⟨W6, hW6⟩ : ∃ W6, W6 = w6.alloc (.cells #[.slice (some ⟨bx, 0, none⟩) l.length l.length] 34) := ⟨_, rfl⟩
  have kA : Kept w6 W6 := by rw [hW6]; exact (Kept.refl _).alloc _
  have z6 : W6.heap.size = w6.heap.size + 1 := by rw [hW6]; simp
  have K56 : Kept w5 W6 := k6.trans kA
  have HNx := hide hNx
  have hz6 := k6.size
  have hz5 := K5.size
  clear b0 b1 b2 hNx
  obtain ⟨b0, b1, b2⟩ := HBox.out _ (K5.trans K56)
  rw [hW6] at b0 b1 b2
  go_wp2_with fail
  rw [← hW6]
  rw [← hW6] at b0 b1 b2
  refine (toStateX_in _ rd ga rc gc roots sl hr2 hsl2 hst2 (hR.kept (k0.trans (K5.trans K56))) (hG.kept (k0.trans (K5.trans K56)))).mono ?_
  rintro e w7 ⟨bu, bv, mid, rfl, hRx, hGx, hm1, hm2, k7⟩
  obtain ⟨W7, hW7⟩ : ∃ W7, W7 = w7.alloc (.cells #[.slice (some ⟨bu, 0, none⟩) roots.length roots.length, .slice (some ⟨bv, 0, none⟩) sl.length sl.length] 38) := ⟨_, rfl⟩
  have kB : Kept w7 W7 := by rw [hW7]; exact (Kept.refl _).alloc _
  have z7 : W7.heap.size = w7.heap.size + 1 := by rw [hW7]; simp
  have hz7 := k7.size
  have K57 : Kept w5 W7 := (K56.trans k7).trans kB
  have HX : Hid (∀ w', Kept W7 w' → (fun w' => w'.cell? ⟨w6.heap.size, 0, none⟩ = some (.slice (some ⟨bx, 0, none⟩) l.length l.length) ∧ w'.cell? ⟨w7.heap.size, 0, none⟩ = some (.slice (some ⟨bu, 0, none⟩) roots.length roots.length) ∧ w'.cell? ⟨w7.heap.size, 1, none⟩ = some (.slice (some ⟨bv, 0, none⟩) sl.length sl.length) ∧ (w'.cell? ⟨w.heap.size, 0, none⟩ = some (.slice a l.length cap) ∧ w'.cell? ⟨w.heap.size + 1, 0, none⟩ = some (.slice rd roots.length rc) ∧ w'.cell? ⟨w.heap.size + 1, 1, none⟩ = some (.slice ga sl.length gc))) w') := fun w' kk => by
    have q0 := (box1 (w := w6) (w1 := w') (Kept.trans (by rw [← hW6]; exact k7.trans kB) kk)).1
    have q1 := box2 (w := w7) (v0 := .slice (some ⟨bu, 0, none⟩) roots.length roots.length) (v1 := .slice (some ⟨bv, 0, none⟩) sl.length sl.length) (t := 38) (w1 := w') (Kept.trans (by rw [hW7]; exact Kept.refl _) kk)
    exact ⟨q0, q1.1, q1.2, HBox.out _ ((K5.trans K57).trans kk)⟩
  have HN7 := hide (HNx.out.same ((kA.trans (k7.trans kB)).same _ _))
  have HR7 := hide (hRx.same (kB.same _ _))
  have HG7 := hide (hGx.same (kB.same _ _))
  clear b0 b1 b2 hRx hGx HNx kA
  have hne : ¬ w6.heap.size = w7.heap.size := by omega
  have hw67 : w6.heap.size < w7.heap.size := by omega
  have q6 := (HX.out W7 (Kept.refl _)).1
  go_upto_region 13 with fail
  rw [← hW7]
  clear hW7 hW6 k7 kB k6
  obtain ⟨x0, x1, x2, b0, b1, b2⟩ := HX.out W7 (Kept.refl _)
  go_wp2_with fail
  refine (implDo_any W7 (some ⟨bx, 0, none⟩) l.length l (some ⟨bu, 0, none⟩) roots.length roots (some ⟨bv, 0, none⟩) sl.length sl name hl2 hs hrl hr2 (Nat.le_refl _) hrs hsl2 hst2 HN7.out.nodes HR7.out.strs HG7.out.runs (hFi.kept (k0.trans (K5.trans K57)))).mono ?_
  rintro e w8 h8
  obtain ⟨U, V, gr, grc, gd, gdc, mid8, rfl, hD8, hI8, hJ8, n1, n2, k8⟩ := h8.ins
  obtain ⟨rfl, rfl⟩ := HD5.out.one hD8
  obtain ⟨hUl, hVl, hVf, hVc⟩ := hD8.small hs
  obtain ⟨W8, hW8⟩ : ∃ W8, W8 = w8.alloc (.cells #[.slice gr U.length grc, .slice gd V.length gdc] 38) := ⟨_, rfl⟩
  have kC : Kept w8 W8 := by rw [hW8]; exact (Kept.refl _).alloc _
  have z8' : W8.heap.size = w8.heap.size + 1 := by rw [hW8]; simp
  have z8 := k8.size
  have HGB : Hid (∀ w', Kept W8 w' → w'.cell? ⟨w8.heap.size, 0, none⟩ = some (.slice gr U.length grc) ∧ w'.cell? ⟨w8.heap.size, 1, none⟩ = some (.slice gd V.length gdc)) := fun w' kk => box2 (w := w8) (v0 := .slice gr U.length grc) (v1 := .slice gd V.length gdc) (t := 38) (w1 := w') (Kept.trans (by rw [hW8]; exact Kept.refl _) kk)
  have HI8 := hide (hI8.same (kC.same _ _))
  have HJ8 := hide (hJ8.same (kC.same _ _))
  have K78 := k8.trans kC
  clear hI8 hJ8 hD8 h8 x0 x1 x2 b0 b1 b2 q6
  have hml : U.length ≤ maxLen := by unfold maxLen; omega
  have hmv : V.length ≤ maxLen := by unfold maxLen; omega
  have HVf := hide hVf
  clear hVf
  go_upto_region 14 with fail
  rw [← hW8]
  clear hW8 kC k8
  obtain ⟨g0, g1⟩ := HGB.out W8 (Kept.refl _)
  obtain ⟨p0, p1⟩ := HP8.out W8 (K57.trans K78)
  go_wp2_with fail
  refine (eqStateX_yes _ gr r8 gd d8 grc rc8 gdc dc8 U V hml hmv HVf.out HI8.out.strs (HT.out.kept (K57.trans K78)) HJ8.out.runs (HU.out.kept (K57.trans K78))).mono ?_
  rintro e w9 ⟨rfl, k9⟩
  have K79 := K78.trans k9
  have HX9 : Hid (∀ w', Kept w9 w' → (fun w' => w'.cell? ⟨w6.heap.size, 0, none⟩ = some (.slice (some ⟨bx, 0, none⟩) l.length l.length) ∧ w'.cell? ⟨w7.heap.size, 0, none⟩ = some (.slice (some ⟨bu, 0, none⟩) roots.length roots.length) ∧ w'.cell? ⟨w7.heap.size, 1, none⟩ = some (.slice (some ⟨bv, 0, none⟩) sl.length sl.length) ∧ (w'.cell? ⟨w.heap.size, 0, none⟩ = some (.slice a l.length cap) ∧ w'.cell? ⟨w.heap.size + 1, 0, none⟩ = some (.slice rd roots.length rc) ∧ w'.cell? ⟨w.heap.size + 1, 1, none⟩ = some (.slice ga sl.length gc))) w') := fun w' kk => HX.out w' (K79.trans kk)
  have KW9 := k0.trans ((K5.trans K57).trans K79)
  have HN9 := hide (HN7.out.same (K79.same _ _))
  have HR9 := hide (HR7.out.same (K79.same _ _))
  have HG9 := hide (HG7.out.same (K79.same _ _))
  have HI9 := hide (HI8.out.same (k9.same _ _))
  have HJ9 := hide (HJ8.out.same (k9.same _ _))
  obtain ⟨x0, x1, x2, b0, b1, b2⟩ := HX9.out w9 (Kept.refl _)
  clear HN7 HR7 HG7 HI8 HJ8 g0 g1 p0 p1
  go_upto_region 16 with fail
  refine UpTo.region (by kernel_rfl) (fun w' => w'.cell? ⟨w6.heap.size, 0, none⟩ = some (.slice (some ⟨bx, 0, none⟩) l.length l.length) ∧ w'.cell? ⟨w7.heap.size, 0, none⟩ = some (.slice (some ⟨bu, 0, none⟩) roots.length roots.length) ∧ w'.cell? ⟨w7.heap.size, 1, none⟩ = some (.slice (some ⟨bv, 0, none⟩) sl.length sl.length) ∧ (w'.cell? ⟨w.heap.size, 0, none⟩ = some (.slice a l.length cap) ∧ w'.cell? ⟨w.heap.size + 1, 0, none⟩ = some (.slice rd roots.length rc) ∧ w'.cell? ⟨w.heap.size + 1, 1, none⟩ = some (.slice ga sl.length gc))) 4 (HX9.out _ ((Kept.refl w9).drew)) (fun hHeld => ?_)
  have KD : Kept w9 w9.drew := (Kept.refl w9).drew
  generalize hwd : w9.drew = wd at hHeld KD ⊢
  clear hwd
  refine UpTo.tk 0 [3, 4] ?_ hHeld ?_ ?_
  rotate_left
  · intro u hu; (try dsimp only at hu); go_simp; (try with_reducible rfl)
  try simp only [Act.put, List.setIfInBounds_toArray, List.set_cons_zero, List.set_cons_succ]
  refine UpTo.tk 1 [2, 3, 4] ?_ hHeld ?_ ?_
  rotate_left
  · intro u hu; (try dsimp only at hu); go_simp; (try with_reducible rfl)
  try simp only [Act.put, List.setIfInBounds_toArray, List.set_cons_zero, List.set_cons_succ]
  refine UpTo.nx 2 (fun K hK => ?_)
  rw [if_pos (by rfl)]
  go_simp
  go_at_call 11
  refine (toWeb_any _ a cap l hl2 hs2 (hN.kept (KW9.trans KD))).mono ?_
  rintro e wq ⟨bq, rfl, hNq, kq, hbq⟩
  refine hK.out _ _ (fun _ => HX9.out _ (KD.trans kq)) ?_
  clear hK K
  try simp only [Act.put, List.setIfInBounds_toArray, List.set_cons_zero, List.set_cons_succ]
  refine UpTo.nx 3 (fun K hK => ?_)
  rw [if_pos (by rfl)]
  go_simp
  go_at_call 15
  refine (eqWeb_yes _ (some ⟨bx, 0, none⟩) (some ⟨bq, 0, none⟩) l.length l.length l hl hs (HN9.out.same ((KD.trans kq).same _ _)).nodes hNq.nodes).mono ?_
  rintro e w10 ⟨rfl, k10⟩
  refine hK.out _ _ (fun _ => HX9.out _ ((KD.trans kq).trans k10)) ?_
  clear hK K
  try simp only [Act.put, List.setIfInBounds_toArray, List.set_cons_zero, List.set_cons_succ]
  refine UpTo.nx 4 (fun K hK => ?_)
  go_simp
  refine hK.out _ _ (fun h => absurd rfl h) ?_
  clear hK K
  try simp only [Act.put, List.setIfInBounds_toArray, List.set_cons_zero, List.set_cons_succ]
  refine UpTo.done (by kernel_rfl) ?_
  have K9b := (KD.trans kq).trans k10
  have K7b := K79.trans K9b
  clear KD kq k10 x0 x1 x2 b0 b1 b2 hNq hbq
  have HX10 : Hid (∀ w', Kept w10 w' → (fun w' => w'.cell? ⟨w6.heap.size, 0, none⟩ = some (.slice (some ⟨bx, 0, none⟩) l.length l.length) ∧ w'.cell? ⟨w7.heap.size, 0, none⟩ = some (.slice (some ⟨bu, 0, none⟩) roots.length roots.length) ∧ w'.cell? ⟨w7.heap.size, 1, none⟩ = some (.slice (some ⟨bv, 0, none⟩) sl.length sl.length) ∧ (w'.cell? ⟨w.heap.size, 0, none⟩ = some (.slice a l.length cap) ∧ w'.cell? ⟨w.heap.size + 1, 0, none⟩ = some (.slice rd roots.length rc) ∧ w'.cell? ⟨w.heap.size + 1, 1, none⟩ = some (.slice ga sl.length gc))) w') := fun w' kk => HX.out w' (K7b.trans kk)
  obtain ⟨x0, x1, x2, b0, b1, b2⟩ := HX10.out w10 (Kept.refl _)
  go_upto_region 18 with fail
  refine UpTo.region (by kernel_rfl) (fun w' => w'.cell? ⟨w6.heap.size, 0, none⟩ = some (.slice (some ⟨bx, 0, none⟩) l.length l.length) ∧ w'.cell? ⟨w7.heap.size, 0, none⟩ = some (.slice (some ⟨bu, 0, none⟩) roots.length roots.length) ∧ w'.cell? ⟨w7.heap.size, 1, none⟩ = some (.slice (some ⟨bv, 0, none⟩) sl.length sl.length) ∧ (w'.cell? ⟨w.heap.size, 0, none⟩ = some (.slice a l.length cap) ∧ w'.cell? ⟨w.heap.size + 1, 0, none⟩ = some (.slice rd roots.length rc) ∧ w'.cell? ⟨w.heap.size + 1, 1, none⟩ = some (.slice ga sl.length gc))) 4 (HX10.out _ ((Kept.refl w10).drew)) (fun hHeld => ?_)
  have KD : Kept w10 w10.drew := (Kept.refl w10).drew
  generalize hwd : w10.drew = wd at hHeld KD ⊢
  clear hwd
  refine UpTo.tk 0 [3, 4] ?_ hHeld ?_ ?_
  rotate_left
  · intro u hu; (try dsimp only at hu); go_simp; (try with_reducible rfl)
  try simp only [Act.put, List.setIfInBounds_toArray, List.set_cons_zero, List.set_cons_succ]
  refine UpTo.tk 1 [2, 3, 4] ?_ hHeld ?_ ?_
  rotate_left
  · intro u hu; (try dsimp only at hu); go_simp; (try with_reducible rfl)
  try simp only [Act.put, List.setIfInBounds_toArray, List.set_cons_zero, List.set_cons_succ]
  refine UpTo.nx 2 (fun K hK => ?_)
  rw [if_pos (by rfl)]
  go_simp
  go_at_call 12
  refine (toStateX_any _ rd ga rc gc roots sl hr2 hsl2 hst2 (hR.kept ((KW9.trans K9b).trans KD)) (hG.kept ((KW9.trans K9b).trans KD))).mono ?_
  rintro e w11 ⟨d1, d2, rfl, hR11, hG11, k11, hd1, hd2⟩
  refine hK.out _ _ (fun _ => HX10.out _ (KD.trans k11)) ?_
  clear hK K
  try simp only [Act.put, List.setIfInBounds_toArray, List.set_cons_zero, List.set_cons_succ]
  refine UpTo.nx 3 (fun K hK => ?_)
  rw [if_pos (by rfl)]
  go_simp
  go_at_call 16
  refine (eqStateX_yes _ (some ⟨bu, 0, none⟩) (some ⟨d1, 0, none⟩) (some ⟨bv, 0, none⟩) (some ⟨d2, 0, none⟩) roots.length roots.length sl.length sl.length roots sl hrl hsl hsf (HR9.out.same (((K9b.trans KD).trans k11).same _ _)).strs hR11 (HG9.out.same (((K9b.trans KD).trans k11).same _ _)).runs hG11.runs).mono ?_
  rintro e w12 ⟨rfl, k12⟩
  refine hK.out _ _ (fun _ => HX10.out _ ((KD.trans k11).trans k12)) ?_
  clear hK K
  try simp only [Act.put, List.setIfInBounds_toArray, List.set_cons_zero, List.set_cons_succ]
  refine UpTo.nx 4 (fun K hK => ?_)
  go_simp
  refine hK.out _ _ (fun h => absurd rfl h) ?_
  clear hK K
  try simp only [Act.put, List.setIfInBounds_toArray, List.set_cons_zero, List.set_cons_succ]
  refine UpTo.done (by kernel_rfl) ?_
  have K9c : Kept w9 w12 := ((K9b.trans KD).trans k11).trans k12
  have K7c := K79.trans K9c
  clear KD k11 k12 x0 x1 x2 b0 b1 b2 hR11 hG11 hd1 hd2 K9b K7b HX10
  obtain ⟨x0, x1, x2, b0, b1, b2⟩ := HX.out w12 K7c
  have HN12 := hide (HN9.out.same (K9c.same _ _))
  have HR12 := hide (HR9.out.same (K9c.same _ _))
  have HG12 := hide (HG9.out.same (K9c.same _ _))
  have HI12 := hide (HI9.out.same (K9c.same _ _))
  have HJ12 := hide (HJ9.out.same (K9c.same _ _))
  have K8c : Kept W8 w12 := k9.trans K9c
  have z8c := K8c.size
  have G12 := HGB.out w12 K8c
  have z12 := K7c.size
  have K512 := K57.trans K7c
  have hcn := HCn.out
  have HG12b := hide G12
  clear HN9 HR9 HG9 HI9 HJ9 HX9 K9c G12
  go_wp2_with fail
  refine (markWeb_any _ w5.heap.size w6.heap.size (some ⟨bx, 0, none⟩) l.length l 1 (by omega) (by omega) HN12.out).mono ?_
  rintro e w13 ⟨rfl, _, kb13⟩
  have K513 : Kept w5 w13 := kb13.kept K512 (Nat.le_refl _)
  have z13 := kb13.size
  have y1 : w13.cell? ⟨w7.heap.size, 0, none⟩ = some (.slice (some ⟨bu, 0, none⟩) roots.length roots.length) := (World.cell?_of_block (w := w12) (kb13.block _ (by show w7.heap.size < _; omega) (.inr (by show w6.heap.size ≤ w7.heap.size; omega)))).trans x1
  have y2 : w13.cell? ⟨w7.heap.size, 1, none⟩ = some (.slice (some ⟨bv, 0, none⟩) sl.length sl.length) := (World.cell?_of_block (w := w12) (kb13.block _ (by show w7.heap.size < _; omega) (.inr (by show w6.heap.size ≤ w7.heap.size; omega)))).trans x2
  have HGc13 : Hid (∀ o, w13.cell? ⟨w8.heap.size, o, none⟩ = w12.cell? ⟨w8.heap.size, o, none⟩) := fun o => World.cell?_of_block (w := w12) (kb13.block _ (by show w8.heap.size < _; omega) (.inr (by show w6.heap.size ≤ w8.heap.size; omega)))
  have HR13 := hide (HR12.out.same (kb13.same (l2 := W6.heap.size) (h2 := mid) (by omega)))
  have HG13 := hide (HG12.out.same (kb13.same (l2 := mid) (h2 := w7.heap.size) (by omega)))
  have HI13 := hide (HI12.out.same (kb13.same (l2 := W7.heap.size) (h2 := mid8) (by omega)))
  have HJ13 := hide (HJ12.out.same (kb13.same (l2 := mid8) (h2 := w8.heap.size) (by omega)))
  obtain ⟨kn, hkn⟩ : ∃ kn, kn = 1 + (l.map cntNode).sum := ⟨_, rfl⟩
  rw [← hkn]
  have hkn0 : 0 < kn := by omega
  have hkn1 : kn + roots.length + (sl.map cntRun).sum ≤ 33554432 := by omega
  clear hkn x0 x1 x2 b0 b1 b2 kb13 HN12 HR12 HG12 HI12 HJ12
  go_wp2_with fail
  refine (markStateX_any _ W6.heap.size mid w7.heap.size (some ⟨bu, 0, none⟩) (some ⟨bv, 0, none⟩) roots.length sl.length roots sl kn hkn0 (by omega) hm1 hm2 (by omega) HR13.out HG13.out).mono ?_
  rintro e w14 ⟨rfl, _, _, kb14⟩
  have K514 : Kept w5 w14 := kb14.kept K513 (by have := K56.size; omega)
  have z14 := kb14.size
  have HGc14 : Hid (∀ o, w14.cell? ⟨w8.heap.size, o, none⟩ = w12.cell? ⟨w8.heap.size, o, none⟩) := fun o => (World.cell?_of_block (w := w13) (kb14.block _ (by show w8.heap.size < _; omega) (.inr (by show w7.heap.size ≤ w8.heap.size; omega)))).trans (HGc13.out o)
  have HI14 := hide (HI13.out.same (kb14.same (l2 := W7.heap.size) (h2 := mid8) (by omega)))
  have HJ14 := hide (HJ13.out.same (kb14.same (l2 := mid8) (h2 := w8.heap.size) (by omega)))
  obtain ⟨km, hkm⟩ : ∃ km, km = kn + roots.length + (sl.map cntRun).sum := ⟨_, rfl⟩
  rw [← hkm]
  have hkm0 : ¬ ((km : Int) < 0) := by omega
  have g0 := (HGc14.out 0).trans HG12b.out.1
  have g1 := (HGc14.out 1).trans HG12b.out.2
  obtain ⟨p0, p1⟩ := HP8.out w14 K514
  clear hkm y1 y2 kb14 HR13 HG13 HI13 HJ13 hkn0 hkn1 hcn HCn HGc13 HGc14 HG12b
  go_wp2_with fail
  refine (eqStateX_yes _ gr r8 gd d8 grc rc8 gdc dc8 U V hml hmv HVf.out HI14.out.strs (HT.out.kept K514) HJ14.out.runs (HU.out.kept K514)).mono ?_
  rintro e w15 ⟨rfl, k15⟩
  have K515 := K514.trans k15
  have HI15 := hide (HI14.out.same (k15.same _ _))
  have HJ15 := hide (HJ14.out.same (k15.same _ _))
  have z15 := k15.size
  have gl : w8.heap.size < w14.heap.size := by omega
  have h0 := (k15.cell gl).trans g0
  have h1 := (k15.cell gl).trans g1
  clear HI14 HJ14 k15 g0 g1 p0 p1
  go_wp2_with fail
  refine (markStateX_any _ W7.heap.size mid8 w8.heap.size gr gd grc gdc U V 1 (by omega) (by omega) n1 n2 (by omega) HI15.out HJ15.out).mono ?_
  rintro e w16 ⟨rfl, hI16, hJ16, kb16⟩
  have K516 : Kept w5 w16 := kb16.kept K515 (by have := K57.size; omega)
  have z16 := kb16.size
  have i0 : w16.cell? ⟨w8.heap.size, 0, none⟩ = some (.slice gr U.length grc) := (World.cell?_of_block (w := w15) (kb16.block _ (by show w8.heap.size < _; omega) (.inr (Nat.le_refl _)))).trans h0
  have i1 : w16.cell? ⟨w8.heap.size, 1, none⟩ = some (.slice gd V.length gdc) := (World.cell?_of_block (w := w15) (kb16.block _ (by show w8.heap.size < _; omega) (.inr (Nat.le_refl _)))).trans h1
  have gl16 : w8.heap.size < w16.heap.size := by omega
  obtain ⟨M, hM⟩ : ∃ M, M = 1 + U.length + (V.map cntRun).sum := ⟨_, rfl⟩
  rw [← hM]
  have hMM : ((M : Int) != (M : Int)) = false := by simp
  have hM0 : ¬ ((M : Int) < 0) := by omega
  have HI16 := hide hI16
  have HJ16 := hide hJ16
  have HM := hide hM
  clear hM hI16 hJ16 kb16 HI15 HJ15 h0 h1
  go_wp2_with fail
  refine (heldStateX_yes _ gr gd grc gdc U V 1 (by omega) (by omega) HI16.out.strs HJ16.out.runs).mono ?_
  rintro e w17 ⟨rfl, k17⟩
  rw [← HM.out]
  have K517 := K516.trans k17
  have HI17 := hide (HI16.out.same (k17.same _ _))
  have HJ17 := hide (HJ16.out.same (k17.same _ _))
  have KW17 := k0.trans (K5.trans K517)
  have gl17 : w8.heap.size < w17.heap.size := by have := k17.size; omega
  have HGB17 : Hid (∀ w', Kept w17 w' → w'.cell? ⟨w8.heap.size, 0, none⟩ = some (.slice gr U.length grc) ∧ w'.cell? ⟨w8.heap.size, 1, none⟩ = some (.slice gd V.length gdc)) := fun w' kk => ⟨((k17.trans kk).cell gl16).trans i0, ((k17.trans kk).cell gl16).trans i1⟩
  have HSO17 : Hid (∀ w', Kept w17 w' → (fun w' => w'.cell? ⟨w.heap.size, 0, none⟩ = some (.slice a l.length cap) ∧ w'.cell? ⟨w.heap.size + 1, 0, none⟩ = some (.slice rd roots.length rc) ∧ w'.cell? ⟨w.heap.size + 1, 1, none⟩ = some (.slice ga sl.length gc)) w') := fun w' kk => HBox.out w' ((K5.trans K517).trans kk)
  obtain ⟨b0, b1, b2⟩ := HSO17.out w17 (Kept.refl _)
  clear k17 HI16 HJ16 i0 i1 gl16
  go_upto_region 33 with fail
  refine region_cut (DoJ w17 l roots sl name 82 83 84 85 86 87 15) ?_ ?_
  · refine UpTo.region (by kernel_rfl) (fun w' => w'.cell? ⟨w.heap.size, 0, none⟩ = some (.slice a l.length cap) ∧ w'.cell? ⟨w.heap.size + 1, 0, none⟩ = some (.slice rd roots.length rc) ∧ w'.cell? ⟨w.heap.size + 1, 1, none⟩ = some (.slice ga sl.length gc)) 7 (HSO17.out _ ((Kept.refl w17).drew)) (fun hHeld => ?_)
    have KD : Kept w17 w17.drew := (Kept.refl w17).drew
    generalize hwd : w17.drew = wd at hHeld KD ⊢
    clear hwd
    refine UpTo.take 0 [1, 3, 5, 7] (v := ?_) (by (simp only [List.getElem?_toArray, List.getElem?_cons_zero]; rfl)) (by kernel_rfl) (by kernel_rfl) (by kernel_rfl) (by kernel_rfl) (by exact fun _ _ _ h => nomatch h.1) (Or.inl ⟨by rfl, ?_⟩) hHeld ?_
    rotate_left
    · intro u hu; (try dsimp only at hu); go_simp; (try with_reducible rfl)
    try simp only [Act.put, List.setIfInBounds_toArray, List.set_cons_zero, List.set_cons_succ]
    refine UpTo.take 2 [3, 5, 7] (v := ?_) (by (simp only [List.getElem?_toArray, List.getElem?_cons_succ, List.getElem?_cons_zero]; rfl)) (by kernel_rfl) (by kernel_rfl) (by kernel_rfl) (by kernel_rfl) (by exact fun _ _ _ h => nomatch h.1) (Or.inl ⟨by rfl, ?_⟩) hHeld ?_
    rotate_left
    · intro u hu; (try dsimp only at hu); go_simp; (try with_reducible rfl)
    try simp only [Act.put, List.setIfInBounds_toArray, List.set_cons_zero, List.set_cons_succ]
    refine UpTo.take 4 [5, 7] (v := ?_) (by (simp only [List.getElem?_toArray, List.getElem?_cons_succ, List.getElem?_cons_zero]; rfl)) (by kernel_rfl) (by kernel_rfl) (by kernel_rfl) (by kernel_rfl) (by exact fun _ _ _ h => nomatch h.1) (Or.inl ⟨by rfl, ?_⟩) hHeld ?_
    rotate_left
    · intro u hu; (try dsimp only at hu); go_simp; (try with_reducible rfl)
    try simp only [Act.put, List.setIfInBounds_toArray, List.set_cons_zero, List.set_cons_succ]
    refine UpTo.two 1 6 (by kernel_rfl) (by (simp only [List.getElem?_toArray, List.getElem?_cons_succ, List.getElem?_cons_zero]; rfl)) (by (simp only [List.getElem?_toArray, List.getElem?_cons_succ, List.getElem?_cons_zero]; rfl)) (fun K hK => ?_) (fun K hK => ?_)
    · rw [if_pos (by rfl)]
      go_simp
      go_at_call 11
      refine (toWeb_any _ a cap l hl2 hs2 (hN.kept (KW17.trans KD))).mono ?_
      rintro e w3 ⟨bw, rfl, hN3, k3, hb1⟩
      have KC3 := KD.trans k3
      refine hK.out _ _ (fun _ => HSO17.out _ KC3) ?_
      clear hK K
      try simp only [Act.put, List.setIfInBounds_toArray, List.set_cons_zero, List.set_cons_succ]
      refine UpTo.two 3 6 (by kernel_rfl) (by (simp only [List.getElem?_toArray, List.getElem?_cons_succ, List.getElem?_cons_zero]; rfl)) (by (simp only [List.getElem?_toArray, List.getElem?_cons_succ, List.getElem?_cons_zero]; rfl)) (fun K hK => ?_) (fun K hK => ?_)
      · rw [if_pos (by rfl)]
        go_simp
        go_at_call 12
        refine (toStateX_any _ rd ga rc gc roots sl hr2 hsl2 hst2 (hR.kept (KW17.trans KC3)) (hG.kept (KW17.trans KC3))).mono ?_
        rintro e w4 ⟨c1, c2, rfl, hR4, hG4, k4, hc1, hc2⟩
        have KC4 := KC3.trans k4
        refine hK.out _ _ (fun _ => HSO17.out _ KC4) ?_
        clear hK K
        try simp only [Act.put, List.setIfInBounds_toArray, List.set_cons_zero, List.set_cons_succ]
        refine UpTo.two 5 6 (by kernel_rfl) (by (simp only [List.getElem?_toArray, List.getElem?_cons_succ, List.getElem?_cons_zero]; rfl)) (by (simp only [List.getElem?_toArray, List.getElem?_cons_succ, List.getElem?_cons_zero]; rfl)) (fun K hK => ?_) (fun K hK => ?_)
        · rw [if_pos (by rfl)]
          go_simp
          go_at_call 22
          refine (implDo_any _ (some ⟨bw, 0, none⟩) l.length l (some ⟨c1, 0, none⟩) roots.length roots (some ⟨c2, 0, none⟩) sl.length sl name hl2 hs hrl hr2 (Nat.le_refl _) hrs hsl2 hst2 (hN3.kept k4).nodes (hR4.kept (Kept.refl _)) (hG4.runs.kept (Kept.refl _)) (hFi.kept (KW17.trans KC4))).mono ?_
          rintro e w5 h5
          obtain ⟨R, T, ra, rc5, d5, dc5, rfl, hD5, hO5, k5⟩ := h5.out
          have KC5 := KC4.trans k5
          refine hK.out _ _ (fun _ => HSO17.out _ KC5) ?_
          clear hK K h5
          try simp only [Act.put, List.setIfInBounds_toArray, List.set_cons_zero, List.set_cons_succ]
          refine UpTo.nx 6 (fun K hK => ?_)
          go_simp
          refine hK.out _ _ (fun _ => HSO17.out _ (KC5.trans ((Kept.refl _).alloc _))) ?_
          clear hK K
          try simp only [Act.put, List.setIfInBounds_toArray, List.set_cons_zero, List.set_cons_succ]
          have hRw : RowT (w5.alloc (.cells #[.slice none 0 0, .slice none 0 0] 38)) w5.heap.size 38 2 := RowT.made w5 _ _
          have KA : Kept w5 (w5.alloc (.cells #[.slice none 0 0, .slice none 0 0] 38)) := (Kept.refl _).alloc _
          have nz := KC5.size
          obtain ⟨nb, hnb⟩ : ∃ nb, nb = w5.heap.size := ⟨_, rfl⟩
          rw [← hnb] at hRw ⊢
          generalize hwe : w5.alloc (.cells #[.slice none 0 0, .slice none 0 0] 38) = wA at hRw KA ⊢
          clear hwe
          have KCA := KC5.trans KA
          have nl := hRw.lt
          have nz2 : w17.heap.size ≤ nb := by omega
          have HNB := hide hnb
          clear hnb nz
          have hRF := hRw
          have hO := hO5 wA nb [.slice ra R.length rc5, .slice d5 T.length dc5] (.inr (by have := HNB.out; omega)) KA
          refine UpTo.nx 7 (fun K hK => ?_)
          rw [if_pos (by rfl)]
          refine wp_store_mid 38 _ _ rfl nb 0 #[.slice ra R.length rc5, .slice d5 T.length dc5] (by rfl) (by rfl) hRF.there (by kernel_rfl) (two_one ..) ?_
          refine hK.out _ _ (fun h => absurd rfl h) ?_
          clear hK K
          try simp only [Act.put]
          refine UpTo.done (by kernel_rfl) ⟨rfl, ?_⟩
          refine ⟨.agg #[.slice a l.length cap], .agg #[.slice (some ⟨bw, 0, none⟩) l.length l.length], .agg #[.slice rd roots.length rc, .slice ga sl.length gc], .agg #[.slice (some ⟨c1, 0, none⟩) roots.length roots.length, .slice (some ⟨c2, 0, none⟩) sl.length sl.length], .string name, .agg #[.slice ra R.length rc5, .slice d5 T.length dc5], nb, R, T, ra, rc5, d5, dc5, ?_, by omega, ?_, (box_sets hRF).1, (box_sets hRF).2, hD5, hO.1, hO.2, kept_sets (by omega) _ 0 KCA⟩
          · simp only [Act.put, List.setIfInBounds_toArray, List.set_cons_zero, List.set_cons_succ]
          · rw [size_setCells]; exact hRF.lt
        · go_simp
          refine hK.out _ _ (fun _ => HSO17.out _ (KC4.trans ((Kept.refl _).alloc _))) ?_
          clear hK K
          try simp only [Act.put, List.setIfInBounds_toArray, List.set_cons_zero, List.set_cons_succ]
          have hRw : RowT (w4.alloc (.cells #[.slice none 0 0, .slice none 0 0] 38)) w4.heap.size 38 2 := RowT.made w4 _ _
          have KA : Kept w4 (w4.alloc (.cells #[.slice none 0 0, .slice none 0 0] 38)) := (Kept.refl _).alloc _
          have nz := KC4.size
          obtain ⟨nb, hnb⟩ : ∃ nb, nb = w4.heap.size := ⟨_, rfl⟩
          rw [← hnb] at hRw ⊢
          generalize hwe : w4.alloc (.cells #[.slice none 0 0, .slice none 0 0] 38) = wA at hRw KA ⊢
          clear hwe
          have KCA := KC4.trans KA
          have nl := hRw.lt
          have nz2 : w17.heap.size ≤ nb := by omega
          have HNB := hide hnb
          clear hnb nz
          refine UpTo.nx 5 (fun K hK => ?_)
          rw [if_pos (by rfl)]
          go_simp
          go_at_call 22
          refine (implDo_any _ (some ⟨bw, 0, none⟩) l.length l (some ⟨c1, 0, none⟩) roots.length roots (some ⟨c2, 0, none⟩) sl.length sl name hl2 hs hrl hr2 (Nat.le_refl _) hrs hsl2 hst2 (hN3.kept (k4.trans KA)).nodes (hR4.kept KA) (hG4.runs.kept KA) (hFi.kept (KW17.trans KCA))).mono ?_
          rintro e w5 h5
          obtain ⟨R, T, ra, rc5, d5, dc5, rfl, hD5, hO5, k5⟩ := h5.out
          have KC5 := KCA.trans k5
          refine hK.out _ _ (fun _ => HSO17.out _ KC5) ?_
          clear hK K h5
          try simp only [Act.put, List.setIfInBounds_toArray, List.set_cons_zero, List.set_cons_succ]
          have hRF := hRw.kept k5
          have hO := hO5 w5 nb [.slice ra R.length rc5, .slice d5 T.length dc5] (.inl (by omega)) (Kept.refl _)
          refine UpTo.nx 7 (fun K hK => ?_)
          rw [if_pos (by rfl)]
          refine wp_store_mid 38 _ _ rfl nb 0 #[.slice ra R.length rc5, .slice d5 T.length dc5] (by rfl) (by rfl) hRF.there (by kernel_rfl) (two_one ..) ?_
          refine hK.out _ _ (fun h => absurd rfl h) ?_
          clear hK K
          try simp only [Act.put]
          refine UpTo.done (by kernel_rfl) ⟨rfl, ?_⟩
          refine ⟨.agg #[.slice a l.length cap], .agg #[.slice (some ⟨bw, 0, none⟩) l.length l.length], .agg #[.slice rd roots.length rc, .slice ga sl.length gc], .agg #[.slice (some ⟨c1, 0, none⟩) roots.length roots.length, .slice (some ⟨c2, 0, none⟩) sl.length sl.length], .string name, .agg #[.slice ra R.length rc5, .slice d5 T.length dc5], nb, R, T, ra, rc5, d5, dc5, ?_, by omega, ?_, (box_sets hRF).1, (box_sets hRF).2, hD5, hO.1, hO.2, kept_sets (by omega) _ 0 KC5⟩
          · simp only [Act.put, List.setIfInBounds_toArray, List.set_cons_zero, List.set_cons_succ]
          · rw [size_setCells]; exact hRF.lt
      · go_simp
        refine hK.out _ _ (fun _ => HSO17.out _ (KC3.trans ((Kept.refl _).alloc _))) ?_
        clear hK K
        try simp only [Act.put, List.setIfInBounds_toArray, List.set_cons_zero, List.set_cons_succ]
        have hRw : RowT (w3.alloc (.cells #[.slice none 0 0, .slice none 0 0] 38)) w3.heap.size 38 2 := RowT.made w3 _ _
        have KA : Kept w3 (w3.alloc (.cells #[.slice none 0 0, .slice none 0 0] 38)) := (Kept.refl _).alloc _
        have nz := KC3.size
        obtain ⟨nb, hnb⟩ : ∃ nb, nb = w3.heap.size := ⟨_, rfl⟩
        rw [← hnb] at hRw ⊢
        generalize hwe : w3.alloc (.cells #[.slice none 0 0, .slice none 0 0] 38) = wA at hRw KA ⊢
        clear hwe
        have KCA := KC3.trans KA
        have nl := hRw.lt
        have nz2 : w17.heap.size ≤ nb := by omega
        have HNB := hide hnb
        clear hnb nz
        refine UpTo.nx 3 (fun K hK => ?_)
        rw [if_pos (by rfl)]
        go_simp
        go_at_call 12
        refine (toStateX_any _ rd ga rc gc roots sl hr2 hsl2 hst2 (hR.kept (KW17.trans KCA)) (hG.kept (KW17.trans KCA))).mono ?_
        rintro e w4 ⟨c1, c2, rfl, hR4, hG4, k4, hc1, hc2⟩
        have KC4 := KCA.trans k4
        refine hK.out _ _ (fun _ => HSO17.out _ KC4) ?_
        clear hK K
        try simp only [Act.put, List.setIfInBounds_toArray, List.set_cons_zero, List.set_cons_succ]
        refine UpTo.nx 5 (fun K hK => ?_)
        rw [if_pos (by rfl)]
        go_simp
        go_at_call 22
        refine (implDo_any _ (some ⟨bw, 0, none⟩) l.length l (some ⟨c1, 0, none⟩) roots.length roots (some ⟨c2, 0, none⟩) sl.length sl name hl2 hs hrl hr2 (Nat.le_refl _) hrs hsl2 hst2 (hN3.kept (KA.trans k4)).nodes (hR4.kept (Kept.refl _)) (hG4.runs.kept (Kept.refl _)) (hFi.kept (KW17.trans KC4))).mono ?_
        rintro e w5 h5
        obtain ⟨R, T, ra, rc5, d5, dc5, rfl, hD5, hO5, k5⟩ := h5.out
        have KC5 := KC4.trans k5
        refine hK.out _ _ (fun _ => HSO17.out _ KC5) ?_
        clear hK K h5
        try simp only [Act.put, List.setIfInBounds_toArray, List.set_cons_zero, List.set_cons_succ]
        have z4 := k4.size
        have hRF := hRw.kept (k4.trans k5)
        have hO := hO5 w5 nb [.slice ra R.length rc5, .slice d5 T.length dc5] (.inl (by omega)) (Kept.refl _)
        refine UpTo.nx 7 (fun K hK => ?_)
        rw [if_pos (by rfl)]
        refine wp_store_mid 38 _ _ rfl nb 0 #[.slice ra R.length rc5, .slice d5 T.length dc5] (by rfl) (by rfl) hRF.there (by kernel_rfl) (two_one ..) ?_
        refine hK.out _ _ (fun h => absurd rfl h) ?_
        clear hK K
        try simp only [Act.put]
        refine UpTo.done (by kernel_rfl) ⟨rfl, ?_⟩
        refine ⟨.agg #[.slice a l.length cap], .agg #[.slice (some ⟨bw, 0, none⟩) l.length l.length], .agg #[.slice rd roots.length rc, .slice ga sl.length gc], .agg #[.slice (some ⟨c1, 0, none⟩) roots.length roots.length, .slice (some ⟨c2, 0, none⟩) sl.length sl.length], .string name, .agg #[.slice ra R.length rc5, .slice d5 T.length dc5], nb, R, T, ra, rc5, d5, dc5, ?_, by omega, ?_, (box_sets hRF).1, (box_sets hRF).2, hD5, hO.1, hO.2, kept_sets (by omega) _ 0 KC5⟩
        · simp only [Act.put, List.setIfInBounds_toArray, List.set_cons_zero, List.set_cons_succ]
        · rw [size_setCells]; exact hRF.lt
    · go_simp
      refine hK.out _ _ (fun _ => HSO17.out _ (KD.trans ((Kept.refl _).alloc _))) ?_
      clear hK K
      try simp only [Act.put, List.setIfInBounds_toArray, List.set_cons_zero, List.set_cons_succ]
      have hRw : RowT (wd.alloc (.cells #[.slice none 0 0, .slice none 0 0] 38)) wd.heap.size 38 2 := RowT.made wd _ _
      have KA : Kept wd (wd.alloc (.cells #[.slice none 0 0, .slice none 0 0] 38)) := (Kept.refl _).alloc _
      have nz := KD.size
      obtain ⟨nb, hnb⟩ : ∃ nb, nb = wd.heap.size := ⟨_, rfl⟩
      rw [← hnb] at hRw ⊢
      generalize hwe : wd.alloc (.cells #[.slice none 0 0, .slice none 0 0] 38) = wA at hRw KA ⊢
      clear hwe
      have KCA := KD.trans KA
      have nl := hRw.lt
      have nz2 : w17.heap.size ≤ nb := by omega
      have HNB := hide hnb
      clear hnb nz
      refine UpTo.nx 1 (fun K hK => ?_)
      rw [if_pos (by rfl)]
      go_simp
      go_at_call 11
      refine (toWeb_any _ a cap l hl2 hs2 (hN.kept (KW17.trans KCA))).mono ?_
      rintro e w3 ⟨bw, rfl, hN3, k3, hb1⟩
      have KC3 := KCA.trans k3
      refine hK.out _ _ (fun _ => HSO17.out _ KC3) ?_
      clear hK K
      try simp only [Act.put, List.setIfInBounds_toArray, List.set_cons_zero, List.set_cons_succ]
      refine UpTo.nx 3 (fun K hK => ?_)
      rw [if_pos (by rfl)]
      go_simp
      go_at_call 12
      refine (toStateX_any _ rd ga rc gc roots sl hr2 hsl2 hst2 (hR.kept (KW17.trans KC3)) (hG.kept (KW17.trans KC3))).mono ?_
      rintro e w4 ⟨c1, c2, rfl, hR4, hG4, k4, hc1, hc2⟩
      have KC4 := KC3.trans k4
      refine hK.out _ _ (fun _ => HSO17.out _ KC4) ?_
      clear hK K
      try simp only [Act.put, List.setIfInBounds_toArray, List.set_cons_zero, List.set_cons_succ]
      refine UpTo.nx 5 (fun K hK => ?_)
      rw [if_pos (by rfl)]
      go_simp
      go_at_call 22
      refine (implDo_any _ (some ⟨bw, 0, none⟩) l.length l (some ⟨c1, 0, none⟩) roots.length roots (some ⟨c2, 0, none⟩) sl.length sl name hl2 hs hrl hr2 (Nat.le_refl _) hrs hsl2 hst2 (hN3.kept k4).nodes (hR4.kept (Kept.refl _)) (hG4.runs.kept (Kept.refl _)) (hFi.kept (KW17.trans KC4))).mono ?_
      rintro e w5 h5
      obtain ⟨R, T, ra, rc5, d5, dc5, rfl, hD5, hO5, k5⟩ := h5.out
      have KC5 := KC4.trans k5
      refine hK.out _ _ (fun _ => HSO17.out _ KC5) ?_
      clear hK K h5
      try simp only [Act.put, List.setIfInBounds_toArray, List.set_cons_zero, List.set_cons_succ]
      have z3 := k3.size
      have z4 := k4.size
      have hRF := hRw.kept ((k3.trans k4).trans k5)
      have hO := hO5 w5 nb [.slice ra R.length rc5, .slice d5 T.length dc5] (.inl (by omega)) (Kept.refl _)
      refine UpTo.nx 7 (fun K hK => ?_)
      rw [if_pos (by rfl)]
      refine wp_store_mid 38 _ _ rfl nb 0 #[.slice ra R.length rc5, .slice d5 T.length dc5] (by rfl) (by rfl) hRF.there (by kernel_rfl) (two_one ..) ?_
      refine hK.out _ _ (fun h => absurd rfl h) ?_
      clear hK K
      try simp only [Act.put]
      refine UpTo.done (by kernel_rfl) ⟨rfl, ?_⟩
      refine ⟨.agg #[.slice a l.length cap], .agg #[.slice (some ⟨bw, 0, none⟩) l.length l.length], .agg #[.slice rd roots.length rc, .slice ga sl.length gc], .agg #[.slice (some ⟨c1, 0, none⟩) roots.length roots.length, .slice (some ⟨c2, 0, none⟩) sl.length sl.length], .string name, .agg #[.slice ra R.length rc5, .slice d5 T.length dc5], nb, R, T, ra, rc5, d5, dc5, ?_, by omega, ?_, (box_sets hRF).1, (box_sets hRF).2, hD5, hO.1, hO.2, kept_sets (by omega) _ 0 KC5⟩
      · simp only [Act.put, List.setIfInBounds_toArray, List.set_cons_zero, List.set_cons_succ]
      · rw [size_setCells]; exact hRF.lt
  rintro _ w20 ⟨u0, u1, u2, u3, u4, u5, p9, R9, T9, r9, rc9, d9, dc9, rfl, ho1, ho2, c90, c91, hD9, hS9, hT9, K17c⟩
  try simp only [Act.put, List.setIfInBounds_toArray, List.set_cons_zero, List.set_cons_succ]
  obtain ⟨rfl, rfl⟩ := hD9.one HD5.out
  have K520 := K517.trans K17c
  have HI20 := hide (HI17.out.same (K17c.same _ _))
  have HJ20 := hide (HJ17.out.same (K17c.same _ _))
  have HS9 := hide hS9
  have HT9 := hide hT9
  obtain ⟨p0, p1⟩ := HP8.out w20 K520
  clear b0 b1 b2 hS9 hT9 hD9 HI17 HJ17
  go_wp2_with fail
  refine (eqStateX_yes _ r9 r8 d9 d8 rc9 rc8 dc9 dc8 U V hml hmv HVf.out HS9.out (HT.out.kept K520) HT9.out (HU.out.kept K520)).mono ?_
  rintro e w21 ⟨rfl, k21⟩
  have HI21 := hide (HI20.out.same (k21.same _ _))
  have HJ21 := hide (HJ20.out.same (k21.same _ _))
  have K521 := K520.trans k21
  obtain ⟨g0, g1⟩ := HGB17.out w21 (K17c.trans k21)
  clear k21 HI20 HJ20 HS9 HT9 c90 c91 p0 p1
  go_wp2_with fail
  refine (heldStateX_yes _ gr gd grc gdc U V 1 (by omega) (by omega) HI21.out.strs HJ21.out.runs).mono ?_
  rintro e w22 ⟨rfl, k22⟩
  rw [← HM.out]
  have KF := k0.trans (K5.trans (K521.trans k22))
  clear k22 g0 g1
  go_wp2
  go_ret
  exact ⟨rfl, KF⟩
end Go.Proofs.YticdoifcfokckaaGreatDoor
