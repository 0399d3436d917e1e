import Derived.Test.YtghipdfemoofhaaGreatDoorKBResume
import Derived.Test.YtghipdfemoofhaaGreatDoorKXSame3
import Derived.Test.YtghipdfemoofhaaGreatDoorKVList
import Derived.Test.YtghipdfemoofhaaGreatDoorKXValid
import Derived.Test.YtghipdfemoofhaaGreatDoorKWCheck5
import Derived.Test.YtghipdfemoofhaaGreatDoorKOOrder

namespace Go.Proofs.YtghipdfemoofhaaGreatDoor
open Go.RowKit

theorem GoalX.good {webl : List NodeD} {roots : List ByteArray} {sl : List RunX} (h : GoalX webl roots sl) : GoodL webl sl := by
  obtain ⟨k, L, hg, _, _, rfl⟩ := h
  exact hg
theorem res_valid {webl : List NodeD} {roots : List ByteArray} {sl : List RunX} {ts : List TaskM} {ws : ByteArray → List Nat} (hW : WebCode webl 0) (hRo : RootsOk roots) (hBS : BS webl ts ws) (hled : ∃ k, Leads (Behind (W := actsOf webl) behindI (envOf sl)) (doX (actsOf webl)) (envOf (startL webl roots)) (envOf (runsOf ts)) k) (hend : AtEnd (Behind (W := actsOf webl) behindI (envOf sl)) (envOf (runsOf ts))) : runsOf ts = sl ↔ ValidX webl roots sl := by
  have hw0 := (startL_good (web_acts hW) roots).wf
  obtain ⟨k, hl⟩ := hled
  constructor
  · intro e
    refine ⟨hW, hRo, by rw [← e]; exact hBS.good.len, k, sl, by rw [← e]; exact hBS.good, ?_, ?_, rfl⟩
    · have h1 := led_S_of_I (W := actsOf webl) (τ := envOf (runsOf ts)) (G := envOf sl) (by rw [e]) hw0 hl
      rw [e] at h1
      exact h1
    · rw [e] at hend
      exact fun n hn => hend n ⟨hn.1, by obtain ⟨r, g, h1, h2, h3⟩ := hn.2; exact ⟨r, g, h1, h2, behindS_I h3⟩⟩
  · rintro ⟨_, _, _, j, L, hg, hj, he, rfl⟩
    exact asc_eq hBS.good.asc hg.asc ((goal_both hw0 hj he hl hend).2 rfl)

set_option maxRecDepth 100000 in
set_option maxHeartbeats 1600000 in
theorem implValidState_any (w : World) (a : Option Addr) (cap : Nat) (webl : List NodeD) (rd : Option Addr) (rc : Nat) (roots : List ByteArray) (ga : Option Addr) (gc : Nat) (sl : List RunX) (hl : webl.length ≤ 1048576) (hf : ∀ s ∈ webl, s.Fits) (hrl : roots.length ≤ maxLen) (hrc : roots.length ≤ rc) (hrs : ∀ s ∈ roots, s.size ≤ maxLen) (hsl : sl.length ≤ 1048576) (hst : ∀ r ∈ sl, r.texts.length ≤ 1048576) (hS : Nodes w a webl) (hR : Strs w rd roots) (hG : RunsX w ga sl) (hFi : FinishOk w) :
    Calls Tryz.prog 26 #[.agg #[.slice a webl.length cap], .agg #[.slice rd roots.length rc, .slice ga sl.length gc]] w fun e w' => SaidB e (ValidX webl roots sl) ∧ Kept w w' := by
  have k0 : Kept w ((w.alloc (.cells #[.slice a webl.length cap] 34)).alloc (.cells #[.slice rd roots.length rc, .slice ga sl.length gc] 38)) := ((Kept.refl _).alloc _).alloc _
  go_enter Tryz.func26, Tryz.ntmps26
  go_wp2_with fail
  refine (resume_any _ a cap webl rd rc roots ga gc sl hl hf hrl hrc hrs hsl hst (hS.kept k0) (hR.kept k0) (hG.kept k0) (hFi.kept k0)).mono ?_
  rintro e w1 ⟨k1, hcase⟩
  have K1 := k0.trans k1
  rcases hcase with ⟨hno, rfl⟩ | ⟨hW, hRo, hA, wz, bb, mb, mx, ts, d, dc, f, ws, b, rfl, kz, hB, hBS, hmx, hb, hled, hend⟩
  · have HNo := hide hno
    clear hno k1 k0
    go_wp2_with fail
    go_ret
    exact ⟨⟨false, rfl, by simp only [Bool.false_eq_true, false_iff]; exact fun h => HNo.out ⟨h.1, h.2.1, h.2.2.2.good.asc⟩⟩, K1⟩
  · have HV := hide (hb.trans (res_valid hW hRo hBS hled hend))
    clear hW hRo hA kz hB hBS hb hled hend k1 k0
    go_wp2_with fail
    go_ret
    exact ⟨⟨b, rfl, HV.out⟩, K1⟩

end Go.Proofs.YtghipdfemoofhaaGreatDoor

namespace Go.Proofs.YtghipdfemoofhaaGreatDoor
open Go.RowKit

theorem small_runs {roots : List ByteArray} {l : List RunX} {n : Nat} (h : szStateD roots l ≤ n) : roots.length ≤ n ∧ l.length ≤ n ∧ ∀ r ∈ l, r.texts.length ≤ n := by
  unfold szStateD szRunsD szStrs at h
  refine ⟨by omega, by omega, fun r hr => ?_⟩
  have h1 := le_sum szRunD hr
  have h2 : szRunD r = r.name.size + r.text.size + (r.texts.length + (r.texts.map (·.size)).sum) := rfl
  omega
theorem bool_iff {p : Prop} {b c : Bool} (h : b = true ↔ p) (k : c = true ↔ p) : b = c := by
  cases b <;> cases c <;> simp_all

set_option maxRecDepth 100000 in
set_option maxHeartbeats 6400000 in
theorem lawValidState (w : World) (a : Option Addr) (cap : Nat) (l : List NodeD) (rd : Option Addr) (rc : Nat) (roots : List ByteArray) (ga : Option Addr) (gc : Nat) (sl : List RunX) (hl : l.length ≤ maxLen) (hs : ∀ s ∈ l, s.Fits) (hrl : roots.length ≤ maxLen) (hrs : ∀ s ∈ roots, s.size ≤ maxLen) (hsl : sl.length ≤ maxLen) (hsf : ∀ r ∈ sl, r.Fits) (hN : Nodes w a l) (hR : Strs w rd roots) (hG : RunsX w ga sl) (hFi : FinishOk w) :
    Calls Tryz.prog 5 #[.agg #[.slice a l.length cap], .agg #[.slice rd roots.length rc, .slice ga sl.length gc]] w fun e w' => e = .returned (.bool true) ∧ Kept w w' := by
  obtain ⟨W0, hW0⟩ : ∃ W0, W0 = (w.alloc (.cells #[.slice a l.length cap] 24)).alloc (.cells #[.slice rd roots.length rc, .slice ga sl.length gc] 28) := ⟨_, rfl⟩
  have k0 : Kept w W0 := by rw [hW0]; exact ((Kept.refl _).alloc _).alloc _
  have HBox : Hid (∀ w', Kept W0 w' → (fun w' => w'.cell? ⟨w.heap.size, 0, none⟩ = some (.slice a l.length cap) ∧ w'.cell? ⟨w.heap.size + 1, 0, none⟩ = some (.slice rd roots.length rc) ∧ w'.cell? ⟨w.heap.size + 1, 1, none⟩ = some (.slice ga sl.length gc)) w') := fun w' kk => by
    have q0 := (box1 (w := w) (v := .slice a l.length cap) (t := 24) (w1 := w') (Kept.trans (by rw [hW0]; exact (Kept.refl _).alloc _) kk)).1
    have q1 := box2 (w := w.alloc (.cells #[.slice a l.length cap] 24)) (v0 := .slice rd roots.length rc) (v1 := .slice ga sl.length gc) (t := 28) (w1 := w') (Kept.trans (by rw [hW0]; exact Kept.refl _) kk)
    simp only [World.size_alloc] at q1
    exact ⟨q0, q1.1, q1.2⟩
  have z0 : w.heap.size + 1 + 1 ≤ W0.heap.size := by rw [hW0]; simp
  go_enter Tryz.func5, Tryz.ntmps5
  go_wp2_with fail
  rw [← hW0]
  clear hW0
  refine (szWeb_any _ a cap l 1048576 hl hs (hN.kept k0) (by omega) (by omega)).mono ?_
  rintro e w1 ⟨rfl, K1⟩
  by_cases hle : (szNodesD l : Int) ≤ 1048576
  rotate_left
  · rw [szL_neg (by omega)]
    go_wp2
    go_ret
    exact ⟨rfl, k0.trans K1⟩
  rw [szL_pos hle]
  obtain ⟨hl2, hs2⟩ := small_of_szN (l := l) (n := 1048576) (by omega)
  obtain ⟨b0, b1, b2⟩ := HBox.out _ K1
  go_wp2_with fail
  refine (szState_any _ rd ga rc gc roots sl _ hrl hrs hsl hsf (hR.kept (k0.trans K1)) (hG.kept (k0.trans K1)) (by omega) (by omega)).mono ?_
  rintro e w2 ⟨rfl, k2⟩
  have K2 := K1.trans k2
  clear b0 b1 b2 K1 k2
  by_cases hle2 : (szStateD roots sl : Int) ≤ 1048576 - szNodesD l
  rotate_left
  · rw [szL_neg (by omega)]
    go_wp2
    go_ret
    exact ⟨rfl, k0.trans K2⟩
  rw [szL_pos hle2]
  obtain ⟨hr2, hsl2, hst2⟩ := small_runs (roots := roots) (l := sl) (n := 1048576) (by omega)
  have HSm := hide (And.intro hle hle2)
  have hnn : ¬ ((1048576 : Int) - szNodesD l - szStateD roots sl < 0) := by omega
  clear hle hle2
  obtain ⟨b0, b1, b2⟩ := HBox.out _ K2
  have hz2 := K2.size
  have HSO : Hid (∀ w', Kept w2 w' → (fun w' => w'.cell? ⟨w.heap.size, 0, none⟩ = some (.slice a l.length cap) ∧ w'.cell? ⟨w.heap.size + 1, 0, none⟩ = some (.slice rd roots.length rc) ∧ w'.cell? ⟨w.heap.size + 1, 1, none⟩ = some (.slice ga sl.length gc)) w') := fun w' kk => HBox.out w' (K2.trans kk)
  go_upto_region 8 with fail
  refine UpTo.region (by kernel_rfl) (fun w' => w'.cell? ⟨w.heap.size, 0, none⟩ = some (.slice a l.length cap) ∧ w'.cell? ⟨w.heap.size + 1, 0, none⟩ = some (.slice rd roots.length rc) ∧ w'.cell? ⟨w.heap.size + 1, 1, none⟩ = some (.slice ga sl.length gc)) 5 (HSO.out _ ((Kept.refl w2).drew)) (fun hHeld => ?_)
  have KD : Kept w2 w2.drew := (Kept.refl w2).drew
  generalize hwd : w2.drew = wd at hHeld KD ⊢
  clear hwd
  refine UpTo.take 0 [1, 3, 4, 5] (v := ?_) (by (simp only [List.getElem?_toArray, List.getElem?_cons_zero]; rfl)) (by kernel_rfl) (by kernel_rfl) (by kernel_rfl) (by kernel_rfl) (by exact fun _ _ _ h => h) (Or.inl ⟨by rfl, ?_⟩) hHeld ?_
  rotate_left
  · intro u hu
    try dsimp only at hu
    go_simp
    try with_reducible rfl
  try simp only [Act.put, List.setIfInBounds_toArray, List.set_cons_zero, List.set_cons_succ]
  refine UpTo.take 2 [3, 4, 5] (v := ?_) (by (simp only [List.getElem?_toArray, List.getElem?_cons_succ, List.getElem?_cons_zero]; rfl)) (by kernel_rfl) (by kernel_rfl) (by kernel_rfl) (by kernel_rfl) (by exact fun _ _ _ h => h) (Or.inl ⟨by rfl, ?_⟩) hHeld ?_
  rotate_left
  · intro u hu
    try dsimp only at hu
    go_simp
    try with_reducible rfl
  try simp only [Act.put, List.setIfInBounds_toArray, List.set_cons_zero, List.set_cons_succ]
  refine UpTo.next 1 (by kernel_rfl) (by (simp only [List.getElem?_toArray, List.getElem?_cons_succ, List.getElem?_cons_zero]; rfl)) (fun K hK => ?_)
  rw [if_pos (by rfl)]
  go_simp
  go_at_call 12
  refine (toWeb_any _ a cap l hl2 hs2 (hN.kept (k0.trans (K2.trans KD)))).mono ?_
  rintro e w3 ⟨bw, rfl, hN3, k3, hb1⟩
  refine hK.out _ _ (fun _ => HSO.out _ (KD.trans k3)) ?_
  clear hK K
  try simp only [Act.put, List.setIfInBounds_toArray, List.set_cons_zero, List.set_cons_succ]
  refine UpTo.next 3 (by kernel_rfl) (by (simp only [List.getElem?_toArray, List.getElem?_cons_succ, List.getElem?_cons_zero]; rfl)) (fun K hK => ?_)
  rw [if_pos (by rfl)]
  go_simp
  go_at_call 13
  refine (toStateX_any _ rd ga rc gc roots sl hr2 hsl2 hst2 (hR.kept (k0.trans (K2.trans (KD.trans k3)))) (hG.kept (k0.trans (K2.trans (KD.trans k3))))).mono ?_
  rintro e w4 ⟨c1, c2, rfl, hR4, hG4, k4, hc1, hc2⟩
  refine hK.out _ _ (fun _ => HSO.out _ ((KD.trans k3).trans k4)) ?_
  clear hK K
  try simp only [Act.put, List.setIfInBounds_toArray, List.set_cons_zero, List.set_cons_succ]
  refine UpTo.next 4 (by kernel_rfl) (by (simp only [List.getElem?_toArray, List.getElem?_cons_succ, List.getElem?_cons_zero]; rfl)) (fun K hK => ?_)
  rw [if_pos (by rfl)]
  go_simp
  go_at_call 25
  refine (validState_any _ (some ⟨bw, 0, none⟩) l.length l (some ⟨c1, 0, none⟩) roots.length roots (some ⟨c2, 0, none⟩) sl.length sl hl2 hs hr2 hrs hsl2 hst2 (hN3.kept k4).nodes hG4.runs hR4).mono ?_
  rintro e w5 ⟨⟨bs, rfl, hbs⟩, k5⟩
  have HBs := hide hbs
  clear hbs
  refine hK.out _ _ (fun _ => HSO.out _ (((KD.trans k3).trans k4).trans k5)) ?_
  clear hK K
  try simp only [Act.put, List.setIfInBounds_toArray, List.set_cons_zero, List.set_cons_succ]
  refine UpTo.next 5 (by kernel_rfl) (by (simp only [List.getElem?_toArray, List.getElem?_cons_succ, List.getElem?_cons_zero]; rfl)) (fun K hK => ?_)
  go_simp
  refine hK.out _ _ (fun h => absurd rfl h) ?_
  clear hK K
  try simp only [Act.put, List.setIfInBounds_toArray, List.set_cons_zero, List.set_cons_succ]
  refine UpTo.done (by kernel_rfl) ?_
  have K3 : Kept w2 w5 := ((KD.trans k3).trans k4).trans k5
  have K5 := K2.trans K3
  clear KD k3 k4 k5 K3 HSO K2 b0 b1 b2 hb1 hc1 hc2 hN3 hR4 hG4
  obtain ⟨b0, b1, b2⟩ := HBox.out _ K5
  go_wp2_with fail
  refine (toWeb_any _ a cap l hl2 hs2 (hN.kept (k0.trans K5))).mono ?_
  rintro e w6 ⟨bx, rfl, hNx, k6, hbx⟩
  have kA : Kept w6 (w6.alloc (.cells #[.slice (some ⟨bx, 0, none⟩) l.length l.length] 34)) := (Kept.refl _).alloc _
  have K6 := (K5.trans k6).trans kA
  have HNx := hide (hNx.kept kA)
  have z6 := (K5.trans k6).size
  clear b0 b1 b2 hNx hbx k6 K5
  obtain ⟨b0, b1, b2⟩ := HBox.out _ K6
  have hz6 := kA.size
  go_wp2_with fail
  refine (toStateX_any _ rd ga rc gc roots sl hr2 hsl2 hst2 (hR.kept (k0.trans K6)) (hG.kept (k0.trans K6))).mono ?_
  rintro e w7 ⟨bu, bv, rfl, hRx, hGx, k7, hbu, hbv⟩
  obtain ⟨W7, hW7⟩ : ∃ W7, W7 = w7.alloc (.cells #[.slice (some ⟨bu, 0, none⟩) roots.length roots.length, .slice (some ⟨bv, 0, none⟩) sl.length sl.length] 38) := ⟨_, rfl⟩
  have kB : Kept w7 W7 := by rw [hW7]; exact (Kept.refl _).alloc _
  have K7 := (K6.trans k7).trans kB
  have HX : Hid (∀ w', Kept W7 w' → (fun w' => w'.cell? ⟨w6.heap.size, 0, none⟩ = some (.slice (some ⟨bx, 0, none⟩) l.length l.length) ∧ w'.cell? ⟨w7.heap.size, 0, none⟩ = some (.slice (some ⟨bu, 0, none⟩) roots.length roots.length) ∧ w'.cell? ⟨w7.heap.size, 1, none⟩ = some (.slice (some ⟨bv, 0, none⟩) sl.length sl.length) ∧ (w'.cell? ⟨w.heap.size, 0, none⟩ = some (.slice a l.length cap) ∧ w'.cell? ⟨w.heap.size + 1, 0, none⟩ = some (.slice rd roots.length rc) ∧ w'.cell? ⟨w.heap.size + 1, 1, none⟩ = some (.slice ga sl.length gc))) w') := fun w' kk => by
    have q0 := (box1 (w := w6) (w1 := w') ((k7.trans kB).trans kk)).1
    have q1 := box2 (w := w7) (v0 := .slice (some ⟨bu, 0, none⟩) roots.length roots.length) (v1 := .slice (some ⟨bv, 0, none⟩) sl.length sl.length) (t := 38) (w1 := w') (Kept.trans (by rw [hW7]; exact Kept.refl _) kk)
    exact ⟨q0, q1.1, q1.2, HBox.out _ (K7.trans kk)⟩
  have HNy := hide ((HNx.out.kept k7).kept kB)
  have HRy := hide (hRx.kept kB)
  have HGy := hide (hGx.kept kB)
  have hz7 := k7.size
  have hzB := kB.size
  simp only [World.size_alloc] at hz7
  have hw6 : w6.heap.size < w7.heap.size := by omega
  have hw7 : w7.heap.size < W7.heap.size := by rw [hW7]; simp
  clear b0 b1 b2 hRx hGx hbu hbv kA K6 HNx
  have hne : ¬ w6.heap.size = w7.heap.size := by omega
  have q6 := (HX.out W7 (Kept.refl _)).1
  go_upto_region 11 with fail
  rw [← hW7]
  clear hW7 k7 kB
  obtain ⟨x0, x1, x2, b0, b1, b2⟩ := HX.out W7 (Kept.refl _)
  go_wp2_with fail
  refine (implValidState_any W7 (some ⟨bx, 0, none⟩) l.length l (some ⟨bu, 0, none⟩) roots.length roots (some ⟨bv, 0, none⟩) sl.length sl hl2 hs hrl (Nat.le_refl _) hrs hsl2 hst2 HNy.out.nodes HRy.out HGy.out.runs (hFi.kept (k0.trans K7))).mono ?_
  rintro e w8 ⟨⟨b8, rfl, hb8⟩, k8⟩
  obtain rfl : b8 = bs := bool_iff hb8 HBs.out
  have hbb : (b8 != b8) = false := by cases b8 <;> rfl
  have K8 := K7.trans k8
  have HX8 : Hid (∀ w', Kept w8 w' → (fun w' => w'.cell? ⟨w6.heap.size, 0, none⟩ = some (.slice (some ⟨bx, 0, none⟩) l.length l.length) ∧ w'.cell? ⟨w7.heap.size, 0, none⟩ = some (.slice (some ⟨bu, 0, none⟩) roots.length roots.length) ∧ w'.cell? ⟨w7.heap.size, 1, none⟩ = some (.slice (some ⟨bv, 0, none⟩) sl.length sl.length) ∧ (w'.cell? ⟨w.heap.size, 0, none⟩ = some (.slice a l.length cap) ∧ w'.cell? ⟨w.heap.size + 1, 0, none⟩ = some (.slice rd roots.length rc) ∧ w'.cell? ⟨w.heap.size + 1, 1, none⟩ = some (.slice ga sl.length gc))) w') := fun w' kk => HX.out w' (k8.trans kk)
  have HN8 := hide (HNy.out.kept k8)
  have HR8 := hide (HRy.out.kept k8)
  have HG8 := hide (HGy.out.kept k8)
  have KW8 := k0.trans K8
  clear hb8 HBs x0 x1 x2 b0 b1 b2 q6 HNy HRy HGy HX k8 K8 K7
  obtain ⟨x0, x1, x2, b0, b1, b2⟩ := HX8.out w8 (Kept.refl _)
  go_upto_region 14 with fail
  refine UpTo.region (by kernel_rfl) (fun w' => w'.cell? ⟨w6.heap.size, 0, none⟩ = some (.slice (some ⟨bx, 0, none⟩) l.length l.length) ∧ w'.cell? ⟨w7.heap.size, 0, none⟩ = some (.slice (some ⟨bu, 0, none⟩) roots.length roots.length) ∧ w'.cell? ⟨w7.heap.size, 1, none⟩ = some (.slice (some ⟨bv, 0, none⟩) sl.length sl.length) ∧ (w'.cell? ⟨w.heap.size, 0, none⟩ = some (.slice a l.length cap) ∧ w'.cell? ⟨w.heap.size + 1, 0, none⟩ = some (.slice rd roots.length rc) ∧ w'.cell? ⟨w.heap.size + 1, 1, none⟩ = some (.slice ga sl.length gc))) 4 (HX8.out _ ((Kept.refl w8).drew)) (fun hHeld => ?_)
  have KD : Kept w8 w8.drew := (Kept.refl w8).drew
  generalize hwd : w8.drew = wd at hHeld KD ⊢
  clear hwd
  refine UpTo.take 0 [3, 4] (v := ?_) (by (simp only [List.getElem?_toArray, List.getElem?_cons_zero]; rfl)) (by kernel_rfl) (by kernel_rfl) (by kernel_rfl) (by kernel_rfl) (by exact fun _ _ _ h => h) (Or.inl ⟨by rfl, ?_⟩) hHeld ?_
  rotate_left
  · intro u hu
    try dsimp only at hu
    go_simp
    try with_reducible rfl
  try simp only [Act.put, List.setIfInBounds_toArray, List.set_cons_zero, List.set_cons_succ]
  refine UpTo.take 1 [2, 3, 4] (v := ?_) (by (simp only [List.getElem?_toArray, List.getElem?_cons_succ, List.getElem?_cons_zero]; rfl)) (by kernel_rfl) (by kernel_rfl) (by kernel_rfl) (by kernel_rfl) (by exact fun _ _ _ h => h) (Or.inl ⟨by rfl, ?_⟩) hHeld ?_
  rotate_left
  · intro u hu
    try dsimp only at hu
    go_simp
    try with_reducible rfl
  try simp only [Act.put, List.setIfInBounds_toArray, List.set_cons_zero, List.set_cons_succ]
  refine UpTo.next 2 (by kernel_rfl) (by (simp only [List.getElem?_toArray, List.getElem?_cons_succ, List.getElem?_cons_zero]; rfl)) (fun K hK => ?_)
  rw [if_pos (by rfl)]
  go_simp
  go_at_call 12
  refine (toWeb_any _ a cap l hl2 hs2 (hN.kept (KW8.trans KD))).mono ?_
  rintro e w9 ⟨bq, rfl, hN9, k9, hb9⟩
  refine hK.out _ _ (fun _ => HX8.out _ (KD.trans k9)) ?_
  clear hK K
  try simp only [Act.put, List.setIfInBounds_toArray, List.set_cons_zero, List.set_cons_succ]
  refine UpTo.next 3 (by kernel_rfl) (by (simp only [List.getElem?_toArray, List.getElem?_cons_succ, List.getElem?_cons_zero]; rfl)) (fun K hK => ?_)
  rw [if_pos (by rfl)]
  go_simp
  go_at_call 16
  refine (eqWeb_yes _ (some ⟨bx, 0, none⟩) (some ⟨bq, 0, none⟩) l.length l.length l hl hs (HN8.out.kept (KD.trans k9)).nodes hN9.nodes).mono ?_
  rintro e w10 ⟨rfl, k10⟩
  refine hK.out _ _ (fun _ => HX8.out _ ((KD.trans k9).trans k10)) ?_
  clear hK K
  try simp only [Act.put, List.setIfInBounds_toArray, List.set_cons_zero, List.set_cons_succ]
  refine UpTo.next 4 (by kernel_rfl) (by (simp only [List.getElem?_toArray, List.getElem?_cons_succ, List.getElem?_cons_zero]; rfl)) (fun K hK => ?_)
  go_simp
  refine hK.out _ _ (fun h => absurd rfl h) ?_
  clear hK K
  try simp only [Act.put, List.setIfInBounds_toArray, List.set_cons_zero, List.set_cons_succ]
  refine UpTo.done (by kernel_rfl) ?_
  have KA := (KD.trans k9).trans k10
  clear KD k9 k10 x0 x1 x2 b0 b1 b2 hN9 hb9
  have HX10 : Hid (∀ w', Kept w10 w' → (fun w' => w'.cell? ⟨w6.heap.size, 0, none⟩ = some (.slice (some ⟨bx, 0, none⟩) l.length l.length) ∧ w'.cell? ⟨w7.heap.size, 0, none⟩ = some (.slice (some ⟨bu, 0, none⟩) roots.length roots.length) ∧ w'.cell? ⟨w7.heap.size, 1, none⟩ = some (.slice (some ⟨bv, 0, none⟩) sl.length sl.length) ∧ (w'.cell? ⟨w.heap.size, 0, none⟩ = some (.slice a l.length cap) ∧ w'.cell? ⟨w.heap.size + 1, 0, none⟩ = some (.slice rd roots.length rc) ∧ w'.cell? ⟨w.heap.size + 1, 1, none⟩ = some (.slice ga sl.length gc))) w') := fun w' kk => HX8.out w' (KA.trans kk)
  obtain ⟨x0, x1, x2, b0, b1, b2⟩ := HX10.out w10 (Kept.refl _)
  go_upto_region 16 with fail
  refine UpTo.region (by kernel_rfl) (fun w' => w'.cell? ⟨w6.heap.size, 0, none⟩ = some (.slice (some ⟨bx, 0, none⟩) l.length l.length) ∧ w'.cell? ⟨w7.heap.size, 0, none⟩ = some (.slice (some ⟨bu, 0, none⟩) roots.length roots.length) ∧ w'.cell? ⟨w7.heap.size, 1, none⟩ = some (.slice (some ⟨bv, 0, none⟩) sl.length sl.length) ∧ (w'.cell? ⟨w.heap.size, 0, none⟩ = some (.slice a l.length cap) ∧ w'.cell? ⟨w.heap.size + 1, 0, none⟩ = some (.slice rd roots.length rc) ∧ w'.cell? ⟨w.heap.size + 1, 1, none⟩ = some (.slice ga sl.length gc))) 4 (HX10.out _ ((Kept.refl w10).drew)) (fun hHeld => ?_)
  have KD : Kept w10 w10.drew := (Kept.refl w10).drew
  generalize hwd : w10.drew = wd at hHeld KD ⊢
  clear hwd
  refine UpTo.take 0 [3, 4] (v := ?_) (by (simp only [List.getElem?_toArray, List.getElem?_cons_zero]; rfl)) (by kernel_rfl) (by kernel_rfl) (by kernel_rfl) (by kernel_rfl) (by exact fun _ _ _ h => h) (Or.inl ⟨by rfl, ?_⟩) hHeld ?_
  rotate_left
  · intro u hu
    try dsimp only at hu
    go_simp
    try with_reducible rfl
  try simp only [Act.put, List.setIfInBounds_toArray, List.set_cons_zero, List.set_cons_succ]
  refine UpTo.take 1 [2, 3, 4] (v := ?_) (by (simp only [List.getElem?_toArray, List.getElem?_cons_succ, List.getElem?_cons_zero]; rfl)) (by kernel_rfl) (by kernel_rfl) (by kernel_rfl) (by kernel_rfl) (by exact fun _ _ _ h => h) (Or.inl ⟨by rfl, ?_⟩) hHeld ?_
  rotate_left
  · intro u hu
    try dsimp only at hu
    go_simp
    try with_reducible rfl
  try simp only [Act.put, List.setIfInBounds_toArray, List.set_cons_zero, List.set_cons_succ]
  refine UpTo.next 2 (by kernel_rfl) (by (simp only [List.getElem?_toArray, List.getElem?_cons_succ, List.getElem?_cons_zero]; rfl)) (fun K hK => ?_)
  rw [if_pos (by rfl)]
  go_simp
  go_at_call 13
  refine (toStateX_any _ rd ga rc gc roots sl hr2 hsl2 hst2 (hR.kept ((KW8.trans KA).trans KD)) (hG.kept ((KW8.trans KA).trans KD))).mono ?_
  rintro e w11 ⟨d1, d2, rfl, hR11, hG11, k11, hd1, hd2⟩
  refine hK.out _ _ (fun _ => HX10.out _ (KD.trans k11)) ?_
  clear hK K
  try simp only [Act.put, List.setIfInBounds_toArray, List.set_cons_zero, List.set_cons_succ]
  refine UpTo.next 3 (by kernel_rfl) (by (simp only [List.getElem?_toArray, List.getElem?_cons_succ, List.getElem?_cons_zero]; rfl)) (fun K hK => ?_)
  rw [if_pos (by rfl)]
  go_simp
  go_at_call 17
  refine (eqStateX_yes _ (some ⟨bu, 0, none⟩) (some ⟨d1, 0, none⟩) (some ⟨bv, 0, none⟩) (some ⟨d2, 0, none⟩) roots.length roots.length sl.length sl.length roots sl hrl hsl hsf (HR8.out.kept ((KA.trans KD).trans k11)) hR11 (HG8.out.kept ((KA.trans KD).trans k11)).runs hG11.runs).mono ?_
  rintro e w12 ⟨rfl, k12⟩
  refine hK.out _ _ (fun _ => HX10.out _ ((KD.trans k11).trans k12)) ?_
  clear hK K
  try simp only [Act.put, List.setIfInBounds_toArray, List.set_cons_zero, List.set_cons_succ]
  refine UpTo.next 4 (by kernel_rfl) (by (simp only [List.getElem?_toArray, List.getElem?_cons_succ, List.getElem?_cons_zero]; rfl)) (fun K hK => ?_)
  go_simp
  refine hK.out _ _ (fun h => absurd rfl h) ?_
  clear hK K
  try simp only [Act.put, List.setIfInBounds_toArray, List.set_cons_zero, List.set_cons_succ]
  refine UpTo.done (by kernel_rfl) ?_
  go_wp2_with fail
  go_ret
  exact ⟨rfl, ((((KW8.trans KA).trans KD).trans k11).trans k12)⟩

end Go.Proofs.YtghipdfemoofhaaGreatDoor
