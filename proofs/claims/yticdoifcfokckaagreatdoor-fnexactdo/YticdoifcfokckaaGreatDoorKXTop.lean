import Derived.Test.YticdoifcfokckaaGreatDoorKXValid0
import Derived.Test.YticdoifcfokckaaGreatDoorKXValid
namespace Go.Proofs.YticdoifcfokckaaGreatDoor
open Go.RowKit
set_option maxRecDepth 100000 in
set_option maxHeartbeats 12800000 in
theorem doX_no (w : World) (a : Option Addr) (cap : Nat) (webl : List NodeD) (rb ro rc : Nat) (roots : List ByteArray) (d : Option Addr) (dc : Nat) (l : List RunX) (name : ByteArray) (hwl : webl.length ≤ 1000) (hlw : l.length ≤ 900) (hsz : SmallAsks webl) (hrl : roots.length ≤ 10)
    (hgl : GoodL webl l) (hTl : ∀ r ∈ l, r.texts.length ≤ 1000) (hnr : ¬ ReadyX (actsOf webl) (envOf l) name) (hN : Nodes w a webl) (hS : RunsX w d l) (hR : Strs w (some ⟨rb, ro, none⟩) roots) :
    Calls Tryz.prog 56 #[.agg #[.slice a webl.length cap], .agg #[.slice (some ⟨rb, ro, none⟩) roots.length rc, .slice d l.length dc], .string name] w fun e w' => StateX roots l w w' e := by
  obtain ⟨WB, hWB⟩ : ∃ WB, WB = ((w.alloc (.cells #[.slice a webl.length cap] 34)).alloc (.cells #[.slice (some ⟨rb, ro, none⟩) roots.length rc, .slice d l.length dc] 38)).alloc (.cells #[.slice none 0 0, .slice none 0 0] 38) := ⟨_, rfl⟩
  have kB : Kept w WB := by rw [hWB]; exact (((Kept.refl _).alloc _).alloc _).alloc _
  have hBs : WB.heap.size = w.heap.size + 3 := by rw [hWB]; simp
  have b0 : WB.cell? ⟨w.heap.size, 0, none⟩ = some (.slice a webl.length cap) := by rw [hWB, Kept.cell (w := w.alloc (.cells #[.slice a webl.length cap] 34)) (((Kept.refl _).alloc _).alloc _) (by simp)]; exact range_new w _ _ 0 _ rfl
  have s0 : WB.cell? ⟨w.heap.size + 1, 0, none⟩ = some (.slice (some ⟨rb, ro, none⟩) roots.length rc) := by have := range_new (w.alloc (.cells #[.slice a webl.length cap] 34)) #[.slice (some ⟨rb, ro, none⟩) roots.length rc, .slice d l.length dc] 38 0 _ rfl; rw [World.size_alloc] at this; rw [hWB, Kept.cell (w := (w.alloc (.cells #[.slice a webl.length cap] 34)).alloc (.cells #[.slice (some ⟨rb, ro, none⟩) roots.length rc, .slice d l.length dc] 38)) ((Kept.refl _).alloc _) (by simp)]; exact this
  have s1 : WB.cell? ⟨w.heap.size + 1, 1, none⟩ = some (.slice d l.length dc) := by have := range_new (w.alloc (.cells #[.slice a webl.length cap] 34)) #[.slice (some ⟨rb, ro, none⟩) roots.length rc, .slice d l.length dc] 38 1 _ rfl; rw [World.size_alloc] at this; rw [hWB, Kept.cell (w := (w.alloc (.cells #[.slice a webl.length cap] 34)).alloc (.cells #[.slice (some ⟨rb, ro, none⟩) roots.length rc, .slice d l.length dc] 38)) ((Kept.refl _).alloc _) (by simp)]; exact this
  have HRes : Hid (RowT WB (w.heap.size + 1 + 1) 38 2) := by
    have h1 := RowT.made ((w.alloc (.cells #[.slice a webl.length cap] 34)).alloc (.cells #[.slice (some ⟨rb, ro, none⟩) roots.length rc, .slice d l.length dc] 38)) #[.slice none 0 0, .slice none 0 0] 38
    simp only [World.size_alloc] at h1
    rw [hWB]
    exact h1
  have z0 : w.heap.size < WB.heap.size := by omega
  have z1 : w.heap.size + 1 < WB.heap.size := by omega
  have z2 : w.heap.size + 1 + 1 < WB.heap.size := by omega
  have hll : l.length ≤ 1048576 := by omega
  have hwb : webl.length ≤ 1048576 := by omega
  have HSO : Hid (∀ w', Kept WB w' → w'.cell? ⟨w.heap.size, 0, none⟩ = some (.slice a webl.length cap) ∧ w'.cell? ⟨w.heap.size + 1, 0, none⟩ = some (.slice (some ⟨rb, ro, none⟩) roots.length rc) ∧ w'.cell? ⟨w.heap.size + 1, 1, none⟩ = some (.slice d l.length dc)) := fun w' K => ⟨(K.cell z0).trans b0, (K.cell z1).trans s0, (K.cell z1).trans s1⟩
  have HKB := hide kB
  have HNr := hide hnr
  clear kB hBs b0 s0 s1 hnr
  have HFin : Hid (∀ w9 (ra : Option Addr) (rc9 : Nat) (d9 : Option Addr) (dc9 : Nat) (xs9 : List Value) (W : World), Kept WB W → Kept W w9 → w9.ownsRow W.heap.size 9 1 (.slice ra roots.length rc9) roots.length (roots.map Value.string) → w9.ownsRow W.heap.size 77 7 (.slice d9 l.length dc9) l.length xs9 → PackedX w9 (fun b => W.heap.size ≤ b) xs9 l → StateX roots l w (w9.setCells (w.heap.size + 1 + 1) 0 [.slice ra roots.length rc9, .slice d9 l.length dc9]) (.returned (.agg #[.slice ra roots.length rc9, .slice d9 l.length dc9]))) := fun w9 ra rc9 d9 dc9 xs9 W KW K9 hT9 hO9 hP9 => by
    have zW := KW.size
    have hO := owns_set (owns_set hO9 (p := ⟨w.heap.size + 1 + 1, 0, none⟩) (by show w.heap.size + 1 + 1 < _; omega) (.slice ra roots.length rc9)) (p := ⟨w.heap.size + 1 + 1, 1, none⟩) (by show w.heap.size + 1 + 1 < _; omega) (.slice d9 l.length dc9)
    have hT := owns_set (owns_set hT9 (p := ⟨w.heap.size + 1 + 1, 0, none⟩) (by show w.heap.size + 1 + 1 < _; omega) (.slice ra roots.length rc9)) (p := ⟨w.heap.size + 1 + 1, 1, none⟩) (by show w.heap.size + 1 + 1 < _; omega) (.slice d9 l.length dc9)
    have hP := (hP9.set (c := w.heap.size + 1 + 1) (p := 0) (fun b h => by omega) (.slice ra roots.length rc9)).set (c := w.heap.size + 1 + 1) (p := 1) (fun b h => by omega) (.slice d9 l.length dc9)
    exact ⟨ra, rc9, d9, dc9, xs9, rfl, owns_base hT (by omega), owns_base hO (by omega), packedX_weak hP (fun b h => by omega), kept_sets (g := w.heap.size + 1 + 1) (by omega) [.slice ra roots.length rc9, .slice d9 l.length dc9] 0 (HKB.out.trans (KW.trans K9))⟩
  go_enter Tryz.func56, Tryz.ntmps56
  go_upto_region 1 with fail
  rw [← hWB]
  clear hWB
  obtain ⟨b0, s0, s1⟩ := HSO.out _ (Kept.refl _)
  go_wp2_with fail
  refine (l4At_place _ (some ⟨rb, ro, none⟩) roots.length rc d dc l name hll (hS.kept HKB.out)).mono ?_
  rintro e w1 ⟨⟨q1, rfl, hq1⟩, K1⟩
  clear b0 s0 s1
  have HQ := hide hq1
  clear hq1
  go_upto_region 2 with fail
  rcases HQ.out with ⟨k, hk, rfl, henv, _⟩ | ⟨rfl, _⟩
  rotate_left
  · refine UpTo.region (by kernel_rfl) (fun w' => w'.cell? ⟨w.heap.size, 0, none⟩ = some (.slice a webl.length cap) ∧ w'.cell? ⟨w.heap.size + 1, 0, none⟩ = some (.slice (some ⟨rb, ro, none⟩) roots.length rc) ∧ w'.cell? ⟨w.heap.size + 1, 1, none⟩ = some (.slice d l.length dc)) 12 (HSO.out _ (K1.drew)) (fun hHeld => ?_)
    have KD : Kept w1 w1.drew := (Kept.refl w1).drew
    generalize hwd : w1.drew = wd at hHeld KD ⊢
    clear hwd
    refine UpTo.tk 0 [1, 2, 3, 4, 5, 6, 7, 8, 9, 10, 11, 12] ?_ hHeld ?_ ?_
    rotate_left
    · intro u hu; (try dsimp only at hu); go_simp; (try with_reducible rfl)
    try simp only [Act.put, List.setIfInBounds_toArray, List.set_cons_zero, List.set_cons_succ]
    refine UpTo.tk 1 [2, 3, 4, 5, 6, 7, 8, 9, 10, 11, 12] ?_ hHeld ?_ ?_
    rotate_left
    · intro u hu; (try dsimp only at hu); go_simp; (try with_reducible rfl)
    try simp only [Act.put, List.setIfInBounds_toArray, List.set_cons_zero, List.set_cons_succ]
    refine UpTo.tk 2 [3, 4, 5, 6, 7, 8, 9, 10, 11, 12] ?_ hHeld ?_ ?_
    rotate_left
    · intro u hu; (try dsimp only at hu); go_simp; (try with_reducible rfl)
    try simp only [Act.put, List.setIfInBounds_toArray, List.set_cons_zero, List.set_cons_succ]
    refine UpTo.take 3 [10, 11, 12] (v := undef) (by (simp only [List.getElem?_toArray, List.getElem?_cons_succ, List.getElem?_cons_zero]; rfl)) (by kernel_rfl) (by kernel_rfl) (by kernel_rfl) (by kernel_rfl) (by exact fun _ _ _ h => h) (Or.inr ⟨by rfl, rfl⟩) hHeld ?_
    try simp only [Act.put, List.setIfInBounds_toArray, List.set_cons_zero, List.set_cons_succ]
    refine UpTo.take 4 [10, 11, 12] (v := undef) (by (simp only [List.getElem?_toArray, List.getElem?_cons_succ, List.getElem?_cons_zero]; rfl)) (by kernel_rfl) (by kernel_rfl) (by kernel_rfl) (by kernel_rfl) (by exact fun _ _ _ h => h) (Or.inr ⟨by rfl, rfl⟩) hHeld ?_
    try simp only [Act.put, List.setIfInBounds_toArray, List.set_cons_zero, List.set_cons_succ]
    refine UpTo.take 5 [6, 8, 9, 10, 11, 12] (v := undef) (by (simp only [List.getElem?_toArray, List.getElem?_cons_succ, List.getElem?_cons_zero]; rfl)) (by kernel_rfl) (by kernel_rfl) (by kernel_rfl) (by kernel_rfl) (by exact fun _ _ _ h => h) (Or.inr ⟨by rfl, rfl⟩) hHeld ?_
    try simp only [Act.put, List.setIfInBounds_toArray, List.set_cons_zero, List.set_cons_succ]
    refine UpTo.take 6 [8, 9, 10, 11, 12] (v := undef) (by (simp only [List.getElem?_toArray, List.getElem?_cons_succ, List.getElem?_cons_zero]; rfl)) (by kernel_rfl) (by kernel_rfl) (by kernel_rfl) (by kernel_rfl) (by exact fun _ _ _ h => h) (Or.inr ⟨by rfl, rfl⟩) hHeld ?_
    try simp only [Act.put, List.setIfInBounds_toArray, List.set_cons_zero, List.set_cons_succ]
    refine UpTo.take 7 [8, 9, 10, 11, 12] (v := undef) (by (simp only [List.getElem?_toArray, List.getElem?_cons_succ, List.getElem?_cons_zero]; rfl)) (by kernel_rfl) (by kernel_rfl) (by kernel_rfl) (by kernel_rfl) (by exact fun _ _ _ h => h) (Or.inr ⟨by rfl, rfl⟩) hHeld ?_
    try simp only [Act.put, List.setIfInBounds_toArray, List.set_cons_zero, List.set_cons_succ]
    refine UpTo.take 8 [9, 10, 11, 12] (v := undef) (by (simp only [List.getElem?_toArray, List.getElem?_cons_succ, List.getElem?_cons_zero]; rfl)) (by kernel_rfl) (by kernel_rfl) (by kernel_rfl) (by kernel_rfl) (by exact fun _ _ _ h => h) (Or.inr ⟨by rfl, rfl⟩) hHeld ?_
    try simp only [Act.put, List.setIfInBounds_toArray, List.set_cons_zero, List.set_cons_succ]
    refine UpTo.take 9 [10, 11, 12] (v := undef) (by (simp only [List.getElem?_toArray, List.getElem?_cons_succ, List.getElem?_cons_zero]; rfl)) (by kernel_rfl) (by kernel_rfl) (by kernel_rfl) (by kernel_rfl) (by exact fun _ _ _ h => h) (Or.inr ⟨by rfl, rfl⟩) hHeld ?_
    try simp only [Act.put, List.setIfInBounds_toArray, List.set_cons_zero, List.set_cons_succ]
    refine UpTo.take 10 [11, 12] (v := undef) (by (simp only [List.getElem?_toArray, List.getElem?_cons_succ, List.getElem?_cons_zero]; rfl)) (by kernel_rfl) (by kernel_rfl) (by kernel_rfl) (by kernel_rfl) (by exact fun _ _ _ h => h) (Or.inr ⟨by rfl, rfl⟩) hHeld ?_
    try simp only [Act.put, List.setIfInBounds_toArray, List.set_cons_zero, List.set_cons_succ]
    refine UpTo.take 11 [12] (v := undef) (by (simp only [List.getElem?_toArray, List.getElem?_cons_succ, List.getElem?_cons_zero]; rfl)) (by kernel_rfl) (by kernel_rfl) (by kernel_rfl) (by kernel_rfl) (by exact fun _ _ _ h => h) (Or.inr ⟨by rfl, rfl⟩) hHeld ?_
    try simp only [Act.put, List.setIfInBounds_toArray, List.set_cons_zero, List.set_cons_succ]
    refine UpTo.nx 12 (fun K hK => ?_)
    go_simp
    refine hK.out _ _ (fun h => absurd rfl h) ?_
    clear hK K
    try simp only [Act.put, List.setIfInBounds_toArray, List.set_cons_zero, List.set_cons_succ]
    have K2 := K1.trans KD
    obtain ⟨w2, hw2⟩ : ∃ w2, w2 = wd := ⟨_, rfl⟩
    rw [← hw2] at K2 ⊢
    clear hw2 KD hHeld
    refine UpTo.done (by kernel_rfl) ?_
    obtain ⟨b0, s0, s1⟩ := HSO.out _ K2
    have y1 := Nat.lt_of_lt_of_le z1 K2.size
    go_upto_region 3 with fail
    go_wp2_with fail
    refine (copyX_any w2 rb ro rc roots d dc l (by omega) (by omega) hTl (hR.kept (HKB.out.trans K2)) (hS.kept (HKB.out.trans K2))).mono ?_
    rintro e w9 ⟨ra, rc9, d9, dc9, xs9, rfl, hT9, hO9, hP9, k9⟩
    have HE := hide (HFin.out w9 ra rc9 d9 dc9 xs9 w2 K2 k9 hT9 hO9 hP9)
    have HR9 := hide ((HRes.out.kept K2).kept k9)
    obtain ⟨⟨_, x0⟩, f0⟩ := HR9.out.row.at (i := 0) (by omega)
    obtain ⟨⟨_, x1⟩, f1⟩ := HR9.out.row.at (i := 1) (by omega)
    have hrz9 := HR9.out.lt
    clear hT9 hO9 hP9 b0 s0 s1
    go_wp2_with fail
    have hRg := World.rangeAt_setCells_same w9 (w.heap.size + 1 + 1) 0 [.slice ra roots.length rc9, .slice d9 l.length dc9] (HR9.out.row.there (o := 0) (m := 2) (Nat.le_refl _))
    exact bodyPost_ret_cell [.slice ra roots.length rc9, .slice d9 l.length dc9] _ Tryz.results56 rfl hRg Tryz.underlying38 rfl Tryz.xSizeState rfl HE.out
  obtain ⟨r, hke⟩ : ∃ r, r = l.getD k RunX.zero := ⟨_, rfl⟩
  obtain ⟨b, o, xa, xc, rfl, hb0, hcs, _, _⟩ := hS k hk
  rw [← hke] at hcs henv
  have hbB := Nat.lt_of_lt_of_le hb0 HKB.out.size
  have hrl2 : r ∈ l := by rw [hke]; simp [List.getD, hk]
  have t0 : WB.cell? ⟨b, o + k * 7, none⟩ = some (.string r.name) := (HKB.out.cell hb0).trans (hcs 0 _ rfl)
  have t1 : WB.cell? ⟨b, o + k * 7 + 1, none⟩ = some (.bool r.over) := (HKB.out.cell hb0).trans (hcs 1 _ rfl)
  have t2 : WB.cell? ⟨b, o + k * 7 + 2, none⟩ = some (.bool r.fail) := (HKB.out.cell hb0).trans (hcs 2 _ rfl)
  have t3 : WB.cell? ⟨b, o + k * 7 + 3, none⟩ = some (.string r.text) := (HKB.out.cell hb0).trans (hcs 3 _ rfl)
  have t4 : WB.cell? ⟨b, o + k * 7 + 4, none⟩ = some (.int .i64 r.at') := (HKB.out.cell hb0).trans (hcs 4 _ rfl)
  have t5 : WB.cell? ⟨b, o + k * 7 + 5, none⟩ = some (.int .i64 r.visits) := (HKB.out.cell hb0).trans (hcs 5 _ rfl)
  have t6 : WB.cell? ⟨b, o + k * 7 + 6, none⟩ = some (.slice xa r.texts.length xc) := (HKB.out.cell hb0).trans (hcs 6 _ rfl)
  have HSB : Hid (∀ w', Kept WB w' → w'.cell? ⟨w.heap.size, 0, none⟩ = some (.slice a webl.length cap) ∧ w'.cell? ⟨w.heap.size + 1, 0, none⟩ = some (.slice (some ⟨rb, ro, none⟩) roots.length rc) ∧ w'.cell? ⟨w.heap.size + 1, 1, none⟩ = some (.slice (some ⟨b, o, none⟩) l.length dc) ∧ w'.cell? ⟨b, o + k * 7, none⟩ = some (.string r.name) ∧ w'.cell? ⟨b, o + k * 7 + 1, none⟩ = some (.bool r.over) ∧ w'.cell? ⟨b, o + k * 7 + 2, none⟩ = some (.bool r.fail) ∧ w'.cell? ⟨b, o + k * 7 + 3, none⟩ = some (.string r.text) ∧ w'.cell? ⟨b, o + k * 7 + 4, none⟩ = some (.int .i64 r.at') ∧ w'.cell? ⟨b, o + k * 7 + 5, none⟩ = some (.int .i64 r.visits) ∧ w'.cell? ⟨b, o + k * 7 + 6, none⟩ = some (.slice xa r.texts.length xc)) := fun w' K => ⟨(HSO.out w' K).1, (HSO.out w' K).2.1, (HSO.out w' K).2.2, (K.cell hbB).trans t0, (K.cell hbB).trans t1, (K.cell hbB).trans t2, (K.cell hbB).trans t3, (K.cell hbB).trans t4, (K.cell hbB).trans t5, (K.cell hbB).trans t6⟩
  have HNc : Hid (¬ CanGo (actsOf webl) (envOf l) r) := fun h => HNr.out ⟨r, henv, h⟩
  clear t0 t1 t2 t3 t4 t5 t6 hcs hke henv
  have hk0 : ¬ (k : Int) < 0 := by omega
  have hkl : (k : Int) < (l.length : Int) := by omega
  refine UpTo.region (by kernel_rfl) (fun w' => w'.cell? ⟨w.heap.size, 0, none⟩ = some (.slice a webl.length cap) ∧ w'.cell? ⟨w.heap.size + 1, 0, none⟩ = some (.slice (some ⟨rb, ro, none⟩) roots.length rc) ∧ w'.cell? ⟨w.heap.size + 1, 1, none⟩ = some (.slice (some ⟨b, o, none⟩) l.length dc) ∧ w'.cell? ⟨b, o + k * 7, none⟩ = some (.string r.name) ∧ w'.cell? ⟨b, o + k * 7 + 1, none⟩ = some (.bool r.over) ∧ w'.cell? ⟨b, o + k * 7 + 2, none⟩ = some (.bool r.fail) ∧ w'.cell? ⟨b, o + k * 7 + 3, none⟩ = some (.string r.text) ∧ w'.cell? ⟨b, o + k * 7 + 4, none⟩ = some (.int .i64 r.at') ∧ w'.cell? ⟨b, o + k * 7 + 5, none⟩ = some (.int .i64 r.visits) ∧ w'.cell? ⟨b, o + k * 7 + 6, none⟩ = some (.slice xa r.texts.length xc)) 12 (HSB.out _ (K1.drew)) (fun hHeld => ?_)
  have KD : Kept w1 w1.drew := (Kept.refl w1).drew
  generalize hwd : w1.drew = wd at hHeld KD ⊢
  clear hwd
  refine UpTo.tk 0 [1, 2, 3, 4, 5, 6, 7, 8, 9, 10, 11, 12] ?_ hHeld ?_ ?_
  rotate_left
  · intro u hu; (try dsimp only at hu); go_simp; (try with_reducible rfl)
  try simp only [Act.put, List.setIfInBounds_toArray, List.set_cons_zero, List.set_cons_succ]
  refine UpTo.tk 1 [2, 3, 4, 5, 6, 7, 8, 9, 10, 11, 12] ?_ hHeld ?_ ?_
  rotate_left
  · intro u hu; (try dsimp only at hu); go_simp; (try with_reducible rfl)
  try simp only [Act.put, List.setIfInBounds_toArray, List.set_cons_zero, List.set_cons_succ]
  refine UpTo.tk 2 [3, 4, 5, 6, 7, 8, 9, 10, 11, 12] ?_ hHeld ?_ ?_
  rotate_left
  · intro u hu; (try dsimp only at hu); go_simp; (try with_reducible rfl)
  try simp only [Act.put, List.setIfInBounds_toArray, List.set_cons_zero, List.set_cons_succ]
  refine UpTo.tk 3 [10, 11, 12] ?_ hHeld ?_ ?_
  rotate_left
  · intro u hu; (try dsimp only at hu); go_simp; (try with_reducible rfl)
  try simp only [Act.put, List.setIfInBounds_toArray, List.set_cons_zero, List.set_cons_succ]
  refine UpTo.tk 4 [10, 11, 12] ?_ hHeld ?_ ?_
  rotate_left
  · intro u hu; (try dsimp only at hu); go_simp; (try with_reducible rfl)
  try simp only [Act.put, List.setIfInBounds_toArray, List.set_cons_zero, List.set_cons_succ]
  refine UpTo.tk 5 [6, 8, 9, 10, 11, 12] ?_ hHeld ?_ ?_
  rotate_left
  · intro u hu; (try dsimp only at hu); go_simp; (try with_reducible rfl)
  try simp only [Act.put, List.setIfInBounds_toArray, List.set_cons_zero, List.set_cons_succ]
  refine UpTo.tk 6 [8, 9, 10, 11, 12] ?_ hHeld ?_ ?_
  rotate_left
  · intro u hu; (try dsimp only at hu); go_simp; (try with_reducible rfl)
  try simp only [Act.put, List.setIfInBounds_toArray, List.set_cons_zero, List.set_cons_succ]
  refine UpTo.tk 7 [8, 9, 10, 11, 12] ?_ hHeld ?_ ?_
  rotate_left
  · intro u hu; (try dsimp only at hu); go_simp; (try with_reducible rfl)
  try simp only [Act.put, List.setIfInBounds_toArray, List.set_cons_zero, List.set_cons_succ]
  refine UpTo.tk 8 [9, 10, 11, 12] ?_ hHeld ?_ ?_
  rotate_left
  · intro u hu; (try dsimp only at hu); go_simp; (try with_reducible rfl)
  try simp only [Act.put, List.setIfInBounds_toArray, List.set_cons_zero, List.set_cons_succ]
  refine UpTo.tk 9 [10, 11, 12] ?_ hHeld ?_ ?_
  rotate_left
  · intro u hu; (try dsimp only at hu); go_simp; (try with_reducible rfl)
  try simp only [Act.put, List.setIfInBounds_toArray, List.set_cons_zero, List.set_cons_succ]
  refine UpTo.nx 10 (fun K hK => ?_)
  rw [if_pos (by rfl)]
  go_simp
  go_at_call 74
  refine (canGo_any wd a cap webl (some ⟨rb, ro, none⟩) roots.length rc (some ⟨b, o, none⟩) dc l r xa xc hwb hll hsz (fun _ _ => (hgl.good r hrl2).act) (hN.kept (HKB.out.trans (K1.trans KD))) (hS.kept (HKB.out.trans (K1.trans KD)))).mono ?_
  rintro e w2 ⟨hsay, k2⟩
  have K2 := (K1.trans KD).trans k2
  rcases hsay.cases with ⟨rfl, hyes⟩ | ⟨rfl, _⟩
  · exact absurd hyes HNc.out
  clear hsay k2
  refine hK.out _ _ (fun _ => HSB.out _ K2) ?_
  clear hK K hHeld KD K1
  have hHeld := HSB.out _ K2
  try simp only [Act.put, List.setIfInBounds_toArray, List.set_cons_zero, List.set_cons_succ]
  refine UpTo.tk 11 [12] ?_ hHeld ?_ ?_
  rotate_left
  · intro u hu; (try dsimp only at hu); go_simp; (try with_reducible rfl)
  try simp only [Act.put, List.setIfInBounds_toArray, List.set_cons_zero, List.set_cons_succ]
  refine UpTo.nx 12 (fun K hK => ?_)
  go_simp
  refine hK.out _ _ (fun h => absurd rfl h) ?_
  clear hK K hHeld
  try simp only [Act.put, List.setIfInBounds_toArray, List.set_cons_zero, List.set_cons_succ]
  refine UpTo.done (by kernel_rfl) ?_
  obtain ⟨b0, s0, s1⟩ := HSO.out _ K2
  have y1 := Nat.lt_of_lt_of_le z1 K2.size
  go_upto_region 3 with fail
  go_wp2_with fail
  refine (copyX_any w2 rb ro rc roots (some ⟨b, o, none⟩) dc l (by omega) (by omega) hTl (hR.kept (HKB.out.trans K2)) (hS.kept (HKB.out.trans K2))).mono ?_
  rintro e w9 ⟨ra, rc9, d9, dc9, xs9, rfl, hT9, hO9, hP9, k9⟩
  have HE := hide (HFin.out w9 ra rc9 d9 dc9 xs9 w2 K2 k9 hT9 hO9 hP9)
  have HR9 := hide ((HRes.out.kept K2).kept k9)
  obtain ⟨⟨_, x0⟩, f0⟩ := HR9.out.row.at (i := 0) (by omega)
  obtain ⟨⟨_, x1⟩, f1⟩ := HR9.out.row.at (i := 1) (by omega)
  have hrz9 := HR9.out.lt
  clear hT9 hO9 hP9 b0 s0 s1
  go_wp2_with fail
  have hRg := World.rangeAt_setCells_same w9 (w.heap.size + 1 + 1) 0 [.slice ra roots.length rc9, .slice d9 l.length dc9] (HR9.out.row.there (o := 0) (m := 2) (Nat.le_refl _))
  exact bodyPost_ret_cell [.slice ra roots.length rc9, .slice d9 l.length dc9] _ Tryz.results56 rfl hRg Tryz.underlying38 rfl Tryz.xSizeState rfl HE.out
theorem ValidX.good {webl : List NodeD} {roots : List ByteArray} {sl : List RunX} (h : ValidX webl roots sl) : GoodL webl sl := by
  obtain ⟨_, _, _, k, L, hg, _, _, rfl⟩ := h
  exact hg
theorem GoodL.texts {webl : List NodeD} {l : List RunX} (h : GoodL webl l) : ∀ r ∈ l, r.texts.length ≤ 1000 := fun r hr => by
  have h1 := (h.good r hr).tl
  have h2 := (h.good r hr).hi
  omega
def DoneX (webl : List NodeD) (sl : List RunX) (name : ByteArray) (T : List RunX) : Prop :=
  (∃ r, envOf sl name = some r ∧ CanGo (actsOf webl) (envOf sl) r ∧ T = doL (actsOf webl) sl r) ∨ (¬ ReadyX (actsOf webl) (envOf sl) name ∧ T = sl)
theorem DoneX.good {webl : List NodeD} {sl T : List RunX} {name : ByteArray} (h : DoneX webl sl name T) (hok : ActsOk (actsOf webl)) (hg : GoodL webl sl) : GoodL webl T := by
  rcases h with ⟨r, h1, h2, rfl⟩ | ⟨_, rfl⟩
  · exact doL_good hok hg (env_mem h1).1 h2
  · exact hg
theorem DoneX.unique {webl : List NodeD} {sl T T' : List RunX} {name : ByteArray} (h : DoneX webl sl name T) (h' : DoneX webl sl name T') : T = T' := by
  rcases h with ⟨r, h1, h2, rfl⟩ | ⟨h1, rfl⟩ <;> rcases h' with ⟨r', g1, g2, rfl⟩ | ⟨g1, rfl⟩
  · rw [h1] at g1; cases g1; rfl
  · exact absurd ⟨r, h1, h2⟩ g1
  · exact absurd ⟨r', g1, g2⟩ h1
  · rfl
def DoEnd (webl : List NodeD) (roots : List ByteArray) (sl : List RunX) (name : ByteArray) (w w' : World) (e : Ending) : Prop :=
  (ValidX webl roots sl ∧ ∃ T, DoneX webl sl name T ∧ StateX roots T w w' e) ∨ (¬ ValidX webl roots sl ∧ e = .returned (.agg #[.slice none 0 0, .slice none 0 0]) ∧ Kept w w')
theorem specDo_step (w : World) (a : Option Addr) (cap : Nat) (webl : List NodeD) (rb ro rc : Nat) (roots : List ByteArray) (d : Option Addr) (dc : Nat) (sl : List RunX) (name : ByteArray) (hft : ∀ y ∈ webl, y.Fits) (hv : ValidX webl roots sl)
    (hN : Nodes w a webl) (hS : RunsX w d sl) (hR : Strs w (some ⟨rb, ro, none⟩) roots) :
    Calls Tryz.prog 56 #[.agg #[.slice a webl.length cap], .agg #[.slice (some ⟨rb, ro, none⟩) roots.length rc, .slice d sl.length dc], .string name] w fun e w' => ∃ T, DoneX webl sl name T ∧ StateX roots T w w' e := by
  have hg := hv.good
  have h1 := web_len hv.1
  have h2 := hg.len
  have h3 := hv.2.1.2.1
  by_cases hr : ReadyX (actsOf webl) (envOf sl) name
  · obtain ⟨r, hr1, hr2⟩ := hr
    exact (doX_any w a cap webl rb ro rc roots d dc sl name r (by omega) (by omega) (web_small hv.1) (web_acts hv.1) hft h3 hg hr1 hr2 hN hS hR).mono fun e w' h => ⟨_, .inl ⟨r, hr1, hr2, rfl⟩, h⟩
  · exact (doX_no w a cap webl rb ro rc roots d dc sl name (by omega) (by omega) (web_small hv.1) h3 hg hg.texts hr hN hS hR).mono fun e w' h => ⟨_, .inr ⟨hr, rfl⟩, h⟩
set_option maxRecDepth 100000 in
set_option maxHeartbeats 1600000 in
theorem specDo_any (w : World) (a : Option Addr) (cap : Nat) (webl : List NodeD) (ra : Option Addr) (rc : Nat) (roots : List ByteArray) (d : Option Addr) (dc : Nat) (sl : List RunX) (name : ByteArray) (hwl : webl.length ≤ 1048576) (hft : ∀ y ∈ webl, y.Fits) (hrl : roots.length ≤ 1048576) (hrs : ∀ s ∈ roots, s.size ≤ maxLen) (hsl : sl.length ≤ 1048576) (hst : ∀ x ∈ sl, x.texts.length ≤ 1048576)
    (hN : Nodes w a webl) (hS : RunsX w d sl) (hR : Strs w ra roots) :
    Calls Tryz.prog 21 #[.agg #[.slice a webl.length cap], .agg #[.slice ra roots.length rc, .slice d sl.length dc], .string name] w fun e w' => DoEnd webl roots sl name w w' e := by
  obtain ⟨WB, hWB⟩ : ∃ WB, WB = ((w.alloc (.cells #[.slice a webl.length cap] 34)).alloc (.cells #[.slice ra roots.length rc, .slice d sl.length dc] 38)).alloc (.cells #[.slice none 0 0, .slice none 0 0] 38) := ⟨_, rfl⟩
  have kB : Kept w WB := by rw [hWB]; exact (((Kept.refl _).alloc _).alloc _).alloc _
  have hBs : WB.heap.size = w.heap.size + 3 := by rw [hWB]; simp
  have b0 : WB.cell? ⟨w.heap.size, 0, none⟩ = some (.slice a webl.length cap) := by rw [hWB, Kept.cell (w := w.alloc (.cells #[.slice a webl.length cap] 34)) (((Kept.refl _).alloc _).alloc _) (by simp)]; exact range_new w _ _ 0 _ rfl
  have s0 : WB.cell? ⟨w.heap.size + 1, 0, none⟩ = some (.slice ra roots.length rc) := by have := range_new (w.alloc (.cells #[.slice a webl.length cap] 34)) #[.slice ra roots.length rc, .slice d sl.length dc] 38 0 _ rfl; rw [World.size_alloc] at this; rw [hWB, Kept.cell (w := (w.alloc (.cells #[.slice a webl.length cap] 34)).alloc (.cells #[.slice ra roots.length rc, .slice d sl.length dc] 38)) ((Kept.refl _).alloc _) (by simp)]; exact this
  have s1 : WB.cell? ⟨w.heap.size + 1, 1, none⟩ = some (.slice d sl.length dc) := by have := range_new (w.alloc (.cells #[.slice a webl.length cap] 34)) #[.slice ra roots.length rc, .slice d sl.length dc] 38 1 _ rfl; rw [World.size_alloc] at this; rw [hWB, Kept.cell (w := (w.alloc (.cells #[.slice a webl.length cap] 34)).alloc (.cells #[.slice ra roots.length rc, .slice d sl.length dc] 38)) ((Kept.refl _).alloc _) (by simp)]; exact this
  have HRes : Hid (RowT WB (w.heap.size + 1 + 1) 38 2) := by
    have h1 := RowT.made ((w.alloc (.cells #[.slice a webl.length cap] 34)).alloc (.cells #[.slice ra roots.length rc, .slice d sl.length dc] 38)) #[.slice none 0 0, .slice none 0 0] 38
    simp only [World.size_alloc] at h1
    rw [hWB]
    exact h1
  have z0 : w.heap.size < WB.heap.size := by omega
  have z1 : w.heap.size + 1 < WB.heap.size := by omega
  have z2 : w.heap.size + 1 + 1 < WB.heap.size := by omega
  have HC : Hid (∀ w', Kept WB w' → w'.cell? ⟨w.heap.size, 0, none⟩ = some (.slice a webl.length cap) ∧ w'.cell? ⟨w.heap.size + 1, 0, none⟩ = some (.slice ra roots.length rc) ∧ w'.cell? ⟨w.heap.size + 1, 1, none⟩ = some (.slice d sl.length dc) ∧ w.heap.size < w'.heap.size ∧ w.heap.size + 1 < w'.heap.size) := fun w' K => ⟨(K.cell z0).trans b0, (K.cell z1).trans s0, (K.cell z1).trans s1, Nat.lt_of_lt_of_le z0 K.size, Nat.lt_of_lt_of_le z1 K.size⟩
  have HKB := hide kB
  clear kB hBs b0 s0 s1
  go_enter Tryz.func21, Tryz.ntmps21
  go_upto_region 1 with fail
  rw [← hWB]
  clear hWB
  obtain ⟨b0, s0, s1, _, _⟩ := HC.out _ (Kept.refl _)
  go_wp2_with fail
  refine (validState_any _ a cap webl ra rc roots d dc sl hwl hft hrl hrs hsl hst (hN.kept HKB.out) (hS.kept HKB.out) (hR.kept HKB.out)).mono ?_
  rintro e w1 ⟨⟨bv, rfl, hv⟩, k1⟩
  have HV := hide hv
  clear hv b0 s0 s1 z0 z1
  obtain ⟨b0, s0, s1, z0, z1⟩ := HC.out _ k1
  have HR1 := hide (HRes.out.kept k1)
  obtain ⟨⟨_, x0⟩, f0⟩ := HR1.out.row.at (i := 0) (by omega)
  obtain ⟨⟨_, x1⟩, f1⟩ := HR1.out.row.at (i := 1) (by omega)
  have zr := HR1.out.lt
  cases bv
  · go_wp2_with fail
    have hRg := World.rangeAt_setCells_same w1 (w.heap.size + 1 + 1) 0 [.slice none 0 0, .slice none 0 0] (HR1.out.row.there (o := 0) (m := 2) (Nat.le_refl _))
    exact bodyPost_ret_cell [.slice none 0 0, .slice none 0 0] _ Tryz.results21 rfl hRg Tryz.underlying38 rfl Tryz.xSizeState rfl (.inr ⟨fun h => (by have := HV.out.2 h; cases this), rfl, kept_sets (g := w.heap.size + 1 + 1) (by omega) [.slice none 0 0, .slice none 0 0] 0 (HKB.out.trans k1)⟩)
  · have hval := HV.out.1 rfl
    have HVal := hide hval
    have hr1 := hval.2.1.1
    have hr10 := hval.2.1.2.1
    have hw6 := web_len hval.1
    obtain ⟨rb, ro, rfl, _, _⟩ := hR 0 (by omega)
    clear hval x0 x1 f0 f1
    go_wp2_with fail
    refine (specDo_step w1 a cap webl rb ro rc roots d dc sl name hft HVal.out (hN.kept (HKB.out.trans k1)) (hS.kept (HKB.out.trans k1)) (hR.kept (HKB.out.trans k1))).mono ?_
    rintro e w2 ⟨T, hD, ra2, rc2, d2, dc2, xs2, rfl, hT2, hO2, hP2, k2⟩
    have HD := hide hD
    have hgT := hD.good (web_acts HVal.out.1) HVal.out.good
    have hTl := hgT.len
    obtain ⟨a9, c9, e9, h9⟩ := owned_strs hT2
    simp only [Value.slice.injEq, true_and] at e9
    rw [← e9.1] at h9
    obtain ⟨_, a8, c8, e8, h8⟩ := PackedX.runs hO2 hP2 (Kept.refl _)
    simp only [Value.slice.injEq, true_and] at e8
    rw [← e8.1] at h8
    obtain ⟨rb2, ro2, rfl, _, _⟩ := h9 0 (by omega)
    have H9 := hide h9
    have H8 := hide h8.runs
    have HG := hide hgT
    have K2 := k1.trans k2
    clear hD hgT h9 h8 hT2 hO2 hP2 e9 e8 b0 s0 s1 z0 z1 zr
    go_wp2_with fail
    refine (copyX_any w2 rb2 ro2 rc2 roots d2 dc2 T (by omega) (by omega) HG.out.texts H9.out H8.out).mono ?_
    rintro e w3 ⟨ra3, rc3, d3, dc3, xs3, rfl, hT3, hO3, hP3, k3⟩
    have HR3 := hide ((HRes.out.kept K2).kept k3)
    obtain ⟨⟨_, x0⟩, f0⟩ := HR3.out.row.at (i := 0) (by omega)
    obtain ⟨⟨_, x1⟩, f1⟩ := HR3.out.row.at (i := 1) (by omega)
    have zr := HR3.out.lt
    have zK := K2.size
    have HT3 := hide hT3
    have HO3 := hide hO3
    have HP3 := hide hP3
    clear hT3 hO3 hP3
    go_wp2_with fail
    have hRg := World.rangeAt_setCells_same w3 (w.heap.size + 1 + 1) 0 [.slice ra3 roots.length rc3, .slice d3 T.length dc3] (HR3.out.row.there (o := 0) (m := 2) (Nat.le_refl _))
    have hO := owns_set (owns_set HO3.out (p := ⟨w.heap.size + 1 + 1, 0, none⟩) (by show w.heap.size + 1 + 1 < _; omega) (.slice ra3 roots.length rc3)) (p := ⟨w.heap.size + 1 + 1, 1, none⟩) (by show w.heap.size + 1 + 1 < _; omega) (.slice d3 T.length dc3)
    have hT := owns_set (owns_set HT3.out (p := ⟨w.heap.size + 1 + 1, 0, none⟩) (by show w.heap.size + 1 + 1 < _; omega) (.slice ra3 roots.length rc3)) (p := ⟨w.heap.size + 1 + 1, 1, none⟩) (by show w.heap.size + 1 + 1 < _; omega) (.slice d3 T.length dc3)
    have hP := (HP3.out.set (c := w.heap.size + 1 + 1) (p := 0) (fun b h => by omega) (.slice ra3 roots.length rc3)).set (c := w.heap.size + 1 + 1) (p := 1) (fun b h => by omega) (.slice d3 T.length dc3)
    exact bodyPost_ret_cell [.slice ra3 roots.length rc3, .slice d3 T.length dc3] _ Tryz.results21 rfl hRg Tryz.underlying38 rfl Tryz.xSizeState rfl (.inl ⟨HVal.out, T, HD.out, ra3, rc3, d3, dc3, xs3, rfl, owns_base hT (by omega), owns_base hO (by omega), packedX_weak hP (fun b h => by omega), kept_sets (g := w.heap.size + 1 + 1) (by omega) [.slice ra3 roots.length rc3, .slice d3 T.length dc3] 0 (HKB.out.trans (K2.trans k3))⟩)
end Go.Proofs.YticdoifcfokckaaGreatDoor
