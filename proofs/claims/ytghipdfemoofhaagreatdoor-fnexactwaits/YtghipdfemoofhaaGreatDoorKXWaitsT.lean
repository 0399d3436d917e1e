import Derived.Test.YtghipdfemoofhaaGreatDoorKXPut6
import Derived.Test.YtghipdfemoofhaaGreatDoorKVWhy
namespace Go.Proofs.YtghipdfemoofhaaGreatDoor
open Go.RowKit
theorem WaitL.nil {W : Acts} {σ : Env} {n : ByteArray} (h : ∀ s, ¬ WaitsX W σ n s) : WaitL W σ n [] := ⟨List.Pairwise.nil, fun s => ⟨fun e => (by cases e), fun e => (h s e).elim⟩⟩
def WaitsSaid (webl : List NodeD) (sl : List RunX) (name : ByteArray) (w' : World) (e : Ending) : Prop :=
  ∃ (b o c : Nat) (ns : List ByteArray), e = .returned (.slice (some ⟨b, o, none⟩) ns.length c) ∧ ns.length ≤ c ∧ Strs w' (some ⟨b, o, none⟩) ns ∧ WaitL (actsOf webl) (envOf sl) name ns
set_option maxRecDepth 100000 in
set_option maxHeartbeats 6400000 in
theorem l6Waits_any (w : World) (a : Option Addr) (cap : Nat) (webl : List NodeD) (ra : Option Addr) (rn rc : Nat) (d : Option Addr) (dc : Nat) (sl : List RunX) (name : ByteArray) (hwl : webl.length ≤ 1048576) (hsl : sl.length ≤ 1048576) (hok : ActsOk (actsOf webl)) (hg : GoodL webl sl) (hN : Nodes w a webl) (hS : RunsX w d sl) :
    Calls Tryz.prog 69 #[.agg #[.slice a webl.length cap], .agg #[.slice ra rn rc, .slice d sl.length dc], .string name] w fun e w' => WaitsSaid webl sl name w' e ∧ Kept w w' := by
  obtain ⟨WB, hWB⟩ : ∃ WB, WB = (w.alloc (.cells #[.slice a webl.length cap] 34)).alloc (.cells #[.slice ra rn rc, .slice d sl.length dc] 38) := ⟨_, rfl⟩
  have kB : Kept w WB := by rw [hWB]; exact ((Kept.refl _).alloc _).alloc _
  have hBs : WB.heap.size = w.heap.size + 2 := by rw [hWB]; simp
  have b0 : WB.cell? ⟨w.heap.size, 0, none⟩ = some (.slice a webl.length cap) := by rw [hWB, Kept.cell (w := w.alloc (.cells #[.slice a webl.length cap] 34)) ((Kept.refl _).alloc _) (by simp)]; exact range_new w _ _ 0 _ rfl
  have s0 : WB.cell? ⟨w.heap.size + 1, 0, none⟩ = some (.slice ra rn rc) := by have := range_new (w.alloc (.cells #[.slice a webl.length cap] 34)) #[.slice ra rn rc, .slice d sl.length dc] 38 0 _ rfl; rw [World.size_alloc] at this; rw [hWB]; exact this
  have s1 : WB.cell? ⟨w.heap.size + 1, 1, none⟩ = some (.slice d sl.length dc) := by have := range_new (w.alloc (.cells #[.slice a webl.length cap] 34)) #[.slice ra rn rc, .slice d sl.length dc] 38 1 _ rfl; rw [World.size_alloc] at this; rw [hWB]; exact this
  have z0 : w.heap.size < WB.heap.size := by omega
  have z1 : w.heap.size + 1 < WB.heap.size := by omega
  have HC : Hid (∀ w', Kept WB w' → w'.cell? ⟨w.heap.size, 0, none⟩ = some (.slice a webl.length cap) ∧ w'.cell? ⟨w.heap.size + 1, 0, none⟩ = some (.slice ra rn rc) ∧ w'.cell? ⟨w.heap.size + 1, 1, none⟩ = some (.slice d sl.length dc) ∧ w.heap.size < w'.heap.size ∧ w.heap.size + 1 < w'.heap.size) := fun w' K => ⟨(K.cell z0).trans b0, (K.cell z1).trans s0, (K.cell z1).trans s1, Nat.lt_of_lt_of_le z0 K.size, Nat.lt_of_lt_of_le z1 K.size⟩
  have kE : Kept WB (WB.alloc (.cells #[] 9)) := (Kept.refl _).alloc _
  have HKB := hide kB
  have HGd := hide hg
  clear kB hBs b0 s0 s1 hg
  go_enter Tryz.func69, Tryz.ntmps69
  go_upto_region 1 with fail
  rw [← hWB]
  clear hWB
  go_upto_region 2 with fail
  obtain ⟨WE, hWE⟩ : ∃ WE, WE = WB.alloc (.cells #[] 9) := ⟨_, rfl⟩
  rw [← hWE] at kE ⊢
  clear hWE
  obtain ⟨b0, s0, s1, y0, y1⟩ := HC.out _ kE
  go_wp2_with fail
  refine (l4At_place WE ra rn rc d dc sl name hsl (hS.kept (HKB.out.trans kE))).mono ?_
  rintro e w1 ⟨⟨p, rfl, hp⟩, k1⟩
  have K1 := kE.trans k1
  clear b0 s0 s1 y0 y1 k1 kE
  obtain ⟨b0, s0, s1, y0, y1⟩ := HC.out _ K1
  rcases hp with ⟨k, hk, rfl, henv, hkn⟩ | ⟨rfl, henv⟩
  rotate_left
  · have HEn := hide henv
    clear henv
    go_wp2_with fail
    go_ret
    exact ⟨⟨WB.heap.size, 0, 0, [], rfl, Nat.le_refl _, (fun i hi => by cases hi), WaitL.nil fun s h => by obtain ⟨r, _, hr, _⟩ := h; rw [HEn.out] at hr; cases hr⟩, HKB.out.trans K1⟩
  obtain ⟨r, hr⟩ : ∃ r, r = sl.getD k RunX.zero := ⟨_, rfl⟩
  rw [← hr] at henv hkn
  obtain ⟨rb, ro, xa, xc, e1, hrb, hrc, _, _⟩ := (hS.kept (HKB.out.trans K1)) k hk
  rw [← hr] at hrc
  subst e1
  have t1 := hrc 1 _ rfl
  have t4 := hrc 4 _ rfl
  have t5 := hrc 5 _ rfl
  have hki : (k : Int) < (sl.length : Int) := by omega
  have HEn := hide henv
  clear henv hrc hr
  by_cases hov : r.over = true ∨ r.visits = 0
  · have HOv := hide hov
    have HFin : Hid (WaitL (actsOf webl) (envOf sl) name []) := WaitL.nil fun s h => by
      obtain ⟨r', _, hr', h1, h2, _⟩ := h
      rw [HEn.out] at hr'
      cases hr'
      rcases HOv.out with h3 | h3
      · rw [h1] at h3; cases h3
      · exact h2 h3
    have hcs : r.over = true ∨ (r.over = false ∧ r.visits = 0) := by
      rcases hov with h | h
      · exact .inl h
      · cases h1 : r.over
        · exact .inr ⟨rfl, h⟩
        · exact .inl rfl
    clear hov
    rcases hcs with h | ⟨h, h2⟩
    · rw [h] at t1
      go_wp2_with fail
      go_ret
      exact ⟨⟨WB.heap.size, 0, 0, [], rfl, Nat.le_refl _, (fun i hi => by cases hi), HFin.out⟩, HKB.out.trans K1⟩
    · rw [h] at t1
      rw [h2] at t5
      go_wp2_with fail
      go_ret
      exact ⟨⟨WB.heap.size, 0, 0, [], rfl, Nat.le_refl _, (fun i hi => by cases hi), HFin.out⟩, HKB.out.trans K1⟩
  have ho : r.over = false := by
    cases h1 : r.over
    · rfl
    · exact absurd (.inl h1) hov
  have hv : r.visits ≠ 0 := fun e => hov (.inr e)
  have hvb : (r.visits == 0) = false := by simpa using hv
  obtain ⟨A, hA, ha0, ha1⟩ := (HGd.out.good r (env_mem HEn.out).1).act
  rw [hkn] at hA
  obtain ⟨j, hj, hjn, hjf, rfl⟩ := acts_first hA
  obtain ⟨y, hy⟩ : ∃ y, y = webl.getD j NodeD.zero := ⟨_, rfl⟩
  rw [← hy] at hA ha1
  dsimp only at ha1
  obtain ⟨nb, nq, cs, e2, hnb0, hcs, na, nc, rfl, hSt⟩ := hN j hj
  subst e2
  rw [← hy] at hcs hSt
  obtain ⟨ix, hix⟩ : ∃ ix : Nat, r.at' = (ix : Int) := ⟨r.at'.toNat, by omega⟩
  have hixl : ix < y.steps.length := by omega
  obtain ⟨tb, tq, cs2, e3, htb, hcs2, aa, ca, ac, cc, rfl, hAs, _, _⟩ := hSt ix hixl
  subst e3
  obtain ⟨s, hs⟩ : ∃ s, s = y.steps.getD ix StepD.zero := ⟨_, rfl⟩
  rw [← hs] at hcs2 hAs
  have n2 := hcs 2 _ rfl
  have m0 := hcs2 0 _ rfl
  rw [Nat.add_zero] at m0
  have HStep : Hid (stepOf ⟨y.cost, y.steps⟩ r.at' = s) := by show _ = _; unfold stepOf; rw [hix, hs]; rfl
  have hal : s.asks.length ≤ 5 := by have h := (asks_ok (hok _ _ hA).1 ha0 ha1).1; rw [HStep.out] at h; exact h
  have HKn := hide hjn
  have HKf := hide hjf
  have HAct := hide hA
  have HVis := hide hv
  have HOv := hide ho
  have hji : (j : Int) < (webl.length : Int) := by omega
  have hii : (ix : Int) < (y.steps.length : Int) := by omega
  rw [hix] at t4
  rw [ho] at t1
  have KN := HKB.out.trans K1
  have HS5 : Hid (∀ w', Kept w1 w' → w'.cell? ⟨w.heap.size, 0, none⟩ = some (.slice (some ⟨nb, nq, none⟩) webl.length cap) ∧ w'.cell? ⟨w.heap.size + 1, 1, none⟩ = some (.slice (some ⟨rb, ro, none⟩) sl.length dc) ∧ w'.cell? ⟨rb, ro + k * 7 + 4, none⟩ = some (.int .i64 (ix : Int)) ∧ w'.cell? ⟨nb, nq + j * 3 + 2, none⟩ = some (.slice (some ⟨tb, tq, none⟩) y.steps.length nc) ∧ w'.cell? ⟨tb, tq + ix * 8, none⟩ = some (.slice aa s.asks.length ca)) := fun w' K => ⟨(HC.out w' (K1.trans K)).1, (HC.out w' (K1.trans K)).2.2.1, (K.cell hrb).trans t4, ((KN.trans K).cell hnb0).trans n2, ((KN.trans K).cell htb).trans m0⟩
  have HN1 := hide (hN.kept KN)
  have HAs := hide hAs
  clear hov hA hy hcs hSt hcs2 hAs hs hix ha0 ha1 hv ho hjn hjf n2 m0 hkn
  go_upto_region 5 with fail
  clear t1 t4 t5 hvb b0 s0 s1 y0 y1
  refine UpTo.region (by kernel_rfl) (fun w' => w'.cell? ⟨w.heap.size, 0, none⟩ = some (.slice (some ⟨nb, nq, none⟩) webl.length cap) ∧ w'.cell? ⟨w.heap.size + 1, 1, none⟩ = some (.slice (some ⟨rb, ro, none⟩) sl.length dc) ∧ w'.cell? ⟨rb, ro + k * 7 + 4, none⟩ = some (.int .i64 (ix : Int)) ∧ w'.cell? ⟨nb, nq + j * 3 + 2, none⟩ = some (.slice (some ⟨tb, tq, none⟩) y.steps.length nc) ∧ w'.cell? ⟨tb, tq + ix * 8, none⟩ = some (.slice aa s.asks.length ca)) 18 (HS5.out _ ((Kept.refl w1).drew)) (fun hHeld => ?_)
  have KD : Kept w1 w1.drew := (Kept.refl w1).drew
  generalize hwd : w1.drew = wd at hHeld KD ⊢
  clear hwd
  refine UpTo.tk 0 [1, 5, 6, 7, 8, 15, 16, 17, 18] ?_ hHeld ?_ ?_
  rotate_left
  · intro u hu; (try dsimp only at hu); go_simp; (try with_reducible rfl)
  try simp only [Act.put, List.setIfInBounds_toArray, List.set_cons_zero, List.set_cons_succ]
  refine UpTo.tk 1 [5, 6, 7, 8, 15, 16, 17, 18] ?_ hHeld ?_ ?_
  rotate_left
  · intro u hu; (try dsimp only at hu); go_simp; (try with_reducible rfl)
  try simp only [Act.put, List.setIfInBounds_toArray, List.set_cons_zero, List.set_cons_succ]
  refine UpTo.tk 2 [4, 5, 6, 7, 8, 15, 16, 17, 18] ?_ hHeld ?_ ?_
  rotate_left
  · intro u hu; (try dsimp only at hu); go_simp; (try with_reducible rfl)
  try simp only [Act.put, List.setIfInBounds_toArray, List.set_cons_zero, List.set_cons_succ]
  refine UpTo.tk 3 [4, 5, 6, 7, 8, 15, 16, 17, 18] ?_ hHeld ?_ ?_
  rotate_left
  · intro u hu; (try dsimp only at hu); go_simp; (try with_reducible rfl)
  try simp only [Act.put, List.setIfInBounds_toArray, List.set_cons_zero, List.set_cons_succ]
  refine UpTo.tk 9 [10, 12, 13, 14, 15, 16, 17, 18] ?_ hHeld ?_ ?_
  rotate_left
  · intro u hu; (try dsimp only at hu); go_simp; (try with_reducible rfl)
  try simp only [Act.put, List.setIfInBounds_toArray, List.set_cons_zero, List.set_cons_succ]
  refine UpTo.tk 10 [12, 13, 14, 15, 16, 17, 18] ?_ hHeld ?_ ?_
  rotate_left
  · intro u hu; (try dsimp only at hu); go_simp; (try with_reducible rfl)
  try simp only [Act.put, List.setIfInBounds_toArray, List.set_cons_zero, List.set_cons_succ]
  refine UpTo.tk 11 [12, 13, 14, 15, 16, 17, 18] ?_ hHeld ?_ ?_
  rotate_left
  · intro u hu; (try dsimp only at hu); go_simp; (try with_reducible rfl)
  try simp only [Act.put, List.setIfInBounds_toArray, List.set_cons_zero, List.set_cons_succ]
  refine UpTo.tk 12 [13, 14, 15, 16, 17, 18] ?_ hHeld ?_ ?_
  rotate_left
  · intro u hu; (try dsimp only at hu); go_simp; (try with_reducible rfl)
  try simp only [Act.put, List.setIfInBounds_toArray, List.set_cons_zero, List.set_cons_succ]
  refine UpTo.tk 13 [14, 15, 16, 17, 18] ?_ hHeld ?_ ?_
  rotate_left
  · intro u hu; (try dsimp only at hu); go_simp; (try with_reducible rfl)
  try simp only [Act.put, List.setIfInBounds_toArray, List.set_cons_zero, List.set_cons_succ]
  refine UpTo.tk 14 [15, 16, 17, 18] ?_ hHeld ?_ ?_
  rotate_left
  · intro u hu; (try dsimp only at hu); go_simp; (try with_reducible rfl)
  try simp only [Act.put, List.setIfInBounds_toArray, List.set_cons_zero, List.set_cons_succ]
  refine UpTo.nx 4 (fun K hK => ?_)
  rw [if_pos (by rfl)]
  go_simp
  go_at_call 67
  refine (l2At_place wd (some ⟨nb, nq, none⟩) cap webl name hwl (HN1.out.kept KD)).mono ?_
  rintro e w2 ⟨⟨q, rfl, hq⟩, k2⟩
  have K2 := KD.trans k2
  obtain rfl : q = (j : Int) := by
    rcases hq with ⟨k', _, e', _, h1, h2⟩ | ⟨_, h1⟩
    · rw [e', first_unique HKn.out HKf.out h1 h2]
    · rw [HAct.out] at h1; cases h1
  clear hq
  dsimp only
  refine hK.out _ _ (fun _ => HS5.out _ K2) ?_
  clear hK K
  try simp only [Act.put, List.setIfInBounds_toArray, List.set_cons_zero, List.set_cons_succ]
  clear hHeld
  have hHeld := HS5.out _ K2
  refine UpTo.tk 5 [6, 7, 8, 15, 16, 17, 18] ?_ hHeld ?_ ?_
  rotate_left
  · intro u hu; (try dsimp only at hu); go_simp; (try with_reducible rfl)
  try simp only [Act.put, List.setIfInBounds_toArray, List.set_cons_zero, List.set_cons_succ]
  refine UpTo.tk 6 [7, 8, 15, 16, 17, 18] ?_ hHeld ?_ ?_
  rotate_left
  · intro u hu; (try dsimp only at hu); go_simp; (try with_reducible rfl)
  try simp only [Act.put, List.setIfInBounds_toArray, List.set_cons_zero, List.set_cons_succ]
  refine UpTo.tk 7 [8, 15, 16, 17, 18] ?_ hHeld ?_ ?_
  rotate_left
  · intro u hu; (try dsimp only at hu); go_simp; (try with_reducible rfl)
  try simp only [Act.put, List.setIfInBounds_toArray, List.set_cons_zero, List.set_cons_succ]
  refine UpTo.tk 8 [15, 16, 17, 18] ?_ hHeld ?_ ?_
  rotate_left
  · intro u hu; (try dsimp only at hu); go_simp; (try with_reducible rfl)
  try simp only [Act.put, List.setIfInBounds_toArray, List.set_cons_zero, List.set_cons_succ]
  refine UpTo.tk 15 [16, 17, 18] ?_ hHeld ?_ ?_
  rotate_left
  · intro u hu; (try dsimp only at hu); go_simp; (try with_reducible rfl)
  try simp only [Act.put, List.setIfInBounds_toArray, List.set_cons_zero, List.set_cons_succ]
  refine UpTo.tk 16 [17, 18] ?_ hHeld ?_ ?_
  rotate_left
  · intro u hu; (try dsimp only at hu); go_simp; (try with_reducible rfl)
  try simp only [Act.put, List.setIfInBounds_toArray, List.set_cons_zero, List.set_cons_succ]
  refine UpTo.tk 17 [18] ?_ hHeld ?_ ?_
  rotate_left
  · intro u hu; (try dsimp only at hu); go_simp; (try with_reducible rfl)
  try simp only [Act.put, List.setIfInBounds_toArray, List.set_cons_zero, List.set_cons_succ]
  refine UpTo.nx 18 (fun K hK => ?_)
  go_simp
  refine hK.out _ _ (fun h => absurd rfl h) ?_
  clear hK K
  try simp only [Act.put, List.setIfInBounds_toArray, List.set_cons_zero, List.set_cons_succ]
  refine UpTo.done (by kernel_rfl) ?_
  clear hHeld
  have K2' := K1.trans K2
  have HAs2 : Hid (∀ W, Kept w2 W → Strs W aa s.asks) := fun W K => HAs.out.kept (KN.trans (K2.trans K))
  have HE2 : Hid (Strs w2 (some ⟨WB.heap.size, 0, none⟩) []) := fun i hi => by cases hi
  go_wp2_with fail
  go_loopg [7, 10] s.asks.length (fun gg x7 x10 wr => ∃ (i b o c : Nat) (ns : List ByteArray), x10 = .int .i64 (i : Int) ∧ i + gg = s.asks.length ∧ x7 = .slice (some ⟨b, o, none⟩) ns.length c ∧ ns.length ≤ c ∧ ns.length ≤ i ∧ Hid (AscB ns) ∧ Hid (∀ z, z ∈ ns ↔ z ∈ s.asks.take i ∧ OpenN (envOf sl) z) ∧ Hid (Strs wr (some ⟨b, o, none⟩) ns) ∧ Kept w2 wr)
  case atStart => exact ⟨0, WB.heap.size, 0, 0, [], rfl, by omega, rfl, Nat.le_refl _, Nat.le_refl _, hide List.Pairwise.nil, hide (fun z => by simp), HE2, Kept.refl _⟩
  case round =>
    clear HE2 HS5
    obtain ⟨i, b, o, c, ns, rfl, hig, rfl, hnc, hni, HAsc, HMem, HNs, Kw⟩ := hrel
    have Kr := K2'.trans Kw
    by_cases hlt : i < s.asks.length
    · obtain ⟨ab, ao, rfl, hab, hac⟩ := (HAs2.out wr Kw) i hlt
      obtain ⟨x, hx⟩ : ∃ x, x = s.asks.getD i ByteArray.empty := ⟨_, rfl⟩
      rw [← hx] at hac
      have hxg : s.asks[i] = x := by rw [hx]; simp [List.getD, hlt]
      have HXg := hide hxg
      have hilt : (i : Int) < (s.asks.length : Int) := by omega
      have HS9 : Hid (∀ w', Kept wr w' → w'.cell? ⟨w.heap.size + 1, 0, none⟩ = some (.slice ra rn rc) ∧ w'.cell? ⟨w.heap.size + 1, 1, none⟩ = some (.slice (some ⟨rb, ro, none⟩) sl.length dc) ∧ w'.cell? ⟨ab, ao + i, none⟩ = some (.string x)) := fun w' K => ⟨(HC.out w' (Kr.trans K)).2.1, (HC.out w' (Kr.trans K)).2.2.1, (K.cell hab).trans hac⟩
      obtain ⟨_, c1, c2, y0, y1⟩ := HC.out wr Kr
      clear hx hxg
      go_upto_region 9 with fail
      clear c1 c2 hac
      refine UpTo.region (by kernel_rfl) (fun w' => w'.cell? ⟨w.heap.size + 1, 0, none⟩ = some (.slice ra rn rc) ∧ w'.cell? ⟨w.heap.size + 1, 1, none⟩ = some (.slice (some ⟨rb, ro, none⟩) sl.length dc) ∧ w'.cell? ⟨ab, ao + i, none⟩ = some (.string x)) 6 (HS9.out _ ((Kept.refl wr).drew)) (fun hHeld => ?_)
      have KD : Kept wr wr.drew := (Kept.refl wr).drew
      generalize hwd : wr.drew = wd at hHeld KD ⊢
      clear hwd
      refine UpTo.tk 0 [5, 6] ?_ hHeld ?_ ?_
      rotate_left
      · intro u hu; (try dsimp only at hu); go_simp; (try with_reducible rfl)
      try simp only [Act.put, List.setIfInBounds_toArray, List.set_cons_zero, List.set_cons_succ]
      refine UpTo.tk 1 [3, 4, 5, 6] ?_ hHeld ?_ ?_
      rotate_left
      · intro u hu; (try dsimp only at hu); go_simp; (try with_reducible rfl)
      try simp only [Act.put, List.setIfInBounds_toArray, List.set_cons_zero, List.set_cons_succ]
      refine UpTo.tk 2 [3, 4, 5, 6] ?_ hHeld ?_ ?_
      rotate_left
      · intro u hu; (try dsimp only at hu); go_simp; (try with_reducible rfl)
      try simp only [Act.put, List.setIfInBounds_toArray, List.set_cons_zero, List.set_cons_succ]
      refine UpTo.tk 3 [4, 5, 6] ?_ hHeld ?_ ?_
      rotate_left
      · intro u hu; (try dsimp only at hu); go_simp; (try with_reducible rfl)
      try simp only [Act.put, List.setIfInBounds_toArray, List.set_cons_zero, List.set_cons_succ]
      refine UpTo.tk 4 [5, 6] ?_ hHeld ?_ ?_
      rotate_left
      · intro u hu; (try dsimp only at hu); go_simp; (try with_reducible rfl)
      try simp only [Act.put, List.setIfInBounds_toArray, List.set_cons_zero, List.set_cons_succ]
      refine UpTo.nx 5 (fun K hK => ?_)
      rw [if_pos (by rfl)]
      go_simp
      go_at_call 63
      refine (l4At_place wd ra rn rc (some ⟨rb, ro, none⟩) dc sl x hsl (hS.kept (HKB.out.trans (Kr.trans KD)))).mono ?_
      rintro e w3 ⟨⟨q, rfl, hq⟩, k3⟩
      have K3 := KD.trans k3
      refine hK.out _ _ (fun _ => HS9.out _ K3) ?_
      clear hK K hHeld
      try simp only [Act.put, List.setIfInBounds_toArray, List.set_cons_zero, List.set_cons_succ]
      refine UpTo.nx 6 (fun K hK => ?_)
      go_simp
      refine hK.out _ _ (fun h => absurd rfl h) ?_
      clear hK K
      try simp only [Act.put, List.setIfInBounds_toArray, List.set_cons_zero, List.set_cons_succ]
      refine UpTo.done (by kernel_rfl) ?_
      obtain ⟨c0, c1, c2, y0, y1⟩ := HC.out w3 (Kr.trans K3)
      have hac := (HS9.out _ K3).2.2
      have hab3 : ab < w3.heap.size := Nat.lt_of_lt_of_le hab K3.size
      have HNs3 := hide (HNs.out.kept K3)
      have hopen : ∀ z, z ∈ s.asks.take (i + 1) ↔ z ∈ s.asks.take i ∨ z = x := fun z => by rw [List.take_succ_eq_append_getElem hlt, HXg.out]; simp
      have HOpn := hide hopen
      clear hopen k3
      rcases hq with ⟨k', hk', rfl, henv', _⟩ | ⟨rfl, henv'⟩
      · obtain ⟨r', hr'⟩ : ∃ r', r' = sl.getD k' RunX.zero := ⟨_, rfl⟩
        rw [← hr'] at henv'
        obtain ⟨rb', ro', xa', xc', e4, hrb', hrc', _, _⟩ := (hS.kept (HKB.out.trans (Kr.trans K3))) k' hk'
        cases e4
        rw [← hr'] at hrc'
        have t1 := hrc' 1 _ rfl
        have hki' : (k' : Int) < (sl.length : Int) := by omega
        have hk0 : ¬ ((k' : Int) < 0) := by omega
        have HEn' := hide henv'
        clear henv' hrc' hr'
        cases hov' : r'.over
        · rw [hov'] at t1
          have HOv' := hide hov'
          clear hov'
          go_wp2_with fail
          refine (l6Put_any w3 b o c ns x (by omega) hnc HAsc.out HNs3.out).mono ?_
          rintro e w4 ⟨b4, o4, c4, r4, rfl, hc4, hp4, hs4, k4⟩
          obtain ⟨ha4, hm4⟩ := hp4.asc HAsc.out
          have hl4 : r4.length ≤ ns.length + 1 := by
            rcases hp4 with ⟨_, rfl⟩ | ⟨_, q, hq, rfl, _, _⟩
            · omega
            · simp; omega
          have HA4 := hide ha4
          have HM4 := hide hm4
          have HS4 := hide hs4
          have K4 := Kw.trans (K3.trans k4)
          clear ha4 hm4 hs4 hp4
          go_wp2_with fail
          go_roundg (gk - 1)
          case measure => omega
          case rel => exact ⟨i + 1, b4, o4, c4, r4, by go_num, by omega, rfl, hc4, by omega, HA4, hide (fun z => by
            rw [HM4.out, HMem.out, HOpn.out]
            constructor
            · rintro (⟨h1, h2⟩ | rfl)
              · exact ⟨.inl h1, h2⟩
              · exact ⟨.inr rfl, _, HEn'.out, HOv'.out⟩
            · rintro ⟨h1 | rfl, h2⟩
              · exact .inl ⟨h1, h2⟩
              · exact .inr rfl), HS4, K4⟩
        · rw [hov'] at t1
          have HOv' := hide hov'
          clear hov'
          go_wp2_with fail
          go_roundg (gk - 1)
          case measure => omega
          case rel => exact ⟨i + 1, b, o, c, ns, by go_num, by omega, rfl, hnc, by omega, HAsc, hide (fun z => by
            rw [HMem.out, HOpn.out]
            constructor
            · rintro ⟨h1, h2⟩
              exact ⟨.inl h1, h2⟩
            · rintro ⟨h1 | rfl, h2⟩
              · exact ⟨h1, h2⟩
              · obtain ⟨q, h3, h4⟩ := h2
                rw [HEn'.out] at h3
                cases h3
                rw [HOv'.out] at h4
                cases h4), HNs3, Kw.trans K3⟩
      · have HEn' := hide henv'
        clear henv'
        go_wp2_with fail
        go_roundg (gk - 1)
        case measure => omega
        case rel => exact ⟨i + 1, b, o, c, ns, by go_num, by omega, rfl, hnc, by omega, HAsc, hide (fun z => by
          rw [HMem.out, HOpn.out]
          constructor
          · rintro ⟨h1, h2⟩
            exact ⟨.inl h1, h2⟩
          · rintro ⟨h1 | rfl, h2⟩
            · exact ⟨h1, h2⟩
            · obtain ⟨q, h3, h4⟩ := h2
              rw [HEn'.out] at h3
              cases h3), HNs3, Kw.trans K3⟩
    · have hie : s.asks.take i = s.asks := List.take_of_length_le (by omega)
      have HIe := hide hie
      clear hie
      go_wp2_with fail
      go_ret
      refine ⟨⟨b, o, c, ns, rfl, hnc, HNs.out, HAsc.out, fun z => ?_⟩, HKB.out.trans Kr⟩
      rw [HMem.out, HIe.out]
      constructor
      · rintro ⟨h1, h2⟩
        exact ⟨r, _, HEn.out, HOv.out, HVis.out, HAct.out, by rw [HStep.out]; exact h1, h2⟩
      · rintro ⟨r', A', hr', _, _, hA', h1, h2⟩
        rw [HEn.out] at hr'
        cases hr'
        rw [HAct.out] at hA'
        cases hA'
        rw [HStep.out] at h1
        exact ⟨h1, h2⟩
def WaitsEnd (webl : List NodeD) (roots : List ByteArray) (sl : List RunX) (name : ByteArray) (w' : World) (e : Ending) : Prop :=
  ∃ (da : Option Addr) (c : Nat) (ns : List ByteArray), e = .returned (.slice da ns.length c) ∧ Strs w' da ns ∧ WaitsAns webl roots sl name ns
set_option maxRecDepth 100000 in
set_option maxHeartbeats 1600000 in
theorem specWaits_any (w : World) (a : Option Addr) (cap : Nat) (webl : List NodeD) (ra : Option Addr) (rc : Nat) (roots : List ByteArray) (d : Option Addr) (dc : Nat) (sl : List RunX) (name : ByteArray) (hwl : webl.length ≤ 1048576) (hft : ∀ y ∈ webl, y.Fits) (hrl : roots.length ≤ 1048576) (hrs : ∀ s ∈ roots, s.size ≤ maxLen) (hsl : sl.length ≤ 1048576) (hst : ∀ x ∈ sl, x.texts.length ≤ 1048576)
    (hN : Nodes w a webl) (hS : RunsX w d sl) (hR : Strs w ra roots) :
    Calls Tryz.prog 39 #[.agg #[.slice a webl.length cap], .agg #[.slice ra roots.length rc, .slice d sl.length dc], .string name] w fun e w' => WaitsEnd webl roots sl name w' e ∧ Kept w w' := by
  obtain ⟨WB, hWB⟩ : ∃ WB, WB = (w.alloc (.cells #[.slice a webl.length cap] 34)).alloc (.cells #[.slice ra roots.length rc, .slice d sl.length dc] 38) := ⟨_, rfl⟩
  have kB : Kept w WB := by rw [hWB]; exact ((Kept.refl _).alloc _).alloc _
  have hBs : WB.heap.size = w.heap.size + 2 := by rw [hWB]; simp
  have b0 : WB.cell? ⟨w.heap.size, 0, none⟩ = some (.slice a webl.length cap) := by rw [hWB, Kept.cell (w := w.alloc (.cells #[.slice a webl.length cap] 34)) ((Kept.refl _).alloc _) (by simp)]; exact range_new w _ _ 0 _ rfl
  have s0 : WB.cell? ⟨w.heap.size + 1, 0, none⟩ = some (.slice ra roots.length rc) := by have := range_new (w.alloc (.cells #[.slice a webl.length cap] 34)) #[.slice ra roots.length rc, .slice d sl.length dc] 38 0 _ rfl; rw [World.size_alloc] at this; rw [hWB]; exact this
  have s1 : WB.cell? ⟨w.heap.size + 1, 1, none⟩ = some (.slice d sl.length dc) := by have := range_new (w.alloc (.cells #[.slice a webl.length cap] 34)) #[.slice ra roots.length rc, .slice d sl.length dc] 38 1 _ rfl; rw [World.size_alloc] at this; rw [hWB]; exact this
  have z0 : w.heap.size < WB.heap.size := by omega
  have z1 : w.heap.size + 1 < WB.heap.size := by omega
  have HC : Hid (∀ w', Kept WB w' → w'.cell? ⟨w.heap.size, 0, none⟩ = some (.slice a webl.length cap) ∧ w'.cell? ⟨w.heap.size + 1, 0, none⟩ = some (.slice ra roots.length rc) ∧ w'.cell? ⟨w.heap.size + 1, 1, none⟩ = some (.slice d sl.length dc) ∧ w.heap.size < w'.heap.size ∧ w.heap.size + 1 < w'.heap.size) := fun w' K => ⟨(K.cell z0).trans b0, (K.cell z1).trans s0, (K.cell z1).trans s1, Nat.lt_of_lt_of_le z0 K.size, Nat.lt_of_lt_of_le z1 K.size⟩
  have HKB := hide kB
  clear kB hBs b0 s0 s1
  go_enter Tryz.func39, Tryz.ntmps39
  go_upto_region 1 with fail
  rw [← hWB]
  clear hWB
  obtain ⟨b0, s0, s1, _, _⟩ := HC.out _ (Kept.refl _)
  go_wp2_with fail
  refine (validState_any _ a cap webl ra rc roots d dc sl hwl hft hrl hrs hsl hst (hN.kept HKB.out) (hS.kept HKB.out) (hR.kept HKB.out)).mono ?_
  rintro e w1 ⟨⟨bv, rfl, hv⟩, k1⟩
  have HV := hide hv
  clear hv b0 s0 s1 z0 z1
  obtain ⟨b0, s0, s1, z0, z1⟩ := HC.out _ k1
  cases bv
  · go_wp2_with fail
    go_ret
    exact ⟨⟨some ⟨w1.heap.size, 0, none⟩, 0, [], rfl, (fun i hi => by cases hi), .inr ⟨fun h => (by have := HV.out.2 h; cases this), rfl⟩⟩, (HKB.out.trans k1).alloc _⟩
  · have HVal := hide (HV.out.1 rfl)
    have hgl := HVal.out.good
    go_wp2_with fail
    refine (l6Waits_any w1 a cap webl ra roots.length rc d dc sl name hwl hsl (web_acts HVal.out.1) hgl (hN.kept (HKB.out.trans k1)) (hS.kept (HKB.out.trans k1))).mono ?_
    rintro e w2 ⟨⟨b, o, c, ns, rfl, hnc, hns, hWL⟩, k2⟩
    have HNs := hide hns
    have HWL := hide hWL
    clear hns hWL
    go_wp2_with fail
    go_ret
    exact ⟨⟨_, c, ns, rfl, HNs.out, .inl ⟨HVal.out, HWL.out⟩⟩, HKB.out.trans (k1.trans k2)⟩
end Go.Proofs.YtghipdfemoofhaaGreatDoor
