import Derived.Test.YtghipdfemoofhaaGreatDoorKBEqual
import Derived.Test.YtghipdfemoofhaaGreatDoorKBBegin
import Derived.Maps.RangeWalk
import Derived.Test.YtghipdfemoofhaaGreatDoorKVWaits
import Derived.Test.YtghipdfemoofhaaGreatDoorKXWant0
namespace Go.Proofs.YtghipdfemoofhaaGreatDoor
open Go.RowKit
set_option maxRecDepth 100000 in
set_option maxHeartbeats 6400000 in
theorem sameRunB_any (w : World) (tb : Nat) (r r' : RunX) (ta xa : Option Addr) (tc xc : Nat) (ht : tb < w.heap.size) (hc : w.rangeAt tb 0 (r.cells ta tc)) (hl : r.texts.length ≤ 1048576) (hl' : r'.texts.length ≤ 1048576) (hS : Strs w ta r.texts) (hS' : Strs w xa r'.texts) :
    Calls Tryz.prog 82 #[.pointer (some ⟨tb, 0, none⟩), .agg #[.string r'.name, .bool r'.over, .bool r'.fail, .string r'.text, .int .i64 r'.at', .int .i64 r'.visits, .slice xa r'.texts.length xc]] w
      fun e w' => Says e (r = r') ∧ Kept w w' := by
  obtain ⟨n, ov, fl, tx, at1, vi, ts⟩ := r
  obtain ⟨n', ov', fl', tx', at1', vi', ts'⟩ := r'
  dsimp only at hl hl' hS hS' ⊢
  have k0 : Kept w (w.alloc (.cells #[.string n', .bool ov', .bool fl', .string tx', .int .i64 at1', .int .i64 vi', .slice xa ts'.length xc] 72)) := (Kept.refl _).alloc _
  have hne : ¬ tb = w.heap.size := by omega
  have htW : tb < (w.alloc (.cells #[.string n', .bool ov', .bool fl', .string tx', .int .i64 at1', .int .i64 vi', .slice xa ts'.length xc] 72)).heap.size := by simp; omega
  have hxW : w.heap.size < (w.alloc (.cells #[.string n', .bool ov', .bool fl', .string tx', .int .i64 at1', .int .i64 vi', .slice xa ts'.length xc] 72)).heap.size := by simp
  have c0 : (w.alloc (.cells #[.string n', .bool ov', .bool fl', .string tx', .int .i64 at1', .int .i64 vi', .slice xa ts'.length xc] 72)).cell? ⟨tb, 0, none⟩ = some (.string n) := (k0.cell ht).trans (by have h := hc 0 _ rfl; simpa using h)
  have d0 : (w.alloc (.cells #[.string n', .bool ov', .bool fl', .string tx', .int .i64 at1', .int .i64 vi', .slice xa ts'.length xc] 72)).cell? ⟨w.heap.size, 0, none⟩ = some (.string n') := range_new w #[.string n', .bool ov', .bool fl', .string tx', .int .i64 at1', .int .i64 vi', .slice xa ts'.length xc] 72 0 _ rfl
  have c1 : (w.alloc (.cells #[.string n', .bool ov', .bool fl', .string tx', .int .i64 at1', .int .i64 vi', .slice xa ts'.length xc] 72)).cell? ⟨tb, 1, none⟩ = some (.bool ov) := (k0.cell ht).trans (by have h := hc 1 _ rfl; simpa using h)
  have d1 : (w.alloc (.cells #[.string n', .bool ov', .bool fl', .string tx', .int .i64 at1', .int .i64 vi', .slice xa ts'.length xc] 72)).cell? ⟨w.heap.size, 1, none⟩ = some (.bool ov') := range_new w #[.string n', .bool ov', .bool fl', .string tx', .int .i64 at1', .int .i64 vi', .slice xa ts'.length xc] 72 1 _ rfl
  have c2 : (w.alloc (.cells #[.string n', .bool ov', .bool fl', .string tx', .int .i64 at1', .int .i64 vi', .slice xa ts'.length xc] 72)).cell? ⟨tb, 2, none⟩ = some (.bool fl) := (k0.cell ht).trans (by have h := hc 2 _ rfl; simpa using h)
  have d2 : (w.alloc (.cells #[.string n', .bool ov', .bool fl', .string tx', .int .i64 at1', .int .i64 vi', .slice xa ts'.length xc] 72)).cell? ⟨w.heap.size, 2, none⟩ = some (.bool fl') := range_new w #[.string n', .bool ov', .bool fl', .string tx', .int .i64 at1', .int .i64 vi', .slice xa ts'.length xc] 72 2 _ rfl
  have c3 : (w.alloc (.cells #[.string n', .bool ov', .bool fl', .string tx', .int .i64 at1', .int .i64 vi', .slice xa ts'.length xc] 72)).cell? ⟨tb, 3, none⟩ = some (.string tx) := (k0.cell ht).trans (by have h := hc 3 _ rfl; simpa using h)
  have d3 : (w.alloc (.cells #[.string n', .bool ov', .bool fl', .string tx', .int .i64 at1', .int .i64 vi', .slice xa ts'.length xc] 72)).cell? ⟨w.heap.size, 3, none⟩ = some (.string tx') := range_new w #[.string n', .bool ov', .bool fl', .string tx', .int .i64 at1', .int .i64 vi', .slice xa ts'.length xc] 72 3 _ rfl
  have c4 : (w.alloc (.cells #[.string n', .bool ov', .bool fl', .string tx', .int .i64 at1', .int .i64 vi', .slice xa ts'.length xc] 72)).cell? ⟨tb, 4, none⟩ = some (.int .i64 at1) := (k0.cell ht).trans (by have h := hc 4 _ rfl; simpa using h)
  have d4 : (w.alloc (.cells #[.string n', .bool ov', .bool fl', .string tx', .int .i64 at1', .int .i64 vi', .slice xa ts'.length xc] 72)).cell? ⟨w.heap.size, 4, none⟩ = some (.int .i64 at1') := range_new w #[.string n', .bool ov', .bool fl', .string tx', .int .i64 at1', .int .i64 vi', .slice xa ts'.length xc] 72 4 _ rfl
  have c5 : (w.alloc (.cells #[.string n', .bool ov', .bool fl', .string tx', .int .i64 at1', .int .i64 vi', .slice xa ts'.length xc] 72)).cell? ⟨tb, 5, none⟩ = some (.int .i64 vi) := (k0.cell ht).trans (by have h := hc 5 _ rfl; simpa using h)
  have d5 : (w.alloc (.cells #[.string n', .bool ov', .bool fl', .string tx', .int .i64 at1', .int .i64 vi', .slice xa ts'.length xc] 72)).cell? ⟨w.heap.size, 5, none⟩ = some (.int .i64 vi') := range_new w #[.string n', .bool ov', .bool fl', .string tx', .int .i64 at1', .int .i64 vi', .slice xa ts'.length xc] 72 5 _ rfl
  have c6 : (w.alloc (.cells #[.string n', .bool ov', .bool fl', .string tx', .int .i64 at1', .int .i64 vi', .slice xa ts'.length xc] 72)).cell? ⟨tb, 6, none⟩ = some (.slice ta ts.length tc) := (k0.cell ht).trans (by have h := hc 6 _ rfl; simpa using h)
  have d6 : (w.alloc (.cells #[.string n', .bool ov', .bool fl', .string tx', .int .i64 at1', .int .i64 vi', .slice xa ts'.length xc] 72)).cell? ⟨w.heap.size, 6, none⟩ = some (.slice xa ts'.length xc) := range_new w #[.string n', .bool ov', .bool fl', .string tx', .int .i64 at1', .int .i64 vi', .slice xa ts'.length xc] 72 6 _ rfl
  clear hc
  go_enter Tryz.func82, Tryz.ntmps82
  go_upto_region 1 with fail
  generalize hW : (w.alloc (.cells #[.string n', .bool ov', .bool fl', .string tx', .int .i64 at1', .int .i64 vi', .slice xa ts'.length xc] 72)) = W at *
  clear hW
  go_cut [5] from 7 to 34 (fun s5 wx => Kept W wx ∧ s5 = .bool (decide (ov = ov' ∧ fl = fl' ∧ tx = tx')))
  case first =>
    by_cases h1 : ov = ov'
    · have b1 : (ov == ov') = true := by simp [h1]
      by_cases h2 : fl = fl'
      · have b2 : (fl == fl') = true := by simp [h2]
        have H1 := hide h1
        have H2 := hide h2
        clear h1 h2
        cases h3 : (tx.toList == tx'.toList)
        · go_region
          all_goals
            go_wp2_with fail
            go_meet
            exact ⟨(Kept.refl _).drew, by rw [decide_eq_false (fun h => beq_no h3 (by rw [h.2.2]))]⟩
        · go_region
          all_goals
            go_wp2_with fail
            go_meet
            exact ⟨(Kept.refl _).drew, by rw [decide_eq_true ⟨H1.out, H2.out, beq_yes h3⟩]⟩
      · have b2 : (fl == fl') = false := by simp [h2]
        have H1 := hide h1
        have H2 := hide h2
        clear h1 h2
        go_region
        all_goals
          go_wp2_with fail
          go_meet
          exact ⟨(Kept.refl _).drew, by rw [decide_eq_false (fun h => H2.out h.2.1)]⟩
    · have b1 : (ov == ov') = false := by simp [h1]
      have H1 := hide h1
      clear h1
      go_region
      all_goals
        go_wp2_with fail
        go_meet
        exact ⟨(Kept.refl _).drew, by rw [decide_eq_false (fun h => H1.out h.1)]⟩
  case rest =>
    obtain ⟨kk, rfl⟩ := hcut
    generalize hE : decide (ov = ov' ∧ fl = fl' ∧ tx = tx') = sE
    have HE := hide hE
    clear hE
    obtain ⟨wA, rfl⟩ : ∃ wA, wA = wc := ⟨_, rfl⟩
    have t0 : wA.cell? ⟨tb, 0, none⟩ = some (.string n) := (kk.cell htW).trans c0
    have x0 : wA.cell? ⟨w.heap.size, 0, none⟩ = some (.string n') := (kk.cell hxW).trans d0
    have t1 : wA.cell? ⟨tb, 1, none⟩ = some (.bool ov) := (kk.cell htW).trans c1
    have x1 : wA.cell? ⟨w.heap.size, 1, none⟩ = some (.bool ov') := (kk.cell hxW).trans d1
    have t2 : wA.cell? ⟨tb, 2, none⟩ = some (.bool fl) := (kk.cell htW).trans c2
    have x2 : wA.cell? ⟨w.heap.size, 2, none⟩ = some (.bool fl') := (kk.cell hxW).trans d2
    have t3 : wA.cell? ⟨tb, 3, none⟩ = some (.string tx) := (kk.cell htW).trans c3
    have x3 : wA.cell? ⟨w.heap.size, 3, none⟩ = some (.string tx') := (kk.cell hxW).trans d3
    have t4 : wA.cell? ⟨tb, 4, none⟩ = some (.int .i64 at1) := (kk.cell htW).trans c4
    have x4 : wA.cell? ⟨w.heap.size, 4, none⟩ = some (.int .i64 at1') := (kk.cell hxW).trans d4
    have t5 : wA.cell? ⟨tb, 5, none⟩ = some (.int .i64 vi) := (kk.cell htW).trans c5
    have x5 : wA.cell? ⟨w.heap.size, 5, none⟩ = some (.int .i64 vi') := (kk.cell hxW).trans d5
    have t6 : wA.cell? ⟨tb, 6, none⟩ = some (.slice ta ts.length tc) := (kk.cell htW).trans c6
    have x6 : wA.cell? ⟨w.heap.size, 6, none⟩ = some (.slice xa ts'.length xc) := (kk.cell hxW).trans d6
    clear c0 c1 c2 c3 c4 c5 c6 d0 d1 d2 d3 d4 d5 d6
    have K1 := k0.trans kk
    have htA : tb < wA.heap.size := Nat.lt_of_lt_of_le htW kk.size
    have hxA : w.heap.size < wA.heap.size := Nat.lt_of_lt_of_le hxW kk.size
    clear kk htW hxW k0
    go_upto_region 2 with fail
    go_cut [6] from 35 to 52 (fun s6 wx => Kept wA wx ∧ s6 = .bool (decide (at1 = at1' ∧ vi = vi')))
    case first =>
      by_cases h1 : at1 = at1'
      · have b1 : (at1 == at1') = true := by simp [h1]
        have H1 := hide h1
        clear h1
        by_cases h2 : vi = vi'
        · have b2 : (vi == vi') = true := by simp [h2]
          have H2 := hide h2
          clear h2
          go_region
          all_goals
            go_wp2_with fail
            go_meet
            exact ⟨(Kept.refl _).drew, by rw [decide_eq_true ⟨H1.out, H2.out⟩]⟩
        · have b2 : (vi == vi') = false := by simp [h2]
          have H2 := hide h2
          clear h2
          go_region
          all_goals
            go_wp2_with fail
            go_meet
            exact ⟨(Kept.refl _).drew, by rw [decide_eq_false (fun h => H2.out h.2)]⟩
      · have b1 : (at1 == at1') = false := by simp [h1]
        have H1 := hide h1
        clear h1
        go_region
        all_goals
          go_wp2_with fail
          go_meet
          exact ⟨(Kept.refl _).drew, by rw [decide_eq_false (fun h => H1.out h.1)]⟩
    case rest =>
      obtain ⟨kk, rfl⟩ := hcut
      obtain ⟨wB, rfl⟩ : ∃ wB, wB = wc := ⟨_, rfl⟩
      generalize hP : decide (at1 = at1' ∧ vi = vi') = sP
      have HP := hide hP
      clear hP
      have u0 : wB.cell? ⟨tb, 0, none⟩ = some (.string n) := (kk.cell htA).trans t0
      have y0 : wB.cell? ⟨w.heap.size, 0, none⟩ = some (.string n') := (kk.cell hxA).trans x0
      have u1 : wB.cell? ⟨tb, 1, none⟩ = some (.bool ov) := (kk.cell htA).trans t1
      have y1 : wB.cell? ⟨w.heap.size, 1, none⟩ = some (.bool ov') := (kk.cell hxA).trans x1
      have u2 : wB.cell? ⟨tb, 2, none⟩ = some (.bool fl) := (kk.cell htA).trans t2
      have y2 : wB.cell? ⟨w.heap.size, 2, none⟩ = some (.bool fl') := (kk.cell hxA).trans x2
      have u3 : wB.cell? ⟨tb, 3, none⟩ = some (.string tx) := (kk.cell htA).trans t3
      have y3 : wB.cell? ⟨w.heap.size, 3, none⟩ = some (.string tx') := (kk.cell hxA).trans x3
      have u4 : wB.cell? ⟨tb, 4, none⟩ = some (.int .i64 at1) := (kk.cell htA).trans t4
      have y4 : wB.cell? ⟨w.heap.size, 4, none⟩ = some (.int .i64 at1') := (kk.cell hxA).trans x4
      have u5 : wB.cell? ⟨tb, 5, none⟩ = some (.int .i64 vi) := (kk.cell htA).trans t5
      have y5 : wB.cell? ⟨w.heap.size, 5, none⟩ = some (.int .i64 vi') := (kk.cell hxA).trans x5
      have u6 : wB.cell? ⟨tb, 6, none⟩ = some (.slice ta ts.length tc) := (kk.cell htA).trans t6
      have y6 : wB.cell? ⟨w.heap.size, 6, none⟩ = some (.slice xa ts'.length xc) := (kk.cell hxA).trans x6
      have K2 := K1.trans kk
      have htB : tb < wB.heap.size := Nat.lt_of_lt_of_le htA kk.size
      have hxB : w.heap.size < wB.heap.size := Nat.lt_of_lt_of_le hxA kk.size
      clear kk htA hxA K1 t0 t1 t2 t3 t4 t5 t6 x0 x1 x2 x3 x4 x5 x6
      have hT := hS.kept K2
      have hX := hS'.kept K2
      clear hS hS'
      go_upto_region 3 with fail
      cases h0 : (n.toList == n'.toList)
      · go_region
        all_goals
          go_wp2_with fail
          go_ret
          exact ⟨Says.no (by simp [beq_no h0]), K2.drew⟩
      · have E0 := hide (beq_yes h0)
        cases sE
        · have hno := of_decide_eq_false HE.out
          have HN := hide hno
          clear hno
          go_region
          all_goals
            go_wp2_with fail
            go_ret
            exact ⟨Says.no (fun h => absurd (by first | exact ⟨h.2.1, h.2.2.1, h.2.2.2.1⟩ | (rw [RunX.mk.injEq] at h; exact ⟨h.2.1, h.2.2.1, h.2.2.2.1⟩)) HN.out), K2.drew⟩
        · cases sP
          · have hno := of_decide_eq_false HP.out
            have HN := hide hno
            clear hno
            go_region
            all_goals
              go_wp2_with fail
              go_ret
              exact ⟨Says.no (fun h => absurd (by first | exact ⟨h.2.2.2.2.1, h.2.2.2.2.2.1⟩ | (rw [RunX.mk.injEq] at h; exact ⟨h.2.2.2.2.1, h.2.2.2.2.2.1⟩)) HN.out), K2.drew⟩
          · have HS0 : True := trivial
            have hSof : ∀ w', Kept wB w' → (fun w' => w'.cell? ⟨tb, 0, none⟩ = some (.string n) ∧ w'.cell? ⟨w.heap.size, 0, none⟩ = some (.string n') ∧ w'.cell? ⟨tb, 6, none⟩ = some (.slice ta ts.length tc) ∧ w'.cell? ⟨w.heap.size, 6, none⟩ = some (.slice xa ts'.length xc)) w' := fun w' kk => ⟨(kk.cell htB).trans u0, (kk.cell hxB).trans y0, (kk.cell htB).trans u6, (kk.cell hxB).trans y6⟩
            have HSO := hide hSof
            clear hSof
            refine UpTo.region (by kernel_rfl) (fun w' => w'.cell? ⟨tb, 0, none⟩ = some (.string n) ∧ w'.cell? ⟨w.heap.size, 0, none⟩ = some (.string n') ∧ w'.cell? ⟨tb, 6, none⟩ = some (.slice ta ts.length tc) ∧ w'.cell? ⟨w.heap.size, 6, none⟩ = some (.slice xa ts'.length xc)) 24 (HSO.out _ ((Kept.refl wB).drew)) (fun hHeld => ?_)
            have KD : Kept wB wB.drew := (Kept.refl wB).drew
            generalize hwd : wB.drew = wd at hHeld KD ⊢
            clear hwd
            refine UpTo.tk 0 [1, 2, 3, 4, 7, 8, 9, 10, 11, 12, 13, 14, 15, 16, 17, 18, 19, 20, 21, 22, 23, 24] ?_ hHeld ?_ ?_
            rotate_left
            · intro u hu; (try dsimp only at hu); go_simp; (try with_reducible rfl)
            try simp only [Act.put, List.setIfInBounds_toArray, List.set_cons_zero, List.set_cons_succ]
            refine UpTo.tk 1 [2, 3, 4, 7, 8, 9, 10, 11, 12, 13, 14, 15, 16, 17, 18, 19, 20, 21, 22, 23, 24] ?_ hHeld ?_ ?_
            rotate_left
            · intro u hu; (try dsimp only at hu); go_simp; (try with_reducible rfl)
            try simp only [Act.put, List.setIfInBounds_toArray, List.set_cons_zero, List.set_cons_succ]
            refine UpTo.tk 2 [3, 4, 7, 8, 9, 10, 11, 12, 13, 14, 15, 16, 17, 18, 19, 20, 21, 22, 23, 24] ?_ hHeld ?_ ?_
            rotate_left
            · intro u hu; (try dsimp only at hu); go_simp; (try with_reducible rfl)
            try simp only [Act.put, List.setIfInBounds_toArray, List.set_cons_zero, List.set_cons_succ]
            refine UpTo.tk 3 [4, 7, 8, 9, 10, 11, 12, 13, 14, 15, 16, 17, 18, 19, 20, 21, 22, 23, 24] ?_ hHeld ?_ ?_
            rotate_left
            · intro u hu; (try dsimp only at hu); go_simp; (try with_reducible rfl)
            try simp only [Act.put, List.setIfInBounds_toArray, List.set_cons_zero, List.set_cons_succ]
            refine UpTo.tk 4 [7, 8, 9, 10, 11, 12, 13, 14, 15, 16, 17, 18, 19, 20, 21, 22, 23, 24] ?_ hHeld ?_ ?_
            rotate_left
            · intro u hu; (try dsimp only at hu); go_simp; (try with_reducible rfl)
            try simp only [Act.put, List.setIfInBounds_toArray, List.set_cons_zero, List.set_cons_succ]
            refine UpTo.tk 5 [6, 7, 8, 9, 10, 11, 12, 13, 14, 15, 16, 17, 18, 19, 20, 21, 22, 23, 24] ?_ hHeld ?_ ?_
            rotate_left
            · intro u hu; (try dsimp only at hu); go_simp; (try with_reducible rfl)
            try simp only [Act.put, List.setIfInBounds_toArray, List.set_cons_zero, List.set_cons_succ]
            refine UpTo.tk 6 [7, 8, 9, 10, 11, 12, 13, 14, 15, 16, 17, 18, 19, 20, 21, 22, 23, 24] ?_ hHeld ?_ ?_
            rotate_left
            · intro u hu; (try dsimp only at hu); go_simp; (try with_reducible rfl)
            try simp only [Act.put, List.setIfInBounds_toArray, List.set_cons_zero, List.set_cons_succ]
            refine UpTo.tk 7 [8, 9, 10, 11, 12, 13, 14, 15, 16, 17, 18, 19, 20, 21, 22, 23, 24] ?_ hHeld ?_ ?_
            rotate_left
            · intro u hu; (try dsimp only at hu); go_simp; (try with_reducible rfl)
            try simp only [Act.put, List.setIfInBounds_toArray, List.set_cons_zero, List.set_cons_succ]
            refine UpTo.tk 8 [9, 10, 11, 12, 13, 14, 15, 16, 17, 18, 19, 20, 21, 22, 23, 24] ?_ hHeld ?_ ?_
            rotate_left
            · intro u hu; (try dsimp only at hu); go_simp; (try with_reducible rfl)
            try simp only [Act.put, List.setIfInBounds_toArray, List.set_cons_zero, List.set_cons_succ]
            refine UpTo.tk 9 [10, 11, 12, 13, 14, 15, 16, 17, 18, 19, 20, 21, 22, 23, 24] ?_ hHeld ?_ ?_
            rotate_left
            · intro u hu; (try dsimp only at hu); go_simp; (try with_reducible rfl)
            try simp only [Act.put, List.setIfInBounds_toArray, List.set_cons_zero, List.set_cons_succ]
            refine UpTo.tk 10 [11, 12, 13, 14, 15, 16, 17, 18, 19, 20, 21, 22, 23, 24] ?_ hHeld ?_ ?_
            rotate_left
            · intro u hu; (try dsimp only at hu); go_simp; (try with_reducible rfl)
            try simp only [Act.put, List.setIfInBounds_toArray, List.set_cons_zero, List.set_cons_succ]
            refine UpTo.tk 11 [12, 13, 14, 15, 16, 17, 18, 19, 20, 21, 22, 23, 24] ?_ hHeld ?_ ?_
            rotate_left
            · intro u hu; (try dsimp only at hu); go_simp; (try with_reducible rfl)
            try simp only [Act.put, List.setIfInBounds_toArray, List.set_cons_zero, List.set_cons_succ]
            refine UpTo.tk 12 [13, 14, 15, 16, 17, 18, 19, 20, 21, 22, 23, 24] ?_ hHeld ?_ ?_
            rotate_left
            · intro u hu; (try dsimp only at hu); go_simp; (try with_reducible rfl)
            try simp only [Act.put, List.setIfInBounds_toArray, List.set_cons_zero, List.set_cons_succ]
            refine UpTo.tk 13 [14, 15, 16, 17, 18, 19, 20, 21, 22, 23, 24] ?_ hHeld ?_ ?_
            rotate_left
            · intro u hu; (try dsimp only at hu); go_simp; (try with_reducible rfl)
            try simp only [Act.put, List.setIfInBounds_toArray, List.set_cons_zero, List.set_cons_succ]
            refine UpTo.tk 14 [15, 16, 17, 18, 19, 20, 21, 22, 23, 24] ?_ hHeld ?_ ?_
            rotate_left
            · intro u hu; (try dsimp only at hu); go_simp; (try with_reducible rfl)
            try simp only [Act.put, List.setIfInBounds_toArray, List.set_cons_zero, List.set_cons_succ]
            refine UpTo.tk 15 [16, 17, 18, 19, 22, 23, 24] ?_ hHeld ?_ ?_
            rotate_left
            · intro u hu; (try dsimp only at hu); go_simp; (try with_reducible rfl)
            try simp only [Act.put, List.setIfInBounds_toArray, List.set_cons_zero, List.set_cons_succ]
            refine UpTo.tk 16 [17, 18, 19, 22, 23, 24] ?_ hHeld ?_ ?_
            rotate_left
            · intro u hu; (try dsimp only at hu); go_simp; (try with_reducible rfl)
            try simp only [Act.put, List.setIfInBounds_toArray, List.set_cons_zero, List.set_cons_succ]
            refine UpTo.tk 17 [18, 19, 22, 23, 24] ?_ hHeld ?_ ?_
            rotate_left
            · intro u hu; (try dsimp only at hu); go_simp; (try with_reducible rfl)
            try simp only [Act.put, List.setIfInBounds_toArray, List.set_cons_zero, List.set_cons_succ]
            refine UpTo.tk 18 [19, 22, 23, 24] ?_ hHeld ?_ ?_
            rotate_left
            · intro u hu; (try dsimp only at hu); go_simp; (try with_reducible rfl)
            try simp only [Act.put, List.setIfInBounds_toArray, List.set_cons_zero, List.set_cons_succ]
            refine UpTo.tk 19 [22, 23, 24] ?_ hHeld ?_ ?_
            rotate_left
            · intro u hu; (try dsimp only at hu); go_simp; (try with_reducible rfl)
            try simp only [Act.put, List.setIfInBounds_toArray, List.set_cons_zero, List.set_cons_succ]
            refine UpTo.tk 20 [21, 22, 23, 24] ?_ hHeld ?_ ?_
            rotate_left
            · intro u hu; (try dsimp only at hu); go_simp; (try with_reducible rfl)
            try simp only [Act.put, List.setIfInBounds_toArray, List.set_cons_zero, List.set_cons_succ]
            refine UpTo.tk 21 [22, 23, 24] ?_ hHeld ?_ ?_
            rotate_left
            · intro u hu; (try dsimp only at hu); go_simp; (try with_reducible rfl)
            try simp only [Act.put, List.setIfInBounds_toArray, List.set_cons_zero, List.set_cons_succ]
            refine UpTo.nx 22 (fun K hK => ?_)
            rw [if_pos (by rfl)]
            go_simp
            go_at_call 122
            refine (equalTexts_any _ ta xa tc xc ts ts' hl hl' (hT.kept KD) (hX.kept KD)).mono ?_
            rintro e w1 ⟨rfl, k1⟩
            refine hK.out _ _ (fun _ => HSO.out _ (KD.trans k1)) ?_
            clear hK K
            try simp only [Act.put, List.setIfInBounds_toArray, List.set_cons_zero, List.set_cons_succ]
            refine UpTo.nx 23 (fun K hK => ?_)
            go_simp
            refine hK.out _ _ (fun _ => HSO.out _ (KD.trans k1)) ?_
            clear hK K
            try simp only [Act.put, List.setIfInBounds_toArray, List.set_cons_zero, List.set_cons_succ]
            refine UpTo.nx 24 (fun K hK => ?_)
            go_simp
            refine hK.out _ _ (fun h => absurd rfl h) ?_
            clear hK K
            try simp only [Act.put, List.setIfInBounds_toArray, List.set_cons_zero, List.set_cons_succ]
            refine UpTo.done (by kernel_rfl) ?_
            go_wp2_with fail
            go_ret
            have h1 := of_decide_eq_true HE.out
            have h2 := of_decide_eq_true HP.out
            exact ⟨says_dec (by simp [E0.out, h1.1, h1.2.1, h1.2.2, h2.1, h2.2]), (K2.trans KD).trans k1⟩
theorem Tryz.zeroWS (w : World) : (zeroValue 25).run Tryz.prog w = .ok (.slice none 0 0) w := by kernel_rfl
structure OutM (w : World) (base mo M : Nat) (g : ByteArray → Value) (ol : ByteArray → List ByteArray) : Prop where
  map : ∃ N D, N ≤ M ∧ w.ownsMap Tryz.prog 9 asIs mo N D ∧ ∀ s : ByteArray, s.size ≤ maxLen → D.atKey (keyLit s) (.held (.slice none 0 0)) = .held (g s)
  row : ∀ s, w.ownsRow base 9 1 (g s) (ol s).length ((ol s).map Value.string)
  sep : ∀ s s', s ≠ s' → ∀ x, (g s).ownBlock = some x → (g s').ownBlock ≠ some x
  low : base ≤ mo
section
variable {w w1 w' : World} {base mo M : Nat} {g : ByteArray → Value} {ol : ByteArray → List ByteArray}
theorem OutM.look (h : OutM w base mo M g ol) {s : ByteArray} (hs : s.size ≤ maxLen) : (Instr.lookup 105 (.map (some mo)) (.string s) false).run Tryz.prog w = .ok (g s) w := by
  obtain ⟨N, D, _, hM, hf⟩ := h.map
  obtain ⟨v, ps, hrun, hv⟩ := hM.lookup Tryz.keyed Tryz.underlying105 (Tryz.zeroWS w) (zd := .held (.slice none 0 0)) (zp := []) rfl (WideMaps.keyOf_string_mk Tryz.underlying9 hs)
  have e := hf s hs
  unfold asIs at hv
  simp only [Option.some.injEq, Prod.mk.injEq] at hv
  have e2 : (DataW.held v : DataW Value) = .held (g s) := hv.1.trans e
  cases e2
  exact hrun
theorem OutM.but {S : Nat → Prop} (h : OutM w base mo M g ol) (k : But S w w') (h1 : ¬ S mo) (h2 : ∀ s b, (g s).ownBlock = some b → ¬ S b) : OutM w' base mo M g ol := by
  obtain ⟨N, D, hN, hM, hf⟩ := h.map
  exact ⟨⟨N, D, hN, map_but hM k h1, hf⟩, fun s => k.owns (h.row s) (h2 s), h.sep, h.low⟩
theorem OutM.kept (h : OutM w base mo M g ol) (k : Kept w w') : OutM w' base mo M g ol :=
  h.but (S := fun _ => False) (But.of_kept k) id (fun _ _ _ => id)
theorem OutM.grown_look (h : OutM w base mo M g ol) {s : ByteArray} (hs : s.size ≤ maxLen) (hg : w.grownBy w1 (g s).ownBlock) : (Instr.lookup 105 (.map (some mo)) (.string s) false).run Tryz.prog w1 = .ok (g s) w1 := by
  obtain ⟨N, D, _, hM, hf⟩ := h.map
  have hM1 : w1.ownsMap Tryz.prog 9 asIs mo N D := map_but (S := fun b => (g s).ownBlock = some b) hM (But.of_grown hg (fun b e => e)) (fun e => map_ne hM (owns_type (h.row s) e) rfl)
  obtain ⟨v, ps, hrun, hv⟩ := hM1.lookup Tryz.keyed Tryz.underlying105 (Tryz.zeroWS w1) (zd := .held (.slice none 0 0)) (zp := []) rfl (WideMaps.keyOf_string_mk Tryz.underlying9 hs)
  have e := hf s hs
  unfold asIs at hv
  simp only [Option.some.injEq, Prod.mk.injEq] at hv
  have e2 : (DataW.held v : DataW Value) = .held (g s) := hv.1.trans e
  cases e2
  exact hrun
theorem OutM.put (h : OutM w base mo M g ol) {s : ByteArray} (hs : s.size ≤ maxLen) {x : ByteArray} {v' : Value} (ho : w1.ownsRow base 9 1 v' ((ol s).length + 1) ((ol s).map Value.string ++ [.string x])) (hg : w.grownBy w1 (g s).ownBlock) (hv : ∀ b, v'.ownBlock = some b → (g s).ownBlock = some b ∨ w.heap.size ≤ b) (hmx : M ≤ 1000000) :
    ∃ w2, (Instr.mapUpdate 105 (.map (some mo)) (.string s) v').run Tryz.prog w1 = .ok () w2 ∧ OutM w2 base mo (M + 1) (fun n => if n = s then v' else g n) (fun n => if n = s then ol s ++ [x] else ol n) ∧ But (fun b => (g s).ownBlock = some b ∨ b = mo) w w2 := by
  obtain ⟨N, D, hNl, hM, hf⟩ := h.map
  have k1 : But (fun b => (g s).ownBlock = some b) w w1 := But.of_grown hg (fun b e => e)
  have hM1 := map_but hM k1 (fun e => map_ne hM (owns_type (h.row s) e) rfl)
  obtain ⟨w2, hrun, hM2, hg2⟩ := hM1.update Tryz.keyed Tryz.underlying105 (by unfold maxLen; omega) (WideMaps.keyOf_string_mk Tryz.underlying9 hs) (d := .held v') (ps := []) rfl
  have kS : But (fun b => (g s).ownBlock = some b ∨ b = mo) w w2 := (k1.mono (fun b _ e => .inl e)).trans (But.of_grown hg2 (fun b e => .inr (Option.some.inj e).symm))
  have k2 : But (fun b => b = mo) w1 w2 := But.of_grown hg2 (fun b e => (Option.some.inj e).symm)
  have ne1 : ∀ {b : Nat} {t : TypeId}, TypeAt w1 b t → ¬ b = mo := fun hu e => map_ne hM1 hu e
  have hmp : Maps.IsMap D := by obtain ⟨es, clock, _, _, _, rfl⟩ := hM; exact ⟨_, rfl⟩
  refine ⟨w2, hrun, ⟨⟨N + 1, _, by omega, hM2, fun n hn => ?_⟩, fun n => ?_, fun n n' hnn y hy hy' => ?_, h.low⟩, kS⟩
  · by_cases e : n = s
    · rw [if_pos e, e]
      exact Maps.atKey_put_same (k := keyLit s) hmp (by show WideAt.IsKeyLit (.string _); exact trivial) _ _
    · rw [if_neg e, ← hf n hn]
      exact Maps.atKey_put_other (keyLit_ne e) _ _
  · by_cases e : n = s
    · simp only [if_pos e]
      have e1 : (ol s ++ [x]).length = (ol s).length + 1 := by simp
      have e2 : (ol s ++ [x]).map Value.string = (ol s).map Value.string ++ [.string x] := by simp
      rw [e1, e2]
      exact k2.owns ho (fun b e => ne1 (owns_type ho e))
    · simp only [if_neg e]
      refine kS.owns (h.row n) (fun b e1 e2 => ?_)
      rcases e2 with e2 | e2
      · exact h.sep n s e b e1 e2
      · exact map_ne hM (owns_type (h.row n) e1) e2
  · by_cases e : n = s
    · rw [if_pos e] at hy
      rw [if_neg (fun e' => hnn (e.trans e'.symm))] at hy'
      rcases hv y hy with q | q
      · exact h.sep s n' (fun e' => hnn (e.trans e')) y q hy'
      · have := ((h.row n').lt y hy').2; omega
    · rw [if_neg e] at hy
      by_cases e' : n' = s
      · rw [if_pos e'] at hy'
        rcases hv y hy' with q | q
        · exact h.sep n s e y hy q
        · have := ((h.row n).lt y hy).2; omega
      · rw [if_neg e'] at hy'
        exact h.sep n n' hnn y hy hy'
theorem OutM.made {base : Nat} (hb : base ≤ w.heap.size) : OutM (w.alloc (.map #[] 0)) base w.heap.size 0 (fun _ => .slice none 0 0) (fun _ => []) :=
  ⟨⟨0, .map [], Nat.le_refl _, World.ownsMap_made w Tryz.prog 9 asIs, fun s _ => rfl⟩, fun s => World.ownsRow_nil _ _ _ _, fun s s' _ x h => (by cases h), hb⟩
end
end Go.Proofs.YtghipdfemoofhaaGreatDoor
namespace Go.Proofs.YtghipdfemoofhaaGreatDoor
open Go.RowKit
set_option maxRecDepth 100000 in
set_option maxHeartbeats 3200000 in
theorem l6Put_any (w : World) (b o cap : Nat) (l : List ByteArray) (x : ByteArray) (hl : l.length ≤ 100000) (hcl : l.length ≤ cap) (ha : AscB l) (hS : Strs w (some ⟨b, o, none⟩) l) :
    Calls Tryz.prog 112 #[.slice (some ⟨b, o, none⟩) l.length cap, .string x] w fun e w' => ∃ b' o' c' r, e = .returned (.slice (some ⟨b', o', none⟩) r.length c') ∧ r.length ≤ c' ∧ PutB l x r ∧ Strs w' (some ⟨b', o', none⟩) r ∧ Kept w w' := by
  have HA := hide ha
  clear ha
  go_enter Tryz.func112, Tryz.ntmps112
  go_wp2
  go_loop [5] (fun i => ∃ k : Nat, k ≤ l.length ∧ i = .int .i64 k ∧ Hid (∀ y ∈ l.take k, lessX y x)) (fun i => l.length - (intOf i).toNat)
  case atStart => exact ⟨0, Nat.zero_le _, rfl, hide fun y hy => by cases hy⟩
  case round =>
    obtain ⟨k, hk, rfl, HLs⟩ := hrel
    by_cases hlt : k < l.length
    · obtain ⟨b1, o1, e1, hb, hc⟩ := hS k hlt
      cases e1
      obtain ⟨y, hy⟩ : ∃ y, y = l.getD k ByteArray.empty := ⟨_, rfl⟩
      rw [← hy] at hc
      have hyg : l[k] = y := by rw [hy]; simp [List.getD, hlt]
      have HY := hide hyg
      clear hy hyg
      have hki : (k : Int) < (l.length : Int) := by omega
      cases hle : (Op.bytesLess y.toList x.toList)
      · have HLe := hide hle
        cases heq : (y.toList == x.toList)
        · have HEq := hide heq
          have HGr : Hid (∀ z ∈ l.drop k, lessX x z) := fun z hz => by
            have hxy : lessX x y := by
              rcases lessX_total x y with g | g | g
              · exact g
              · exact absurd g.symm (beq_no HEq.out)
              · unfold lessX at g; rw [HLe.out] at g; cases g
            rw [List.drop_eq_getElem_cons hlt, HY.out] at hz
            rcases List.mem_cons.1 hz with rfl | hz
            · exact hxy
            · obtain ⟨j, hj, rfl⟩ := List.getElem_of_mem hz
              rw [List.getElem_drop]
              have h2 := List.pairwise_iff_getElem.1 HA.out k (k + 1 + j) hlt (by simp at hj; omega) (by omega)
              rw [HY.out] at h2
              exact lessX_trans hxy h2
          have HNo : Hid (x ∉ l) := fun h => by
            rw [← List.take_append_drop k l] at h
            rcases List.mem_append.1 h with h | h
            · exact lessX_irrefl x (HLs.out x h)
            · exact lessX_irrefl x (HGr.out x h)
          obtain ⟨l1, l2, hll, hk1⟩ : ∃ l1 l2, l = l1 ++ l2 ∧ k = l1.length := ⟨l.take k, l.drop k, (List.take_append_drop k l).symm, by simp; omega⟩
          subst hk1
          have HPt : Hid (PutB l x (l1 ++ x :: l2)) := by
            have e1 : l.take l1.length = l1 := by rw [hll]; simp
            have e2 : l.drop l1.length = l2 := by rw [hll]; simp
            refine .inr ⟨HNo.out, l1.length, hk, by rw [e1, e2], HLs.out, HGr.out⟩
          have hl2 : l.length = l1.length + l2.length := by rw [hll, List.length_append]
          have HS1 : Hid (∀ W, Kept w W → Strs W (some ⟨b, o, none⟩) l1) := fun W K i hi => by
            obtain ⟨b', o', e', hb', hc'⟩ := (hS.kept K) i (by omega)
            refine ⟨b', o', e', hb', ?_⟩
            rw [hc', hll]
            simp [List.getD, List.getElem?_append_left hi]
          have HS2 : Hid (∀ W, Kept w W → Strs W (if cap = l1.length then (some ⟨b, o, none⟩ : Option Addr) else some ⟨b, o + l1.length, none⟩) l2) := fun W K i hi => by
            obtain ⟨b', o', e', hb', hc'⟩ := (hS.kept K) (l1.length + i) (by omega)
            cases e'
            rw [if_neg (by omega)]
            refine ⟨b, o + l1.length, rfl, hb', ?_⟩
            rw [Nat.add_assoc, hc', hll]
            simp [List.getD, List.getElem?_append_right]
          have hdl : l.length - l1.length = l2.length := by omega
          have hc1 : l1.length ≤ cap := by omega
          have hc2 : l1.length ≤ l.length := by omega
          have hb1 : l1.length ≤ 100000 := by omega
          have hb2 : l2.length ≤ 100000 := by omega
          have HDl := hide hdl
          obtain ⟨ic, hi0, hi1, hi2, hi3⟩ := xInfo_parts Tryz.xInfoStr
          have HOE : Hid ((w.alloc (.cells #[] 9)).ownsRow w.heap.size 9 1 (.slice (some ⟨w.heap.size, 0, none⟩) 0 0) 0 (([] : List ByteArray).map Value.string)) := World.ownsRow_made w #[] 0 (Nat.le_refl _) (Nat.zero_le _) rfl
          have hzE : w.heap.size ≤ (w.alloc (.cells #[] 9)).heap.size := by simp
          have HKE : Hid (Kept w (w.alloc (.cells #[] 9))) := (Kept.refl _).alloc _
          clear hll hl2 hdl
          go_upto_region 7 with (at_builtin; refine wpList_append_strs rfl (.tmp 34) (.tmp 37) 25 rfl w.heap.size 9 ic _ 16 Tryz.underlying25 hi0 hi1 hi2 hi3 rfl (.slice (some ⟨w.heap.size, 0, none⟩) 0 0) 0 (([] : List ByteArray).map Value.string) rfl HOE.out (some ⟨b, o, none⟩) cap l1 rfl (HS1.out _ HKE.out) (by unfold maxLen; omega) (by omega) hzE ?_; intro v1 w1 ho1 hg1 hv1; rw [Nat.zero_add] at ho1; have HO1 := hide ho1; have KP1 := kept_of_grown HKE.out (Nat.le_refl _) HOE.out hg1; obtain ⟨av1, cv1, rfl⟩ := own_slice ho1; clear ho1 hg1 hv1)
          refine UpTo.region (by kernel_rfl) (fun _ => True) 8 trivial (fun hHeld => ?_)
          have KD : Kept w1 w1.drew := (Kept.refl w1).drew
          generalize hwd : w1.drew = wd at KD ⊢
          clear hwd
          refine UpTo.tk 0 [3, 7, 8] ?_ hHeld ?_ ?_
          rotate_left
          · intro u hu; (try dsimp only at hu); go_simp; (try with_reducible rfl)
          try simp only [Act.put, List.setIfInBounds_toArray, List.set_cons_zero, List.set_cons_succ]
          refine UpTo.tk 1 [2, 3, 7, 8] ?_ hHeld ?_ ?_
          rotate_left
          · intro u hu; (try dsimp only at hu); go_simp; (try with_reducible rfl)
          try simp only [Act.put, List.setIfInBounds_toArray, List.set_cons_zero, List.set_cons_succ]
          refine UpTo.tk 4 [6, 7, 8] ?_ hHeld ?_ ?_
          rotate_left
          · intro u hu; (try dsimp only at hu); go_simp; (try with_reducible rfl)
          try simp only [Act.put, List.setIfInBounds_toArray, List.set_cons_zero, List.set_cons_succ]
          refine UpTo.tk 5 [6, 7, 8] ?_ hHeld ?_ ?_
          rotate_left
          · intro u hu; (try dsimp only at hu); go_simp; (try with_reducible rfl)
          try simp only [Act.put, List.setIfInBounds_toArray, List.set_cons_zero, List.set_cons_succ]
          refine UpTo.tk 6 [7, 8] ?_ hHeld ?_ ?_
          rotate_left
          · intro u hu; (try dsimp only at hu); go_simp; (try with_reducible rfl)
          try simp only [Act.put, List.setIfInBounds_toArray, List.set_cons_zero, List.set_cons_succ]
          generalize hgd : (if cap = l1.length then (some ⟨b, o, none⟩ : Option Addr) else some ⟨b, o + l1.length, none⟩) = ad2 at HS2 ⊢
          clear hgd
          refine UpTo.nx 2 (fun K hK => ?_)
          go_simp
          have K5 : Kept wd (wd.alloc (.cells #[.string x] 9)) := (Kept.refl _).alloc _
          have HNs : Hid (Strs (wd.alloc (.cells #[.string x] 9)) (some ⟨wd.heap.size, 0, none⟩) [x]) := fun q hq => by
            obtain rfl : q = 0 := by simpa using hq
            exact ⟨wd.heap.size, 0, rfl, by simp, range_new wd #[.string x] 9 0 _ rfl⟩
          refine hK.out _ _ (fun _ => trivial) ?_
          clear hK K hHeld
          have K5b := KD.trans K5
          have HO5 := hide (ownsRow_kept' HO1.out K5b)
          obtain ⟨eb, heb⟩ : ∃ eb, eb = wd.heap.size := ⟨_, rfl⟩
          rw [← heb] at HNs ⊢
          generalize hwe : wd.alloc (.cells #[.string x] 9) = w5 at HNs K5b HO5 ⊢
          clear hwe K5 heb
          have KP5 := KP1.trans K5b
          have hz5 := KP5.size
          try simp only [Act.put, List.setIfInBounds_toArray, List.set_cons_zero, List.set_cons_succ]
          refine UpTo.nx 3 (fun K hK => ?_)
          rw [if_pos (by rfl)]
          refine wp_append_strs (.tmp 39) (.tmp 41) 25 rfl w.heap.size 9 ic _ 16 Tryz.underlying25 hi0 hi1 hi2 hi3 rfl (.slice av1 l1.length cv1) l1.length (([] : List ByteArray).map Value.string ++ l1.map Value.string) rfl HO5.out (some ⟨eb, 0, none⟩) 1 [x] rfl HNs.out (by unfold maxLen; simp; omega) (by simp; omega) hz5 ?_
          intro v6 w6 ho6 hg6 hv6
          have HO6 := hide ho6
          have KP6 := kept_of_grown KP5 (Nat.le_refl _) HO5.out hg6
          obtain ⟨av6, cv6, rfl⟩ := own_slice ho6
          have hz6 := KP6.size
          refine hK.out _ _ (fun _ => trivial) ?_
          clear hK K ho6 hg6 hv6
          try simp only [Act.put, List.setIfInBounds_toArray, List.set_cons_zero, List.set_cons_succ]
          refine UpTo.nx 7 (fun K hK => ?_)
          rw [if_pos (by rfl)]
          refine wp_append_strs (.tmp 42) (.tmp 45) 25 rfl w.heap.size 9 ic _ 16 Tryz.underlying25 hi0 hi1 hi2 hi3 rfl (.slice av6 (l1.length + [x].length) cv6) (l1.length + [x].length) ((([] : List ByteArray).map Value.string ++ l1.map Value.string) ++ [x].map Value.string) rfl HO6.out ad2 (cap - l1.length) l2 (by rw [← HDl.out]; rfl) (HS2.out _ KP6) (by unfold maxLen; simp; omega) (by simp; omega) hz6 ?_
          intro v7 w7 ho7 hg7 hv7
          have HO7 := hide ho7
          have KP7 := kept_of_grown KP6 (Nat.le_refl _) HO6.out hg7
          refine hK.out _ _ (fun _ => trivial) ?_
          clear hK K ho7 hg7 hv7
          try simp only [Act.put, List.setIfInBounds_toArray, List.set_cons_zero, List.set_cons_succ]
          refine UpTo.nx 8 (fun K hK => ?_)
          go_simp
          refine hK.out _ _ (fun h => absurd rfl h) ?_
          clear hK K
          try simp only [Act.put, List.setIfInBounds_toArray, List.set_cons_zero, List.set_cons_succ]
          refine UpTo.done (by kernel_rfl) ?_
          go_wp2
          go_ret
          have hlen : (l1 ++ x :: l2).length = l1.length + [x].length + l2.length := by simp; omega
          have ho : w7.ownsRow w.heap.size 9 1 v7 (l1 ++ x :: l2).length ((l1 ++ x :: l2).map Value.string) := by
            have h := HO7.out
            rw [hlen]
            have e : (l1 ++ x :: l2).map Value.string = ((([] : List ByteArray).map Value.string ++ l1.map Value.string) ++ [x].map Value.string) ++ l2.map Value.string := by simp
            rw [e]
            exact h
          rcases ho.2 with ⟨_, h0⟩ | ⟨g, cap7, cur7, e7, _, _, hn7, _, _, _⟩
          · simp at h0
          · obtain ⟨a9, c9, e9, h9⟩ := owned_strs ho
            rw [e7] at e9
            simp only [Value.slice.injEq, true_and] at e9
            rw [← e9.1] at h9
            exact ⟨g, 0, cap7, _, by rw [e7]; rfl, hn7, HPt.out, h9, KP7⟩
        · have HEq := hide (beq_yes heq)
          go_wp2
          go_ret
          exact ⟨b, o, cap, l, rfl, hcl, .inl ⟨by rw [← HEq.out, ← HY.out]; exact List.getElem_mem hlt, rfl⟩, hS, Kept.refl _⟩
      · have HLe := hide hle
        go_wp2
        go_round
        case rel =>
          refine ⟨k + 1, by omega, by go_num, hide fun z hz => ?_⟩
          rw [List.take_succ_eq_append_getElem hlt] at hz
          rcases List.mem_append.1 hz with hz | hz
          · exact HLs.out z hz
          · rw [List.mem_singleton, HY.out] at hz
            rw [hz]; exact HLe.out
        case measure => simp [intOf]; omega
    · have hke : k = l.length := by omega
      have HGr : Hid (∀ z ∈ l.drop k, lessX x z) := fun z hz => by rw [hke, List.drop_length] at hz; cases hz
      have HNo : Hid (x ∉ l) := fun h => by
        rw [← List.take_append_drop k l] at h
        rcases List.mem_append.1 h with h | h
        · exact lessX_irrefl x (HLs.out x h)
        · exact lessX_irrefl x (HGr.out x h)
      obtain ⟨l1, l2, hll, hk1⟩ : ∃ l1 l2, l = l1 ++ l2 ∧ k = l1.length := ⟨l.take k, l.drop k, (List.take_append_drop k l).symm, by simp; omega⟩
      subst hk1
      have HPt : Hid (PutB l x (l1 ++ x :: l2)) := by
        have e1 : l.take l1.length = l1 := by rw [hll]; simp
        have e2 : l.drop l1.length = l2 := by rw [hll]; simp
        refine .inr ⟨HNo.out, l1.length, hk, by rw [e1, e2], HLs.out, HGr.out⟩
      have hl2 : l.length = l1.length + l2.length := by rw [hll, List.length_append]
      have HS1 : Hid (∀ W, Kept w W → Strs W (some ⟨b, o, none⟩) l1) := fun W K i hi => by
        obtain ⟨b', o', e', hb', hc'⟩ := (hS.kept K) i (by omega)
        refine ⟨b', o', e', hb', ?_⟩
        rw [hc', hll]
        simp [List.getD, List.getElem?_append_left hi]
      have HS2 : Hid (∀ W, Kept w W → Strs W (if cap = l1.length then (some ⟨b, o, none⟩ : Option Addr) else some ⟨b, o + l1.length, none⟩) l2) := fun W K i hi => by
        obtain ⟨b', o', e', hb', hc'⟩ := (hS.kept K) (l1.length + i) (by omega)
        cases e'
        rw [if_neg (by omega)]
        refine ⟨b, o + l1.length, rfl, hb', ?_⟩
        rw [Nat.add_assoc, hc', hll]
        simp [List.getD, List.getElem?_append_right]
      have hdl : l.length - l1.length = l2.length := by omega
      have hc1 : l1.length ≤ cap := by omega
      have hc2 : l1.length ≤ l.length := by omega
      have hb1 : l1.length ≤ 100000 := by omega
      have hb2 : l2.length ≤ 100000 := by omega
      have HDl := hide hdl
      obtain ⟨ic, hi0, hi1, hi2, hi3⟩ := xInfo_parts Tryz.xInfoStr
      have HOE : Hid ((w.alloc (.cells #[] 9)).ownsRow w.heap.size 9 1 (.slice (some ⟨w.heap.size, 0, none⟩) 0 0) 0 (([] : List ByteArray).map Value.string)) := World.ownsRow_made w #[] 0 (Nat.le_refl _) (Nat.zero_le _) rfl
      have hzE : w.heap.size ≤ (w.alloc (.cells #[] 9)).heap.size := by simp
      have HKE : Hid (Kept w (w.alloc (.cells #[] 9))) := (Kept.refl _).alloc _
      clear hll hl2 hdl hke
      go_upto_region 7 with (at_builtin; refine wpList_append_strs rfl (.tmp 34) (.tmp 37) 25 rfl w.heap.size 9 ic _ 16 Tryz.underlying25 hi0 hi1 hi2 hi3 rfl (.slice (some ⟨w.heap.size, 0, none⟩) 0 0) 0 (([] : List ByteArray).map Value.string) rfl HOE.out (some ⟨b, o, none⟩) cap l1 rfl (HS1.out _ HKE.out) (by unfold maxLen; omega) (by omega) hzE ?_; intro v1 w1 ho1 hg1 hv1; rw [Nat.zero_add] at ho1; have HO1 := hide ho1; have KP1 := kept_of_grown HKE.out (Nat.le_refl _) HOE.out hg1; obtain ⟨av1, cv1, rfl⟩ := own_slice ho1; clear ho1 hg1 hv1)
      refine UpTo.region (by kernel_rfl) (fun _ => True) 8 trivial (fun hHeld => ?_)
      have KD : Kept w1 w1.drew := (Kept.refl w1).drew
      generalize hwd : w1.drew = wd at KD ⊢
      clear hwd
      refine UpTo.tk 0 [3, 7, 8] ?_ hHeld ?_ ?_
      rotate_left
      · intro u hu; (try dsimp only at hu); go_simp; (try with_reducible rfl)
      try simp only [Act.put, List.setIfInBounds_toArray, List.set_cons_zero, List.set_cons_succ]
      refine UpTo.tk 1 [2, 3, 7, 8] ?_ hHeld ?_ ?_
      rotate_left
      · intro u hu; (try dsimp only at hu); go_simp; (try with_reducible rfl)
      try simp only [Act.put, List.setIfInBounds_toArray, List.set_cons_zero, List.set_cons_succ]
      refine UpTo.tk 4 [6, 7, 8] ?_ hHeld ?_ ?_
      rotate_left
      · intro u hu; (try dsimp only at hu); go_simp; (try with_reducible rfl)
      try simp only [Act.put, List.setIfInBounds_toArray, List.set_cons_zero, List.set_cons_succ]
      refine UpTo.tk 5 [6, 7, 8] ?_ hHeld ?_ ?_
      rotate_left
      · intro u hu; (try dsimp only at hu); go_simp; (try with_reducible rfl)
      try simp only [Act.put, List.setIfInBounds_toArray, List.set_cons_zero, List.set_cons_succ]
      refine UpTo.tk 6 [7, 8] ?_ hHeld ?_ ?_
      rotate_left
      · intro u hu; (try dsimp only at hu); go_simp; (try with_reducible rfl)
      try simp only [Act.put, List.setIfInBounds_toArray, List.set_cons_zero, List.set_cons_succ]
      generalize hgd : (if cap = l1.length then (some ⟨b, o, none⟩ : Option Addr) else some ⟨b, o + l1.length, none⟩) = ad2 at HS2 ⊢
      clear hgd
      refine UpTo.nx 2 (fun K hK => ?_)
      go_simp
      have K5 : Kept wd (wd.alloc (.cells #[.string x] 9)) := (Kept.refl _).alloc _
      have HNs : Hid (Strs (wd.alloc (.cells #[.string x] 9)) (some ⟨wd.heap.size, 0, none⟩) [x]) := fun q hq => by
        obtain rfl : q = 0 := by simpa using hq
        exact ⟨wd.heap.size, 0, rfl, by simp, range_new wd #[.string x] 9 0 _ rfl⟩
      refine hK.out _ _ (fun _ => trivial) ?_
      clear hK K hHeld
      have K5b := KD.trans K5
      have HO5 := hide (ownsRow_kept' HO1.out K5b)
      obtain ⟨eb, heb⟩ : ∃ eb, eb = wd.heap.size := ⟨_, rfl⟩
      rw [← heb] at HNs ⊢
      generalize hwe : wd.alloc (.cells #[.string x] 9) = w5 at HNs K5b HO5 ⊢
      clear hwe K5 heb
      have KP5 := KP1.trans K5b
      have hz5 := KP5.size
      try simp only [Act.put, List.setIfInBounds_toArray, List.set_cons_zero, List.set_cons_succ]
      refine UpTo.nx 3 (fun K hK => ?_)
      rw [if_pos (by rfl)]
      refine wp_append_strs (.tmp 39) (.tmp 41) 25 rfl w.heap.size 9 ic _ 16 Tryz.underlying25 hi0 hi1 hi2 hi3 rfl (.slice av1 l1.length cv1) l1.length (([] : List ByteArray).map Value.string ++ l1.map Value.string) rfl HO5.out (some ⟨eb, 0, none⟩) 1 [x] rfl HNs.out (by unfold maxLen; simp; omega) (by simp; omega) hz5 ?_
      intro v6 w6 ho6 hg6 hv6
      have HO6 := hide ho6
      have KP6 := kept_of_grown KP5 (Nat.le_refl _) HO5.out hg6
      obtain ⟨av6, cv6, rfl⟩ := own_slice ho6
      have hz6 := KP6.size
      refine hK.out _ _ (fun _ => trivial) ?_
      clear hK K ho6 hg6 hv6
      try simp only [Act.put, List.setIfInBounds_toArray, List.set_cons_zero, List.set_cons_succ]
      refine UpTo.nx 7 (fun K hK => ?_)
      rw [if_pos (by rfl)]
      refine wp_append_strs (.tmp 42) (.tmp 45) 25 rfl w.heap.size 9 ic _ 16 Tryz.underlying25 hi0 hi1 hi2 hi3 rfl (.slice av6 (l1.length + [x].length) cv6) (l1.length + [x].length) ((([] : List ByteArray).map Value.string ++ l1.map Value.string) ++ [x].map Value.string) rfl HO6.out ad2 (cap - l1.length) l2 (by rw [← HDl.out]; rfl) (HS2.out _ KP6) (by unfold maxLen; simp; omega) (by simp; omega) hz6 ?_
      intro v7 w7 ho7 hg7 hv7
      have HO7 := hide ho7
      have KP7 := kept_of_grown KP6 (Nat.le_refl _) HO6.out hg7
      refine hK.out _ _ (fun _ => trivial) ?_
      clear hK K ho7 hg7 hv7
      try simp only [Act.put, List.setIfInBounds_toArray, List.set_cons_zero, List.set_cons_succ]
      refine UpTo.nx 8 (fun K hK => ?_)
      go_simp
      refine hK.out _ _ (fun h => absurd rfl h) ?_
      clear hK K
      try simp only [Act.put, List.setIfInBounds_toArray, List.set_cons_zero, List.set_cons_succ]
      refine UpTo.done (by kernel_rfl) ?_
      go_wp2
      go_ret
      have hlen : (l1 ++ x :: l2).length = l1.length + [x].length + l2.length := by simp; omega
      have ho : w7.ownsRow w.heap.size 9 1 v7 (l1 ++ x :: l2).length ((l1 ++ x :: l2).map Value.string) := by
        have h := HO7.out
        rw [hlen]
        have e : (l1 ++ x :: l2).map Value.string = ((([] : List ByteArray).map Value.string ++ l1.map Value.string) ++ [x].map Value.string) ++ l2.map Value.string := by simp
        rw [e]
        exact h
      rcases ho.2 with ⟨_, h0⟩ | ⟨g, cap7, cur7, e7, _, _, hn7, _, _, _⟩
      · simp at h0
      · obtain ⟨a9, c9, e9, h9⟩ := owned_strs ho
        rw [e7] at e9
        simp only [Value.slice.injEq, true_and] at e9
        rw [← e9.1] at h9
        exact ⟨g, 0, cap7, _, by rw [e7]; rfl, hn7, HPt.out, h9, KP7⟩
end Go.Proofs.YtghipdfemoofhaaGreatDoor
