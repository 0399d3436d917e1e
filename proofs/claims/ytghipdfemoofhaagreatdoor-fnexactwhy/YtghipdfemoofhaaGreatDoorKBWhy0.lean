import Derived.Test.YtghipdfemoofhaaGreatDoorKBEqual
import Derived.Test.YtghipdfemoofhaaGreatDoorKBBegin
import Derived.Test.YtghipdfemoofhaaGreatDoorKVWhy
import Derived.Laws.OwnMore
namespace Go.Proofs.YtghipdfemoofhaaGreatDoor
open Go.RowKit
set_option maxRecDepth 100000 in
set_option maxHeartbeats 6400000 in
theorem sameRunB_any (w : World) (tb : Nat) (r r' : RunX) (ta xa : Option Addr) (tc xc : Nat) (ht : tb < w.heap.size) (hc : w.rangeAt tb 0 (r.cells ta tc)) (hl : r.texts.length ≤ 1048576) (hl' : r'.texts.length ≤ 1048576) (hS : Strs w ta r.texts) (hS' : Strs w xa r'.texts) :
    Calls Tryz.prog 82 #[.pointer (some ⟨tb, 0, none⟩), .agg #[.string r'.name, .bool r'.over, .bool r'.fail, .string r'.text, .int .i64 r'.at', .int .i64 r'.visits, .slice xa r'.texts.length xc]] w
      fun e w' => Says e (r = r') ∧ Kept w w' := by
  obtain ⟨n, ov, fl, tx, at1, vi, ts⟩ := r
  obtain ⟨n', ov', fl', tx', at1', vi', ts'⟩ := r'
  dsimp only at hl hl' hS hS' ⊢
  have k0 : Kept w (w.alloc (.cells #[.string n', .bool ov', .bool fl', .string tx', .int .i64 at1', .int .i64 vi', .slice xa ts'.length xc] 72)) := (Kept.refl _).alloc _
  have hne : ¬ tb = w.heap.size := by omega
  have htW : tb < (w.alloc (.cells #[.string n', .bool ov', .bool fl', .string tx', .int .i64 at1', .int .i64 vi', .slice xa ts'.length xc] 72)).heap.size := by simp; omega
  have hxW : w.heap.size < (w.alloc (.cells #[.string n', .bool ov', .bool fl', .string tx', .int .i64 at1', .int .i64 vi', .slice xa ts'.length xc] 72)).heap.size := by simp
  have c0 : (w.alloc (.cells #[.string n', .bool ov', .bool fl', .string tx', .int .i64 at1', .int .i64 vi', .slice xa ts'.length xc] 72)).cell? ⟨tb, 0, none⟩ = some (.string n) := (k0.cell ht).trans (by have h := hc 0 _ rfl; simpa using h)
  have d0 : (w.alloc (.cells #[.string n', .bool ov', .bool fl', .string tx', .int .i64 at1', .int .i64 vi', .slice xa ts'.length xc] 72)).cell? ⟨w.heap.size, 0, none⟩ = some (.string n') := range_new w #[.string n', .bool ov', .bool fl', .string tx', .int .i64 at1', .int .i64 vi', .slice xa ts'.length xc] 72 0 _ rfl
  have c1 : (w.alloc (.cells #[.string n', .bool ov', .bool fl', .string tx', .int .i64 at1', .int .i64 vi', .slice xa ts'.length xc] 72)).cell? ⟨tb, 1, none⟩ = some (.bool ov) := (k0.cell ht).trans (by have h := hc 1 _ rfl; simpa using h)
  have d1 : (w.alloc (.cells #[.string n', .bool ov', .bool fl', .string tx', .int .i64 at1', .int .i64 vi', .slice xa ts'.length xc] 72)).cell? ⟨w.heap.size, 1, none⟩ = some (.bool ov') := range_new w #[.string n', .bool ov', .bool fl', .string tx', .int .i64 at1', .int .i64 vi', .slice xa ts'.length xc] 72 1 _ rfl
  have c2 : (w.alloc (.cells #[.string n', .bool ov', .bool fl', .string tx', .int .i64 at1', .int .i64 vi', .slice xa ts'.length xc] 72)).cell? ⟨tb, 2, none⟩ = some (.bool fl) := (k0.cell ht).trans (by have h := hc 2 _ rfl; simpa using h)
  have d2 : (w.alloc (.cells #[.string n', .bool ov', .bool fl', .string tx', .int .i64 at1', .int .i64 vi', .slice xa ts'.length xc] 72)).cell? ⟨w.heap.size, 2, none⟩ = some (.bool fl') := range_new w #[.string n', .bool ov', .bool fl', .string tx', .int .i64 at1', .int .i64 vi', .slice xa ts'.length xc] 72 2 _ rfl
  have c3 : (w.alloc (.cells #[.string n', .bool ov', .bool fl', .string tx', .int .i64 at1', .int .i64 vi', .slice xa ts'.length xc] 72)).cell? ⟨tb, 3, none⟩ = some (.string tx) := (k0.cell ht).trans (by have h := hc 3 _ rfl; simpa using h)
  have d3 : (w.alloc (.cells #[.string n', .bool ov', .bool fl', .string tx', .int .i64 at1', .int .i64 vi', .slice xa ts'.length xc] 72)).cell? ⟨w.heap.size, 3, none⟩ = some (.string tx') := range_new w #[.string n', .bool ov', .bool fl', .string tx', .int .i64 at1', .int .i64 vi', .slice xa ts'.length xc] 72 3 _ rfl
  have c4 : (w.alloc (.cells #[.string n', .bool ov', .bool fl', .string tx', .int .i64 at1', .int .i64 vi', .slice xa ts'.length xc] 72)).cell? ⟨tb, 4, none⟩ = some (.int .i64 at1) := (k0.cell ht).trans (by have h := hc 4 _ rfl; simpa using h)
  have d4 : (w.alloc (.cells #[.string n', .bool ov', .bool fl', .string tx', .int .i64 at1', .int .i64 vi', .slice xa ts'.length xc] 72)).cell? ⟨w.heap.size, 4, none⟩ = some (.int .i64 at1') := range_new w #[.string n', .bool ov', .bool fl', .string tx', .int .i64 at1', .int .i64 vi', .slice xa ts'.length xc] 72 4 _ rfl
  have c5 : (w.alloc (.cells #[.string n', .bool ov', .bool fl', .string tx', .int .i64 at1', .int .i64 vi', .slice xa ts'.length xc] 72)).cell? ⟨tb, 5, none⟩ = some (.int .i64 vi) := (k0.cell ht).trans (by have h := hc 5 _ rfl; simpa using h)
  have d5 : (w.alloc (.cells #[.string n', .bool ov', .bool fl', .string tx', .int .i64 at1', .int .i64 vi', .slice xa ts'.length xc] 72)).cell? ⟨w.heap.size, 5, none⟩ = some (.int .i64 vi') := range_new w #[.string n', .bool ov', .bool fl', .string tx', .int .i64 at1', .int .i64 vi', .slice xa ts'.length xc] 72 5 _ rfl
  have c6 : (w.alloc (.cells #[.string n', .bool ov', .bool fl', .string tx', .int .i64 at1', .int .i64 vi', .slice xa ts'.length xc] 72)).cell? ⟨tb, 6, none⟩ = some (.slice ta ts.length tc) := (k0.cell ht).trans (by have h := hc 6 _ rfl; simpa using h)
  have d6 : (w.alloc (.cells #[.string n', .bool ov', .bool fl', .string tx', .int .i64 at1', .int .i64 vi', .slice xa ts'.length xc] 72)).cell? ⟨w.heap.size, 6, none⟩ = some (.slice xa ts'.length xc) := range_new w #[.string n', .bool ov', .bool fl', .string tx', .int .i64 at1', .int .i64 vi', .slice xa ts'.length xc] 72 6 _ rfl
  clear hc
  go_enter Tryz.func82, Tryz.ntmps82
  go_upto_region 1 with fail
  generalize hW : (w.alloc (.cells #[.string n', .bool ov', .bool fl', .string tx', .int .i64 at1', .int .i64 vi', .slice xa ts'.length xc] 72)) = W at *
  clear hW
  go_cut [5] from 7 to 34 (fun s5 wx => Kept W wx ∧ s5 = .bool (decide (ov = ov' ∧ fl = fl' ∧ tx = tx')))
  case first =>
    by_cases h1 : ov = ov'
    · have b1 : (ov == ov') = true := by simp [h1]
      by_cases h2 : fl = fl'
      · have b2 : (fl == fl') = true := by simp [h2]
        have H1 := hide h1
        have H2 := hide h2
        clear h1 h2
        cases h3 : (tx.toList == tx'.toList)
        · go_region
          all_goals
            go_wp2_with fail
            go_meet
            exact ⟨(Kept.refl _).drew, by rw [decide_eq_false (fun h => beq_no h3 (by rw [h.2.2]))]⟩
        · go_region
          all_goals
            go_wp2_with fail
            go_meet
            exact ⟨(Kept.refl _).drew, by rw [decide_eq_true ⟨H1.out, H2.out, beq_yes h3⟩]⟩
      · have b2 : (fl == fl') = false := by simp [h2]
        have H1 := hide h1
        have H2 := hide h2
        clear h1 h2
        go_region
        all_goals
          go_wp2_with fail
          go_meet
          exact ⟨(Kept.refl _).drew, by rw [decide_eq_false (fun h => H2.out h.2.1)]⟩
    · have b1 : (ov == ov') = false := by simp [h1]
      have H1 := hide h1
      clear h1
      go_region
      all_goals
        go_wp2_with fail
        go_meet
        exact ⟨(Kept.refl _).drew, by rw [decide_eq_false (fun h => H1.out h.1)]⟩
  case rest =>
    obtain ⟨kk, rfl⟩ := hcut
    generalize hE : decide (ov = ov' ∧ fl = fl' ∧ tx = tx') = sE
    have HE := hide hE
    clear hE
    obtain ⟨wA, rfl⟩ : ∃ wA, wA = wc := ⟨_, rfl⟩
    have t0 : wA.cell? ⟨tb, 0, none⟩ = some (.string n) := (kk.cell htW).trans c0
    have x0 : wA.cell? ⟨w.heap.size, 0, none⟩ = some (.string n') := (kk.cell hxW).trans d0
    have t1 : wA.cell? ⟨tb, 1, none⟩ = some (.bool ov) := (kk.cell htW).trans c1
    have x1 : wA.cell? ⟨w.heap.size, 1, none⟩ = some (.bool ov') := (kk.cell hxW).trans d1
    have t2 : wA.cell? ⟨tb, 2, none⟩ = some (.bool fl) := (kk.cell htW).trans c2
    have x2 : wA.cell? ⟨w.heap.size, 2, none⟩ = some (.bool fl') := (kk.cell hxW).trans d2
    have t3 : wA.cell? ⟨tb, 3, none⟩ = some (.string tx) := (kk.cell htW).trans c3
    have x3 : wA.cell? ⟨w.heap.size, 3, none⟩ = some (.string tx') := (kk.cell hxW).trans d3
    have t4 : wA.cell? ⟨tb, 4, none⟩ = some (.int .i64 at1) := (kk.cell htW).trans c4
    have x4 : wA.cell? ⟨w.heap.size, 4, none⟩ = some (.int .i64 at1') := (kk.cell hxW).trans d4
    have t5 : wA.cell? ⟨tb, 5, none⟩ = some (.int .i64 vi) := (kk.cell htW).trans c5
    have x5 : wA.cell? ⟨w.heap.size, 5, none⟩ = some (.int .i64 vi') := (kk.cell hxW).trans d5
    have t6 : wA.cell? ⟨tb, 6, none⟩ = some (.slice ta ts.length tc) := (kk.cell htW).trans c6
    have x6 : wA.cell? ⟨w.heap.size, 6, none⟩ = some (.slice xa ts'.length xc) := (kk.cell hxW).trans d6
    clear c0 c1 c2 c3 c4 c5 c6 d0 d1 d2 d3 d4 d5 d6
    have K1 := k0.trans kk
    have htA : tb < wA.heap.size := Nat.lt_of_lt_of_le htW kk.size
    have hxA : w.heap.size < wA.heap.size := Nat.lt_of_lt_of_le hxW kk.size
    clear kk htW hxW k0
    go_upto_region 2 with fail
    go_cut [6] from 35 to 52 (fun s6 wx => Kept wA wx ∧ s6 = .bool (decide (at1 = at1' ∧ vi = vi')))
    case first =>
      by_cases h1 : at1 = at1'
      · have b1 : (at1 == at1') = true := by simp [h1]
        have H1 := hide h1
        clear h1
        by_cases h2 : vi = vi'
        · have b2 : (vi == vi') = true := by simp [h2]
          have H2 := hide h2
          clear h2
          go_region
          all_goals
            go_wp2_with fail
            go_meet
            exact ⟨(Kept.refl _).drew, by rw [decide_eq_true ⟨H1.out, H2.out⟩]⟩
        · have b2 : (vi == vi') = false := by simp [h2]
          have H2 := hide h2
          clear h2
          go_region
          all_goals
            go_wp2_with fail
            go_meet
            exact ⟨(Kept.refl _).drew, by rw [decide_eq_false (fun h => H2.out h.2)]⟩
      · have b1 : (at1 == at1') = false := by simp [h1]
        have H1 := hide h1
        clear h1
        go_region
        all_goals
          go_wp2_with fail
          go_meet
          exact ⟨(Kept.refl _).drew, by rw [decide_eq_false (fun h => H1.out h.1)]⟩
    case rest =>
      obtain ⟨kk, rfl⟩ := hcut
      obtain ⟨wB, rfl⟩ : ∃ wB, wB = wc := ⟨_, rfl⟩
      generalize hP : decide (at1 = at1' ∧ vi = vi') = sP
      have HP := hide hP
      clear hP
      have u0 : wB.cell? ⟨tb, 0, none⟩ = some (.string n) := (kk.cell htA).trans t0
      have y0 : wB.cell? ⟨w.heap.size, 0, none⟩ = some (.string n') := (kk.cell hxA).trans x0
      have u1 : wB.cell? ⟨tb, 1, none⟩ = some (.bool ov) := (kk.cell htA).trans t1
      have y1 : wB.cell? ⟨w.heap.size, 1, none⟩ = some (.bool ov') := (kk.cell hxA).trans x1
      have u2 : wB.cell? ⟨tb, 2, none⟩ = some (.bool fl) := (kk.cell htA).trans t2
      have y2 : wB.cell? ⟨w.heap.size, 2, none⟩ = some (.bool fl') := (kk.cell hxA).trans x2
      have u3 : wB.cell? ⟨tb, 3, none⟩ = some (.string tx) := (kk.cell htA).trans t3
      have y3 : wB.cell? ⟨w.heap.size, 3, none⟩ = some (.string tx') := (kk.cell hxA).trans x3
      have u4 : wB.cell? ⟨tb, 4, none⟩ = some (.int .i64 at1) := (kk.cell htA).trans t4
      have y4 : wB.cell? ⟨w.heap.size, 4, none⟩ = some (.int .i64 at1') := (kk.cell hxA).trans x4
      have u5 : wB.cell? ⟨tb, 5, none⟩ = some (.int .i64 vi) := (kk.cell htA).trans t5
      have y5 : wB.cell? ⟨w.heap.size, 5, none⟩ = some (.int .i64 vi') := (kk.cell hxA).trans x5
      have u6 : wB.cell? ⟨tb, 6, none⟩ = some (.slice ta ts.length tc) := (kk.cell htA).trans t6
      have y6 : wB.cell? ⟨w.heap.size, 6, none⟩ = some (.slice xa ts'.length xc) := (kk.cell hxA).trans x6
      have K2 := K1.trans kk
      have htB : tb < wB.heap.size := Nat.lt_of_lt_of_le htA kk.size
      have hxB : w.heap.size < wB.heap.size := Nat.lt_of_lt_of_le hxA kk.size
      clear kk htA hxA K1 t0 t1 t2 t3 t4 t5 t6 x0 x1 x2 x3 x4 x5 x6
      have hT := hS.kept K2
      have hX := hS'.kept K2
      clear hS hS'
      go_upto_region 3 with fail
      cases h0 : (n.toList == n'.toList)
      · go_region
        all_goals
          go_wp2_with fail
          go_ret
          exact ⟨Says.no (by simp [beq_no h0]), K2.drew⟩
      · have E0 := hide (beq_yes h0)
        cases sE
        · have hno := of_decide_eq_false HE.out
          have HN := hide hno
          clear hno
          go_region
          all_goals
            go_wp2_with fail
            go_ret
            exact ⟨Says.no (fun h => absurd (by first | exact ⟨h.2.1, h.2.2.1, h.2.2.2.1⟩ | (rw [RunX.mk.injEq] at h; exact ⟨h.2.1, h.2.2.1, h.2.2.2.1⟩)) HN.out), K2.drew⟩
        · cases sP
          · have hno := of_decide_eq_false HP.out
            have HN := hide hno
            clear hno
            go_region
            all_goals
              go_wp2_with fail
              go_ret
              exact ⟨Says.no (fun h => absurd (by first | exact ⟨h.2.2.2.2.1, h.2.2.2.2.2.1⟩ | (rw [RunX.mk.injEq] at h; exact ⟨h.2.2.2.2.1, h.2.2.2.2.2.1⟩)) HN.out), K2.drew⟩
          · have HS0 : True := trivial
            have hSof : ∀ w', Kept wB w' → (fun w' => w'.cell? ⟨tb, 0, none⟩ = some (.string n) ∧ w'.cell? ⟨w.heap.size, 0, none⟩ = some (.string n') ∧ w'.cell? ⟨tb, 6, none⟩ = some (.slice ta ts.length tc) ∧ w'.cell? ⟨w.heap.size, 6, none⟩ = some (.slice xa ts'.length xc)) w' := fun w' kk => ⟨(kk.cell htB).trans u0, (kk.cell hxB).trans y0, (kk.cell htB).trans u6, (kk.cell hxB).trans y6⟩
            have HSO := hide hSof
            clear hSof
            refine UpTo.region (by kernel_rfl) (fun w' => w'.cell? ⟨tb, 0, none⟩ = some (.string n) ∧ w'.cell? ⟨w.heap.size, 0, none⟩ = some (.string n') ∧ w'.cell? ⟨tb, 6, none⟩ = some (.slice ta ts.length tc) ∧ w'.cell? ⟨w.heap.size, 6, none⟩ = some (.slice xa ts'.length xc)) 24 (HSO.out _ ((Kept.refl wB).drew)) (fun hHeld => ?_)
            have KD : Kept wB wB.drew := (Kept.refl wB).drew
            generalize hwd : wB.drew = wd at hHeld KD ⊢
            clear hwd
            refine UpTo.tk 0 [1, 2, 3, 4, 7, 8, 9, 10, 11, 12, 13, 14, 15, 16, 17, 18, 19, 20, 21, 22, 23, 24] ?_ hHeld ?_ ?_
            rotate_left
            · intro u hu; (try dsimp only at hu); go_simp; (try with_reducible rfl)
            try simp only [Act.put, List.setIfInBounds_toArray, List.set_cons_zero, List.set_cons_succ]
            refine UpTo.tk 1 [2, 3, 4, 7, 8, 9, 10, 11, 12, 13, 14, 15, 16, 17, 18, 19, 20, 21, 22, 23, 24] ?_ hHeld ?_ ?_
            rotate_left
            · intro u hu; (try dsimp only at hu); go_simp; (try with_reducible rfl)
            try simp only [Act.put, List.setIfInBounds_toArray, List.set_cons_zero, List.set_cons_succ]
            refine UpTo.tk 2 [3, 4, 7, 8, 9, 10, 11, 12, 13, 14, 15, 16, 17, 18, 19, 20, 21, 22, 23, 24] ?_ hHeld ?_ ?_
            rotate_left
            · intro u hu; (try dsimp only at hu); go_simp; (try with_reducible rfl)
            try simp only [Act.put, List.setIfInBounds_toArray, List.set_cons_zero, List.set_cons_succ]
            refine UpTo.tk 3 [4, 7, 8, 9, 10, 11, 12, 13, 14, 15, 16, 17, 18, 19, 20, 21, 22, 23, 24] ?_ hHeld ?_ ?_
            rotate_left
            · intro u hu; (try dsimp only at hu); go_simp; (try with_reducible rfl)
            try simp only [Act.put, List.setIfInBounds_toArray, List.set_cons_zero, List.set_cons_succ]
            refine UpTo.tk 4 [7, 8, 9, 10, 11, 12, 13, 14, 15, 16, 17, 18, 19, 20, 21, 22, 23, 24] ?_ hHeld ?_ ?_
            rotate_left
            · intro u hu; (try dsimp only at hu); go_simp; (try with_reducible rfl)
            try simp only [Act.put, List.setIfInBounds_toArray, List.set_cons_zero, List.set_cons_succ]
            refine UpTo.tk 5 [6, 7, 8, 9, 10, 11, 12, 13, 14, 15, 16, 17, 18, 19, 20, 21, 22, 23, 24] ?_ hHeld ?_ ?_
            rotate_left
            · intro u hu; (try dsimp only at hu); go_simp; (try with_reducible rfl)
            try simp only [Act.put, List.setIfInBounds_toArray, List.set_cons_zero, List.set_cons_succ]
            refine UpTo.tk 6 [7, 8, 9, 10, 11, 12, 13, 14, 15, 16, 17, 18, 19, 20, 21, 22, 23, 24] ?_ hHeld ?_ ?_
            rotate_left
            · intro u hu; (try dsimp only at hu); go_simp; (try with_reducible rfl)
            try simp only [Act.put, List.setIfInBounds_toArray, List.set_cons_zero, List.set_cons_succ]
            refine UpTo.tk 7 [8, 9, 10, 11, 12, 13, 14, 15, 16, 17, 18, 19, 20, 21, 22, 23, 24] ?_ hHeld ?_ ?_
            rotate_left
            · intro u hu; (try dsimp only at hu); go_simp; (try with_reducible rfl)
            try simp only [Act.put, List.setIfInBounds_toArray, List.set_cons_zero, List.set_cons_succ]
            refine UpTo.tk 8 [9, 10, 11, 12, 13, 14, 15, 16, 17, 18, 19, 20, 21, 22, 23, 24] ?_ hHeld ?_ ?_
            rotate_left
            · intro u hu; (try dsimp only at hu); go_simp; (try with_reducible rfl)
            try simp only [Act.put, List.setIfInBounds_toArray, List.set_cons_zero, List.set_cons_succ]
            refine UpTo.tk 9 [10, 11, 12, 13, 14, 15, 16, 17, 18, 19, 20, 21, 22, 23, 24] ?_ hHeld ?_ ?_
            rotate_left
            · intro u hu; (try dsimp only at hu); go_simp; (try with_reducible rfl)
            try simp only [Act.put, List.setIfInBounds_toArray, List.set_cons_zero, List.set_cons_succ]
            refine UpTo.tk 10 [11, 12, 13, 14, 15, 16, 17, 18, 19, 20, 21, 22, 23, 24] ?_ hHeld ?_ ?_
            rotate_left
            · intro u hu; (try dsimp only at hu); go_simp; (try with_reducible rfl)
            try simp only [Act.put, List.setIfInBounds_toArray, List.set_cons_zero, List.set_cons_succ]
            refine UpTo.tk 11 [12, 13, 14, 15, 16, 17, 18, 19, 20, 21, 22, 23, 24] ?_ hHeld ?_ ?_
            rotate_left
            · intro u hu; (try dsimp only at hu); go_simp; (try with_reducible rfl)
            try simp only [Act.put, List.setIfInBounds_toArray, List.set_cons_zero, List.set_cons_succ]
            refine UpTo.tk 12 [13, 14, 15, 16, 17, 18, 19, 20, 21, 22, 23, 24] ?_ hHeld ?_ ?_
            rotate_left
            · intro u hu; (try dsimp only at hu); go_simp; (try with_reducible rfl)
            try simp only [Act.put, List.setIfInBounds_toArray, List.set_cons_zero, List.set_cons_succ]
            refine UpTo.tk 13 [14, 15, 16, 17, 18, 19, 20, 21, 22, 23, 24] ?_ hHeld ?_ ?_
            rotate_left
            · intro u hu; (try dsimp only at hu); go_simp; (try with_reducible rfl)
            try simp only [Act.put, List.setIfInBounds_toArray, List.set_cons_zero, List.set_cons_succ]
            refine UpTo.tk 14 [15, 16, 17, 18, 19, 20, 21, 22, 23, 24] ?_ hHeld ?_ ?_
            rotate_left
            · intro u hu; (try dsimp only at hu); go_simp; (try with_reducible rfl)
            try simp only [Act.put, List.setIfInBounds_toArray, List.set_cons_zero, List.set_cons_succ]
            refine UpTo.tk 15 [16, 17, 18, 19, 22, 23, 24] ?_ hHeld ?_ ?_
            rotate_left
            · intro u hu; (try dsimp only at hu); go_simp; (try with_reducible rfl)
            try simp only [Act.put, List.setIfInBounds_toArray, List.set_cons_zero, List.set_cons_succ]
            refine UpTo.tk 16 [17, 18, 19, 22, 23, 24] ?_ hHeld ?_ ?_
            rotate_left
            · intro u hu; (try dsimp only at hu); go_simp; (try with_reducible rfl)
            try simp only [Act.put, List.setIfInBounds_toArray, List.set_cons_zero, List.set_cons_succ]
            refine UpTo.tk 17 [18, 19, 22, 23, 24] ?_ hHeld ?_ ?_
            rotate_left
            · intro u hu; (try dsimp only at hu); go_simp; (try with_reducible rfl)
            try simp only [Act.put, List.setIfInBounds_toArray, List.set_cons_zero, List.set_cons_succ]
            refine UpTo.tk 18 [19, 22, 23, 24] ?_ hHeld ?_ ?_
            rotate_left
            · intro u hu; (try dsimp only at hu); go_simp; (try with_reducible rfl)
            try simp only [Act.put, List.setIfInBounds_toArray, List.set_cons_zero, List.set_cons_succ]
            refine UpTo.tk 19 [22, 23, 24] ?_ hHeld ?_ ?_
            rotate_left
            · intro u hu; (try dsimp only at hu); go_simp; (try with_reducible rfl)
            try simp only [Act.put, List.setIfInBounds_toArray, List.set_cons_zero, List.set_cons_succ]
            refine UpTo.tk 20 [21, 22, 23, 24] ?_ hHeld ?_ ?_
            rotate_left
            · intro u hu; (try dsimp only at hu); go_simp; (try with_reducible rfl)
            try simp only [Act.put, List.setIfInBounds_toArray, List.set_cons_zero, List.set_cons_succ]
            refine UpTo.tk 21 [22, 23, 24] ?_ hHeld ?_ ?_
            rotate_left
            · intro u hu; (try dsimp only at hu); go_simp; (try with_reducible rfl)
            try simp only [Act.put, List.setIfInBounds_toArray, List.set_cons_zero, List.set_cons_succ]
            refine UpTo.nx 22 (fun K hK => ?_)
            rw [if_pos (by rfl)]
            go_simp
            go_at_call 122
            refine (equalTexts_any _ ta xa tc xc ts ts' hl hl' (hT.kept KD) (hX.kept KD)).mono ?_
            rintro e w1 ⟨rfl, k1⟩
            refine hK.out _ _ (fun _ => HSO.out _ (KD.trans k1)) ?_
            clear hK K
            try simp only [Act.put, List.setIfInBounds_toArray, List.set_cons_zero, List.set_cons_succ]
            refine UpTo.nx 23 (fun K hK => ?_)
            go_simp
            refine hK.out _ _ (fun _ => HSO.out _ (KD.trans k1)) ?_
            clear hK K
            try simp only [Act.put, List.setIfInBounds_toArray, List.set_cons_zero, List.set_cons_succ]
            refine UpTo.nx 24 (fun K hK => ?_)
            go_simp
            refine hK.out _ _ (fun h => absurd rfl h) ?_
            clear hK K
            try simp only [Act.put, List.setIfInBounds_toArray, List.set_cons_zero, List.set_cons_succ]
            refine UpTo.done (by kernel_rfl) ?_
            go_wp2_with fail
            go_ret
            have h1 := of_decide_eq_true HE.out
            have h2 := of_decide_eq_true HP.out
            exact ⟨says_dec (by simp [E0.out, h1.1, h1.2.1, h1.2.2, h2.1, h2.2]), (K2.trans KD).trans k1⟩
def WhySt (W : Acts) (σ : Env) (ts : List TaskM) (x : Value) (rest : List ByteArray) : Prop :=
  (x = .pointer none ∧ rest = []) ∨ ∃ (i : Nat) (hi : i < ts.length), x = .pointer (some ⟨ts[i].tb, 0, none⟩) ∧ WhyC W σ ts[i].r.name (ts[i].r.name :: rest)
theorem why_bl {webl : List NodeD} {ts : List TaskM} {ws : ByteArray → List Nat} (hS : BS webl ts ws) {t : TaskM} (ht : t ∈ ts) {rest : List ByteArray} (h : WhyC (actsOf webl) (envOf (runsOf ts)) t.r.name (t.r.name :: rest)) : (rest = [] ∧ t.bl = ⟨#[]⟩) ∨ (1 ≤ t.bl.size ∧ WhyC (actsOf webl) (envOf (runsOf ts)) t.bl rest) := by
  have he := asc_env hS.good.asc (List.mem_map_of_mem (f := fun t : TaskM => t.r) ht)
  have hb := hS.bl t ht
  generalize hn : t.r.name = n at h he
  generalize hl : n :: rest = l at h
  cases h with
  | gone h => rw [he] at h; cases h
  | own h ho hf hA hx =>
    rw [he] at h
    cases h
    cases hl
    rcases hb with ⟨e, _⟩ | ⟨_, _, ⟨A', hA', hn', _⟩, ht'⟩
    · exact .inl ⟨rfl, e⟩
    · rw [hn, hA] at hA'
      cases hA'
      rcases hx with e | e
      · rw [hn'] at e; cases e
      · rw [e] at ht'; exact absurd ht'.symm below_spent
  | more h ho hf hA hn2 ht2 hb2 hc =>
    rw [he] at h
    cases h
    cases hl
    rcases hb with ⟨_, e⟩ | ⟨_, _, _, ht'⟩
    · rcases e ho hf with e | ⟨A', hA', e⟩
      · rw [e] at ht2; exact absurd ht2.symm below_spent
      · rw [hn, hA] at hA'
        cases hA'
        rw [hn2] at e
        cases e
    · have e := below_inj (ht2.symm.trans ht')
      subst e
      exact .inr ⟨hb2, hc⟩
theorem WhySt.next {webl : List NodeD} {ts : List TaskM} {b : ByteArray} {rest : List ByteArray} (h : WhyC (actsOf webl) (envOf (runsOf ts)) b rest) {e : Ending} (hs : TaskSaid ts b e) : ∃ x r', e = .returned x ∧ rest = b :: r' ∧ WhySt (actsOf webl) (envOf (runsOf ts)) ts x r' := by
  obtain ⟨r', rfl⟩ := h.head
  rcases hs with ⟨i, hi, hn, rfl⟩ | ⟨hno, rfl⟩
  · exact ⟨_, r', rfl, rfl, .inr ⟨i, hi, rfl, by rw [hn]; exact h⟩⟩
  · refine ⟨_, r', rfl, rfl, .inl ⟨rfl, ?_⟩⟩
    have hn := env_none_iff.2 hno
    generalize hl : b :: r' = l at h
    cases h with
    | gone => cases hl; rfl
    | own => cases hl; rfl
    | more h => rw [hn] at h; cases h
section
variable {G : Ghost} {webl : List NodeD} {wz w w' : World} {bb : Nat} {a : Option Addr} {cap : Nat} {rd : Option Addr} {rn rc : Nat} {mb mx : Nat} {ts : List TaskM} {d : Option Addr} {dc : Nat} {f : ByteArray → Value} {ws : ByteArray → List Nat}
set_option maxRecDepth 100000 in
set_option maxHeartbeats 3200000 in
theorem benchWhy_any (hB : BM G webl wz w bb a cap rd rn rc mb mx ts d dc f ws) (hS : BS webl ts ws) (hl : ts.length ≤ 1048576) (n : ByteArray) (out : List ByteArray) (hX : WhyX (actsOf webl) (envOf (runsOf ts)) n out) (hop : OpenOk (envOf (runsOf ts))) (hol : out.length ≤ 1400) :
    Calls Tryz.prog 68 #[.pointer (some ⟨bb, 0, none⟩), .string n] w fun e w' => (∃ da c, e = .returned (.slice da out.length c) ∧ Strs w' da out) ∧ Kept w w' := by
  have HB := hide hB
  have HX := hide hX
  have HOp := hide hop
  clear hB hX hop
  go_enter Tryz.func68, Tryz.ntmps68
  go_wp2_with fail
  refine (benchTask_any HB.out n hl).mono ?_
  rintro e w1 ⟨⟨i, hi, hin, rfl⟩ | ⟨hno, rfl⟩, k1⟩
  rotate_left
  · have HNo := hide (env_none_iff.2 hno)
    clear hno
    go_wp2_with fail
    go_ret
    have ho : out = [] := by
      rcases HX.out with ⟨_, h⟩ | ⟨r, h, _⟩ | ⟨r, h, _⟩
      · exact h
      · rw [HNo.out] at h; cases h
      · rw [HNo.out] at h; cases h
    rw [ho]
    exact ⟨⟨none, 0, rfl, fun j hj => by cases hj⟩, k1⟩
  obtain ⟨t, ht⟩ : ∃ t, t = ts[i] := ⟨_, rfl⟩
  have htm : t ∈ ts := by rw [ht]; exact List.getElem_mem hi
  have hT := (HB.out.kept k1).task t htm
  have q0 : w1.cell? ⟨t.tb, 0, none⟩ = some (.string t.r.name) := hT.rng 0 _ rfl
  have q2 : w1.cell? ⟨t.tb, 2, none⟩ = some (.bool t.r.fail) := hT.rng 2 _ rfl
  have tz := hT.row.lt
  rw [← ht] at hin
  have he2 : ts[i].ptr = .pointer (some ⟨t.tb, 0, none⟩) := by rw [← ht]; rfl
  rw [he2]
  have HE : Hid (envOf (runsOf ts) n = some t.r) := by
    have h := asc_env hS.good.asc (List.mem_map_of_mem (f := fun t : TaskM => t.r) htm)
    rw [hin] at h
    exact h
  have HTi : Hid (t = ts[i]) := ht
  have HIn := hide hin
  clear ht hin he2 hT
  cases hf : t.r.fail
  · rw [hf] at q2
    have HF := hide hf
    clear hf
    go_wp2_with fail
    go_ret
    have ho : out = [] := by
      rcases HX.out with ⟨_, h⟩ | ⟨r, _, _, h⟩ | ⟨r, h, _, h2, _⟩
      · exact h
      · exact h
      · rw [HE.out] at h; cases h; rw [HF.out] at h2; cases h2
    rw [ho]
    exact ⟨⟨none, 0, rfl, fun j hj => by cases hj⟩, k1⟩
  rw [hf] at q2
  have HF := hide hf
  clear hf
  obtain ⟨rest0, hrest⟩ : ∃ r0, out = n :: r0 ∧ WhyC (actsOf webl) (envOf (runsOf ts)) n (n :: r0) := by
    rcases HX.out with ⟨h, _⟩ | ⟨r, h, h2, _⟩ | ⟨r, h, _, _, h4⟩
    · rw [HE.out] at h; cases h
    · rw [HE.out] at h
      cases h
      cases ho : t.r.over
      · have := HOp.out n t.r HE.out ho
        rw [HF.out] at this
        cases this
      · exact absurd ⟨ho, HF.out⟩ h2
    · obtain ⟨r0, e⟩ := h4.head
      exact ⟨r0, e, by rw [← e]; exact h4⟩
  have HRest := hide hrest
  clear hrest
  rw [HIn.out] at q0
  have HSt : Hid (WhySt (actsOf webl) (envOf (runsOf ts)) ts (.pointer (some ⟨t.tb, 0, none⟩)) rest0) := .inr ⟨i, hi, by rw [HTi.out], by rw [← HTi.out, HIn.out]; exact HRest.out.2⟩
  have hrl : rest0.length + 1 ≤ 1400 := by have := HRest.out.1; rw [this] at hol; simpa using hol
  have HKV : Hid (Kept w1 (w1.alloc (.cells #[.string n] 9))) := (Kept.refl _).alloc _
  have HOwn : Hid ((w1.alloc (.cells #[.string n] 9)).ownsRow w1.heap.size 9 1 (.slice (some ⟨w1.heap.size, 0, none⟩) 1 1) 1 ([n].map Value.string)) := World.ownsRow_lit w1 #[.string n] 1 (Nat.le_refl _) (by decide) rfl
  go_upto_region 5 with fail
  go_loopg [5, 6] rest0.length (fun gg x5 x6 wr => ∃ (D : List ByteArray) (rest : List ByteArray), gg = rest.length ∧ Hid (out = D ++ rest) ∧ Hid (WhySt (actsOf webl) (envOf (runsOf ts)) ts x5 rest) ∧ Kept w1 wr ∧ Hid (wr.ownsRow w1.heap.size 9 1 x6 D.length (D.map Value.string)))
  case atStart => exact ⟨[n], rest0, rfl, hide HRest.out.1, HSt, HKV.out, HOwn⟩
  case round =>
    clear HOwn HKV HSt
    obtain ⟨D, rest, hgr, HOut, HSt, Kr, HO⟩ := hrel
    obtain ⟨av, cv, rfl⟩ := own_slice HO.out
    have hDl : D.length + rest.length ≤ 1400 := by have h := HOut.out; rw [h, List.length_append] at hol; exact hol
    rcases HSt.out with ⟨rfl, rfl⟩ | ⟨j, hj, rfl, hW⟩
    · go_wp2_with fail
      go_ret
      obtain ⟨a9, c9, e9, h9⟩ := owned_strs HO.out
      simp only [Value.slice.injEq, true_and] at e9
      rw [← e9.1] at h9
      have ho := HOut.out
      rw [List.append_nil] at ho
      rw [ho]
      exact ⟨⟨av, cv, rfl, h9⟩, k1.trans Kr⟩
    obtain ⟨u, hu⟩ : ∃ u, u = ts[j] := ⟨_, rfl⟩
    have hum : u ∈ ts := by rw [hu]; exact List.getElem_mem hj
    rw [← hu] at hW ⊢
    have hT2 := (HB.out.kept k1).task u hum
    have q11 : w1.cell? ⟨u.tb, 11, none⟩ = some (.string u.bl) := hT2.rng 11 _ rfl
    have uz := hT2.row.lt
    have hcs := why_bl hS hum hW
    clear hW hu hT2
    obtain ⟨nm, hnm⟩ : ∃ nm, nm = u.bl := ⟨_, rfl⟩
    rw [← hnm] at q11 hcs
    clear hnm
    have HSO : Hid (∀ w', Kept w1 w' → w'.cell? ⟨u.tb, 11, none⟩ = some (.string nm)) := fun w' K => (K.cell uz).trans q11
    clear q11
    have q11 := HSO.out wr Kr
    have uzr : u.tb < wr.heap.size := Nat.lt_of_lt_of_le uz Kr.size
    rcases hcs with ⟨rfl, rfl⟩ | ⟨hb1, hW2⟩
    · go_wp2_with fail
      go_ret
      obtain ⟨a9, c9, e9, h9⟩ := owned_strs HO.out
      simp only [Value.slice.injEq, true_and] at e9
      rw [← e9.1] at h9
      have ho := HOut.out
      rw [List.append_nil] at ho
      rw [ho]
      exact ⟨⟨av, cv, rfl, h9⟩, k1.trans Kr⟩
    have hne : nm.toList.isEmpty = false := by
      cases h : nm.toList.isEmpty
      · rfl
      · rw [List.isEmpty_iff] at h
        have e : nm.toList.length = nm.size := by simp [ByteArray.toList_eq]
        rw [h] at e
        simp at e
        omega
    have HW2 := hide hW2
    clear hW2 hb1
    have HNs : Hid (Strs (wr.alloc (.cells #[.string nm] 9)) (some ⟨wr.heap.size, 0, none⟩) [nm]) := fun q hq => by
      obtain rfl : q = 0 := by simpa using hq
      exact ⟨wr.heap.size, 0, rfl, by simp, range_new wr #[.string nm] 9 0 _ rfl⟩
    have kV : Kept wr (wr.alloc (.cells #[.string nm] 9)) := (Kept.refl _).alloc _
    have HOw := hide (ownsRow_kept' HO.out kV)
    have KK := hide (Kr.trans kV)
    have hbz : w1.heap.size ≤ (wr.alloc (.cells #[.string nm] 9)).heap.size := KK.out.size
    obtain ⟨ic, hc0, hc1, hc2, hc3⟩ := xInfo_parts Tryz.xInfoStr
    clear kV
    go_wp2_with (at_builtin; refine wpList_append_strs rfl (.tmp 35) (.tmp 40) 25 rfl w1.heap.size 9 ic _ 16 Tryz.underlying25 hc0 hc1 hc2 hc3 rfl (.slice av D.length cv) D.length (D.map Value.string) rfl HOw.out (some ⟨wr.heap.size, 0, none⟩) 1 [nm] rfl HNs.out (by unfold maxLen; simp; omega) (by simp; omega) hbz ?_; intro v' w4 ho4 hg4 hv4; have HP := hide ho4; obtain ⟨av4, cv4, rfl⟩ := own_slice ho4; have KP := kept_of_grown KK.out (Nat.le_refl _) HOw.out hg4; have r11 := HSO.out w4 KP; have uz4 : u.tb < w4.heap.size := Nat.lt_of_lt_of_le uz KP.size; clear ho4 hg4 hv4)
    refine (benchTask_any (HB.out.kept (k1.trans KP)) nm hl).mono ?_
    rintro e w5 ⟨hsaid, k5⟩
    obtain ⟨x, r', rfl, hrr, hst⟩ := WhySt.next HW2.out hsaid
    have HSt5 := hide hst
    have HRr := hide hrr
    have HP5 := hide (ownsRow_kept' HP.out k5)
    have K5 := KP.trans k5
    clear hst hrr hsaid r11 q11
    go_wp2_with fail
    go_roundg r'.length
    case measure => rw [hgr, HRr.out]; simp
    case rel => exact ⟨D ++ [nm], r', rfl, hide (by rw [HOut.out, HRr.out]; simp), HSt5, K5, hide (by rw [List.map_append, List.length_append]; exact HP5.out)⟩
end
end Go.Proofs.YtghipdfemoofhaaGreatDoor
