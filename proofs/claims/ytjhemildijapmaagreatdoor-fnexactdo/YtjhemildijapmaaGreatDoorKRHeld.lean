import Derived.Test.YtjhemildijapmaaGreatDoorKRMark
import Derived.Deep.RegionHeld
namespace Go.Proofs.YtjhemildijapmaaGreatDoor
open Go.RowKit
theorem runs_len : ∀ l : List RunX, l.length ≤ (l.map cntRun).sum
  | [] => Nat.zero_le _
  | x :: r => by
    have h := runs_len r
    have h2 : cntRun x = 6 + x.texts.length := rfl
    simp only [List.map_cons, List.sum_cons, List.length_cons]
    omega
set_option maxRecDepth 100000 in
set_option maxHeartbeats 3200000 in
theorem heldRunSX_yes (w : World) (a : Option Addr) (cap : Nat) (l : List RunX) (k : Nat) (h0 : 0 < k) (h1 : k + (l.map cntRun).sum ≤ 4611686018427387904) (hS : RunsX w a (markRunsX l k)) :
    Calls Tryz.prog 35 #[.slice a l.length cap, .int .i64 k] w fun e w' => e = .returned (.int .i64 ((k + (l.map cntRun).sum : Nat) : Int)) ∧ Kept w w' := by
  have hlb : l.length < 4611686018427387904 := by have := runs_len l; omega
  go_enter Tryz.func35, Tryz.ntmps35
  go_wp2
  go_loopw [1, 5] (fun x i wr => ∃ j m : Nat, j ≤ l.length ∧ i = .int .i64 j ∧ x = .int .i64 m ∧ m = k + sumTo cntRun l j ∧ Kept w wr) (fun _ i _ => l.length - (intOf i).toNat)
  case atStart => exact ⟨0, k, Nat.zero_le _, rfl, rfl, by rw [sumTo_zero]; omega, Kept.refl _⟩
  case round =>
    obtain ⟨j, m, hj, rfl, rfl, hm, hw⟩ := hrel
    have HMn := hide hm
    by_cases hlt : j < l.length
    · obtain ⟨b, o, xa, ca, rfl, hb, hc, hxs, _⟩ := hS.kept hw j (by rw [markRunsX_length]; exact hlt)
      rw [markRunsX_getD _ _ _ hlt, ← hm] at hc hxs
      have hsum := sumTo_succ cntRun l RunX.zero j hlt
      have hsl := sumTo_le cntRun l (j + 1)
      obtain ⟨s, hsd⟩ : ∃ s, s = l.getD j RunX.zero := ⟨_, rfl⟩
      rw [← hsd] at hc hxs hsum
      have hcs : cntRun s = 6 + s.texts.length := rfl
      have HXs : Hid (Strs wr xa (markStrs s.texts (m + 6))) := hxs
      have hm0 : 0 < m := by omega
      have hmb : m + 6 + s.texts.length ≤ 4611686018427387904 := by omega
      have HSum := hide hsum
      obtain ⟨txt, htx, hmt⟩ : ∃ txt, txt = mtext m ∧ ∀ W, Calls Tryz.prog 68 #[.int .i64 (m : Int)] W fun e w' => e = .returned (.string txt) ∧ Kept W w' := ⟨_, rfl, fun W => markText_any W m hm0 (by omega)⟩
      obtain ⟨tx2, htx2, hmt2⟩ : ∃ txt, txt = mtext (m + 3) ∧ ∀ z : Int, z = ((m + 3 : Nat) : Int) → ∀ W, Calls Tryz.prog 68 #[.int .i64 z] W fun e w' => e = .returned (.string txt) ∧ Kept W w' := ⟨_, rfl, fun z hz W => by rw [hz]; exact markText_any W _ (by omega) (by omega)⟩
      have c0 := hc 0 (.string txt) (by rw [htx]; rfl)
      have c1 := hc 1 (.bool (((m : Int) + 1) % 3 == 0)) (by rw [mod3 m 1 _ (by omega)]; rfl)
      have c2 := hc 2 (.bool (((m : Int) + 1 + 1) % 3 == 0)) (by rw [mod3 m 2 _ (by omega)]; rfl)
      have c3 := hc 3 (.string tx2) (by rw [htx2]; rfl)
      have c4 := hc 4 (.int .i64 ((m : Int) + 1 + 1 + 1 + 1)) (by rw [show (m : Int) + 1 + 1 + 1 + 1 = ((m + 4 : Nat) : Int) by omega]; rfl)
      have c5 := hc 5 (.int .i64 ((m : Int) + 1 + 1 + 1 + 1 + 1)) (by rw [show (m : Int) + 1 + 1 + 1 + 1 + 1 = ((m + 5 : Nat) : Int) by omega]; rfl)
      have c6 := hc 6 (.slice xa s.texts.length ca) (by simp [markRunX, RunX.cells, markStrs_length])
      rw [Nat.add_zero] at c0
      have HMT := hide hmt
      have HMT2 := hide hmt2
      have HMN : Hid (∀ z : Int, z = ((m + 6 : Nat) : Int) → ∀ W, Strs W xa (markStrs s.texts (m + 6)) → Calls Tryz.prog 34 #[.slice xa s.texts.length ca, .int .i64 z] W fun e w' => e = .returned (.int .i64 ((m + 6 + s.texts.length : Nat) : Int)) ∧ Kept W w') := fun z hz W hW => by rw [hz]; exact heldStringS_yes W xa ca s.texts (m + 6) (by omega) (by omega) hW
      have hbr : b < wr.heap.size := hb
      clear hc htx hmt htx2 hmt2 hm hxs hsum hsl hcs hsd
      have HSO : Hid (∀ w', Kept wr w' → (fun w' => w'.cell? ⟨b, o + j * 7, none⟩ = some (.string txt) ∧ w'.cell? ⟨b, o + j * 7 + 3, none⟩ = some (.string tx2)) w') := fun w' kk => ⟨(kk.cell hbr).trans c0, (kk.cell hbr).trans c3⟩
      go_wp2
      go_region_held (fun w' => w'.cell? ⟨b, o + j * 7, none⟩ = some (.string txt) ∧ w'.cell? ⟨b, o + j * 7 + 3, none⟩ = some (.string tx2)) (exact unhide HSO _ (by repeat (first | (with_reducible exact Kept.refl _) | (with_reducible assumption) | apply Kept.drew))) ((go_at_call 68; refine (HMT.out _).mono ?_; rintro e w1 ⟨rfl, kk1⟩; have k1 : Kept wr w1 := Kept.trans (by repeat (first | (with_reducible exact Kept.refl _) | (with_reducible assumption) | apply Kept.drew)) kk1))
      all_goals
        have d0 := (k1.cell (o := o + j * 7) hbr).trans c0
        have d1 := (k1.cell (o := o + j * 7 + 1) hbr).trans c1
        have d2 := (k1.cell (o := o + j * 7 + 2) hbr).trans c2
        have d3 := (k1.cell (o := o + j * 7 + 3) hbr).trans c3
        have z1 := k1.size
        have hb1 : b < w1.heap.size := by omega
        have HSO1 : Hid (∀ w', Kept w1 w' → (fun w' => w'.cell? ⟨b, o + j * 7, none⟩ = some (.string txt) ∧ w'.cell? ⟨b, o + j * 7 + 3, none⟩ = some (.string tx2)) w') := fun w' kk => HSO.out w' (k1.trans kk)
        go_wp2
        go_region_held (fun w' => w'.cell? ⟨b, o + j * 7, none⟩ = some (.string txt) ∧ w'.cell? ⟨b, o + j * 7 + 3, none⟩ = some (.string tx2)) (exact unhide HSO1 _ (by repeat (first | (with_reducible exact Kept.refl _) | (with_reducible assumption) | apply Kept.drew))) ((go_at_call 68; refine (HMT2.out _ (by omega) _).mono ?_; rintro e w2 ⟨rfl, kk2⟩; have k2 : Kept w1 w2 := Kept.trans (by repeat (first | (with_reducible exact Kept.refl _) | (with_reducible assumption) | apply Kept.drew)) kk2))
        all_goals
          have k12 := k1.trans k2
          have e4 := (k12.cell (o := o + j * 7 + 4) hbr).trans c4
          have e5 := (k12.cell (o := o + j * 7 + 5) hbr).trans c5
          have e6 := (k12.cell (o := o + j * 7 + 6) hbr).trans c6
          have z2 := k12.size
          have hb2 : b < w2.heap.size := by omega
          clear c0 c1 c2 c3 c4 c5 c6 d0 d1 d2 d3
          go_wp2_with fail
          refine (HMN.out _ (by omega) _ (HXs.out.kept (by repeat (first | (with_reducible exact k12) | apply Kept.drew)))).mono ?_
          rintro e w3 ⟨rfl, kk3⟩
          have k3 : Kept w2 w3 := Kept.trans (by repeat (first | (with_reducible exact Kept.refl _) | apply Kept.drew)) kk3
          obtain ⟨m6, hm6⟩ : ∃ m6, m6 = m + 6 + s.texts.length := ⟨_, rfl⟩
          rw [← hm6]
          have HM6 := hide hm6
          have hm6b : m6 ≤ 4611686018427387904 := by omega
          clear hm6 e4 e5 e6
          go_wp2
          go_roundw
          case rel => exact ⟨j + 1, m6, by omega, by go_num, by go_num, by have h1 := HMn.out; have h2 := HM6.out; have h3 := HSum.out; have h4 : cntRun s = 6 + s.texts.length := rfl; omega, hw.trans (k12.trans k3)⟩
          case measure => simp [intOf]; omega
    · have : j = l.length := by omega
      subst this
      go_wp2
      go_ret
      exact ⟨ret_int (by have := HMn.out; rw [sumTo_all] at this; omega), hw⟩
set_option maxHeartbeats 800000 in
theorem heldStateX_yes (w : World) (a d : Option Addr) (cap e0 : Nat) (roots : List ByteArray) (l : List RunX) (k : Nat) (h0 : 0 < k) (h1 : k + roots.length + (l.map cntRun).sum ≤ 4611686018427387904) (hR : Strs w a (markStrs roots k)) (hS : RunsX w d (markRunsX l (k + roots.length))) :
    Calls Tryz.prog 14 #[.agg #[.slice a roots.length cap, .slice d l.length e0], .int .i64 k] w fun e w' => e = .returned (.int .i64 ((k + roots.length + (l.map cntRun).sum : Nat) : Int)) ∧ Kept w w' := by
  obtain ⟨W0, hW0⟩ : ∃ W0, W0 = w.alloc (.cells #[.slice a roots.length cap, .slice d l.length e0] 33) := ⟨_, rfl⟩
  have k0 : Kept w W0 := by rw [hW0]; exact (Kept.refl _).alloc _
  have b0 : W0.cell? ⟨w.heap.size, 0, none⟩ = some (.slice a roots.length cap) := (twoCells (w := w) (by rw [hW0]; exact Kept.refl _)).1
  have b1 : W0.cell? ⟨w.heap.size, 1, none⟩ = some (.slice d l.length e0) := (twoCells (w := w) (by rw [hW0]; exact Kept.refl _)).2
  have z0 : w.heap.size < W0.heap.size := by rw [hW0]; simp
  go_enter Tryz.func14, Tryz.ntmps14
  go_wp2_with fail
  rw [← hW0]
  clear hW0
  refine (heldStringS_yes _ a cap roots k h0 (by omega) (hR.kept k0)).mono ?_
  rintro e w1 ⟨rfl, k1⟩
  have c1 := (k1.cell (o := 1) z0).trans b1
  obtain ⟨m, hm⟩ : ∃ m, m = k + roots.length := ⟨_, rfl⟩
  rw [← hm]
  have hmb : m + (l.map cntRun).sum ≤ 4611686018427387904 := by omega
  have hm0 : 0 < m := by omega
  have hmn : ¬ ((m : Int) < 0) := by omega
  have HM := hide hm
  have hz1 := k1.size
  have K1 := k0.trans k1
  have HS := hide (hS.kept K1)
  rw [← hm] at HS
  clear hm b0 b1 hS k0 k1
  go_wp2_with fail
  refine (heldRunSX_yes _ d e0 l m hm0 hmb HS.out).mono ?_
  rintro e w2 ⟨rfl, k2⟩
  obtain ⟨m2, hm2⟩ : ∃ m2, m2 = m + (l.map cntRun).sum := ⟨_, rfl⟩
  rw [← hm2]
  have hmn2 : ¬ ((m2 : Int) < 0) := by omega
  have HM2 := hide hm2
  have K2 := K1.trans k2
  clear hm2 k2
  go_wp2
  go_ret
  exact ⟨ret_int (by have h2 := HM2.out; have h3 := HM.out; omega), K2⟩
end Go.Proofs.YtjhemildijapmaaGreatDoor
