import Derived.Test.YtjhemildijapmaaGreatDoorKRMark
import Derived.Test.YtjhemildijapmaaGreatDoorKFImpl2
import Derived.Test.YtjhemildijapmaaGreatDoorKXValid0
namespace Go.Proofs.YtjhemildijapmaaGreatDoor
open Go.RowKit
theorem strsIn_nil {w : World} {lo hi : Nat} {a : Option Addr} {l : List ByteArray} (h : StrsIn w lo hi a l) : a = none → l.length = 0 := fun e => by
  rcases h with rfl | ⟨b, hb, _⟩
  · rfl
  · rw [e] at hb; cases hb
set_option maxRecDepth 100000 in
set_option maxHeartbeats 3200000 in
theorem copyRunX_in (w : World) (r : RunX) (xa : Option Addr) (xc : Nat) (hn : r.name.size ≤ 1048576) (ht : r.text.size ≤ 1048576) (hl : r.texts.length ≤ 1048576) (hs : ∀ s ∈ r.texts, s.size ≤ 1048576) (hS : Strs w xa r.texts) :
    Calls Tryz.prog 65 #[.agg #[.string r.name, .bool r.over, .bool r.fail, .string r.text, .int .i64 r.at', .int .i64 r.visits, .slice xa r.texts.length xc]] w fun e w' => ∃ x, e = .returned (.agg (r.cells x r.texts.length).toArray) ∧ StrsIn w' w.heap.size w'.heap.size x r.texts ∧ Kept w w' := by
  go_enter Tryz.func65, Tryz.ntmps65
  go_wp2_with fail
  refine (clone_any _ r.name hn).mono ?_
  rintro e w1 ⟨rfl, k1⟩
  have K1 : Kept w w1 := Kept.trans (((Kept.refl _).alloc _).alloc _) k1
  have z1 := k1.size
  simp only [World.size_alloc] at z1
  have hA1 := RowT.kept (RowT.made w #[.string r.name, .bool r.over, .bool r.fail, .string r.text, .int .i64 r.at', .int .i64 r.visits, .slice xa r.texts.length xc] 59) (Kept.trans ((Kept.refl _).alloc _) k1)
  have hc1 : w1.rangeAt w.heap.size 0 [.string r.name, .bool r.over, .bool r.fail, .string r.text, .int .i64 r.at', .int .i64 r.visits, .slice xa r.texts.length xc] := fun j v hv => by
    rw [(Kept.trans ((Kept.refl _).alloc _) k1 : Kept (w.alloc (.cells #[.string r.name, .bool r.over, .bool r.fail, .string r.text, .int .i64 r.at', .int .i64 r.visits, .slice xa r.texts.length xc] 59)) w1).cell (by simp)]
    exact range_new w #[.string r.name, .bool r.over, .bool r.fail, .string r.text, .int .i64 r.at', .int .i64 r.visits, .slice xa r.texts.length xc] 59 j v hv
  have hB1 : RowT w1 (w.heap.size + 1) 59 7 := by
    have h := RowT.kept (RowT.made (w.alloc (.cells #[.string r.name, .bool r.over, .bool r.fail, .string r.text, .int .i64 r.at', .int .i64 r.visits, .slice xa r.texts.length xc] 59)) #[.string ⟨#[]⟩, .bool false, .bool false, .string ⟨#[]⟩, .int .i64 0, .int .i64 0, .slice none 0 0] 59) k1
    rw [World.size_alloc] at h
    exact h
  have HA1 : Hid (RowT w1 w.heap.size 59 7) := hA1
  have HB1 : Hid (RowT w1 (w.heap.size + 1) 59 7) := hB1
  have r1 := hc1 1 _ rfl
  have r2 := hc1 2 _ rfl
  have r3 := hc1 3 _ rfl
  have r4 := hc1 4 _ rfl
  have r5 := hc1 5 _ rfl
  have r6 := hc1 6 _ rfl
  simp only [Nat.zero_add] at r1 r2 r3 r4 r5 r6
  obtain ⟨⟨_, x0⟩, g0⟩ := HA1.out.row.at (i := 0) (by omega)
  clear hA1 hc1 hB1 k1
  go_wp2_with fail
  refine (clone_any _ r.text ht).mono ?_
  rintro e w2 ⟨rfl, k2⟩
  have hA2 := (HA1.out.set (o := 0) (.string r.name)).kept k2
  have hal := (HA1.out.set (o := 0) (.string r.name)).lt
  have q0 : w2.cell? ⟨w.heap.size, 0, none⟩ = some (.string r.name) := by rw [k2.cell hal]; exact set_hit HA1.out.row (by omega) _
  have q1 : w2.cell? ⟨w.heap.size, 1, none⟩ = some (.bool r.over) := by rw [k2.cell hal, set_miss (by omega)]; exact r1
  have q2 : w2.cell? ⟨w.heap.size, 2, none⟩ = some (.bool r.fail) := by rw [k2.cell hal, set_miss (by omega)]; exact r2
  have q4 : w2.cell? ⟨w.heap.size, 4, none⟩ = some (.int .i64 r.at') := by rw [k2.cell hal, set_miss (by omega)]; exact r4
  have q5 : w2.cell? ⟨w.heap.size, 5, none⟩ = some (.int .i64 r.visits) := by rw [k2.cell hal, set_miss (by omega)]; exact r5
  have q6 : w2.cell? ⟨w.heap.size, 6, none⟩ = some (.slice xa r.texts.length xc) := by rw [k2.cell hal, set_miss (by omega)]; exact r6
  have hB2 : RowT w2 (w.heap.size + 1) 59 7 := (HB1.out.block (Below.heap_setCell _ _ _ _ (by simp))).kept k2
  have K2 : Kept w w2 := Kept.trans (K1.setCell (Nat.le_refl _) _) k2
  have z2 := k2.size
  rw [size_setCell] at z2
  have HA2 := hide hA2
  have HB2 := hide hB2
  obtain ⟨⟨_, x3⟩, g3⟩ := hA2.row.at (i := 3) (by omega)
  clear r1 r2 r3 r4 r5 r6 x0 g0 hA2 hB2 hal HA1 HB1 K1 k2
  go_wp2_with fail
  refine (copyStrs_in _ xa xc r.texts hl hs (hS.kept (K2.setCell (Nat.le_refl _) _))).mono ?_
  rintro e w3 ⟨x, rfl, hx, k3⟩
  have hal := (HA2.out.set (o := 3) (.string r.text)).lt
  have p0 : w3.cell? ⟨w.heap.size, 0, none⟩ = some (.string r.name) := by rw [k3.cell hal, set_miss (by omega)]; exact q0
  have p1 : w3.cell? ⟨w.heap.size, 1, none⟩ = some (.bool r.over) := by rw [k3.cell hal, set_miss (by omega)]; exact q1
  have p2 : w3.cell? ⟨w.heap.size, 2, none⟩ = some (.bool r.fail) := by rw [k3.cell hal, set_miss (by omega)]; exact q2
  have p3 : w3.cell? ⟨w.heap.size, 3, none⟩ = some (.string r.text) := by rw [k3.cell hal]; exact set_hit HA2.out.row (by omega) _
  have p4 : w3.cell? ⟨w.heap.size, 4, none⟩ = some (.int .i64 r.at') := by rw [k3.cell hal, set_miss (by omega)]; exact q4
  have p5 : w3.cell? ⟨w.heap.size, 5, none⟩ = some (.int .i64 r.visits) := by rw [k3.cell hal, set_miss (by omega)]; exact q5
  have hA3 := (HA2.out.set (o := 3) (.string r.text)).kept k3
  have hB3 : RowT w3 (w.heap.size + 1) 59 7 := (HB2.out.block (Below.heap_setCell _ _ _ _ (by simp))).kept k3
  have K3 : Kept w w3 := Kept.trans (K2.setCell (Nat.le_refl _) _) k3
  have z3 := k3.size
  rw [size_setCell] at z3 hx
  have HB3 := hide hB3
  have HX := hide hx
  obtain ⟨⟨_, x6⟩, g6⟩ := hA3.row.at (i := 6) (by omega)
  obtain ⟨⟨_, b0⟩, f0⟩ := hB3.row.at (i := 0) (by omega)
  obtain ⟨⟨_, b1⟩, f1⟩ := hB3.row.at (i := 1) (by omega)
  obtain ⟨⟨_, b2⟩, f2⟩ := hB3.row.at (i := 2) (by omega)
  obtain ⟨⟨_, b3⟩, f3⟩ := hB3.row.at (i := 3) (by omega)
  obtain ⟨⟨_, b4⟩, f4⟩ := hB3.row.at (i := 4) (by omega)
  obtain ⟨⟨_, b5⟩, f5⟩ := hB3.row.at (i := 5) (by omega)
  obtain ⟨⟨_, b6⟩, f6⟩ := hB3.row.at (i := 6) (by omega)
  clear q0 q1 q2 q4 q5 q6 x3 g3 hA3 hB3 hal HA2 HB2 K2 k3 hx
  go_wp2
  have hX : Row (w3.setCell ⟨w.heap.size, 6, none⟩ (.slice x r.texts.length r.texts.length)) (w.heap.size + 1) 7 := (HB3.out.block (Below.heap_setCell _ _ _ _ (by simp))).row
  have hR := World.rangeAt_setCells_same _ (w.heap.size + 1) 0 (r.cells x r.texts.length) (hX.there (o := 0) (m := 7) (Nat.le_refl _))
  refine bodyPost_ret_cell (r.cells x r.texts.length) _ Tryz.results65 rfl hR Tryz.underlying59 rfl Tryz.sizeRun7 rfl ⟨x, rfl, StrsIn.mono (lo := w2.heap.size) (hi := w3.heap.size) ?_ (by omega) (by simp), ?_⟩
  · repeat (first | (refine StrsIn.setCell ?_ (by simp <;> omega) _) | exact HX.out)
  · repeat (first | (refine Kept.setCell ?_ (by simp <;> omega) _) | exact K3)
set_option maxRecDepth 100000 in
set_option maxHeartbeats 3200000 in
theorem copyRunsX_in (w : World) (a : Option Addr) (cap : Nat) (l : List RunX) (hl : l.length ≤ 1048576) (hs : ∀ s ∈ l, s.name.size ≤ 1048576 ∧ s.text.size ≤ 1048576 ∧ s.texts.length ≤ 1048576 ∧ ∀ t ∈ s.texts, t.size ≤ 1048576) (hS : RunsX w a l) :
    Calls Tryz.prog 64 #[.slice a l.length cap, .func (.func 65) #[] #[]] w fun e w' => ∃ a', e = .returned (.slice a' l.length l.length) ∧ RunsInX w' w.heap.size w'.heap.size a' l ∧ Kept w w' := by
  by_cases h0 : l.length = 0
  · have hnil : l = [] := List.eq_nil_of_length_eq_zero h0
    subst hnil
    go_enter Tryz.func64, Tryz.ntmps64
    go_wp2
    go_ret
    exact ⟨none, rfl, .inl rfl, Kept.refl _⟩
  · have hmk := run_make_many (P := Tryz.prog) 31 59 _ _ _ Tryz.underlying31 Tryz.infoRun7 .i64 .i64 l.length (by omega) (by omega)
    have h00 : ((l.length : Int) == 0) = false := by simpa using h0
    go_enter Tryz.func64, Tryz.ntmps64
    go_wp2
    clear hmk h00
    have hrow := Row.made w (madeCells #[.string ⟨#[]⟩, .bool false, .bool false, .string ⟨#[]⟩, .int .i64 0, .int .i64 0, .slice none 0 0] (l.length * 7)) 59
    rw [size_madeCells] at hrow
    have hkept : Kept w (w.alloc (.cells (madeCells #[.string ⟨#[]⟩, .bool false, .bool false, .string ⟨#[]⟩, .int .i64 0, .int .i64 0, .slice none 0 0] (l.length * 7)) 59)) := (Kept.refl _).alloc _
    go_loopw [16] (fun i wr => ∃ k : Nat, k ≤ l.length ∧ i = .int .i64 k ∧ Kept w wr ∧ Row wr w.heap.size (l.length * 7) ∧ ∃ c : Nat → Nat, w.heap.size < c 0 ∧ c k ≤ wr.heap.size ∧ (∀ i j, i ≤ j → c i ≤ c j) ∧ ∀ j, j < k → RunInX wr w.heap.size j (c j) (c (j + 1)) (l.getD j RunX.zero)) (fun i _ => l.length - (intOf i).toNat)
    case atStart => exact ⟨0, Nat.zero_le _, rfl, hkept, hrow, fun _ => w.heap.size + 1, Nat.lt_succ_self _, by simp, fun _ _ _ => Nat.le_refl _, fun j hj => absurd hj (Nat.not_lt_zero _)⟩
    case round =>
      obtain ⟨k, hk, rfl, hw, hr, c, hc0, hck, hmono, hf⟩ := hrel
      have HMono := hide hmono
      clear hmono
      clear hrow hkept
      by_cases hlt : k < l.length
      · obtain ⟨b, o, x, cx, rfl, hb, hc, hA, _⟩ := hS.kept hw k hlt
        have hsz := hs (l.getD k RunX.zero) (by simp [List.getD, hlt])
        have HF := hide hf
        clear hf
        generalize hs : l.getD k RunX.zero = s at *
        have HSs := hide hs
        clear hs
        have c0 := hc 0 _ rfl
        have c1 := hc 1 _ rfl
        have c2 := hc 2 _ rfl
        have c3 := hc 3 _ rfl
        have c4 := hc 4 _ rfl
        have c5 := hc 5 _ rfl
        have c6 := hc 6 _ rfl
        simp only [Nat.add_zero] at c0
        have HSz := hide hsz
        clear hc hsz
        go_wp2_with fail
        refine (copyRunX_in _ s x cx HSz.out.1 HSz.out.2.1 HSz.out.2.2.1 HSz.out.2.2.2 (hA.kept (by repeat (first | (refine Kept.setCell ?_ (by simp) _) | apply Kept.alloc | exact Kept.refl _)))).mono ?_
        rintro e w1 ⟨b1, rfl, g1, k1⟩
        have hw1 : Kept wr w1 := Kept.trans (by repeat (first | (refine Kept.setCell ?_ (by simp) _) | apply Kept.alloc | exact Kept.refl _)) k1
        have hz1 := hw1.size
        have g1' : StrsIn w1 wr.heap.size w1.heap.size b1 s.texts := g1.mono (by simp) (Nat.le_refl _)
        have hrl := hr.lt
        have hw2 := hw.trans hw1
        have hr1 := hr.kept hw1
        generalize hcs : s.cells b1 s.texts.length = cs
        have hlen : cs.length = 7 := by rw [← hcs]; rfl
        have hone : cs.toArray.all (·.oneCell') = true := by rw [← hcs, List.all_toArray, List.all_eq_true]; exact RunX.one s _ _
        have hth : w1.there w.heap.size (k * 7) cs.toArray.size := by simpa [hlen] using hr1.there (o := k * 7) (m := 7) (by omega)
        have hsize : (Tryz.prog.info? 59).map (·.size) = some cs.toArray.size := by rw [Tryz.sizeRun7]; simp [hlen]
        have HCS := hide hcs
        have HLEN := hide hlen
        have HSZ := hide hsize
        clear hcs hlen hsize
        have HR : Hid (Row w1 w.heap.size (l.length * 7)) := hr1
        have HG1 := hide g1'
        have HF1 : Hid (∀ j, j < k → RunInX w1 w.heap.size j (c j) (c (j + 1)) (l.getD j RunX.zero)) := fun j hj => (HF.out j hj).kept hw1 hr.lt
        clear HF c0 c1 c2 c3 c4 c5 c6 hw hw1 hr hr1 hA k1 g1 g1'
        go_wp2_with (refine wpList_store_mid rfl 59 _ _ rfl w.heap.size (k * 7) cs.toArray rfl rfl hth (unhide HSZ) hone ?_)
        go_roundw
        case rel =>
          have hmono := HMono.out
          refine ⟨k + 1, by omega, by go_num, Kept.setCells (Nat.le_refl _) _ _ hw2, Row.setCells _ _ HR.out, cutAt c k w1.heap.size, by rw [cutAt_le (Nat.zero_le _)]; exact hc0, by rw [cutAt_gt (by omega), size_setCells]; exact Nat.le_refl _, cutAt_mono hmono (by omega), fun j hj => ?_⟩
          by_cases e : j = k
          · subst e
            rw [unhide HSs, cutAt_le (Nat.le_refl _), cutAt_gt (by omega)]
            have hcj : w.heap.size < c j := Nat.lt_of_lt_of_le hc0 (hmono 0 j (Nat.zero_le _))
            exact ⟨_, _, by rw [HCS.out]; exact World.rangeAt_setCells_same _ _ _ _ (by simpa using hth), (HG1.out.mono hck (Nat.le_refl _)).same (Same.setCells (.inl hcj) _ _ _), strsIn_nil HG1.out⟩
          · rw [cutAt_le (by omega), cutAt_le (by omega)]
            exact (HF1.out j (by omega)).setCells (Nat.lt_of_lt_of_le hc0 (hmono 0 j (Nat.zero_le _))) (by rw [HLEN.out]; omega)
        case measure => simp [intOf]; omega
      · go_wp2
        go_ret
        have : k = l.length := by omega
        subst this
        exact ⟨_, rfl, .inr ⟨w.heap.size, c, rfl, Nat.le_refl _, hc0, hck, hr, HMono.out, hf⟩, hw⟩
end Go.Proofs.YtjhemildijapmaaGreatDoor
