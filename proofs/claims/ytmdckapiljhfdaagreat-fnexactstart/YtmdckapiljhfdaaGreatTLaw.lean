import Derived.Test.YtmdckapiljhfdaaGreatSStart
import Derived.Test.YtmdckapiljhfdaaGreatOWithout
import Derived.Test.YtmdckapiljhfdaaGreatTBegin
import Derived.Test.YtmdckapiljhfdaaGreatWLaw
import Derived.Test.YtmdckapiljhfdaaGreatODrop3

/-
  WALKS: copyRun, copyEach of runs (fresh ones).
-/
namespace Go.Proofs.YtmdckapiljhfdaaGreat
open Go.RowKit

theorem Tryz.sizeRun : (Tryz.prog.info? 78).map (·.size) = some 7 := by kernel_rfl

set_option maxRecDepth 100000 in
set_option maxHeartbeats 1600000 in
theorem copyRun_any (w : World) (n : ByteArray) (hn : n.size ≤ 1048576) :
    Calls Tryz.prog 49 #[.agg #[.string n, .bool false, .bool false, .string ⟨#[]⟩, .int .i64 0, .int .i64 0, .slice none 0 0]] w fun e w' => ∃ x, e = .returned (.agg (freshCells n x 0).toArray) ∧ Kept w w' := by
  go_enter Tryz.func49, Tryz.ntmps49
  go_wp2_with fail
  refine (clone_any _ n hn).mono ?_
  rintro e w1 ⟨rfl, k1⟩
  have K1 : Kept w w1 := Kept.trans (((Kept.refl _).alloc _).alloc _) k1
  have z1 := k1.size
  simp only [World.size_alloc] at z1
  have hA1 := RowT.kept (RowT.made w #[.string n, .bool false, .bool false, .string ⟨#[]⟩, .int .i64 0, .int .i64 0, .slice none 0 0] 78) (Kept.trans ((Kept.refl _).alloc _) k1)
  have hc1 := range_kept (w := w) (Kept.trans ((Kept.refl _).alloc _) k1)
  have hB1 := rowAlloc k1
  simp only [World.size_alloc] at hB1
  have HA1 : Hid (RowT w1 w.heap.size 78 7) := hA1
  have HB1 : Hid (RowT w1 (w.heap.size + 1) 78 7) := hB1
  have r1 := hc1 1 _ rfl
  have r2 := hc1 2 _ rfl
  have r3 := hc1 3 _ rfl
  have r4 := hc1 4 _ rfl
  have r5 := hc1 5 _ rfl
  have r6 := hc1 6 _ rfl
  simp only [Nat.zero_add] at r1 r2 r3 r4 r5 r6
  obtain ⟨⟨_, x0⟩, g0⟩ := HA1.out.row.at (i := 0) (by omega)
  clear hA1 hc1 hB1 k1
  go_wp2_with fail
  refine (clone_any _ ⟨#[]⟩ (by decide)).mono ?_
  rintro e w2 ⟨rfl, k2⟩
  have hA2 := (HA1.out.set (o := 0) (.string n)).kept k2
  have hal := (HA1.out.set (o := 0) (.string n)).lt
  have q0 : w2.cell? ⟨w.heap.size, 0, none⟩ = some (.string n) := by rw [k2.cell hal]; exact set_hit HA1.out.row (by omega) _
  have q1 : w2.cell? ⟨w.heap.size, 1, none⟩ = some (.bool false) := by rw [k2.cell hal, set_miss (by omega)]; exact r1
  have q2 : w2.cell? ⟨w.heap.size, 2, none⟩ = some (.bool false) := by rw [k2.cell hal, set_miss (by omega)]; exact r2
  have q4 : w2.cell? ⟨w.heap.size, 4, none⟩ = some (.int .i64 0) := by rw [k2.cell hal, set_miss (by omega)]; exact r4
  have q5 : w2.cell? ⟨w.heap.size, 5, none⟩ = some (.int .i64 0) := by rw [k2.cell hal, set_miss (by omega)]; exact r5
  have q6 : w2.cell? ⟨w.heap.size, 6, none⟩ = some (.slice none 0 0) := by rw [k2.cell hal, set_miss (by omega)]; exact r6
  have hB2 : RowT w2 (w.heap.size + 1) 78 7 := (HB1.out.block (Below.heap_setCell _ _ _ _ (by simp))).kept k2
  have K2 : Kept w w2 := Kept.trans (K1.setCell (Nat.le_refl _) _) k2
  have z2 := k2.size
  rw [size_setCell] at z2
  have HA2 := hide hA2
  have HB2 := hide hB2
  obtain ⟨⟨_, x3⟩, g3⟩ := hA2.row.at (i := 3) (by omega)
  clear r1 r2 r3 r4 r5 r6 x0 g0 hA2 hB2 hal HA1 HB1 K1 k2
  go_wp2_with fail
  refine (copyStrs_in _ none 0 [] (by simp) (fun s hs => by cases hs) (fun i hi => by simp at hi)).mono ?_
  rintro e w3 ⟨x, rfl, _, k3⟩
  have hal := (HA2.out.set (o := 3) (.string ⟨#[]⟩)).lt
  have p0 : w3.cell? ⟨w.heap.size, 0, none⟩ = some (.string n) := by rw [k3.cell hal, set_miss (by omega)]; exact q0
  have p1 : w3.cell? ⟨w.heap.size, 1, none⟩ = some (.bool false) := by rw [k3.cell hal, set_miss (by omega)]; exact q1
  have p2 : w3.cell? ⟨w.heap.size, 2, none⟩ = some (.bool false) := by rw [k3.cell hal, set_miss (by omega)]; exact q2
  have p3 : w3.cell? ⟨w.heap.size, 3, none⟩ = some (.string ⟨#[]⟩) := by rw [k3.cell hal]; exact set_hit HA2.out.row (by omega) _
  have p4 : w3.cell? ⟨w.heap.size, 4, none⟩ = some (.int .i64 0) := by rw [k3.cell hal, set_miss (by omega)]; exact q4
  have p5 : w3.cell? ⟨w.heap.size, 5, none⟩ = some (.int .i64 0) := by rw [k3.cell hal, set_miss (by omega)]; exact q5
  have hA3 := (HA2.out.set (o := 3) (.string ⟨#[]⟩)).kept k3
  have hB3 : RowT w3 (w.heap.size + 1) 78 7 := (HB2.out.block (Below.heap_setCell _ _ _ _ (by simp))).kept k3
  have K3 : Kept w w3 := Kept.trans (K2.setCell (Nat.le_refl _) _) k3
  have z3 := k3.size
  rw [size_setCell] at z3
  have HB3 := hide hB3
  obtain ⟨⟨_, x6⟩, g6⟩ := hA3.row.at (i := 6) (by omega)
  obtain ⟨⟨_, b0⟩, f0⟩ := hB3.row.at (i := 0) (by omega)
  obtain ⟨⟨_, b1⟩, f1⟩ := hB3.row.at (i := 1) (by omega)
  obtain ⟨⟨_, b2⟩, f2⟩ := hB3.row.at (i := 2) (by omega)
  obtain ⟨⟨_, b3⟩, f3⟩ := hB3.row.at (i := 3) (by omega)
  obtain ⟨⟨_, b4⟩, f4⟩ := hB3.row.at (i := 4) (by omega)
  obtain ⟨⟨_, b5⟩, f5⟩ := hB3.row.at (i := 5) (by omega)
  obtain ⟨⟨_, b6⟩, f6⟩ := hB3.row.at (i := 6) (by omega)
  clear q0 q1 q2 q4 q5 q6 x3 g3 hA3 hB3 hal HA2 HB2 K2 k3
  go_wp2
  have hX : Row (w3.setCell ⟨w.heap.size, 6, none⟩ (.slice x 0 0)) (w.heap.size + 1) 7 := (HB3.out.block (Below.heap_setCell _ _ _ _ (by simp))).row
  have hR := World.rangeAt_setCells_same _ (w.heap.size + 1) 0 (freshCells n x 0) (hX.there (o := 0) (m := 7) (Nat.le_refl _))
  refine bodyPost_ret_cell (freshCells n x 0) _ Tryz.results49 rfl hR Tryz.underlying78 rfl Tryz.sizeRun rfl ⟨x, rfl, ?_⟩
  repeat (first | (refine Kept.setCell ?_ (by simp <;> omega) _) | exact K3)

set_option maxRecDepth 100000 in
set_option maxHeartbeats 1600000 in
theorem copyRuns_in (w : World) (a : Option Addr) (cap : Nat) (l : List NodeD) (hl : l.length ≤ 1000) (hs : ∀ d ∈ l, d.name.size ≤ 1048576) (hS : RunsZ w a l) :
    Calls Tryz.prog 48 #[.slice a l.length cap, .func (.func 49) #[] #[]] w fun e w' => ∃ a', e = .returned (.slice a' l.length l.length) ∧ RunsIn w' w.heap.size w'.heap.size a' (freshOf l) ∧ Kept w w' := by
  by_cases h0 : l.length = 0
  · have hnil : l = [] := List.eq_nil_of_length_eq_zero h0
    subst hnil
    go_enter Tryz.func48, Tryz.ntmps48
    go_wp2
    go_ret
    exact ⟨none, rfl, .inl rfl, Kept.refl _⟩
  · have hmk := run_make_many (P := Tryz.prog) 28 78 _ _ _ Tryz.underlying28 Tryz.infoRun .i64 .i64 l.length (by omega) (by omega)
    have h00 : ((l.length : Int) == 0) = false := by simpa using h0
    go_enter Tryz.func48, Tryz.ntmps48
    go_wp2
    clear hmk h00
    have hrow := Row.made w (madeCells #[.string ⟨#[]⟩, .bool false, .bool false, .string ⟨#[]⟩, .int .i64 0, .int .i64 0, .slice none 0 0] (l.length * 7)) 78
    rw [size_madeCells] at hrow
    have hkept : Kept w (w.alloc (.cells (madeCells #[.string ⟨#[]⟩, .bool false, .bool false, .string ⟨#[]⟩, .int .i64 0, .int .i64 0, .slice none 0 0] (l.length * 7)) 78)) := (Kept.refl _).alloc _
    go_loopw [16] (fun i wr => ∃ k : Nat, k ≤ l.length ∧ i = .int .i64 k ∧ Kept w wr ∧ Row wr w.heap.size (l.length * 7) ∧ ∀ j, j < k → ∃ x c, wr.rangeAt w.heap.size (j * 7) (freshCells (l.getD j NodeD.zero).name x c)) (fun i _ => l.length - (intOf i).toNat)
    case atStart => exact ⟨0, Nat.zero_le _, rfl, hkept, hrow, fun j hj => absurd hj (Nat.not_lt_zero _)⟩
    case round =>
      obtain ⟨k, hk, rfl, hw, hr, hf⟩ := hrel
      clear hrow hkept
      by_cases hlt : k < l.length
      · obtain ⟨b, o, rfl, hb, hc⟩ := hS.kept hw k hlt
        have hsz := hs (l.getD k NodeD.zero) (by simp [List.getD, hlt])
        have HF := hide hf
        clear hf hs
        generalize hs : l.getD k NodeD.zero = s at *
        have HSs := hide hs
        clear hs
        have c0 : wr.cell? ⟨b, o + k * 7 + 0, none⟩ = some (.string s.name) := hc 0 _ rfl
        have c1 : wr.cell? ⟨b, o + k * 7 + 1, none⟩ = some (.bool false) := hc 1 _ rfl
        have c2 : wr.cell? ⟨b, o + k * 7 + 2, none⟩ = some (.bool false) := hc 2 _ rfl
        have c3 : wr.cell? ⟨b, o + k * 7 + 3, none⟩ = some (.string ⟨#[]⟩) := hc 3 _ rfl
        have c4 : wr.cell? ⟨b, o + k * 7 + 4, none⟩ = some (.int .i64 0) := hc 4 _ rfl
        have c5 : wr.cell? ⟨b, o + k * 7 + 5, none⟩ = some (.int .i64 0) := hc 5 _ rfl
        have c6 : wr.cell? ⟨b, o + k * 7 + 6, none⟩ = some (.slice none 0 0) := hc 6 _ rfl
        rw [Nat.add_zero] at c0
        clear hc
        go_wp2_with fail
        refine (copyRun_any _ s.name hsz).mono ?_
        rintro e w1 ⟨x1, rfl, k1⟩
        have hw1 : Kept wr w1 := Kept.trans (by repeat (first | (refine Kept.setCell ?_ (by simp) _) | apply Kept.alloc | exact Kept.refl _)) k1
        have hrl := hr.lt
        have hw2 := hw.trans hw1
        have hr1 := hr.kept hw1
        generalize hcs : freshCells s.name x1 0 = cs
        have hlen : cs.length = 7 := by rw [← hcs]; rfl
        have hone : cs.toArray.all (·.oneCell') = true := by rw [← hcs]; exact all_oneCell_toArray (by simp [freshCells, Value.oneCell'])
        have hth : w1.there w.heap.size (k * 7) cs.toArray.size := by simpa [hlen] using hr1.there (o := k * 7) (m := 7) (by omega)
        have hsize : (Tryz.prog.info? 78).map (·.size) = some cs.toArray.size := by rw [Tryz.sizeRun]; simp [hlen]
        have HCS := hide hcs
        have HLEN := hide hlen
        have HSZ := hide hsize
        clear hcs hlen hsize
        have HR : Hid (Row w1 w.heap.size (l.length * 7)) := hr1
        have HF1 : Hid (∀ j, j < k → ∃ x c, w1.rangeAt w.heap.size (j * 7) (freshCells (l.getD j NodeD.zero).name x c)) := fun j hj => by
          obtain ⟨x, c, g⟩ := HF.out j hj
          exact ⟨x, c, hw1.range hrl g⟩
        clear HF c0 c1 c2 c3 c4 c5 c6 hw hw1 k1 hr hr1
        go_wp2_with (refine wpList_store_mid rfl 78 _ _ rfl w.heap.size (k * 7) cs.toArray rfl rfl hth (unhide HSZ) hone ?_)
        go_roundw
        case rel =>
          refine ⟨k + 1, by omega, by go_num, Kept.setCells (Nat.le_refl _) _ _ hw2, Row.setCells _ _ HR.out, fun j hj => ?_⟩
          by_cases e : j = k
          · subst e
            rw [unhide HSs]
            exact ⟨_, _, by rw [HCS.out]; exact World.rangeAt_setCells_same _ _ _ _ (by simpa using hth)⟩
          · obtain ⟨x, c, g⟩ := HF1.out j (by omega)
            exact ⟨x, c, World.rangeAt_setCells_apart g _ _ _ (by right; simp [freshCells, HLEN.out]; omega)⟩
        case measure => simp [intOf]; omega
      · go_wp2
        go_ret
        have : k = l.length := by omega
        subst this
        refine ⟨_, rfl, .inr ⟨w.heap.size, rfl, Nat.le_refl _, hr.lt, by rw [freshOf_length]; exact hr, fun i hi => ?_⟩, hw⟩
        rw [freshOf_length] at hi
        obtain ⟨x, c, g⟩ := hf i hi
        rw [freshOf_getD l i hi]
        exact ⟨x, c, g⟩

end Go.Proofs.YtmdckapiljhfdaaGreat

/-
  THE WALK over (*impl.bench).state.
-/
namespace Go.Proofs.YtmdckapiljhfdaaGreat
open Go.RowKit

theorem StSt.grown {W1 wr W w6 : World} {sb n rc m dc : Nat} {ra d : Option Addr} {xs : List Value} (h : StSt W1 wr sb ra n rc d m dc xs) (KW : Kept wr W) (hgr : W.grownBy w6 (Value.slice d m dc).ownBlock) : Below W1.heap.size wr w6 :=
  have hz := h.kb.size
  have hW := KW.size
  (Below.mono KW (by omega)).trans (Below.grown (Below.refl _ _) hgr (by omega) (fun g hg => ((ownsRow_kept' h.own KW).lt g hg).1))
theorem StSt.next {W1 wr W w6 : World} {sb n rc m dc cv6 : Nat} {ra d av6 : Option Addr} {xs ys : List Value} (h : StSt W1 wr sb ra n rc d m dc xs) (hol : sb < W1.heap.size) (KW : Kept wr W) (hgr : W.grownBy w6 (Value.slice d m dc).ownBlock)
    (hO6 : w6.ownsRow W1.heap.size 78 7 (.slice av6 (m + 1) cv6) (m + 1) ys) : StSt W1 (w6.setCell ⟨sb, 1, none⟩ (.slice av6 (m + 1) cv6)) sb ra n rc av6 (m + 1) cv6 ys := by
  have bl := h.grown KW hgr
  have hr6 : RowT w6 sb 30 2 := h.row.block (bl.block sb hol)
  refine ⟨(h.kb.below bl).setCell (Nat.le_refl _) (Nat.lt_succ_self _) _, hr6.set _, ?_, set_hit hr6.row (by omega) _, owns_set hO6 hol _⟩
  rw [set_miss (by omega), Below.cell bl (p := ⟨sb, 0, none⟩) hol]
  exact h.roots

/-- What state gives: lists in blocks of their own. -/
def BStateEnd (roots : List ByteArray) (Q : List NodeD) (w w' : World) (e : Ending) : Prop :=
  ∃ ra ds mid, e = .returned (.agg #[.slice ra roots.length roots.length, .slice ds Q.length Q.length]) ∧ StrsIn w' w.heap.size mid ra roots ∧ RunsIn w' mid w'.heap.size ds (freshOf Q) ∧ w.heap.size ≤ mid ∧ mid ≤ w'.heap.size ∧ Kept w w'

set_option maxRecDepth 100000 in
set_option maxHeartbeats 3200000 in
theorem benchState_any (Wb w : World) (bb : Nat) (a : Option Addr) (n cap : Nat) (rd : Option Addr) (rc : Nat) (roots : List ByteArray) (mp : Value) (Q : List NodeD) (d : Option Addr) (dc : Nat) (xs : List Value) (hrl : roots.length ≤ 10) (hrs : ∀ s ∈ roots, s.size ≤ 1048576) (hQl : Q.length ≤ 20) (hQs : ∀ y ∈ Q, y.name.size ≤ 1048576)
    (hSt : BnSt Wb w bb a n cap rd roots.length rc mp Q d dc xs) (hR : Strs w rd roots) :
    Calls Tryz.prog 24 #[.pointer (some ⟨bb, 0, none⟩)] w fun e w' => BStateEnd roots Q w w' e := by
  have b2 := hSt.bench.c2
  have b3 := hSt.bench.c3
  have zk := hSt.bench.row.lt
  have HP := hide hSt.pack
  have hC := (cells1_of_owned hSt.own).2.2
  have hxl := (cells1_of_owned hSt.own).1
  have HCs := hide hC
  obtain ⟨ino, hn0, hn1, hn2, hn3⟩ := info_parts Tryz.infoRun
  clear hSt hC
  go_enter Tryz.func24, Tryz.ntmps24
  go_wp2_with fail
  refine (copyStrs_in _ rd rc roots (by omega) hrs (hR.kept ((Kept.refl _).alloc _))).mono ?_
  rintro e w1 ⟨ra, rfl, hI1, k1⟩
  have K1 : Kept w w1 := Kept.trans ((Kept.refl _).alloc _) k1
  have z1 := k1.size
  simp only [World.size_alloc] at z1 hI1
  have hres := rowAlloc k1
  have HRes : Hid (RowT w1 w.heap.size 30 2) := hres
  have q2 := (K1.cell zk).trans b2
  have q3 := (K1.cell zk).trans b3
  have HI1 := hide hI1
  have zk1 : bb < w1.heap.size := by omega
  clear hres hI1 k1 b2 b3
  go_wp2
  have KA : Kept w (w1.alloc (.cells #[.slice ra roots.length roots.length, .slice none 0 0] 30)) := K1.alloc _
  have hsr : RowT (w1.alloc (.cells #[.slice ra roots.length roots.length, .slice none 0 0] 30)) w1.heap.size 30 2 := RowT.made w1 #[.slice ra roots.length roots.length, .slice none 0 0] 30
  have HSr := hide hsr
  have HKA := hide KA
  clear hsr KA q2 q3
  go_loopw [18] (fun i wr => ∃ (k : Nat) (ds : Option Addr) (dcs : Nat) (ys : List Value), k ≤ Q.length ∧ i = .int .i64 k ∧ StSt (w1.alloc (.cells #[.slice ra roots.length roots.length, .slice none 0 0] 30)) wr w1.heap.size ra roots.length roots.length ds k dcs ys ∧ PackedZ ys (Q.take k)) (fun i _ => Q.length - (intOf i).toNat)
  case atStart =>
    have hc := range_new w1 #[.slice ra roots.length roots.length, .slice none 0 0] 30
    exact ⟨0, none, 0, [], Nat.zero_le _, rfl, ⟨KeptBut.refl _ _ _, HSr.out, hc 0 _ rfl, hc 1 _ rfl, World.ownsRow_nil _ _ _ _⟩, PackedZ.nil⟩
  case round =>
    obtain ⟨k, ds, dcs, ys, hk, rfl, hSt, hPk⟩ := hrel
    have HSt := hide hSt
    have HPk := hide hPk
    have zr := hSt.kb.size
    simp only [World.size_alloc] at zr
    have Kr : Kept w wr := hSt.kb.kept HKA.out (by omega)
    have m0 := hSt.roots
    have m1 := hSt.runs
    have hsb := hSt.row.lt
    by_cases hlt : k < Q.length
    · obtain ⟨b, o, rfl, hb, hcs⟩ := HCs.out k (by rw [hxl]; exact hlt)
      obtain ⟨tb, cur, fr, hx, htb, hrg⟩ := HP.out.2 k hlt
      obtain ⟨y, hy⟩ : ∃ y, y = Q.getD k NodeD.zero := ⟨_, rfl⟩
      rw [← hy] at hrg
      have HYk := hide hy
      have c0 := (Kr.cell hb).trans (hcs k _ hx)
      have htl := heap_lt htb
      have t0 : wr.cell? ⟨tb, 0, none⟩ = some (.string y.name) := by have := hrg 0 _ rfl; rw [Nat.zero_add] at this; exact (Kr.cell htl).trans this
      have t1 : wr.cell? ⟨tb, 1, none⟩ = some (.bool false) := by have := hrg 1 _ rfl; rw [Nat.zero_add] at this; exact (Kr.cell htl).trans this
      have t2 : wr.cell? ⟨tb, 2, none⟩ = some (.bool false) := by have := hrg 2 _ rfl; rw [Nat.zero_add] at this; exact (Kr.cell htl).trans this
      have t3 : wr.cell? ⟨tb, 3, none⟩ = some (.string ⟨#[]⟩) := by have := hrg 3 _ rfl; rw [Nat.zero_add] at this; exact (Kr.cell htl).trans this
      have t4 : wr.cell? ⟨tb, 4, none⟩ = some (.int .i64 0) := by have := hrg 4 _ rfl; rw [Nat.zero_add] at this; exact (Kr.cell htl).trans this
      have t5 : wr.cell? ⟨tb, 5, none⟩ = some (.int .i64 0) := by have := hrg 5 _ rfl; rw [Nat.zero_add] at this; exact (Kr.cell htl).trans this
      have t6 : wr.cell? ⟨tb, 6, none⟩ = some (.slice none 0 0) := by have := hrg 6 _ rfl; rw [Nat.zero_add] at this; exact (Kr.cell htl).trans this
      have hbr : b < wr.heap.size := Nat.lt_of_lt_of_le hb Kr.size
      have htr : tb < wr.heap.size := Nat.lt_of_lt_of_le htl Kr.size
      clear hcs hx htb hrg hy hSt hPk m0
      have i0 : (k : Int) < (Q.length : Int) := by omega
      have hz0 : w.heap.size ≤ w1.heap.size := by omega
      have HSO : Hid (∀ w', Below (w1.alloc (.cells #[.slice ra roots.length roots.length, .slice none 0 0] 30)).heap.size wr w' → (fun w' => w'.cell? ⟨w1.heap.size, 1, none⟩ = some (.slice ds k dcs) ∧ w'.cell? ⟨tb, 0, none⟩ = some (.string y.name) ∧ w'.cell? ⟨tb, 1, none⟩ = some (.bool false) ∧ w'.cell? ⟨tb, 2, none⟩ = some (.bool false) ∧ w'.cell? ⟨tb, 3, none⟩ = some (.string ⟨#[]⟩) ∧ w'.cell? ⟨tb, 4, none⟩ = some (.int .i64 0) ∧ w'.cell? ⟨tb, 5, none⟩ = some (.int .i64 0) ∧ w'.cell? ⟨tb, 6, none⟩ = some (.slice none 0 0)) w') := fun w' bl => ⟨(Below.cell bl (p := ⟨w1.heap.size, 1, none⟩) (by simp)).trans m1, (Below.cell bl (p := ⟨tb, 0, none⟩) (by simp; omega)).trans t0, (Below.cell bl (p := ⟨tb, 1, none⟩) (by simp; omega)).trans t1, (Below.cell bl (p := ⟨tb, 2, none⟩) (by simp; omega)).trans t2, (Below.cell bl (p := ⟨tb, 3, none⟩) (by simp; omega)).trans t3, (Below.cell bl (p := ⟨tb, 4, none⟩) (by simp; omega)).trans t4, (Below.cell bl (p := ⟨tb, 5, none⟩) (by simp; omega)).trans t5, (Below.cell bl (p := ⟨tb, 6, none⟩) (by simp; omega)).trans t6⟩
      go_wp2
      refine UpTo.region (by kernel_rfl) (fun w' => w'.cell? ⟨w1.heap.size, 1, none⟩ = some (.slice ds k dcs) ∧ w'.cell? ⟨tb, 0, none⟩ = some (.string y.name) ∧ w'.cell? ⟨tb, 1, none⟩ = some (.bool false) ∧ w'.cell? ⟨tb, 2, none⟩ = some (.bool false) ∧ w'.cell? ⟨tb, 3, none⟩ = some (.string ⟨#[]⟩) ∧ w'.cell? ⟨tb, 4, none⟩ = some (.int .i64 0) ∧ w'.cell? ⟨tb, 5, none⟩ = some (.int .i64 0) ∧ w'.cell? ⟨tb, 6, none⟩ = some (.slice none 0 0)) 9 ⟨m1, t0, t1, t2, t3, t4, t5, t6⟩ (fun hHeld => ?_)
      refine UpTo.take 0 [1, 7, 9] (v := ?_) (by (simp only [List.getElem?_toArray, List.getElem?_cons_zero]; rfl)) (by kernel_rfl) (by kernel_rfl) (by kernel_rfl) (by kernel_rfl) (by exact fun _ _ _ h => h) (Or.inl ⟨by rfl, ?_⟩) hHeld ?_
      rotate_left
      · intro u hu
        try dsimp only at hu
        go_simp
        try with_reducible rfl
      try simp only [Act.put, List.setIfInBounds_toArray, List.set_cons_zero, List.set_cons_succ]
      refine UpTo.take 1 [7, 9] (v := ?_) (by (simp only [List.getElem?_toArray, List.getElem?_cons_succ, List.getElem?_cons_zero]; rfl)) (by kernel_rfl) (by kernel_rfl) (by kernel_rfl) (by kernel_rfl) (by exact fun _ _ _ h => h) (Or.inl ⟨by rfl, ?_⟩) hHeld ?_
      rotate_left
      · intro u hu
        try dsimp only at hu
        go_simp
        try with_reducible rfl
      try simp only [Act.put, List.setIfInBounds_toArray, List.set_cons_zero, List.set_cons_succ]
      refine UpTo.take 2 [3, 4, 5, 6, 7, 9] (v := ?_) (by (simp only [List.getElem?_toArray, List.getElem?_cons_succ, List.getElem?_cons_zero]; rfl)) (by kernel_rfl) (by kernel_rfl) (by kernel_rfl) (by kernel_rfl) (by exact fun _ _ _ h => h) (Or.inl ⟨by rfl, ?_⟩) hHeld ?_
      rotate_left
      · intro u hu
        try dsimp only at hu
        go_simp
        try with_reducible rfl
      try simp only [Act.put, List.setIfInBounds_toArray, List.set_cons_zero, List.set_cons_succ]
      refine UpTo.take 3 [4, 5, 6, 7, 9] (v := ?_) (by (simp only [List.getElem?_toArray, List.getElem?_cons_succ, List.getElem?_cons_zero]; rfl)) (by kernel_rfl) (by kernel_rfl) (by kernel_rfl) (by kernel_rfl) (by exact fun _ _ _ h => h) (Or.inl ⟨by rfl, ?_⟩) hHeld ?_
      rotate_left
      · intro u hu
        try dsimp only at hu
        go_simp
        try with_reducible rfl
      try simp only [Act.put, List.setIfInBounds_toArray, List.set_cons_zero, List.set_cons_succ]
      refine UpTo.take 4 [5, 6, 7, 9] (v := ?_) (by (simp only [List.getElem?_toArray, List.getElem?_cons_succ, List.getElem?_cons_zero]; rfl)) (by kernel_rfl) (by kernel_rfl) (by kernel_rfl) (by kernel_rfl) (by exact fun _ _ _ h => h) (Or.inl ⟨by rfl, ?_⟩) hHeld ?_
      rotate_left
      · intro u hu
        try dsimp only at hu
        go_simp
        try with_reducible rfl
      try simp only [Act.put, List.setIfInBounds_toArray, List.set_cons_zero, List.set_cons_succ]
      refine UpTo.take 5 [6, 7, 9] (v := ?_) (by (simp only [List.getElem?_toArray, List.getElem?_cons_succ, List.getElem?_cons_zero]; rfl)) (by kernel_rfl) (by kernel_rfl) (by kernel_rfl) (by kernel_rfl) (by exact fun _ _ _ h => h) (Or.inl ⟨by rfl, ?_⟩) hHeld ?_
      rotate_left
      · intro u hu
        try dsimp only at hu
        go_simp
        try with_reducible rfl
      try simp only [Act.put, List.setIfInBounds_toArray, List.set_cons_zero, List.set_cons_succ]
      refine UpTo.next 6 (by kernel_rfl) (by (simp only [List.getElem?_toArray, List.getElem?_cons_succ, List.getElem?_cons_zero]; rfl)) (fun K hK => ?_)
      go_simp
      have KW : Kept wr (wr.alloc (.cells (freshCells y.name none 0).toArray 78)).drew := ((Kept.refl _).alloc _).drew
      refine hK.out _ _ (fun _ => HSO.out _ (Below.mono KW (by simp; omega))) ?_
      clear hK K hHeld
      try simp only [Act.put, List.setIfInBounds_toArray, List.set_cons_zero, List.set_cons_succ]
      refine UpTo.next 7 (by kernel_rfl) (by (simp only [List.getElem?_toArray, List.getElem?_cons_succ, List.getElem?_cons_zero]; rfl)) (fun K hK => ?_)
      refine step_append_lies _ rfl (.tmp 23) (.tmp 28) 28 rfl (w1.alloc (.cells #[.slice ra roots.length roots.length, .slice none 0 0] 30)).heap.size 78 ino _ 7 80 Tryz.underlying28 hn0 hn1 hn2 hn3 rfl (by decide) (.slice ds k dcs) k ys (by simp [Act.eval]) (ownsRow_kept' HSt.out.own KW) ⟨wr.heap.size, 0, none⟩ 1 1 (freshCells y.name none 0) (by simp [Act.eval]) rfl (fun j u hu => by rw [Addr.add_mid]; exact range_new wr (freshCells y.name none 0).toArray 78 j u (by simpa using hu)) (freshCells_one y.name none 0) (by omega) (by unfold maxLen; omega) (by omega) (by simp; omega) _ rfl ?_
      intro g6 cap6 w8 hown8 hgr8 hat hlt8
      have bl8 := HSt.out.grown KW hgr8
      have hr8 : RowT w8 w1.heap.size 30 2 := HSt.out.row.block (bl8.block _ (by simp))
      obtain ⟨⟨_, fo2⟩, fo1⟩ := hr8.row.at (i := 1) (by omega)
      have HN8 := hide (StSt.next HSt.out (by simp) KW hgr8 hown8)
      clear hown8 hgr8 hat hr8
      refine hK.out _ _ (fun _ => HSO.out _ bl8) ?_
      clear hK K
      try simp only [Act.put, List.setIfInBounds_toArray, List.set_cons_zero, List.set_cons_succ]
      have hHeld := HSO.out _ bl8
      refine UpTo.take 8 [9] (v := ?_) (by (simp only [List.getElem?_toArray, List.getElem?_cons_succ, List.getElem?_cons_zero]; rfl)) (by kernel_rfl) (by kernel_rfl) (by kernel_rfl) (by kernel_rfl) (by exact fun _ _ _ h => h) (Or.inl ⟨by rfl, ?_⟩) hHeld ?_
      rotate_left
      · intro u hu
        try dsimp only at hu
        go_simp
        try with_reducible rfl
      try simp only [Act.put, List.setIfInBounds_toArray, List.set_cons_zero, List.set_cons_succ]
      refine UpTo.next 9 (by kernel_rfl) (by (simp only [List.getElem?_toArray, List.getElem?_cons_succ, List.getElem?_cons_zero]; rfl)) (fun K hK => ?_)
      go_simp
      refine hK.out _ _ (fun h => absurd rfl h) ?_
      clear hK K
      try simp only [Act.put, List.setIfInBounds_toArray, List.set_cons_zero, List.set_cons_succ]
      refine UpTo.done (by kernel_rfl) ?_
      go_wp2
      go_roundw
      case rel => exact ⟨k + 1, _, cap6, _, by omega, by go_num, HN8.out, by rw [take_snoc hlt, ← HYk.out]; exact HPk.out.snoc⟩
      case measure => simp [intOf]; omega
    · have hkl : k = Q.length := by omega
      subst hkl
      rw [List.take_length] at hPk
      have HRz := hide (PackedZ.runs hSt.own hPk)
      clear hSt hPk
      go_wp2_with fail
      refine (copyRuns_in _ ds dcs Q (by omega) hQs HRz.out).mono ?_
      rintro e w5 ⟨d5, rfl, hI5, k5⟩
      have hr5 := HSt.out.row.kept k5
      have n0 := (k5.cell hsb).trans m0
      obtain ⟨⟨_, fo2⟩, fo1⟩ := hr5.row.at (i := 1) (by omega)
      have hrs5 : RowT w5 w.heap.size 30 2 := ((HRes.out.kept ((Kept.refl _).alloc (.cells #[.slice ra roots.length roots.length, .slice none 0 0] 30))).block (HSt.out.kb.block _ (by simp; omega) (by omega))).kept k5
      obtain ⟨⟨_, fa⟩, fb⟩ := hrs5.row.at (i := 0) (by omega)
      obtain ⟨⟨_, fc⟩, fd⟩ := hrs5.row.at (i := 1) (by omega)
      have z5 := k5.size
      have HRs := hide hrs5
      have HR5 := hide hr5
      have HI5 := hide hI5
      have hsb5 := hr5.lt
      have K5 := Kr.trans k5
      have hIs : StrsIn w5 (w.heap.size + 1) w1.heap.size ra roots := HI1.out.same (((Kept.refl w1).alloc (.cells #[.slice ra roots.length roots.length, .slice none 0 0] 30)).same _ _) |>.same (HSt.out.kb.same (by omega)) |>.same (k5.same _ _)
      have HIs := hide hIs
      clear hrs5 hr5 hI5 hIs m0 m1
      go_wp2
      have hX : Row (w5.setCell ⟨w1.heap.size, 1, none⟩ (.slice d5 Q.length Q.length)) w.heap.size 2 := (HRs.out.block (Below.heap_setCell _ _ _ _ (by simp; omega))).row
      have hR9 := World.rangeAt_setCells_same _ w.heap.size 0 [.slice ra roots.length roots.length, .slice d5 Q.length Q.length] (hX.there (o := 0) (m := 2) (Nat.le_refl _))
      refine bodyPost_ret_cell [.slice ra roots.length roots.length, .slice d5 Q.length Q.length] _ Tryz.results24 rfl hR9 Tryz.underlying30 rfl Tryz.sizeState rfl ⟨ra, d5, wr.heap.size, rfl, ?_, ?_, by omega, by simp only [size_setCell]; exact z5, ?_⟩
      · refine StrsIn.mono (lo := w.heap.size + 1) (hi := w1.heap.size) ?_ (by omega) (by omega)
        exact ((HIs.out.same (Same.setCell _ (.inr (by simp)) _)).same (Same.setCell _ (.inl (by simp)) _)).same (Same.setCell _ (.inl (by simp)) _)
      · have hz : ((((w5.setCell ⟨w1.heap.size, 1, none⟩ (.slice d5 Q.length Q.length)).setCell ⟨w.heap.size, 0, none⟩ (.slice ra roots.length roots.length)).setCell ⟨w.heap.size, 1, none⟩ (.slice d5 Q.length Q.length))).heap.size = w5.heap.size := by simp only [size_setCell]
        refine RunsIn.mono (lo := wr.heap.size) (hi := w5.heap.size) ?_ (Nat.le_refl _) (Nat.le_of_eq hz.symm)
        exact ((HI5.out.same (Same.setCell _ (.inl hsb) _)).same (Same.setCell _ (.inl (by simp; omega)) _)).same (Same.setCell _ (.inl (by simp; omega)) _)
      · exact ((K5.setCell (by simp; omega) _).setCell (Nat.le_refl _) _).setCell (Nat.le_refl _) _

end Go.Proofs.YtmdckapiljhfdaaGreat

/-
  THE WALK over impl.Start.
-/
namespace Go.Proofs.YtmdckapiljhfdaaGreat
open Go.RowKit

/-- What the walk ends with. -/
def StartEnd (webl : List NodeD) (roots : List ByteArray) (w w' : World) (e : Ending) : Prop :=
  ∃ rts T ra ds mid, e = .returned (.agg #[.slice ra rts.length rts.length, .slice ds T.length T.length]) ∧ StartR webl roots rts T ∧ StrsIn w' w.heap.size mid ra rts ∧ RunsIn w' mid w'.heap.size ds (freshOf T) ∧ w.heap.size ≤ mid ∧ mid ≤ w'.heap.size ∧ Kept w w'
theorem StartEnd.none {webl : List NodeD} {roots : List ByteArray} {w w' : World} {e : Ending} (he : e = .returned (.agg #[.slice none 0 0, .slice none 0 0])) (h : ¬ (WebCode webl 0 ∧ RootsOk roots)) (k : Kept w w') : StartEnd webl roots w w' e :=
  ⟨[], [], Option.none, Option.none, _, he, .inr ⟨h, rfl, rfl⟩, .inl rfl, .inl rfl, Nat.le_refl _, k.size, k⟩

theorem wanted_small {webl : List NodeD} {roots : List ByteArray} {n : Nat} (h : ∀ s ∈ roots, s.size ≤ n) : ∀ y ∈ sortedOf (wanted webl roots), y.name.size ≤ n := by
  intro y hy
  obtain ⟨r, hr, rfl⟩ := List.mem_map.1 (sortedOf_mem hy)
  exact h r (List.mem_filter.1 hr).1

set_option maxRecDepth 100000 in
set_option maxHeartbeats 1600000 in
theorem implStart_any (w : World) (a : Option Addr) (cap : Nat) (webl : List NodeD) (rd : Option Addr) (rc : Nat) (roots : List ByteArray) (hl : webl.length ≤ 1048576) (hf : ∀ s ∈ webl, s.Fits) (hrl : roots.length ≤ 1048576) (hrc : roots.length ≤ rc) (hrs : ∀ s ∈ roots, s.size ≤ 1048576) (hS : Nodes w a webl) (hR : Strs w rd roots) :
    Calls Tryz.prog 9 #[.agg #[.slice a webl.length cap], .slice rd roots.length rc] w fun e w' => StartEnd webl roots w w' e := by
  go_enter Tryz.func9, Tryz.ntmps9
  go_wp2_with fail
  refine (begin_any _ a cap webl rd rc roots hl hf (by unfold maxLen; omega) hrc (fun s hs => by have := hrs s hs; unfold maxLen; omega) (hS.kept (((Kept.refl _).alloc _).alloc _)) (hR.kept (((Kept.refl _).alloc _).alloc _))).mono ?_
  rintro e w1 ⟨k1, hB⟩
  have K1 : Kept w w1 := Kept.trans (((Kept.refl _).alloc _).alloc _) k1
  have z1 := k1.size
  simp only [World.size_alloc] at z1
  have hrow1 := rowAlloc k1
  simp only [World.size_alloc] at hrow1
  have HR1 : Hid (RowT w1 (w.heap.size + 1) 30 2) := hrow1
  obtain ⟨⟨_, x0⟩, g0⟩ := HR1.out.row.at (i := 0) (by omega)
  obtain ⟨⟨_, x1⟩, g1⟩ := HR1.out.row.at (i := 1) (by omega)
  clear hrow1 k1
  rcases hB with ⟨hno, rfl⟩ | ⟨hC, hY, Wb, bb, mp, d, dc, xs, rfl, kb0, hbb, hbw, hSt⟩
  · have HN := hide hno
    clear hno
    go_wp2
    have hR9 := World.rangeAt_setCells_same w1 (w.heap.size + 1) 0 [.slice none 0 0, .slice none 0 0] (HR1.out.row.there (o := 0) (m := 2) (Nat.le_refl _))
    exact bodyPost_ret_cell [.slice none 0 0, .slice none 0 0] _ Tryz.results9 rfl hR9 Tryz.underlying30 rfl Tryz.sizeState rfl (StartEnd.none rfl HN.out ((K1.setCell (by simp) _).setCell (by simp) _))
  · have HC := hide hC
    have HY := hide hY
    have HSt := hide hSt
    have hQl : (sortedOf (wanted webl roots)).length ≤ 20 := by have h1 := sortedOf_le (wanted webl roots); have h2 := wanted_len webl roots; have h3 := hY.2.1; omega
    have hQs := wanted_small (webl := webl) hrs
    obtain ⟨T, hTT⟩ : ∃ T, T = sortedOf (wanted webl roots) := ⟨_, rfl⟩
    rw [← hTT] at HSt hQl hQs
    have HTT := hide hTT
    have HQs := hide hQs
    clear hC hY hSt hTT hQs x0 x1 g0 g1
    go_wp2_with fail
    refine (benchState_any Wb _ bb a webl.length cap rd rc roots mp T d dc xs (by have := HY.out.2.1; omega) hrs hQl HQs.out HSt.out (hR.kept K1)).mono ?_
    rintro e w2 hEnd
    obtain ⟨ra, ds, mid, rfl, hI, hJ, hmid, hmi2, k2⟩ := hEnd
    have K2 := K1.trans k2
    have HR2 := hide (HR1.out.kept k2)
    have z2 := k2.size
    obtain ⟨⟨_, t0⟩, f0⟩ := HR2.out.row.at (i := 0) (by omega)
    obtain ⟨⟨_, t1⟩, f1⟩ := HR2.out.row.at (i := 1) (by omega)
    have HI := hide hI
    have HJ := hide hJ
    clear hI hJ HR1
    go_wp2
    have hR9 := World.rangeAt_setCells_same w2 (w.heap.size + 1) 0 [.slice ra roots.length roots.length, .slice ds T.length T.length] (HR2.out.row.there (o := 0) (m := 2) (Nat.le_refl _))
    refine bodyPost_ret_cell [.slice ra roots.length roots.length, .slice ds T.length T.length] _ Tryz.results9 rfl hR9 Tryz.underlying30 rfl Tryz.sizeState rfl ⟨roots, T, ra, ds, mid, rfl, .inl ⟨HC.out, HY.out, rfl, HTT.out⟩, ?_, ?_, by omega, by simp only [size_setCell]; exact hmi2, (K2.setCell (by simp) _).setCell (by simp) _⟩
    · refine StrsIn.mono (lo := w1.heap.size) (hi := mid) ?_ (by omega) (Nat.le_refl _)
      exact (HI.out.same (Same.setCell _ (.inl (by simp; omega)) _)).same (Same.setCell _ (.inl (by simp; omega)) _)
    · have hz : ((w2.setCell ⟨w.heap.size + 1, 0, none⟩ (.slice ra roots.length roots.length)).setCell ⟨w.heap.size + 1, 1, none⟩ (.slice ds T.length T.length)).heap.size = w2.heap.size := by simp only [size_setCell]
      refine RunsIn.mono (lo := mid) (hi := w2.heap.size) ?_ (Nat.le_refl _) (Nat.le_of_eq hz.symm)
      exact (HJ.out.same (Same.setCell _ (.inl (by simp; omega)) _)).same (Same.setCell _ (.inl (by simp; omega)) _)

end Go.Proofs.YtmdckapiljhfdaaGreat

/-
  WALKS: markState, heldState.
-/
namespace Go.Proofs.YtmdckapiljhfdaaGreat
open Go.RowKit

set_option maxHeartbeats 800000 in
theorem markState_any (w : World) (lo mid hi : Nat) (a d : Option Addr) (cap dcap : Nat) (l : List ByteArray) (r : List RunD) (k : Nat) (h0 : 0 < k) (h1 : k + l.length + r.length * 6 ≤ 4611686018427387904) (hlm : lo ≤ mid) (hmh : mid ≤ hi) (hhi : hi ≤ w.heap.size) (hS : StrsIn w lo mid a l) (hR : RunsIn w mid hi d r) :
    Calls Tryz.prog 15 #[.agg #[.slice a l.length cap, .slice d r.length dcap], .int .i64 k] w fun e w' => e = .returned (.int .i64 ((k + l.length + r.length * 6 : Nat) : Int)) ∧ StrsIn w' lo mid a (markStrs l k) ∧ RunsIn w' mid hi d (markRuns r (k + l.length)) ∧ KeptBut lo hi w w' := by
  have k0 : Kept w (w.alloc (.cells #[.slice a l.length cap, .slice d r.length dcap] 30)) := (Kept.refl _).alloc _
  go_enter Tryz.func15, Tryz.ntmps15
  go_wp2_with fail
  refine (markStringS_any _ lo mid a cap l k h0 (by omega) (hS.same (k0.same _ _))).mono ?_
  rintro e w1 ⟨rfl, hS1, kb1⟩
  have q := (boxCells (Kept.refl (w.alloc (.cells #[.slice a l.length cap, .slice d r.length dcap] 30)))).2
  have q1 := ((kb1.same (l2 := w.heap.size) (h2 := w.heap.size + 1) (by omega)).cell (o := 1) (Nat.le_refl _) (by omega) (by simp)).trans q
  have z1 := kb1.size
  simp only [World.size_alloc] at z1
  have hw1 : w.heap.size < w1.heap.size := by omega
  have HR1 := hide ((hR.same (k0.same _ _)).same (kb1.same (l2 := mid) (h2 := hi) (by omega)))
  have HS1 := hide hS1
  obtain ⟨m1, hm1⟩ : ∃ m1, m1 = k + l.length := ⟨_, rfl⟩
  rw [← hm1]
  have hb1 : m1 + r.length * 6 ≤ 4611686018427387904 := by omega
  have hm0 : 0 < m1 := by omega
  have HM1 := hide hm1
  clear hm1 hS1 q
  go_wp2_with fail
  refine (markRunS_any _ mid hi d dcap r m1 hm0 hb1 HR1.out).mono ?_
  rintro e w2 ⟨rfl, hR2, kb2⟩
  obtain ⟨m2, hm2⟩ : ∃ m2, m2 = m1 + r.length * 6 := ⟨_, rfl⟩
  rw [← hm2]
  have HM2 := hide hm2
  have HR2 := hide hR2
  clear hm2 hR2
  go_wp2
  go_ret
  refine ⟨ret_int (by rw [HM2.out, HM1.out]), HS1.out.same (kb2.same (by omega)), by rw [← HM1.out]; exact HR2.out, ?_⟩
  have e1 : KeptBut lo hi (w.alloc (.cells #[.slice a l.length cap, .slice d r.length dcap] 30)) w1 := ⟨kb1.os, kb1.tape, kb1.output, kb1.size, fun b hb ho => kb1.block b hb (by omega)⟩
  have e2 : KeptBut lo hi w1 w2 := ⟨kb2.os, kb2.tape, kb2.output, kb2.size, fun b hb ho => kb2.block b hb (by omega)⟩
  exact ((KeptBut.of_kept k0).trans e1).trans e2

set_option maxHeartbeats 800000 in
theorem heldState_yes (w : World) (a d : Option Addr) (cap dcap : Nat) (l : List ByteArray) (r : List RunD) (k : Nat) (h0 : 0 < k) (h1 : k + l.length + r.length * 6 ≤ 4611686018427387904) (hS : Strs w a (markStrs l k)) (hR : Runs w d (markRuns r (k + l.length))) :
    Calls Tryz.prog 16 #[.agg #[.slice a l.length cap, .slice d r.length dcap], .int .i64 k] w fun e w' => e = .returned (.int .i64 ((k + l.length + r.length * 6 : Nat) : Int)) ∧ Kept w w' := by
  have k0 : Kept w (w.alloc (.cells #[.slice a l.length cap, .slice d r.length dcap] 30)) := (Kept.refl _).alloc _
  go_enter Tryz.func16, Tryz.ntmps16
  go_wp2_with fail
  refine (heldStringS_yes _ a cap l k h0 (by omega) (hS.kept k0)).mono ?_
  rintro e w1 ⟨rfl, k1⟩
  have q1 := (boxCells k1).2
  have K1 := k0.trans k1
  have z1 := k1.size
  simp only [World.size_alloc] at z1
  have hw1 : w.heap.size < w1.heap.size := by omega
  have HR1 := hide (hR.kept K1)
  obtain ⟨m1, hm1⟩ : ∃ m1, m1 = k + l.length := ⟨_, rfl⟩
  rw [← hm1] at HR1 ⊢
  have hb1 : m1 + r.length * 6 ≤ 4611686018427387904 := by omega
  have hm0 : 0 < m1 := by omega
  have HM1 := hide hm1
  clear hm1 k1
  go_wp2_with fail
  refine (heldRunS_yes _ d dcap r m1 hm0 hb1 HR1.out).mono ?_
  rintro e w2 ⟨rfl, k2⟩
  obtain ⟨m2, hm2⟩ : ∃ m2, m2 = m1 + r.length * 6 := ⟨_, rfl⟩
  rw [← hm2]
  have HM2 := hide hm2
  clear hm2
  go_wp2
  go_ret
  exact ⟨ret_int (by rw [HM2.out, HM1.out]), K1.trans k2⟩

end Go.Proofs.YtmdckapiljhfdaaGreat

/-
  THE WALK over laws.FnExactStart.
-/
namespace Go.Proofs.YtmdckapiljhfdaaGreat
open Go.RowKit

theorem eqStart_yes (w : World) (a a' d d' : Option Addr) (cap cap' e0 e1 : Nat) (l : List ByteArray) (T : List NodeD) (hl : l.length ≤ maxLen) (hr : T.length ≤ maxLen) (hS : Strs w a l) (hS' : Strs w a' l) (hR : Runs w d (freshOf T)) (hR' : Runs w d' (freshOf T)) :
    Calls Tryz.prog 10 #[.agg #[.slice a l.length cap, .slice d T.length e0], .agg #[.slice a' l.length cap', .slice d' T.length e1]] w fun e w' => e = .returned (.bool true) ∧ Kept w w' := by
  have := eqState_yes w a a' d d' cap cap' e0 e1 l (freshOf T) hl (by rw [freshOf_length]; exact hr) hS hS' hR hR'
  rw [freshOf_length] at this
  exact this
theorem markStart_any (w : World) (lo mid hi : Nat) (a d : Option Addr) (cap dcap : Nat) (l : List ByteArray) (T : List NodeD) (k : Nat) (h0 : 0 < k) (h1 : k + l.length + T.length * 6 ≤ 4611686018427387904) (hlm : lo ≤ mid) (hmh : mid ≤ hi) (hhi : hi ≤ w.heap.size) (hS : StrsIn w lo mid a l) (hR : RunsIn w mid hi d (freshOf T)) :
    Calls Tryz.prog 15 #[.agg #[.slice a l.length cap, .slice d T.length dcap], .int .i64 k] w fun e w' => e = .returned (.int .i64 ((k + l.length + T.length * 6 : Nat) : Int)) ∧ StrsIn w' lo mid a (markStrs l k) ∧ RunsIn w' mid hi d (markRuns (freshOf T) (k + l.length)) ∧ KeptBut lo hi w w' := by
  have := markState_any w lo mid hi a d cap dcap l (freshOf T) k h0 (by rw [freshOf_length]; exact h1) hlm hmh hhi hS hR
  rw [freshOf_length] at this
  exact this
theorem heldStart_yes (w : World) (a d : Option Addr) (cap dcap : Nat) (l : List ByteArray) (T : List NodeD) (k : Nat) (h0 : 0 < k) (h1 : k + l.length + T.length * 6 ≤ 4611686018427387904) (hS : Strs w a (markStrs l k)) (hR : Runs w d (markRuns (freshOf T) (k + l.length))) :
    Calls Tryz.prog 16 #[.agg #[.slice a l.length cap, .slice d T.length dcap], .int .i64 k] w fun e w' => e = .returned (.int .i64 ((k + l.length + T.length * 6 : Nat) : Int)) ∧ Kept w w' := by
  have := heldState_yes w a d cap dcap l (freshOf T) k h0 (by rw [freshOf_length]; exact h1) hS hR
  rw [freshOf_length] at this
  exact this

theorem smallStrs {l : List ByteArray} {n : Nat} (h : szStrs l ≤ n) : l.length ≤ n ∧ ∀ s ∈ l, s.size ≤ n := by
  unfold szStrs at h
  exact ⟨by omega, fun s hs => by have := le_sum (fun b : ByteArray => b.size) hs; omega⟩

theorem StartR.len {webl T : List NodeD} {roots rts : List ByteArray} (h : StartR webl roots rts T) : rts.length ≤ 10 ∧ T.length ≤ 10 := by
  rcases h with ⟨_, h2, rfl, rfl⟩ | ⟨_, rfl, rfl⟩
  · have h3 := sortedOf_le (wanted webl rts)
    have h4 := wanted_len webl rts
    have h5 := h2.2.1
    exact ⟨h5, by omega⟩
  · simp

set_option maxRecDepth 100000 in
set_option maxHeartbeats 6400000 in
theorem lawStart (w : World) (a : Option Addr) (cap : Nat) (l : List NodeD) (rd : Option Addr) (rc : Nat) (roots : List ByteArray) (hl : l.length ≤ maxLen) (hs : ∀ s ∈ l, s.Fits) (hrl : roots.length ≤ maxLen) (hrs : ∀ s ∈ roots, s.size ≤ maxLen) (hS : Nodes w a l) (hR : Strs w rd roots) :
    Calls Tryz.prog 3 #[.agg #[.slice a l.length cap], .slice rd roots.length rc] w fun e w' => e = .returned (.bool true) ∧ Kept w w' := by
  have k0 : Kept w (w.alloc (.cells #[.slice a l.length cap] 24)) := (Kept.refl _).alloc _
  go_enter Tryz.func3, Tryz.ntmps3
  go_wp2_with fail
  refine (szWeb_any _ a cap l 1048576 hl hs (hS.kept k0) (by omega) (by omega)).mono ?_
  rintro e w1 ⟨rfl, K1⟩
  by_cases hle : (szNodesD l : Int) ≤ 1048576
  · rw [szL_pos hle]
    have hle' : szNodesD l ≤ 1048576 := by omega
    obtain ⟨lf, hlf⟩ : ∃ lf : Int, lf = 1048576 - (szNodesD l : Int) := ⟨_, rfl⟩
    rw [← hlf]
    have hlf0 : 0 ≤ lf := by omega
    have hlf1 : lf ≤ 1048576 := by omega
    clear hlf
    go_wp2_with fail
    refine (szStringS_any _ rd rc roots lf hrl hrs ((hR.kept k0).kept K1) hlf0 hlf1).mono ?_
    rintro e w2 ⟨rfl, rfl⟩
    have p1 := boxCell K1
    by_cases hld : (szStrs roots : Int) ≤ lf
    · rw [szL_pos hld]
      obtain ⟨lg, hlg⟩ : ∃ lg : Int, lg = lf - (szStrs roots : Int) := ⟨_, rfl⟩
      rw [← hlg]
      have hlg0 : 0 ≤ lg := by omega
      clear hlg
      obtain ⟨hl2, hs2⟩ := small_of_szN (l := l) (n := 1048576) hle'
      have hcnt := cntNodes_le l
      have hcn : 1 + (l.map cntNode).sum ≤ 8388609 := by omega
      obtain ⟨hr2, hrs2⟩ := smallStrs (l := roots) (n := 1048576) (by omega)
      have HRs2 := hide hrs2
      have HCn := hide hcn
      clear hcnt hcn hle hle' hld hrs2
      go_wp2_with fail
      refine (toWeb_any _ a cap l hl2 hs2 ((hS.kept k0).kept K1)).mono ?_
      rintro e w3 ⟨b3, rfl, hN3, k3, hb3⟩
      have K3 := K1.trans k3
      have HN3 := hide hN3
      clear hN3 hb3
      go_wp2_with fail
      refine (toStringS_any _ rd rc roots hr2 ((hR.kept k0).kept K3)).mono ?_
      rintro e w4 ⟨b4, rfl, hS4, k4, hb4⟩
      have K4 := K3.trans k4
      have HS4 := hide hS4
      clear hS4 hb4 p1 k3
      go_wp2_with fail
      refine (specStart_any _ (some ⟨b3, 0, none⟩) l.length l b4 0 roots.length roots hl2 hs hrl hrs (HN3.out.kept k4).nodes HS4.out).mono ?_
      rintro e w5 hEnd
      obtain ⟨rts, T, ra, rc5, d5, dc5, xs5, base5, rfl, hSR, hT5, hb5, hO5, hP5, k5⟩ := hEnd
      obtain ⟨_, a9, c9, ev, hRun5⟩ := PackedR.runs hO5 hP5
      simp only [Value.slice.injEq, true_and] at ev
      obtain ⟨rfl, rfl⟩ := ev
      have HW0s := hide hT5.strs
      have HW0r := hide hRun5
      have HSR := hide hSR
      have hlen := hSR.len
      have K5 := K4.trans k5
      clear hSR hT5 hO5 hP5 hRun5 k4 k5 HN3 HS4 hb5 K1 K3 K4
      have kA : Kept w5 (w5.alloc (.cells #[.slice ra rts.length rc5, .slice d5 T.length dc5] 30)) := (Kept.refl _).alloc _
      have K5A := K5.trans kA
      have p1 := boxCell K5A
      have z5 := K5.size
      simp only [World.size_alloc] at z5
      have y5 : w.heap.size < w5.heap.size := by omega
      go_wp2_with fail
      refine (toWeb_in _ a cap l hl2 hs2 ((hS.kept k0).kept K5A)).mono ?_
      rintro e w6 ⟨b6, rfl, hI6, k6⟩
      have HI6 := hide hI6
      have kB : Kept w6 (w6.alloc (.cells #[.slice (some ⟨b6, 0, none⟩) l.length l.length] 34)) := (Kept.refl _).alloc _
      have K6 := (K5A.trans k6).trans kB
      have z6 := k6.size
      simp only [World.size_alloc] at z6
      clear hI6 p1
      go_wp2_with fail
      refine (toStringS_in _ rd rc roots hr2 ((hR.kept k0).kept K6)).mono ?_
      rintro e w7 ⟨b7, rfl, hI7, k7⟩
      have HI7 := hide hI7
      have z7 := k7.size
      simp only [World.size_alloc] at z7
      have q6 := boxCell k7
      have y6 : w6.heap.size < w7.heap.size := by omega
      clear hI7
      go_wp2_with fail
      refine (implStart_any _ (some ⟨b6, 0, none⟩) l.length l (some ⟨b7, 0, none⟩) roots.length roots hl2 hs hr2 (Nat.le_refl _) HRs2.out (HI6.out.nodes.kept (kB.trans k7)) HI7.out.strs).mono ?_
      rintro e w8 hEnd
      obtain ⟨rts', T', ra8, ds8, mid, rfl, hSR', hI8, hJ8, hmid, hmid8, k8⟩ := hEnd
      obtain ⟨rfl, rfl⟩ := hSR'.unique HSR.out
      have HI8 := hide hI8
      have HJ8 := hide hJ8
      clear hSR' hI8 hJ8 q6
      have kC : Kept w8 (w8.alloc (.cells #[.slice ra8 rts'.length rts'.length, .slice ds8 T'.length T'.length] 30)) := (Kept.refl _).alloc _
      have z8 := k8.size
      have k58 : Kept (w5.alloc (.cells #[.slice ra rts'.length rc5, .slice d5 T'.length dc5] 30)) w8 := ((k6.trans kB).trans k7).trans k8
      have pW := boxCells (k58.trans kC)
      obtain ⟨pW0, pW1⟩ := pW
      have y58 : w5.heap.size < w8.heap.size := by omega
      have hl10 : rts'.length ≤ maxLen := by unfold maxLen; omega
      have ht10 : T'.length ≤ maxLen := by unfold maxLen; omega
      go_wp2_with fail
      refine (eqStart_yes _ ra8 ra ds8 d5 rts'.length rc5 T'.length dc5 rts' T' hl10 ht10 (HI8.out.strs.kept kC) (HW0s.out.kept (kA.trans (k58.trans kC))) (HJ8.out.runs.kept kC) (HW0r.out.kept (kA.trans (k58.trans kC)))).mono ?_
      rintro e w9 ⟨rfl, k9⟩
      have kC9 := kC.trans k9
      have K9 := (K6.trans k7).trans (k8.trans kC9)
      have k59 := k58.trans kC9
      have z9 := k9.size
      simp only [World.size_alloc] at z9
      clear pW0 pW1
      have HS9 : Hid (∀ w', Kept w9 w' → (fun w' => w'.cell? ⟨w.heap.size, 0, none⟩ = some (.slice a l.length cap) ∧ w'.cell? ⟨w6.heap.size, 0, none⟩ = some (.slice (some ⟨b6, 0, none⟩) l.length l.length)) w') := fun w' kk => ⟨boxCell (K9.trans kk), boxCell (k7.trans ((k8.trans kC9).trans kk))⟩
      have hX9 := HI6.out.same (((kB.trans k7).trans (k8.trans kC9)).same _ _)
      have HX9 := hide hX9.nodes
      have s01 := HS9.out w9 (Kept.refl _)
      obtain ⟨s0, s1⟩ := s01
      clear hX9
      go_wp2
      go_region_held (fun w' => w'.cell? ⟨w.heap.size, 0, none⟩ = some (.slice a l.length cap) ∧ w'.cell? ⟨w6.heap.size, 0, none⟩ = some (.slice (some ⟨b6, 0, none⟩) l.length l.length)) (exact unhide HS9 _ (by repeat (first | (with_reducible exact Kept.refl _) | (with_reducible assumption) | apply Kept.drew))) ((first | (go_at_call 7; refine (toWeb_any _ a cap l hl2 hs2 (((hS.kept k0).kept K9).kept (by repeat (first | (with_reducible exact Kept.refl _) | (with_reducible assumption) | apply Kept.drew)))).mono ?_; rintro e w10 ⟨b10, rfl, hN10, kk10, hb10⟩; have k10 : Kept w9 w10 := Kept.trans (by repeat (first | (with_reducible exact Kept.refl _) | (with_reducible assumption) | apply Kept.drew)) kk10; have HN10 := hide hN10; clear hN10 hb10) | (go_at_call 11; refine (eqWeb_yes _ (some ⟨b6, 0, none⟩) (some ⟨b10, 0, none⟩) l.length l.length l hl hs (HX9.out.kept (k10.trans (by repeat (first | (with_reducible exact Kept.refl _) | (with_reducible assumption) | apply Kept.drew)))) (NodesNew.nodes (NodesNew.kept HN10.out (by repeat (first | (with_reducible exact Kept.refl _) | (with_reducible assumption) | apply Kept.drew))))).mono ?_; rintro e w11 ⟨rfl, kk11⟩; have k11 : Kept w9 w11 := Kept.trans (k10.trans (by repeat (first | (with_reducible exact Kept.refl _) | (with_reducible assumption) | apply Kept.drew))) kk11)))
      all_goals
        clear s0 s1 HX9
        have K11 := K9.trans k11
        go_wp2_with fail
        refine (toStringS_any _ rd rc roots hr2 (((hR.kept k0).kept K11).kept (by repeat (first | (with_reducible exact Kept.refl _) | apply Kept.drew | apply Kept.drewN)))).mono ?_
        rintro e w12 ⟨b12, rfl, hS12, kk12, hb12⟩
        have k12 : Kept w11 w12 := Kept.trans (by repeat (first | (with_reducible exact Kept.refl _) | apply Kept.drew | apply Kept.drewN)) kk12
        have HS12 := hide hS12
        clear hS12 hb12
        go_wp2_with fail
        refine (eqStringS_yes _ (some ⟨b7, 0, none⟩) (some ⟨b12, 0, none⟩) roots.length roots.length roots hrl ((HI7.out.strs.kept ((k8.trans kC9).trans (k11.trans k12))).kept (by repeat (first | (with_reducible exact Kept.refl _) | apply Kept.drew | apply Kept.drewN))) (HS12.out.kept (by repeat (first | (with_reducible exact Kept.refl _) | apply Kept.drew | apply Kept.drewN)))).mono ?_
        rintro e w13 ⟨rfl, kk13⟩
        have k13 : Kept w12 w13 := Kept.trans (by repeat (first | (with_reducible exact Kept.refl _) | apply Kept.drew | apply Kept.drewN)) kk13
        have k913 := k11.trans (k12.trans k13)
        have K13 := K9.trans k913
        have k513 := k59.trans k913
        have z13 := k913.size
        have x0 := (HS9.out w13 k913).2
        have g01 := boxCells (k9.trans k913)
        obtain ⟨g0, g1⟩ := g01
        have HX13 := hide (HI6.out.same (((kB.trans k7).trans ((k8.trans kC9).trans k913)).same _ _))
        have HY13 := hide (HI7.out.same (((k8.trans kC9).trans k913).same _ _))
        have HG13 := hide (HI8.out.same ((kC9.trans k913).same _ _))
        have HH13 := hide (HJ8.out.same ((kC9.trans k913).same _ _))
        clear HS12 HS9
        have v6 : w6.heap.size < w13.heap.size := by omega
        have v8 : w8.heap.size < w13.heap.size := by omega
        go_wp2_with fail
        refine (markWeb_any _ _ _ (some ⟨b6, 0, none⟩) l.length l 1 (by omega) (by have := HCn.out; omega) (HX13.out.same (Kept.same (by repeat (first | (with_reducible exact Kept.refl _) | apply Kept.drew | apply Kept.drewN)) _ _))).mono ?_
        rintro e w14 ⟨rfl, _, kb14⟩
        simp only [World.size_alloc] at kb14
        have kb14' : KeptBut (w5.heap.size + 1) w6.heap.size w13 w14 := ⟨kb14.os, kb14.tape, kb14.output, kb14.size, kb14.block⟩
        have K14 := kb14'.kept K13 (by simp <;> omega)
        have k514 := kb14'.kept k513 (by simp)
        have z14 := kb14'.size
        have h0 := ((kb14'.same (l2 := w8.heap.size) (h2 := w8.heap.size + 1) (by omega)).cell (o := 0) (Nat.le_refl _) (by omega) v8).trans g0
        have h1 := ((kb14'.same (l2 := w8.heap.size) (h2 := w8.heap.size + 1) (by omega)).cell (o := 1) (Nat.le_refl _) (by omega) v8).trans g1
        have HY14 := hide (HY13.out.same (kb14'.same (by simp <;> omega)))
        have HG14 := hide (HG13.out.same (kb14'.same (by omega)))
        have HH14 := hide (HH13.out.same (kb14'.same (by omega)))
        obtain ⟨m14, hm14⟩ : ∃ m14, m14 = 1 + (l.map cntNode).sum := ⟨_, rfl⟩
        rw [← hm14]
        have hm14' : m14 ≤ 8388609 := by have := HCn.out; omega
        have hm14p : 0 < m14 := by omega
        clear hm14 kb14 kb14' g0 g1 x0 HX13 HY13 HG13 HH13
        have u8 : w8.heap.size < w14.heap.size := by omega
        go_wp2_with fail
        refine (markStringS_any _ _ _ (some ⟨b7, 0, none⟩) roots.length roots m14 hm14p (by omega) (HY14.out.same (Kept.same (by repeat (first | (with_reducible exact Kept.refl _) | apply Kept.drew | apply Kept.drewN)) _ _))).mono ?_
        rintro e w15 ⟨rfl, _, kb15⟩
        simp only [World.size_alloc] at kb15
        have kb15' : KeptBut (w6.heap.size + 1) w7.heap.size w14 w15 := ⟨kb15.os, kb15.tape, kb15.output, kb15.size, kb15.block⟩
        have K15 := kb15'.kept K14 (by simp <;> omega)
        have k515 := kb15'.kept k514 (by simp <;> omega)
        have z15 := kb15'.size
        have i0 := ((kb15'.same (l2 := w8.heap.size) (h2 := w8.heap.size + 1) (by omega)).cell (o := 0) (Nat.le_refl _) (by omega) u8).trans h0
        have i1 := ((kb15'.same (l2 := w8.heap.size) (h2 := w8.heap.size + 1) (by omega)).cell (o := 1) (Nat.le_refl _) (by omega) u8).trans h1
        have HG15 := hide (HG14.out.same (kb15'.same (by omega)))
        have HH15 := hide (HH14.out.same (kb15'.same (by omega)))
        have pw := boxCells k515
        obtain ⟨j0, j1⟩ := pw
        have hW15s := HW0s.out.kept (kA.trans k515)
        have hW15r := HW0r.out.kept (kA.trans k515)
        obtain ⟨m15, hm15⟩ : ∃ m15, m15 = m14 + roots.length := ⟨_, rfl⟩
        rw [← hm15]
        clear hm15 kb15 kb15' h0 h1 HY14 HG14 HH14
        have r5 : w5.heap.size < w15.heap.size := by omega
        have r8 : w8.heap.size < w15.heap.size := by omega
        go_wp2_with fail
        refine (eqStart_yes _ ra8 ra ds8 d5 rts'.length rc5 T'.length dc5 rts' T' hl10 ht10 (HG15.out.strs.kept (by repeat (first | (with_reducible exact Kept.refl _) | apply Kept.drew | apply Kept.drewN))) (hW15s.kept (by repeat (first | (with_reducible exact Kept.refl _) | apply Kept.drew | apply Kept.drewN))) (HH15.out.runs.kept (by repeat (first | (with_reducible exact Kept.refl _) | apply Kept.drew | apply Kept.drewN))) (hW15r.kept (by repeat (first | (with_reducible exact Kept.refl _) | apply Kept.drew | apply Kept.drewN)))).mono ?_
        rintro e w16 ⟨rfl, kk16⟩
        have k16 : Kept w15 w16 := Kept.trans (by repeat (first | (with_reducible exact Kept.refl _) | apply Kept.drew | apply Kept.drewN)) kk16
        have K16 := K15.trans k16
        have k516 := k515.trans k16
        have z16 := k16.size
        have l0 := (k16.cell (o := 0) r8).trans i0
        have l1 := (k16.cell (o := 1) r8).trans i1
        have HG16 := hide (HG15.out.same (k16.same _ _))
        have HH16 := hide (HH15.out.same (k16.same _ _))
        clear i0 i1 j0 j1 hW15s hW15r HG15 HH15 kk16
        have o8 : w8.heap.size < w16.heap.size := by omega
        go_wp2_with fail
        refine (markStart_any _ _ mid _ ra8 ds8 rts'.length T'.length rts' T' 1 (by omega) (by omega) hmid hmid8 (by have := z16; omega) (HG16.out.same (Kept.same (by repeat (first | (with_reducible exact Kept.refl _) | apply Kept.drew | apply Kept.drewN)) _ _)) (HH16.out.same (Kept.same (by repeat (first | (with_reducible exact Kept.refl _) | apply Kept.drew | apply Kept.drewN)) _ _))).mono ?_
        rintro e w17 ⟨rfl, hG17, hH17, kb17⟩
        have kb17' : KeptBut w7.heap.size w8.heap.size w16 w17 := ⟨kb17.os, kb17.tape, kb17.output, kb17.size, kb17.block⟩
        have K17 := kb17'.kept K16 (by simp <;> omega)
        have k517 := kb17'.kept k516 (by simp <;> omega)
        have z17 := kb17'.size
        have n0 := ((kb17'.same (l2 := w8.heap.size) (h2 := w8.heap.size + 1) (by omega)).cell (o := 0) (Nat.le_refl _) (by omega) o8).trans l0
        have n1 := ((kb17'.same (l2 := w8.heap.size) (h2 := w8.heap.size + 1) (by omega)).cell (o := 1) (Nat.le_refl _) (by omega) o8).trans l1
        have HG17 := hide hG17.strs
        have HH17 := hide hH17.runs
        obtain ⟨m17, hm17⟩ : ∃ m17, m17 = 1 + rts'.length + T'.length * 6 := ⟨_, rfl⟩
        rw [← hm17]
        have HMm := hide hm17
        clear hm17 kb17 kb17' l0 l1 HG16 HH16 hG17 hH17
        have t8 : w8.heap.size < w17.heap.size := by omega
        go_wp2_with fail
        refine (heldStart_yes _ ra8 ds8 rts'.length T'.length rts' T' 1 (by omega) (by omega) (HG17.out.kept (by repeat (first | (with_reducible exact Kept.refl _) | apply Kept.drew | apply Kept.drewN))) (HH17.out.kept (by repeat (first | (with_reducible exact Kept.refl _) | apply Kept.drew | apply Kept.drewN)))).mono ?_
        rintro e w18 ⟨rfl, kk18⟩
        rw [← HMm.out]
        have k18 : Kept w17 w18 := Kept.trans (by repeat (first | (with_reducible exact Kept.refl _) | apply Kept.drew | apply Kept.drewN)) kk18
        have K18 := K17.trans k18
        have k518 := k517.trans k18
        have z18 := k18.size
        have c0 := (k18.cell (o := 0) t8).trans n0
        have c1 := (k18.cell (o := 1) t8).trans n1
        have HG18 := hide (HG17.out.kept k18)
        have HH18 := hide (HH17.out.kept k18)
        have p1 := boxCell K18
        have f0 : w.heap.size < w18.heap.size := by omega
        clear n0 n1 HG17 HH17 kk18
        go_wp2_with fail
        refine (toWeb_any _ a cap l hl2 hs2 (((hS.kept k0).kept K18).kept (by repeat (first | (with_reducible exact Kept.refl _) | apply Kept.drew | apply Kept.drewN)))).mono ?_
        rintro e w19 ⟨b19, rfl, hN19, kk19, hb19⟩
        have k19 : Kept w18 w19 := Kept.trans (by repeat (first | (with_reducible exact Kept.refl _) | apply Kept.drew | apply Kept.drewN)) kk19
        have HN19 := hide hN19
        clear hN19 hb19 p1
        go_wp2_with fail
        refine (toStringS_any _ rd rc roots hr2 (((hR.kept k0).kept (K18.trans k19)).kept (by repeat (first | (with_reducible exact Kept.refl _) | apply Kept.drew | apply Kept.drewN)))).mono ?_
        rintro e w20 ⟨b20, rfl, hS20, kk20, hb20⟩
        have k20 : Kept w19 w20 := Kept.trans (by repeat (first | (with_reducible exact Kept.refl _) | apply Kept.drew | apply Kept.drewN)) kk20
        have HS20 := hide hS20
        clear hS20 hb20
        go_wp2_with fail
        refine (implStart_any _ (some ⟨b19, 0, none⟩) l.length l (some ⟨b20, 0, none⟩) roots.length roots hl2 hs hr2 (Nat.le_refl _) HRs2.out ((HN19.out.kept k20).nodes.kept (by repeat (first | (with_reducible exact Kept.refl _) | apply Kept.drew | apply Kept.drewN))) (HS20.out.kept (by repeat (first | (with_reducible exact Kept.refl _) | apply Kept.drew | apply Kept.drewN)))).mono ?_
        rintro e w21 hEnd
        obtain ⟨rts2, T2, ra21, ds21, mid21, rfl, hSR2, hI21, hJ21, _, _, kk21⟩ := hEnd
        obtain ⟨rfl, rfl⟩ := hSR2.unique HSR.out
        have k21 : Kept w18 w21 := (k19.trans k20).trans (Kept.trans (by repeat (first | (with_reducible exact Kept.refl _) | apply Kept.drew | apply Kept.drewN)) kk21)
        have kE : Kept w21 (w21.alloc (.cells #[.slice ra21 rts2.length rts2.length, .slice ds21 T2.length T2.length] 30)) := (Kept.refl _).alloc _
        have kE21 := k21.trans kE
        have z21 := k21.size
        have pw := boxCells (k518.trans kE21)
        obtain ⟨j0, j1⟩ := pw
        have e0 := (kE21.cell (o := 0) (by omega : w8.heap.size < w18.heap.size)).trans c0
        have e1 := (kE21.cell (o := 1) (by omega : w8.heap.size < w18.heap.size)).trans c1
        have hWs := HW0s.out.kept (kA.trans (k518.trans kE21))
        have hWr := HW0r.out.kept (kA.trans (k518.trans kE21))
        have HG21 := hide (HG18.out.kept kE21)
        have HH21 := hide (HH18.out.kept kE21)
        have HI21 := hide (hI21.strs.kept kE)
        have HJ21 := hide (hJ21.runs.kept kE)
        have d5' : w5.heap.size < w21.heap.size := by omega
        have d8' : w8.heap.size < w21.heap.size := by omega
        clear hSR2 hI21 hJ21 c0 c1 HN19 HS20 HG18 HH18
        go_wp2_with fail
        refine (eqStart_yes _ ra21 ra ds21 d5 rts2.length rc5 T2.length dc5 rts2 T2 hl10 ht10 (HI21.out.kept (by repeat (first | (with_reducible exact Kept.refl _) | apply Kept.drew | apply Kept.drewN))) (hWs.kept (by repeat (first | (with_reducible exact Kept.refl _) | apply Kept.drew | apply Kept.drewN))) (HJ21.out.kept (by repeat (first | (with_reducible exact Kept.refl _) | apply Kept.drew | apply Kept.drewN))) (hWr.kept (by repeat (first | (with_reducible exact Kept.refl _) | apply Kept.drew | apply Kept.drewN)))).mono ?_
        rintro e w22 ⟨rfl, kk22⟩
        have k22 : Kept (w21.alloc (.cells #[.slice ra21 rts2.length rts2.length, .slice ds21 T2.length T2.length] 30)) w22 := Kept.trans (by repeat (first | (with_reducible exact Kept.refl _) | apply Kept.drew | apply Kept.drewN)) kk22
        have o0 := (k22.cell (o := 0) (by simp; omega)).trans e0
        have o1 := (k22.cell (o := 1) (by simp; omega)).trans e1
        have HG22 := hide (HG21.out.kept k22)
        have HH22 := hide (HH21.out.kept k22)
        have z22 := k22.size
        simp only [World.size_alloc] at z22
        have d22 : w8.heap.size < w22.heap.size := by omega
        clear j0 j1 e0 e1 hWs hWr HI21 HJ21 HG21 HH21
        go_wp2_with fail
        refine (heldStart_yes _ ra8 ds8 rts2.length T2.length rts2 T2 1 (by omega) (by omega) (HG22.out.kept (by repeat (first | (with_reducible exact Kept.refl _) | apply Kept.drew | apply Kept.drewN))) (HH22.out.kept (by repeat (first | (with_reducible exact Kept.refl _) | apply Kept.drew | apply Kept.drewN)))).mono ?_
        rintro e w23 ⟨rfl, kk23⟩
        rw [← HMm.out]
        have k23 : Kept w22 w23 := Kept.trans (by repeat (first | (with_reducible exact Kept.refl _) | apply Kept.drew | apply Kept.drewN)) kk23
        go_wp2
        go_ret
        exact ⟨rfl, k0.trans (K18.trans (kE21.trans (k22.trans k23)))⟩
    · rw [szL_neg (by omega)]
      go_wp2
      go_ret
      exact ⟨rfl, k0.trans K1⟩
  · rw [szL_neg (by omega)]
    go_wp2
    go_ret
    exact ⟨rfl, k0.trans K1⟩

end Go.Proofs.YtmdckapiljhfdaaGreat
