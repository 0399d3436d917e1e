import Derived.Test.YtjhemildijapmaaGreatDoorKVDo
import Derived.Test.YtjhemildijapmaaGreatDoorKODataN
import Derived.Test.YtjhemildijapmaaGreatDoorKOMark4
namespace Go.Proofs.YtjhemildijapmaaGreatDoor
open Go.RowKit
def RunInX (w : World) (B j lo hi : Nat) (r : RunX) : Prop :=
  ∃ xa xc, w.rangeAt B (j * 7) (r.cells xa xc) ∧ StrsIn w lo hi xa r.texts ∧ (xa = none → xc = 0)
theorem RunInX.same {w w' : World} {B j lo hi : Nat} {r : RunX} (h : RunInX w B j lo hi r) (k : Same lo hi w w') (hB : w'.rangeAt B (j * 7) = w.rangeAt B (j * 7)) : RunInX w' B j lo hi r := by
  obtain ⟨xa, xc, h1, h2, h3⟩ := h
  exact ⟨xa, xc, by rw [hB]; exact h1, h2.same k, h3⟩
def RunsInX (w : World) (lo hi : Nat) (a : Option Addr) (l : List RunX) : Prop :=
  l = [] ∨ ∃ (b : Nat) (c : Nat → Nat), a = some ⟨b, 0, none⟩ ∧ lo ≤ b ∧ b < c 0 ∧ c l.length ≤ hi ∧ Row w b (l.length * 7) ∧ (∀ i j, i ≤ j → c i ≤ c j) ∧ ∀ i, i < l.length → RunInX w b i (c i) (c (i + 1)) (l.getD i RunX.zero)
theorem RunsInX.same {w w' : World} {lo hi : Nat} {a : Option Addr} {l : List RunX} (h : RunsInX w lo hi a l) (k : Same lo hi w w') : RunsInX w' lo hi a l := by
  rcases h with h | ⟨b, c, ha, h1, h2, h3, hr, hm, hc⟩
  · exact .inl h
  · have hbh : b < hi := Nat.lt_of_lt_of_le h2 (Nat.le_trans (hm 0 _ (Nat.zero_le _)) h3)
    refine .inr ⟨b, c, ha, h1, h2, h3, k.row h1 hbh hr, hm, fun i hi' => (hc i hi').same (k.mono ?_ ?_) (rangeAt_of_block (k b h1 hbh hr.lt) _)⟩
    · have := hm 0 i (Nat.zero_le _); omega
    · have := hm (i + 1) l.length (by omega); omega
theorem RunsInX.mono {w : World} {lo hi lo' hi' : Nat} {a : Option Addr} {l : List RunX} (h : RunsInX w lo hi a l) (h1 : lo' ≤ lo) (h2 : hi ≤ hi') : RunsInX w lo' hi' a l := by
  rcases h with h | ⟨b, c, ha, g1, g2, g3, hr, hm, hc⟩
  · exact .inl h
  · exact .inr ⟨b, c, ha, by omega, g2, by omega, hr, hm, hc⟩
theorem RunsInX.runs {w : World} {lo hi : Nat} {a : Option Addr} {l : List RunX} (h : RunsInX w lo hi a l) : RunsX w a l := by
  rcases h with rfl | ⟨b, c, ha, h1, h2, h3, hr, hm, hc⟩
  · intro i hi
    simp at hi
  · intro i hi
    obtain ⟨xa, xc, g1, g2, g3⟩ := hc i hi
    exact ⟨b, 0, xa, xc, ha, hr.lt, by rw [Nat.zero_add]; exact g1, g2.strs, g3⟩
def cntRun (r : RunX) : Nat := 6 + r.texts.length
def markRunX (r : RunX) (k : Nat) : RunX := ⟨mtext k, decide ((k + 1) % 3 = 0), decide ((k + 2) % 3 = 0), mtext (k + 3), ((k + 4 : Nat) : Int), ((k + 5 : Nat) : Int), markStrs r.texts (k + 6)⟩
def markRunsX (l : List RunX) (k : Nat) : List RunX := l.mapIdx fun i r => markRunX r (k + sumTo cntRun l i)
theorem markRunsX_length (l : List RunX) (k : Nat) : (markRunsX l k).length = l.length := by simp [markRunsX]
theorem markRunsX_getD (l : List RunX) (k i : Nat) (h : i < l.length) : (markRunsX l k).getD i RunX.zero = markRunX (l.getD i RunX.zero) (k + sumTo cntRun l i) := by simp [markRunsX, List.getD, h]
def runMixX (l : List RunX) (k j t : Nat) : RunX := if t < j then markRunX (l.getD t RunX.zero) (k + sumTo cntRun l t) else l.getD t RunX.zero
theorem len_le_runs (l : List RunX) : l.length ≤ (l.map cntRun).sum := by
  induction l with
  | nil => simp
  | cons s r ih =>
    simp only [List.length_cons, List.map_cons, List.sum_cons]
    have : 6 ≤ cntRun s := by unfold cntRun; omega
    omega
theorem range7x {w : World} {b o : Nat} {x0 x1 x2 x3 x4 x5 x6 : Value} (h0 : w.cell? ⟨b, o, none⟩ = some x0) (h1 : w.cell? ⟨b, o + 1, none⟩ = some x1) (h2 : w.cell? ⟨b, o + 2, none⟩ = some x2) (h3 : w.cell? ⟨b, o + 3, none⟩ = some x3)
    (h4 : w.cell? ⟨b, o + 4, none⟩ = some x4) (h5 : w.cell? ⟨b, o + 5, none⟩ = some x5) (h6 : w.cell? ⟨b, o + 6, none⟩ = some x6) : w.rangeAt b o [x0, x1, x2, x3, x4, x5, x6] := by
  intro i v hv
  match i, hv with
  | 0, hv => simp at hv; subst hv; exact h0
  | 1, hv => simp at hv; subst hv; exact h1
  | 2, hv => simp at hv; subst hv; exact h2
  | 3, hv => simp at hv; subst hv; exact h3
  | 4, hv => simp at hv; subst hv; exact h4
  | 5, hv => simp at hv; subst hv; exact h5
  | 6, hv => simp at hv; subst hv; exact h6
  | i + 7, hv => simp at hv
theorem RunInX.kept {w w' : World} {B j lo hi : Nat} {r : RunX} (h : RunInX w B j lo hi r) (k : Kept w w') (hB : B < w.heap.size) : RunInX w' B j lo hi r :=
  h.same (k.same _ _) (rangeAt_of_block (k.block B hB) _)
theorem RunInX.setCells {w : World} {B j lo hi o : Nat} {r : RunX} {vs : List Value} (h : RunInX w B j lo hi r) (hB : B < lo) (ho : j * 7 + 7 ≤ o ∨ o + vs.length ≤ j * 7) : RunInX (w.setCells B o vs) B j lo hi r := by
  obtain ⟨xa, xc, h1, h2, h3⟩ := h
  exact ⟨xa, xc, World.rangeAt_setCells_apart h1 _ _ _ (by right; simpa [RunX.cells, or_comm] using ho), h2.same (Same.setCells (.inl hB) _ _ _), h3⟩
theorem RunsInX.setCell {w : World} {lo hi : Nat} {a : Option Addr} {l : List RunX} (h : RunsInX w lo hi a l) {p : Addr} (hp : p.block < lo) (v : Value) : RunsInX (w.setCell p v) lo hi a l := h.same (Same.setCell _ (.inl hp) _)
set_option maxRecDepth 100000 in
set_option maxHeartbeats 1600000 in
theorem toRunX_in (w : World) (r : RunX) (xa : Option Addr) (xc : Nat) (hl : r.texts.length ≤ 1048576) (hS : Strs w xa r.texts) :
    Calls Tryz.prog 50 #[.agg (r.cells xa xc).toArray] w fun e w' => ∃ b, e = .returned (.agg (r.cells (some ⟨b, 0, none⟩) r.texts.length).toArray) ∧ StrsIn w' w.heap.size w'.heap.size (some ⟨b, 0, none⟩) r.texts ∧ Kept w w' := by
  show Calls Tryz.prog 50 #[.agg #[.string r.name, .bool r.over, .bool r.fail, .string r.text, .int .i64 r.at', .int .i64 r.visits, .slice xa r.texts.length xc]] w _
  go_enter Tryz.func50, Tryz.ntmps50
  go_wp2_with fail
  refine (toStringS_in _ xa xc r.texts hl (hS.kept (by repeat (first | (refine Kept.setCell ?_ (by simp <;> omega) _) | apply Kept.alloc | exact Kept.refl _)))).mono ?_
  rintro e w1 ⟨b, rfl, hN, k1⟩
  obtain ⟨hc1, hf1⟩ := k1.rules
  have hz1 := k1.size
  simp only [World.size_alloc] at hz1 hN
  have K1 : Kept w w1 := Kept.trans (by repeat (first | (refine Kept.setCell ?_ (by simp <;> omega) _) | apply Kept.alloc | exact Kept.refl _)) k1
  have hrow1 : Row w1 (w.heap.size + 1) 7 := Row.kept (by
    have h7 : Row ((w.alloc (.cells #[.string r.name, .bool r.over, .bool r.fail, .string r.text, .int .i64 r.at', .int .i64 r.visits, .slice xa r.texts.length xc] 79)).alloc (.cells #[.string ⟨#[]⟩, .bool false, .bool false, .string ⟨#[]⟩, .int .i64 0, .int .i64 0, .slice none 0 0] 59)) (w.heap.size + 1) 7 := by
      have := Row.made (w.alloc (.cells #[.string r.name, .bool r.over, .bool r.fail, .string r.text, .int .i64 r.at', .int .i64 r.visits, .slice xa r.texts.length xc] 79)) #[.string ⟨#[]⟩, .bool false, .bool false, .string ⟨#[]⟩, .int .i64 0, .int .i64 0, .slice none 0 0] 59
      simpa using this
    repeat (first | exact h7 | (refine Row.alloc ?_ _) | (refine Row.set ?_ _ rfl _))) k1
  have HRow := hide hrow1
  clear k1 hrow1
  have z0 : w.heap.size < w1.heap.size := by omega
  have z1 : w.heap.size + 1 < w1.heap.size := by omega
  have z2 : w.heap.size + 1 + 1 < w1.heap.size := by omega
  go_wp2
  have hX : Row (w1.setCell ⟨w.heap.size + 1 + 1, 6, none⟩ (.slice (some ⟨b, 0, none⟩) r.texts.length r.texts.length)) (w.heap.size + 1) 7 := Row.set HRow.out _ rfl _
  have hR := World.rangeAt_setCells_same _ (w.heap.size + 1) 0 (r.cells (some ⟨b, 0, none⟩) r.texts.length) (hX.there (o := 0) (m := 7) (Nat.le_refl _))
  refine bodyPost_ret_cell (r.cells (some ⟨b, 0, none⟩) r.texts.length) _ Tryz.results50 rfl hR Tryz.underlying59 rfl Tryz.sizeRun7 rfl ⟨b, rfl, StrsIn.mono (lo := w.heap.size + 1 + 1 + 1) (hi := w1.heap.size) ?_ (by omega) (by simp), ?_⟩
  · repeat (first | (refine StrsIn.setCell ?_ (by simp <;> omega) _) | exact hN)
  · repeat (first | (refine Kept.setCell ?_ (by simp <;> omega) _) | exact K1)
set_option maxRecDepth 100000 in
set_option maxHeartbeats 1600000 in
theorem toRunSX_in (w : World) (a : Option Addr) (cap : Nat) (l : List RunX) (hl : l.length ≤ 1048576) (hs : ∀ s ∈ l, s.texts.length ≤ 1048576) (hS : RunsX w a l) :
    Calls Tryz.prog 23 #[.slice a l.length cap] w fun e w' => ∃ b, e = .returned (.slice (some ⟨b, 0, none⟩) l.length l.length) ∧ RunsInX w' w.heap.size w'.heap.size (some ⟨b, 0, none⟩) l ∧ Kept w w' := by
  have hmk := run_make_many (P := Tryz.prog) 31 59 _ _ _ Tryz.underlying31 Tryz.infoRun7 .i64 .i64 l.length (by omega) (by omega)
  go_enter Tryz.func23, Tryz.ntmps23
  go_wp2
  clear hmk
  have hrow := Row.made w (madeCells #[.string ⟨#[]⟩, .bool false, .bool false, .string ⟨#[]⟩, .int .i64 0, .int .i64 0, .slice none 0 0] (l.length * 7)) 59
  rw [size_madeCells] at hrow
  have hkept : Kept w (w.alloc (.cells (madeCells #[.string ⟨#[]⟩, .bool false, .bool false, .string ⟨#[]⟩, .int .i64 0, .int .i64 0, .slice none 0 0] (l.length * 7)) 59)) := (Kept.refl _).alloc _
  go_loopw [4] (fun i wr => ∃ k : Nat, k ≤ l.length ∧ i = .int .i64 k ∧ Kept w wr ∧ Row wr w.heap.size (l.length * 7) ∧ ∃ c : Nat → Nat, w.heap.size < c 0 ∧ c k ≤ wr.heap.size ∧ (∀ i j, i ≤ j → c i ≤ c j) ∧ ∀ j, j < k → RunInX wr w.heap.size j (c j) (c (j + 1)) (l.getD j RunX.zero)) (fun i _ => l.length - (intOf i).toNat)
  case atStart => exact ⟨0, Nat.zero_le _, rfl, hkept, hrow, fun _ => w.heap.size + 1, Nat.lt_succ_self _, by simp, fun _ _ _ => Nat.le_refl _, fun j hj => absurd hj (Nat.not_lt_zero _)⟩
  case round =>
    obtain ⟨k, hk, rfl, hw, hr, c, hc0, hck, hmono, hf⟩ := hrel
    have HMono := hide hmono
    clear hmono
    clear hrow hkept
    by_cases hlt : k < l.length
    · obtain ⟨b, o, x, cx, rfl, hb, hc, hA, _⟩ := hS.kept hw k hlt
      have hsz := hs (l.getD k RunX.zero) (by simp [List.getD, hlt])
      have HF := hide hf
      clear hf
      generalize hs : l.getD k RunX.zero = s at *
      have HSs := hide hs
      clear hs
      have c0 := hc 0 _ rfl
      have c1 := hc 1 _ rfl
      have c2 := hc 2 _ rfl
      have c3 := hc 3 _ rfl
      have c4 := hc 4 _ rfl
      have c5 := hc 5 _ rfl
      have c6 := hc 6 _ rfl
      simp only [Nat.add_zero] at c0
      clear hc
      go_wp2_with fail
      refine (toRunX_in _ s x cx hsz hA).mono ?_
      rintro e w1 ⟨b1, rfl, g1, hw1⟩
      have hz1 := hw1.size
      have hrl := hr.lt
      have hw2 := hw.trans hw1
      have hr1 := hr.kept hw1
      generalize hcs : s.cells (some ⟨b1, 0, none⟩) s.texts.length = cs
      have hlen : cs.length = 7 := by rw [← hcs]; rfl
      have hone : cs.toArray.all (·.oneCell') = true := by rw [← hcs, List.all_toArray, List.all_eq_true]; exact RunX.one s _ _
      have hth : w1.there w.heap.size (k * 7) cs.toArray.size := by simpa [hlen] using hr1.there (o := k * 7) (m := 7) (by omega)
      have hsize : (Tryz.prog.info? 59).map (·.size) = some cs.toArray.size := by rw [Tryz.sizeRun7]; simp [hlen]
      have HCS := hide hcs
      have HLEN := hide hlen
      have HSZ := hide hsize
      clear hcs hlen hsize
      have HR : Hid (Row w1 w.heap.size (l.length * 7)) := hr1
      have HF1 : Hid (∀ j, j < k → RunInX w1 w.heap.size j (c j) (c (j + 1)) (l.getD j RunX.zero)) := fun j hj => (HF.out j hj).kept hw1 hr.lt
      clear HF c0 c1 c2 c3 c4 c5 c6 hw hw1 hr hr1 hA
      go_wp2_with (refine wpList_store_mid rfl 59 _ _ rfl w.heap.size (k * 7) cs.toArray rfl rfl hth (unhide HSZ) hone ?_)
      go_roundw
      case rel =>
        have hmono := HMono.out
        refine ⟨k + 1, by omega, by go_num, Kept.setCells (Nat.le_refl _) _ _ hw2, Row.setCells _ _ HR.out, cutAt c k w1.heap.size, by rw [cutAt_le (Nat.zero_le _)]; exact hc0, by rw [cutAt_gt (by omega), size_setCells]; exact Nat.le_refl _, cutAt_mono hmono (by omega), fun j hj => ?_⟩
        by_cases e : j = k
        · subst e
          rw [unhide HSs, cutAt_le (Nat.le_refl _), cutAt_gt (by omega)]
          have hcj : w.heap.size < c j := Nat.lt_of_lt_of_le hc0 (hmono 0 j (Nat.zero_le _))
          exact ⟨_, _, by rw [HCS.out]; exact World.rangeAt_setCells_same _ _ _ _ (by simpa using hth), (g1.mono hck (Nat.le_refl _)).same (Same.setCells (.inl hcj) _ _ _), fun e => by cases e⟩
        · rw [cutAt_le (by omega), cutAt_le (by omega)]
          exact (HF1.out j (by omega)).setCells (Nat.lt_of_lt_of_le hc0 (hmono 0 j (Nat.zero_le _))) (by rw [HLEN.out]; omega)
      case measure => simp [intOf]; omega
    · go_wp2
      go_ret
      have : k = l.length := by omega
      subst this
      exact ⟨w.heap.size, rfl, .inr ⟨w.heap.size, c, rfl, Nat.le_refl _, hc0, hck, hr, HMono.out, hf⟩, hw⟩
set_option maxHeartbeats 800000 in
theorem toStateX_in (w : World) (a d : Option Addr) (cap e0 : Nat) (roots : List ByteArray) (l : List RunX) (hrl : roots.length ≤ 1048576) (hl : l.length ≤ 1048576) (hs : ∀ s ∈ l, s.texts.length ≤ 1048576) (hR : Strs w a roots) (hS : RunsX w d l) :
    Calls Tryz.prog 8 #[.agg #[.slice a roots.length cap, .slice d l.length e0]] w fun e w' => ∃ b1 b2 mid, e = .returned (.agg #[.slice (some ⟨b1, 0, none⟩) roots.length roots.length, .slice (some ⟨b2, 0, none⟩) l.length l.length]) ∧ StrsIn w' w.heap.size mid (some ⟨b1, 0, none⟩) roots ∧ RunsInX w' mid w'.heap.size (some ⟨b2, 0, none⟩) l ∧ w.heap.size ≤ mid ∧ mid ≤ w'.heap.size ∧ Kept w w' := by
  go_enter Tryz.func8, Tryz.ntmps8
  go_wp2_with fail
  refine (toStringS_in _ a cap roots hrl (hR.kept (by repeat (first | apply Kept.alloc | exact Kept.refl _)))).mono ?_
  rintro e w1 ⟨b1, rfl, hS1, k1⟩
  obtain ⟨hc1, hf1⟩ := k1.rules
  have hz1 := k1.size
  simp only [World.size_alloc] at hS1 hz1
  have K1 : Kept w w1 := Kept.trans (by repeat (first | apply Kept.alloc | exact Kept.refl _)) k1
  have hrow1 : Row w1 (w.heap.size + 1) 2 := Row.kept (Row.alloc (by have := Row.made (w.alloc (.cells #[.slice a roots.length cap, .slice d l.length e0] 28)) #[.slice none 0 0, .slice none 0 0] 33; simpa using this) _) k1
  clear k1
  go_wp2_with fail
  refine (toRunSX_in _ d e0 l hl hs (hS.kept (by repeat (first | (refine Kept.setCell ?_ (by simp <;> omega) _) | exact K1)))).mono ?_
  rintro e w2 ⟨b2, rfl, hS2, k2⟩
  obtain ⟨hc2, hf2⟩ := k2.rules
  have hz2 := k2.size
  simp only [size_setCell] at hS2 hz2 hc2 hf2
  have K2 : Kept w w2 := Kept.trans (by repeat (first | (refine Kept.setCell ?_ (by simp <;> omega) _) | exact K1)) k2
  have hS1' := (hS1.setCell (p := ⟨w.heap.size + 1 + 1, 0, none⟩) (by simp <;> omega) (.slice (some ⟨b1, 0, none⟩) roots.length roots.length)).same (k2.same _ _)
  have HRow : Hid (Row w2 (w.heap.size + 1) 2) := Row.kept (by repeat (first | refine Row.set ?_ _ rfl _ | exact hrow1)) k2
  clear k2 K1 hS1 hrow1
  have z0 : w.heap.size < w1.heap.size := by omega
  have z1 : w.heap.size + 1 < w1.heap.size := by omega
  have z2 : w.heap.size + 1 + 1 < w1.heap.size := by omega
  go_wp2
  have hX : Row (w2.setCell ⟨w.heap.size + 1 + 1, 1, none⟩ (.slice (some ⟨b2, 0, none⟩) l.length l.length)) (w.heap.size + 1) 2 := Row.set HRow.out _ rfl _
  have hR := World.rangeAt_setCells_same _ (w.heap.size + 1) 0 [.slice (some ⟨b1, 0, none⟩) roots.length roots.length, .slice (some ⟨b2, 0, none⟩) l.length l.length] (hX.there (o := 0) (m := 2) (Nat.le_refl _))
  refine bodyPost_ret_cell [.slice (some ⟨b1, 0, none⟩) roots.length roots.length, .slice (some ⟨b2, 0, none⟩) l.length l.length] _ Tryz.results8 rfl hR Tryz.underlying33 rfl Tryz.sizeState2 rfl ⟨b1, b2, w1.heap.size, rfl, StrsIn.mono (lo := w.heap.size + 1 + 1 + 1) (hi := w1.heap.size) ?_ (by omega) (Nat.le_refl _), RunsInX.mono (lo := w1.heap.size) (hi := w2.heap.size) ?_ (Nat.le_refl _) (by simp), by omega, by simp; omega, ?_⟩
  · repeat (first | (refine StrsIn.setCell ?_ (by simp <;> omega) _) | exact hS1')
  · repeat (first | (refine RunsInX.setCell ?_ (by simp <;> omega) _) | exact hS2)
  · repeat (first | (refine Kept.setCell ?_ (by simp <;> omega) _) | exact K2)
set_option maxRecDepth 100000 in
set_option maxHeartbeats 3200000 in
theorem markRunSX_any (w : World) (lo hi : Nat) (a : Option Addr) (cap : Nat) (l : List RunX) (k : Nat) (h0 : 0 < k) (h1 : k + (l.map cntRun).sum ≤ 4611686018427387904) (hS : RunsInX w lo hi a l) :
    Calls Tryz.prog 33 #[.slice a l.length cap, .int .i64 k] w fun e w' => e = .returned (.int .i64 ((k + (l.map cntRun).sum : Nat) : Int)) ∧ RunsInX w' lo hi a (markRunsX l k) ∧ KeptBut lo hi w w' := by
  have hlen := len_le_runs l
  rcases hS with rfl | ⟨B, c, rfl, hlo, hBc, hhi, hr, hmono, hf⟩
  · go_enter Tryz.func33, Tryz.ntmps33
    go_wp2
    go_loopw [1, 5] (fun x i wr => x = .int .i64 k ∧ i = .int .i64 0 ∧ wr = w) (fun _ _ _ => 0)
    case atStart => exact ⟨rfl, rfl, rfl⟩
    case round =>
      obtain ⟨rfl, rfl, rfl⟩ := hrel
      go_wp2
      go_ret
      exact ⟨by simp, .inl rfl, KeptBut.refl _ _ _⟩
  · have HMono := hide hmono
    clear hmono
    go_enter Tryz.func33, Tryz.ntmps33
    go_wp2
    go_loopw [1, 5] (fun x i wr => ∃ j m : Nat, j ≤ l.length ∧ i = .int .i64 j ∧ x = .int .i64 m ∧ m = k + sumTo cntRun l j ∧ KeptBut lo hi w wr ∧ Row wr B (l.length * 7) ∧ ∀ t, t < l.length → RunInX wr B t (c t) (c (t + 1)) (runMixX l k j t)) (fun _ i _ => l.length - (intOf i).toNat)
    case atStart => exact ⟨0, k, Nat.zero_le _, rfl, rfl, by rw [sumTo_zero]; omega, KeptBut.refl _ _ _, hr, fun t ht => by simpa [runMixX] using hf t ht⟩
    case round =>
      obtain ⟨j, m, hj, rfl, rfl, hm, hw, hr', hf'⟩ := hrel
      clear hr hf
      have HMn := hide hm
      have HF := hide hf'
      by_cases hlt : j < l.length
      · have hst := hf' j hlt
        have hmix : runMixX l k j j = l.getD j RunX.zero := by simp [runMixX]
        rw [hmix] at hst
        have hsum := sumTo_succ cntRun l RunX.zero j hlt
        have hsl := sumTo_le cntRun l (j + 1)
        obtain ⟨xa, ca, g3, g4, g6⟩ := hst
        obtain ⟨s, hsd⟩ : ∃ s, s = l.getD j RunX.zero := ⟨_, rfl⟩
        rw [← hsd] at g3 g4 hsum
        have hcs : cntRun s = 6 + s.texts.length := rfl
        have hmb : m + 6 + s.texts.length ≤ 4611686018427387904 := by omega
        have hm0 : 0 < m := by omega
        have HSd := hide hsd
        have HSum := hide hsum
        have HG6 := hide g6
        have hBj : B < c j := Nat.lt_of_lt_of_le hBc (HMono.out 0 j (Nat.zero_le _))
        have hcc : c j ≤ c (j + 1) := HMono.out j (j + 1) (by omega)
        have hBs := hr'.lt
        have c6 := g3 6 _ rfl
        clear hf' g3 hm hmix hsd hsum hsl hcs g6
        obtain ⟨txt, htx, hmt⟩ : ∃ txt, txt = mtext m ∧ ∀ W, Calls Tryz.prog 68 #[.int .i64 (m : Int)] W fun e w' => e = .returned (.string txt) ∧ Kept W w' := ⟨_, rfl, fun W => markText_any W m hm0 (by omega)⟩
        obtain ⟨tx2, htx2, hmt2⟩ : ∃ txt, txt = mtext (m + 3) ∧ ∀ z : Int, z = ((m + 3 : Nat) : Int) → ∀ W, Calls Tryz.prog 68 #[.int .i64 z] W fun e w' => e = .returned (.string txt) ∧ Kept W w' := ⟨_, rfl, fun z hz W => by rw [hz]; exact markText_any W _ (by omega) (by omega)⟩
        have HTX := hide htx
        have HMT := hide hmt
        have HTX2 := hide htx2
        have HMT2 := hide hmt2
        have HMN : Hid (∀ z : Int, z = ((m + 6 : Nat) : Int) → ∀ W, StrsIn W (c j) (c (j + 1)) xa s.texts → Calls Tryz.prog 32 #[.slice xa s.texts.length ca, .int .i64 z] W fun e w' => e = .returned (.int .i64 ((m + 6 + s.texts.length : Nat) : Int)) ∧ StrsIn w' (c j) (c (j + 1)) xa (markStrs s.texts (m + 6)) ∧ KeptBut (c j) (c (j + 1)) W w') := fun z hz W hW => by rw [hz]; exact markStringS_any W (c j) (c (j + 1)) xa ca s.texts (m + 6) (by omega) (by omega) hW
        clear htx hmt htx2 hmt2
        go_wp2_with fail
        refine (HMT.out _).mono ?_
        rintro e w1 ⟨rfl, k1⟩
        have hr1 := hr'.kept k1
        have d6 := (k1.cell hBs).trans c6
        obtain ⟨⟨_, f0c⟩, f0⟩ := hr1.at (i := j * 7) (by omega)
        obtain ⟨⟨_, f1c⟩, f1⟩ := hr1.at (i := j * 7 + 1) (by omega)
        obtain ⟨⟨_, f2c⟩, f2⟩ := hr1.at (i := j * 7 + 2) (by omega)
        have t1 := (Turn.refl B (j * 7) (j * 7 + 7) (c j) (c (j + 1)) wr).kept k1 hBs
        have HG1 := hide (g4.same (k1.same _ _))
        have HR1 := hide hr1
        have HT1 := hide t1
        clear c6 hr' k1 HMT hr1 t1 g4
        go_wp2_with fail
        refine (HMT2.out _ (by omega) _).mono ?_
        rintro e w2 ⟨rfl, k2⟩
        have rA := HR1.out.set ⟨B, j * 7, none⟩ rfl (.string txt)
        have rB := rA.set ⟨B, j * 7 + 1, none⟩ rfl (.bool (((m : Int) + 1) % 3 == 0))
        have rC := rB.set ⟨B, j * 7 + 2, none⟩ rfl (.bool (((m : Int) + 1 + 1) % 3 == 0))
        have e0 : w2.cell? ⟨B, j * 7, none⟩ = some (.string txt) := by rw [k2.cell rC.lt, set_miss (by omega), set_miss (by omega)]; exact set_hit HR1.out (by omega) _
        have e1 : w2.cell? ⟨B, j * 7 + 1, none⟩ = some (.bool (((m : Int) + 1) % 3 == 0)) := by rw [k2.cell rC.lt, set_miss (by omega)]; exact set_hit rA (by omega) _
        have e2 : w2.cell? ⟨B, j * 7 + 2, none⟩ = some (.bool (((m : Int) + 1 + 1) % 3 == 0)) := by rw [k2.cell rC.lt]; exact set_hit rB (by omega) _
        have e6 : w2.cell? ⟨B, j * 7 + 6, none⟩ = some (.slice xa s.texts.length ca) := by rw [k2.cell rC.lt, set_miss (by omega), set_miss (by omega), set_miss (by omega)]; exact d6
        have t2 := (((HT1.out.setCell (o := j * 7) (by omega) (by omega) (.string txt)).setCell (o := j * 7 + 1) (by omega) (by omega) (.bool (((m : Int) + 1) % 3 == 0))).setCell (o := j * 7 + 2) (by omega) (by omega) (.bool (((m : Int) + 1 + 1) % 3 == 0))).kept k2 rC.lt
        have HG2 := hide ((((HG1.out.same (Same.setCell _ (p := ⟨B, j * 7, none⟩) (.inl hBj) (.string txt))).same (Same.setCell _ (p := ⟨B, j * 7 + 1, none⟩) (.inl hBj) (.bool (((m : Int) + 1) % 3 == 0)))).same (Same.setCell _ (p := ⟨B, j * 7 + 2, none⟩) (.inl hBj) (.bool (((m : Int) + 1 + 1) % 3 == 0)))).same (k2.same _ _))
        have hr2 := rC.kept k2
        obtain ⟨⟨_, f3c⟩, f3⟩ := hr2.at (i := j * 7 + 3) (by omega)
        obtain ⟨⟨_, f4c⟩, f4⟩ := hr2.at (i := j * 7 + 4) (by omega)
        obtain ⟨⟨_, f5c⟩, f5⟩ := hr2.at (i := j * 7 + 5) (by omega)
        have HR2 := hide hr2
        have HT2 := hide t2
        have HE := hide (And.intro e0 (And.intro e1 e2))
        clear e0 e1 e2 rA rB rC t2 hr2 k2 HR1 HT1 HMT2 f0 f0c f1 f1c f2 f2c d6 HG1
        go_wp2_with fail
        refine (HMN.out _ (by omega) _ (((HG2.out.same (Same.setCell _ (p := ⟨B, j * 7 + 3, none⟩) (.inl hBj) _)).same (Same.setCell _ (p := ⟨B, j * 7 + 4, none⟩) (.inl hBj) _)).same (Same.setCell _ (p := ⟨B, j * 7 + 5, none⟩) (.inl hBj) _))).mono ?_
        rintro e w3 ⟨rfl, hS3, kb3⟩
        have rA := HR2.out.set ⟨B, j * 7 + 3, none⟩ rfl (.string tx2)
        have rB := rA.set ⟨B, j * 7 + 4, none⟩ rfl (.int .i64 ((m : Int) + 1 + 1 + 1 + 1))
        have rC := rB.set ⟨B, j * 7 + 5, none⟩ rfl (.int .i64 ((m : Int) + 1 + 1 + 1 + 1 + 1))
        have s3 := kb3.same (l2 := B) (h2 := B + 1) (by omega)
        have q3 : w3.cell? ⟨B, j * 7 + 3, none⟩ = some (.string tx2) := by rw [s3.cell (Nat.le_refl _) (by omega) rC.lt, set_miss (by omega), set_miss (by omega)]; exact set_hit HR2.out (by omega) _
        have q4 : w3.cell? ⟨B, j * 7 + 4, none⟩ = some (.int .i64 ((m : Int) + 1 + 1 + 1 + 1)) := by rw [s3.cell (Nat.le_refl _) (by omega) rC.lt, set_miss (by omega)]; exact set_hit rA (by omega) _
        have q5 : w3.cell? ⟨B, j * 7 + 5, none⟩ = some (.int .i64 ((m : Int) + 1 + 1 + 1 + 1 + 1)) := by rw [s3.cell (Nat.le_refl _) (by omega) rC.lt]; exact set_hit rB (by omega) _
        have q6 : w3.cell? ⟨B, j * 7 + 6, none⟩ = some (.slice xa s.texts.length ca) := by rw [s3.cell (Nat.le_refl _) (by omega) rC.lt, set_miss (by omega), set_miss (by omega), set_miss (by omega)]; exact e6
        obtain ⟨e0, e1, e2⟩ := HE.out
        have q0 : w3.cell? ⟨B, j * 7, none⟩ = some (.string txt) := by rw [s3.cell (Nat.le_refl _) (by omega) rC.lt, set_miss (by omega), set_miss (by omega), set_miss (by omega)]; exact e0
        have q1 : w3.cell? ⟨B, j * 7 + 1, none⟩ = some (.bool (((m : Int) + 1) % 3 == 0)) := by rw [s3.cell (Nat.le_refl _) (by omega) rC.lt, set_miss (by omega), set_miss (by omega), set_miss (by omega)]; exact e1
        have q2 : w3.cell? ⟨B, j * 7 + 2, none⟩ = some (.bool (((m : Int) + 1 + 1) % 3 == 0)) := by rw [s3.cell (Nat.le_refl _) (by omega) rC.lt, set_miss (by omega), set_miss (by omega), set_miss (by omega)]; exact e2
        rw [mod3 m 1 _ (by omega)] at q1
        rw [mod3 m 2 _ (by omega)] at q2
        rw [show (m : Int) + 1 + 1 + 1 + 1 = ((m + 4 : Nat) : Int) by omega] at q4
        rw [show (m : Int) + 1 + 1 + 1 + 1 + 1 = ((m + 5 : Nat) : Int) by omega] at q5
        rw [HTX.out] at q0
        rw [HTX2.out] at q3
        have HQ := hide (range7x q0 q1 q2 q3 q4 q5 q6)
        have t3 := (((HT2.out.setCell (o := j * 7 + 3) (by omega) (by omega) (.string tx2)).setCell (o := j * 7 + 4) (by omega) (by omega) (.int .i64 ((m : Int) + 1 + 1 + 1 + 1))).setCell (o := j * 7 + 5) (by omega) (by omega) (.int .i64 ((m : Int) + 1 + 1 + 1 + 1 + 1))).but kb3 (Nat.le_refl _) (Nat.le_refl _) (.inl hBj) rC.lt
        have HR3 := hide (s3.row (Nat.le_refl _) (by omega) rC)
        have HT3 := hide t3
        have HS3 := hide hS3
        obtain ⟨m6, hm6⟩ : ∃ m6, m6 = m + 6 + s.texts.length := ⟨_, rfl⟩
        rw [← hm6]
        have HM6 := hide hm6
        have hm6b : m6 ≤ 4611686018427387904 := by omega
        clear q0 q1 q2 q3 q4 q5 q6 e0 e1 e2 e6 rA rB rC t3 kb3 s3 f3 f3c f4 f4c f5 f5c HR2 HT2 HE HMN hm6 hS3 HG2
        go_wp2
        go_roundw
        case rel =>
          have tF := HT3.out
          have hmono := HMono.out
          refine ⟨j + 1, m6, by omega, by go_num, by go_num, by have h1 := HMn.out; have h2 := HM6.out; have h3 := HSum.out; have h4 : cntRun s = 6 + s.texts.length := rfl; omega, hw.trans (tF.keptBut (by omega) (by have := hmono (j + 1) l.length (by omega); omega) (by omega) (by have := hmono 0 l.length (Nat.zero_le _); omega)), HR3.out, fun t ht => ?_⟩
          by_cases e : t = j
          · subst e
            refine ⟨xa, ca, ?_, ?_, HG6.out⟩
            · have em : (runMixX l k (t + 1) t).cells xa ca = [.string (mtext m), .bool (decide ((m + 1) % 3 = 0)), .bool (decide ((m + 2) % 3 = 0)), .string (mtext (m + 3)), .int .i64 ((m + 4 : Nat) : Int), .int .i64 ((m + 5 : Nat) : Int), .slice xa s.texts.length ca] := by
                unfold runMixX
                rw [if_pos (by omega), ← HMn.out, ← HSd.out]
                simp [markRunX, RunX.cells, markStrs_length]
              rw [em]
              exact HQ.out
            · have em : (runMixX l k (t + 1) t).texts = markStrs s.texts (m + 6) := by
                unfold runMixX
                rw [if_pos (by omega), ← HMn.out, ← HSd.out]
                rfl
              rw [em]
              exact HS3.out
          · have em : runMixX l k (j + 1) t = runMixX l k j t := by
              unfold runMixX
              by_cases h : t < j
              · rw [if_pos h, if_pos (by omega)]
              · rw [if_neg h, if_neg (by omega)]
            rw [em]
            obtain ⟨x, cx, z1, z2, z3⟩ := HF.out t ht
            have hBt : B < c t := Nat.lt_of_lt_of_le hBc (hmono 0 t (Nat.zero_le _))
            refine ⟨x, cx, tF.range (by simp [RunX.cells]; omega) z1, z2.same (tF.same ?_ (.inl hBt)), z3⟩
            rcases Nat.lt_or_gt_of_ne e with h | h
            · left; exact hmono (t + 1) j (by omega)
            · right; exact hmono (j + 1) t (by omega)
        case measure => simp [intOf]; omega
      · have : j = l.length := by omega
        subst this
        go_wp2
        go_ret
        refine ⟨ret_int (by have := HMn.out; rw [sumTo_all] at this; omega), .inr ⟨B, c, rfl, hlo, hBc, by rw [markRunsX_length]; exact hhi, by rw [markRunsX_length]; exact hr', HMono.out, fun i hi' => ?_⟩, hw⟩
        rw [markRunsX_length] at hi'
        have := HF.out i hi'
        rw [markRunsX_getD _ _ _ hi']
        unfold runMixX at this
        rw [if_pos hi'] at this
        exact this
set_option maxHeartbeats 800000 in
theorem markStateX_any (w : World) (lo mid hi : Nat) (a d : Option Addr) (cap e0 : Nat) (roots : List ByteArray) (l : List RunX) (k : Nat) (h0 : 0 < k) (h1 : k + roots.length + (l.map cntRun).sum ≤ 4611686018427387904) (hm1 : lo ≤ mid) (hm2 : mid ≤ hi) (hhi : hi ≤ w.heap.size) (hR : StrsIn w lo mid a roots) (hS : RunsInX w mid hi d l) :
    Calls Tryz.prog 13 #[.agg #[.slice a roots.length cap, .slice d l.length e0], .int .i64 k] w fun e w' => e = .returned (.int .i64 ((k + roots.length + (l.map cntRun).sum : Nat) : Int)) ∧ StrsIn w' lo mid a (markStrs roots k) ∧ RunsInX w' mid hi d (markRunsX l (k + roots.length)) ∧ KeptBut lo hi w w' := by
  obtain ⟨W0, hW0⟩ : ∃ W0, W0 = w.alloc (.cells #[.slice a roots.length cap, .slice d l.length e0] 33) := ⟨_, rfl⟩
  have k0 : Kept w W0 := by rw [hW0]; exact (Kept.refl _).alloc _
  have b0 : W0.cell? ⟨w.heap.size, 0, none⟩ = some (.slice a roots.length cap) := (twoCells (w := w) (by rw [hW0]; exact Kept.refl _)).1
  have b1 : W0.cell? ⟨w.heap.size, 1, none⟩ = some (.slice d l.length e0) := (twoCells (w := w) (by rw [hW0]; exact Kept.refl _)).2
  have z0 : w.heap.size < W0.heap.size := by rw [hW0]; simp
  go_enter Tryz.func13, Tryz.ntmps13
  go_wp2_with fail
  rw [← hW0]
  clear hW0
  refine (markStringS_any _ lo mid a cap roots k h0 (by omega) (hR.same (k0.same _ _))).mono ?_
  rintro e w1 ⟨rfl, hR1, kb1⟩
  have s1 := kb1.same (l2 := w.heap.size) (h2 := w.heap.size + 1) (by omega)
  have c1 := (s1.cell (o := 1) (Nat.le_refl _) (by omega) z0).trans b1
  obtain ⟨m, hm⟩ : ∃ m, m = k + roots.length := ⟨_, rfl⟩
  rw [← hm]
  have hmb : m + (l.map cntRun).sum ≤ 4611686018427387904 := by omega
  have hm0 : 0 < m := by omega
  have HS1 := hide ((hS.same (k0.same _ _)).same (kb1.same (l2 := mid) (h2 := hi) (by omega)))
  have HR1 := hide hR1
  have HM := hide hm
  have hz1 := kb1.size
  clear hm b0 b1 hR1 s1
  go_wp2_with fail
  refine (markRunSX_any _ mid hi d e0 l m hm0 hmb HS1.out).mono ?_
  rintro e w2 ⟨rfl, hS2, kb2⟩
  have HS2 := hide hS2
  have HR2 := hide (HR1.out.same (kb2.same (l2 := lo) (h2 := mid) (by omega)))
  have HK := hide (((KeptBut.of_kept k0).trans (kb1.mono (Nat.le_refl _) hm2)).trans (kb2.mono hm1 (Nat.le_refl _)))
  clear hS2 kb2 kb1 k0
  go_wp2
  go_ret
  rw [← HM.out]
  exact ⟨rfl, HR2.out, HS2.out, HK.out⟩
end Go.Proofs.YtjhemildijapmaaGreatDoor
