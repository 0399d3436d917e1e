import Derived.Test.YtmdckapiljhfdaaGreatOMark2
import Derived.Test.YtmdckapiljhfdaaGreatOMark3
import Derived.Test.YtmdckapiljhfdaaGreatWLaw
import Derived.Deep.RegionHeld
import Derived.Test.YtmdckapiljhfdaaGreatOPutS
import Derived.Deep.QuietTactic
import Derived.BigQuiet
import Derived.Test.YtmdckapiljhfdaaGreatODrop2
import Derived.Test.YtmdckapiljhfdaaGreatOSpec2
import Derived.Deep.RegionLaw
import Derived.Test.YtmdckapiljhfdaaGreatWImpl2
import Derived.Test.YtmdckapiljhfdaaGreatWSpec5

/-
  RUNS without texts, and what it means that a world holds them. Nothing of the dump is named here.
-/
namespace Go.Proofs.YtmdckapiljhfdaaGreat
open Go.RowKit

/-- A run whose Texts are none. -/
structure RunD where
  name : ByteArray
  over : Bool
  fail : Bool
  text : ByteArray
  at' : Int
  visits : Int

def RunD.zero : RunD := ⟨ByteArray.empty, false, false, ⟨#[]⟩, 0, 0⟩
/-- A run of which nothing has been done. -/
def RunD.fresh (n : ByteArray) : RunD := ⟨n, false, false, ⟨#[]⟩, 0, 0⟩
def RunD.cells (r : RunD) (x : Option Addr) (c : Nat) : List Value := [.string r.name, .bool r.over, .bool r.fail, .string r.text, .int .i64 r.at', .int .i64 r.visits, .slice x 0 c]
theorem RunD.one (r : RunD) (x : Option Addr) (c : Nat) : ∀ u ∈ r.cells x c, u.oneCell' = true := by
  intro u hu
  simp only [RunD.cells, List.mem_cons, List.not_mem_nil, or_false] at hu
  rcases hu with rfl | rfl | rfl | rfl | rfl | rfl | rfl <;> rfl

/-- The slice at a holds these runs. -/
def Runs (w : World) (a : Option Addr) (l : List RunD) : Prop :=
  ∀ i, i < l.length → ∃ b o x c, a = some ⟨b, o, none⟩ ∧ b < w.heap.size ∧ w.rangeAt b (o + i * 7) ((l.getD i RunD.zero).cells x c)
theorem Runs.kept {w w' : World} {a : Option Addr} {l : List RunD} (h : Runs w a l) (k : Kept w w') : Runs w' a l := by
  intro i hi
  obtain ⟨b, o, x, c, e, hb, hr⟩ := h i hi
  exact ⟨b, o, x, c, e, Nat.lt_of_lt_of_le hb k.size, k.range hb hr⟩

/-- They lie in a row of their own. -/
def RunsIn (w : World) (lo hi : Nat) (a : Option Addr) (l : List RunD) : Prop :=
  l = [] ∨ ∃ b, a = some ⟨b, 0, none⟩ ∧ lo ≤ b ∧ b < hi ∧ Row w b (l.length * 7) ∧ ∀ i, i < l.length → ∃ x c, w.rangeAt b (i * 7) ((l.getD i RunD.zero).cells x c)
theorem RunsIn.same {w w' : World} {lo hi : Nat} {a : Option Addr} {l : List RunD} (h : RunsIn w lo hi a l) (k : Same lo hi w w') : RunsIn w' lo hi a l := by
  rcases h with h | ⟨b, ha, h1, h2, hr, hc⟩
  · exact .inl h
  · exact .inr ⟨b, ha, h1, h2, k.row h1 h2 hr, fun i hi => by obtain ⟨x, c, g⟩ := hc i hi; exact ⟨x, c, k.range h1 h2 hr.lt g⟩⟩
theorem RunsIn.mono {w : World} {lo hi lo' hi' : Nat} {a : Option Addr} {l : List RunD} (h : RunsIn w lo hi a l) (h1 : lo' ≤ lo) (h2 : hi ≤ hi') : RunsIn w lo' hi' a l := by
  rcases h with h | ⟨b, ha, g1, g2, hr, hc⟩
  · exact .inl h
  · exact .inr ⟨b, ha, by omega, by omega, hr, hc⟩
theorem RunsIn.runs {w : World} {lo hi : Nat} {a : Option Addr} {l : List RunD} (h : RunsIn w lo hi a l) : Runs w a l := by
  rcases h with rfl | ⟨b, ha, h1, h2, hr, hc⟩
  · intro i hi
    simp at hi
  · intro i hi
    obtain ⟨x, c, g⟩ := hc i hi
    exact ⟨b, 0, x, c, ha, hr.lt, by rw [Nat.zero_add]; exact g⟩

/-- What the marks make of a run. -/
def markRun (k : Nat) : RunD := ⟨mtext k, decide ((k + 1) % 3 = 0), decide ((k + 2) % 3 = 0), mtext (k + 3), ((k + 4 : Nat) : Int), ((k + 5 : Nat) : Int)⟩
def markRuns (l : List RunD) (k : Nat) : List RunD := l.mapIdx fun i _ => markRun (k + i * 6)
theorem markRuns_length (l : List RunD) (k : Nat) : (markRuns l k).length = l.length := by simp [markRuns]
theorem markRuns_getD (l : List RunD) (k i : Nat) (h : i < l.length) : (markRuns l k).getD i RunD.zero = markRun (k + i * 6) := by simp [markRuns, List.getD, h]
/-- Runs, the first j of them marked. -/
def runMix (l : List RunD) (k j t : Nat) : RunD := if t < j then markRun (k + t * 6) else l.getD t RunD.zero

theorem range7 {w : World} {b o : Nat} {x0 x1 x2 x3 x4 x5 x6 : Value} (h0 : w.cell? ⟨b, o, none⟩ = some x0) (h1 : w.cell? ⟨b, o + 1, none⟩ = some x1) (h2 : w.cell? ⟨b, o + 2, none⟩ = some x2) (h3 : w.cell? ⟨b, o + 3, none⟩ = some x3)
    (h4 : w.cell? ⟨b, o + 4, none⟩ = some x4) (h5 : w.cell? ⟨b, o + 5, none⟩ = some x5) (h6 : w.cell? ⟨b, o + 6, none⟩ = some x6) : w.rangeAt b o [x0, x1, x2, x3, x4, x5, x6] := by
  intro i v hv
  match i, hv with
  | 0, hv => simp at hv; subst hv; exact h0
  | 1, hv => simp at hv; subst hv; exact h1
  | 2, hv => simp at hv; subst hv; exact h2
  | 3, hv => simp at hv; subst hv; exact h3
  | 4, hv => simp at hv; subst hv; exact h4
  | 5, hv => simp at hv; subst hv; exact h5
  | 6, hv => simp at hv; subst hv; exact h6
  | i + 7, hv => simp at hv

end Go.Proofs.YtmdckapiljhfdaaGreat

/-
  WALKS: eqRun, eqRunS, eqState.
-/
namespace Go.Proofs.YtmdckapiljhfdaaGreat
open Go.RowKit

theorem strs_nil (w : World) (a : Option Addr) : Strs w a [] := fun i hi => by simp at hi

set_option maxHeartbeats 800000 in
theorem eqRun_yes (w : World) (r : RunD) (x x' : Option Addr) (c c' : Nat) :
    Calls Tryz.prog 50 #[.agg (r.cells x c).toArray, .agg (r.cells x' c').toArray] w fun e w' => e = .returned (.bool true) ∧ Kept w w' := by
  show Calls Tryz.prog 50 #[.agg #[.string r.name, .bool r.over, .bool r.fail, .string r.text, .int .i64 r.at', .int .i64 r.visits, .slice x 0 c], .agg #[.string r.name, .bool r.over, .bool r.fail, .string r.text, .int .i64 r.at', .int .i64 r.visits, .slice x' 0 c']] w _
  have k0 : Kept w ((w.alloc (.cells #[.string r.name, .bool r.over, .bool r.fail, .string r.text, .int .i64 r.at', .int .i64 r.visits, .slice x 0 c] 78)).alloc (.cells #[.string r.name, .bool r.over, .bool r.fail, .string r.text, .int .i64 r.at', .int .i64 r.visits, .slice x' 0 c'] 78)) := ((Kept.refl _).alloc _).alloc _
  go_enter Tryz.func50, Tryz.ntmps50
  go_wp2_with fail
  refine (eqStringS_yes _ x x' c c' [] (by simp) (strs_nil _ _) (strs_nil _ _)).mono ?_
  rintro e w1 ⟨rfl, k1⟩
  have k2 : Kept w w1 := Kept.trans (by repeat (first | exact k0 | apply Kept.drew)) k1
  go_wp2
  go_ret
  exact ⟨rfl, k2⟩

set_option maxRecDepth 100000 in
set_option maxHeartbeats 1600000 in
theorem eqRunS_yes (w : World) (a a' : Option Addr) (cap cap' : Nat) (l : List RunD) (hl : l.length ≤ maxLen) (hS : Runs w a l) (hS' : Runs w a' l) :
    Calls Tryz.prog 25 #[.slice a l.length cap, .slice a' l.length cap'] w fun e w' => e = .returned (.bool true) ∧ Kept w w' := by
  unfold maxLen at hl
  go_enter Tryz.func25, Tryz.ntmps25
  go_wp2
  go_loopw [5] (fun i wr => ∃ k : Nat, k ≤ l.length ∧ i = .int .i64 k ∧ Kept w wr) (fun i _ => l.length - (intOf i).toNat)
  case atStart => exact ⟨0, Nat.zero_le _, rfl, Kept.refl _⟩
  case round =>
    obtain ⟨k, hk, rfl, hw⟩ := hrel
    by_cases hlt : k < l.length
    · obtain ⟨b, o, x, cx, rfl, hb, hc⟩ := hS.kept hw k hlt
      obtain ⟨b', o', x', cx', rfl, hb', hc'⟩ := hS'.kept hw k hlt
      generalize l.getD k RunD.zero = s at *
      have c0 := hc 0 _ rfl
      have c1 := hc 1 _ rfl
      have c2 := hc 2 _ rfl
      have c3 := hc 3 _ rfl
      have c4 := hc 4 _ rfl
      have c5 := hc 5 _ rfl
      have c6 := hc 6 _ rfl
      have d0 := hc' 0 _ rfl
      have d1 := hc' 1 _ rfl
      have d2 := hc' 2 _ rfl
      have d3 := hc' 3 _ rfl
      have d4 := hc' 4 _ rfl
      have d5 := hc' 5 _ rfl
      have d6 := hc' 6 _ rfl
      simp only [Nat.add_zero] at c0 d0
      clear hc hc'
      go_wp2
      go_region_with (go_at_call 50; refine (eqRun_yes _ s x x' cx cx').mono ?_; rintro e w1 ⟨rfl, hw1⟩)
      all_goals
        go_wp2
        go_roundw
        case rel => exact ⟨k + 1, by omega, by go_num, by repeat (first | assumption | apply Kept.drew | refine Kept.trans ?_ (by assumption))⟩
        case measure => simp [intOf]; omega
    · go_wp2
      go_ret
      exact ⟨rfl, hw⟩

set_option maxHeartbeats 800000 in
theorem eqState_yes (w : World) (a a' d d' : Option Addr) (cap cap' e0 e1 : Nat) (l : List ByteArray) (r : List RunD) (hl : l.length ≤ maxLen) (hr : r.length ≤ maxLen) (hS : Strs w a l) (hS' : Strs w a' l) (hR : Runs w d r) (hR' : Runs w d' r) :
    Calls Tryz.prog 10 #[.agg #[.slice a l.length cap, .slice d r.length e0], .agg #[.slice a' l.length cap', .slice d' r.length e1]] w fun e w' => e = .returned (.bool true) ∧ Kept w w' := by
  have k0 : Kept w ((w.alloc (.cells #[.slice a l.length cap, .slice d r.length e0] 30)).alloc (.cells #[.slice a' l.length cap', .slice d' r.length e1] 30)) := ((Kept.refl _).alloc _).alloc _
  go_enter Tryz.func10, Tryz.ntmps10
  go_wp2_with fail
  refine (eqStringS_yes _ a a' cap cap' l hl (hS.kept (by repeat (first | exact k0 | apply Kept.drew))) (hS'.kept (by repeat (first | exact k0 | apply Kept.drew)))).mono ?_
  rintro e w1 ⟨rfl, k1⟩
  have z1 := k1.size
  simp only [World.size_alloc] at z1
  have q0 := boxCells (w := w) (Kept.trans ((Kept.refl _).alloc _) (Kept.trans (by repeat (first | exact Kept.refl _ | apply Kept.drew)) k1))
  have q1 := boxCells (w := w.alloc (.cells #[.slice a l.length cap, .slice d r.length e0] 30)) (Kept.trans (by repeat (first | exact Kept.refl _ | apply Kept.drew)) k1)
  simp only [World.size_alloc] at q1
  have k2 : Kept w w1 := Kept.trans (by repeat (first | exact k0 | apply Kept.drew)) k1
  obtain ⟨p0, p1⟩ := q0
  obtain ⟨p2, p3⟩ := q1
  clear k0 k1
  go_wp2_with fail
  refine (eqRunS_yes _ d d' e0 e1 r hr (hR.kept (by repeat (first | exact k2 | apply Kept.drew))) (hR'.kept (by repeat (first | exact k2 | apply Kept.drew)))).mono ?_
  rintro e w2 ⟨rfl, k3⟩
  have k4 : Kept w w2 := Kept.trans (by repeat (first | exact k2 | apply Kept.drew)) k3
  go_wp2
  go_ret
  exact ⟨rfl, k4⟩

end Go.Proofs.YtmdckapiljhfdaaGreat

/-
  WALKS over marks: markRunS, markState.
-/
namespace Go.Proofs.YtmdckapiljhfdaaGreat
open Go.RowKit

theorem markNone (k : Nat) (h0 : 0 < k) (h1 : k ≤ 4611686018427387904) : ∀ z : Int, z = (k : Int) → ∀ W a cap, Calls Tryz.prog 14 #[.slice a 0 cap, .int .i64 z] W fun e w' => e = .returned (.int .i64 (k : Int)) ∧ Kept W w' := by
  intro z hz W a cap
  rw [hz]
  refine (markStringS_any W 0 0 a cap [] k h0 (by simpa using h1) (.inl rfl)).mono ?_
  rintro e w' ⟨rfl, _, kb⟩
  exact ⟨by simp, ⟨kb.os, kb.tape, kb.output, kb.size, fun b hb => kb.block b hb (.inr (Nat.zero_le _))⟩⟩

set_option maxRecDepth 100000 in
set_option maxHeartbeats 3200000 in
theorem markRunS_any (w : World) (lo hi : Nat) (a : Option Addr) (cap : Nat) (l : List RunD) (k : Nat) (h0 : 0 < k) (h1 : k + l.length * 6 ≤ 4611686018427387904) (hS : RunsIn w lo hi a l) :
    Calls Tryz.prog 29 #[.slice a l.length cap, .int .i64 k] w fun e w' => e = .returned (.int .i64 ((k + l.length * 6 : Nat) : Int)) ∧ RunsIn w' lo hi a (markRuns l k) ∧ KeptBut lo hi w w' := by
  rcases hS with rfl | ⟨B, rfl, hlo, hhi, hr, hf⟩
  · go_enter Tryz.func29, Tryz.ntmps29
    go_wp2
    go_loopw [1, 5] (fun x i wr => x = .int .i64 k ∧ i = .int .i64 0 ∧ wr = w) (fun _ _ _ => 0)
    case atStart => exact ⟨rfl, rfl, rfl⟩
    case round =>
      obtain ⟨rfl, rfl, rfl⟩ := hrel
      go_wp2
      go_ret
      exact ⟨by simp, .inl rfl, KeptBut.refl _ _ _⟩
  · go_enter Tryz.func29, Tryz.ntmps29
    go_wp2
    go_loopw [1, 5] (fun x i wr => ∃ j m : Nat, j ≤ l.length ∧ i = .int .i64 j ∧ x = .int .i64 m ∧ m = k + j * 6 ∧ KeptBut lo hi w wr ∧ Row wr B (l.length * 7) ∧ ∀ t, t < l.length → ∃ x c, wr.rangeAt B (t * 7) ((runMix l k j t).cells x c)) (fun _ i _ => l.length - (intOf i).toNat)
    case atStart => exact ⟨0, k, Nat.zero_le _, rfl, rfl, by omega, KeptBut.refl _ _ _, hr, fun t ht => by simpa [runMix] using hf t ht⟩
    case round =>
      obtain ⟨j, m, hj, rfl, rfl, hm, hw, hr', hf'⟩ := hrel
      clear hr hf
      have HMn := hide hm
      have HF := hide hf'
      by_cases hlt : j < l.length
      · obtain ⟨xa, ca, g3⟩ := hf' j hlt
        have hm0 : 0 < m := by omega
        have hmb : m + 6 ≤ 4611686018427387904 := by omega
        have hBs := hr'.lt
        have c6 := g3 6 _ rfl
        clear hf' g3 hm
        obtain ⟨txt, htx, hmt⟩ := markM m hm0 (by omega)
        obtain ⟨tx2, htx2, hmt2⟩ : ∃ txt, txt = mtext (m + 3) ∧ ∀ z : Int, z = ((m + 3 : Nat) : Int) → ∀ W, Calls Tryz.prog 28 #[.int .i64 z] W fun e w' => e = .returned (.string txt) ∧ Kept W w' := ⟨_, rfl, fun z hz W => by rw [hz]; exact markText_any W _ (by omega) (by omega)⟩
        have HTX := hide htx
        have HMT := hide hmt
        have HTX2 := hide htx2
        have HMT2 := hide hmt2
        have HMN := hide (markNone (m + 6) (by omega) (by omega))
        clear htx hmt htx2 hmt2
        go_wp2_with fail
        refine (HMT.out _).mono ?_
        rintro e w1 ⟨rfl, k1⟩
        have hr1 := hr'.kept k1
        have d6 := (k1.cell hBs).trans c6
        obtain ⟨⟨_, f0c⟩, f0⟩ := hr1.at (i := j * 7) (by omega)
        obtain ⟨⟨_, f1c⟩, f1⟩ := hr1.at (i := j * 7 + 1) (by omega)
        obtain ⟨⟨_, f2c⟩, f2⟩ := hr1.at (i := j * 7 + 2) (by omega)
        have t1 := (Turn.refl B (j * 7) (j * 7 + 7) B B wr).kept k1 hBs
        have HR1 := hide hr1
        have HT1 := hide t1
        clear c6 hr' k1 HMT hr1 t1
        go_wp2_with fail
        refine (HMT2.out _ (by omega) _).mono ?_
        rintro e w2 ⟨rfl, k2⟩
        have rA := HR1.out.set ⟨B, j * 7, none⟩ rfl (.string txt)
        have rB := rA.set ⟨B, j * 7 + 1, none⟩ rfl (.bool (((m : Int) + 1) % 3 == 0))
        have rC := rB.set ⟨B, j * 7 + 2, none⟩ rfl (.bool (((m : Int) + 1 + 1) % 3 == 0))
        have e0 : w2.cell? ⟨B, j * 7, none⟩ = some (.string txt) := by rw [k2.cell rC.lt, set_miss (by omega), set_miss (by omega)]; exact set_hit HR1.out (by omega) _
        have e1 : w2.cell? ⟨B, j * 7 + 1, none⟩ = some (.bool (((m : Int) + 1) % 3 == 0)) := by rw [k2.cell rC.lt, set_miss (by omega)]; exact set_hit rA (by omega) _
        have e2 : w2.cell? ⟨B, j * 7 + 2, none⟩ = some (.bool (((m : Int) + 1 + 1) % 3 == 0)) := by rw [k2.cell rC.lt]; exact set_hit rB (by omega) _
        have e6 : w2.cell? ⟨B, j * 7 + 6, none⟩ = some (.slice xa 0 ca) := by rw [k2.cell rC.lt, set_miss (by omega), set_miss (by omega), set_miss (by omega)]; exact d6
        have t2 := (((HT1.out.setCell (o := j * 7) (by omega) (by omega) (.string txt)).setCell (o := j * 7 + 1) (by omega) (by omega) (.bool (((m : Int) + 1) % 3 == 0))).setCell (o := j * 7 + 2) (by omega) (by omega) (.bool (((m : Int) + 1 + 1) % 3 == 0))).kept k2 rC.lt
        have hr2 := rC.kept k2
        obtain ⟨⟨_, f3c⟩, f3⟩ := hr2.at (i := j * 7 + 3) (by omega)
        obtain ⟨⟨_, f4c⟩, f4⟩ := hr2.at (i := j * 7 + 4) (by omega)
        obtain ⟨⟨_, f5c⟩, f5⟩ := hr2.at (i := j * 7 + 5) (by omega)
        have HR2 := hide hr2
        have HT2 := hide t2
        have HE := hide (And.intro e0 (And.intro e1 e2))
        clear e0 e1 e2 rA rB rC t2 hr2 k2 HR1 HT1 HMT2 f0 f0c f1 f1c f2 f2c d6
        go_wp2_with fail
        refine (HMN.out _ (by omega) _ _ _).mono ?_
        rintro e w3 ⟨rfl, k3⟩
        have rA := HR2.out.set ⟨B, j * 7 + 3, none⟩ rfl (.string tx2)
        have rB := rA.set ⟨B, j * 7 + 4, none⟩ rfl (.int .i64 ((m : Int) + 1 + 1 + 1 + 1))
        have rC := rB.set ⟨B, j * 7 + 5, none⟩ rfl (.int .i64 ((m : Int) + 1 + 1 + 1 + 1 + 1))
        have q3 : w3.cell? ⟨B, j * 7 + 3, none⟩ = some (.string tx2) := by rw [k3.cell rC.lt, set_miss (by omega), set_miss (by omega)]; exact set_hit HR2.out (by omega) _
        have q4 : w3.cell? ⟨B, j * 7 + 4, none⟩ = some (.int .i64 ((m : Int) + 1 + 1 + 1 + 1)) := by rw [k3.cell rC.lt, set_miss (by omega)]; exact set_hit rA (by omega) _
        have q5 : w3.cell? ⟨B, j * 7 + 5, none⟩ = some (.int .i64 ((m : Int) + 1 + 1 + 1 + 1 + 1)) := by rw [k3.cell rC.lt]; exact set_hit rB (by omega) _
        have q6 : w3.cell? ⟨B, j * 7 + 6, none⟩ = some (.slice xa 0 ca) := by rw [k3.cell rC.lt, set_miss (by omega), set_miss (by omega), set_miss (by omega)]; exact e6
        obtain ⟨e0, e1, e2⟩ := HE.out
        have q0 : w3.cell? ⟨B, j * 7, none⟩ = some (.string txt) := by rw [k3.cell rC.lt, set_miss (by omega), set_miss (by omega), set_miss (by omega)]; exact e0
        have q1 : w3.cell? ⟨B, j * 7 + 1, none⟩ = some (.bool (((m : Int) + 1) % 3 == 0)) := by rw [k3.cell rC.lt, set_miss (by omega), set_miss (by omega), set_miss (by omega)]; exact e1
        have q2 : w3.cell? ⟨B, j * 7 + 2, none⟩ = some (.bool (((m : Int) + 1 + 1) % 3 == 0)) := by rw [k3.cell rC.lt, set_miss (by omega), set_miss (by omega), set_miss (by omega)]; exact e2
        rw [mod3 m 1 _ (by omega)] at q1
        rw [mod3 m 2 _ (by omega)] at q2
        rw [show (m : Int) + 1 + 1 + 1 + 1 = ((m + 4 : Nat) : Int) by omega] at q4
        rw [show (m : Int) + 1 + 1 + 1 + 1 + 1 = ((m + 5 : Nat) : Int) by omega] at q5
        rw [HTX.out] at q0
        rw [HTX2.out] at q3
        have HQ := hide (range7 q0 q1 q2 q3 q4 q5 q6)
        have t3 := (((HT2.out.setCell (o := j * 7 + 3) (by omega) (by omega) (.string tx2)).setCell (o := j * 7 + 4) (by omega) (by omega) (.int .i64 ((m : Int) + 1 + 1 + 1 + 1))).setCell (o := j * 7 + 5) (by omega) (by omega) (.int .i64 ((m : Int) + 1 + 1 + 1 + 1 + 1))).kept k3 rC.lt
        have HR3 := hide (rC.kept k3)
        have HT3 := hide t3
        obtain ⟨m6, hm6⟩ : ∃ m6, m6 = m + 6 := ⟨_, rfl⟩
        rw [← hm6]
        have HM6 := hide hm6
        have hm6b : m6 ≤ 4611686018427387904 := by omega
        clear q0 q1 q2 q3 q4 q5 q6 e0 e1 e2 e6 rA rB rC t3 k3 f3 f3c f4 f4c f5 f5c HR2 HT2 HE HMN hm6
        go_wp2
        go_roundw
        case rel =>
          have tF := HT3.out
          refine ⟨j + 1, m6, by omega, by go_num, by go_num, by have := HMn.out; have := HM6.out; omega, hw.trans (tF.keptBut (by omega) (by omega) (by omega) (by omega)), HR3.out, fun t ht => ?_⟩
          by_cases e : t = j
          · subst e
            refine ⟨xa, ca, ?_⟩
            have em : runMix l k (t + 1) t = markRun m := by
              unfold runMix
              rw [if_pos (by omega), ← HMn.out]
            rw [em]
            exact HQ.out
          · have em : runMix l k (j + 1) t = runMix l k j t := by
              unfold runMix
              by_cases h : t < j
              · rw [if_pos h, if_pos (by omega)]
              · rw [if_neg h, if_neg (by omega)]
            rw [em]
            obtain ⟨x, c, z3⟩ := HF.out t ht
            exact ⟨x, c, tF.range (by simp [RunD.cells]; omega) z3⟩
        case measure => simp [intOf]; omega
      · have : j = l.length := by omega
        subst this
        go_wp2
        go_ret
        refine ⟨ret_int (by have := HMn.out; omega), .inr ⟨B, rfl, hlo, hhi, by rw [markRuns_length]; exact hr', fun i hi' => ?_⟩, hw⟩
        rw [markRuns_length] at hi'
        have := HF.out i hi'
        rw [markRuns_getD _ _ _ hi']
        unfold runMix at this
        rw [if_pos hi'] at this
        exact this

end Go.Proofs.YtmdckapiljhfdaaGreat

/-
  WALKS over marks: heldRunS.
-/
namespace Go.Proofs.YtmdckapiljhfdaaGreat
open Go.RowKit

theorem heldNone (k : Nat) (h0 : 0 < k) (h1 : k ≤ 4611686018427387904) : ∀ z : Int, z = (k : Int) → ∀ W a cap, Calls Tryz.prog 30 #[.slice a 0 cap, .int .i64 z] W fun e w' => e = .returned (.int .i64 (k : Int)) ∧ Kept W w' := by
  intro z hz W a cap
  rw [hz]
  refine (heldStringS_yes W a cap [] k h0 (by simpa using h1) (fun i hi => by simp [markStrs] at hi)).mono ?_
  rintro e w' ⟨rfl, kk⟩
  exact ⟨by simp, kk⟩

set_option maxRecDepth 100000 in
set_option maxHeartbeats 3200000 in
theorem heldRunS_yes (w : World) (a : Option Addr) (cap : Nat) (l : List RunD) (k : Nat) (h0 : 0 < k) (h1 : k + l.length * 6 ≤ 4611686018427387904) (hS : Runs w a (markRuns l k)) :
    Calls Tryz.prog 31 #[.slice a l.length cap, .int .i64 k] w fun e w' => e = .returned (.int .i64 ((k + l.length * 6 : Nat) : Int)) ∧ Kept w w' := by
  go_enter Tryz.func31, Tryz.ntmps31
  go_wp2
  go_loopw [1, 5] (fun x i wr => ∃ j m : Nat, j ≤ l.length ∧ i = .int .i64 j ∧ x = .int .i64 m ∧ m = k + j * 6 ∧ Kept w wr) (fun _ i _ => l.length - (intOf i).toNat)
  case atStart => exact ⟨0, k, Nat.zero_le _, rfl, rfl, by omega, Kept.refl _⟩
  case round =>
    obtain ⟨j, m, hj, rfl, rfl, hm, hw⟩ := hrel
    have HMn := hide hm
    by_cases hlt : j < l.length
    · obtain ⟨b, o, xa, ca, rfl, hb, hc⟩ := hS.kept hw j (by rw [markRuns_length]; exact hlt)
      rw [markRuns_getD _ _ _ hlt, ← hm] at hc
      have hm0 : 0 < m := by omega
      have hmb : m + 6 ≤ 4611686018427387904 := by omega
      obtain ⟨txt, htx, hmt⟩ := markM m hm0 (by omega)
      obtain ⟨tx2, htx2, hmt2⟩ : ∃ txt, txt = mtext (m + 3) ∧ ∀ z : Int, z = ((m + 3 : Nat) : Int) → ∀ W, Calls Tryz.prog 28 #[.int .i64 z] W fun e w' => e = .returned (.string txt) ∧ Kept W w' := ⟨_, rfl, fun z hz W => by rw [hz]; exact markText_any W _ (by omega) (by omega)⟩
      have c0 := hc 0 (.string txt) (by rw [htx]; rfl)
      have c1 := hc 1 (.bool (((m : Int) + 1) % 3 == 0)) (by rw [mod3 m 1 _ (by omega)]; rfl)
      have c2 := hc 2 (.bool (((m : Int) + 1 + 1) % 3 == 0)) (by rw [mod3 m 2 _ (by omega)]; rfl)
      have c3 := hc 3 (.string tx2) (by rw [htx2]; rfl)
      have c4 := hc 4 (.int .i64 ((m : Int) + 1 + 1 + 1 + 1)) (by rw [show (m : Int) + 1 + 1 + 1 + 1 = ((m + 4 : Nat) : Int) by omega]; rfl)
      have c5 := hc 5 (.int .i64 ((m : Int) + 1 + 1 + 1 + 1 + 1)) (by rw [show (m : Int) + 1 + 1 + 1 + 1 + 1 = ((m + 5 : Nat) : Int) by omega]; rfl)
      have c6 := hc 6 _ rfl
      rw [Nat.add_zero] at c0
      have HMT := hide hmt
      have HMT2 := hide hmt2
      have HMN := hide (heldNone (m + 6) (by omega) (by omega))
      have hbr : b < wr.heap.size := hb
      clear hc htx hmt htx2 hmt2 hm
      have HSO : Hid (∀ w', Kept wr w' → (fun w' => w'.cell? ⟨b, o + j * 7, none⟩ = some (.string txt) ∧ w'.cell? ⟨b, o + j * 7 + 3, none⟩ = some (.string tx2)) w') := fun w' kk => ⟨(kk.cell hbr).trans c0, (kk.cell hbr).trans c3⟩
      go_wp2
      go_region_held (fun w' => w'.cell? ⟨b, o + j * 7, none⟩ = some (.string txt) ∧ w'.cell? ⟨b, o + j * 7 + 3, none⟩ = some (.string tx2)) (exact unhide HSO _ (by repeat (first | (with_reducible exact Kept.refl _) | (with_reducible assumption) | apply Kept.drew))) ((go_at_call 28; refine (HMT.out _).mono ?_; rintro e w1 ⟨rfl, kk1⟩; have k1 : Kept wr w1 := Kept.trans (by repeat (first | (with_reducible exact Kept.refl _) | (with_reducible assumption) | apply Kept.drew)) kk1))
      all_goals
        have d0 := (k1.cell (o := o + j * 7) hbr).trans c0
        have d1 := (k1.cell (o := o + j * 7 + 1) hbr).trans c1
        have d2 := (k1.cell (o := o + j * 7 + 2) hbr).trans c2
        have d3 := (k1.cell (o := o + j * 7 + 3) hbr).trans c3
        have z1 := k1.size
        have hb1 : b < w1.heap.size := by omega
        have HSO1 : Hid (∀ w', Kept w1 w' → (fun w' => w'.cell? ⟨b, o + j * 7, none⟩ = some (.string txt) ∧ w'.cell? ⟨b, o + j * 7 + 3, none⟩ = some (.string tx2)) w') := fun w' kk => HSO.out w' (k1.trans kk)
        go_wp2
        go_region_held (fun w' => w'.cell? ⟨b, o + j * 7, none⟩ = some (.string txt) ∧ w'.cell? ⟨b, o + j * 7 + 3, none⟩ = some (.string tx2)) (exact unhide HSO1 _ (by repeat (first | (with_reducible exact Kept.refl _) | (with_reducible assumption) | apply Kept.drew))) ((go_at_call 28; refine (HMT2.out _ (by omega) _).mono ?_; rintro e w2 ⟨rfl, kk2⟩; have k2 : Kept w1 w2 := Kept.trans (by repeat (first | (with_reducible exact Kept.refl _) | (with_reducible assumption) | apply Kept.drew)) kk2))
        all_goals
          have k12 := k1.trans k2
          have e4 := (k12.cell (o := o + j * 7 + 4) hbr).trans c4
          have e5 := (k12.cell (o := o + j * 7 + 5) hbr).trans c5
          have e6 := (k12.cell (o := o + j * 7 + 6) hbr).trans c6
          have z2 := k12.size
          have hb2 : b < w2.heap.size := by omega
          clear c0 c1 c2 c3 c4 c5 c6 d0 d1 d2 d3
          go_wp2_with fail
          refine (HMN.out _ (by omega) _ _ _).mono ?_
          rintro e w3 ⟨rfl, kk3⟩
          have k3 : Kept w2 w3 := Kept.trans (by repeat (first | (with_reducible exact Kept.refl _) | apply Kept.drew)) kk3
          obtain ⟨m6, hm6⟩ : ∃ m6, m6 = m + 6 := ⟨_, rfl⟩
          rw [← hm6]
          have HM6 := hide hm6
          have hm6b : m6 ≤ 4611686018427387904 := by omega
          clear hm6 e4 e5 e6
          go_wp2
          go_roundw
          case rel => exact ⟨j + 1, m6, by omega, by go_num, by go_num, by have := HMn.out; have := HM6.out; omega, hw.trans (k12.trans k3)⟩
          case measure => simp [intOf]; omega
    · have : j = l.length := by omega
      subst this
      go_wp2
      go_ret
      exact ⟨ret_int (by have := HMn.out; omega), hw⟩

end Go.Proofs.YtmdckapiljhfdaaGreat

/-
  FRESH RUNS in rows; the ghost of a list of runs is a list of nodes with their names.
-/
namespace Go.Proofs.YtmdckapiljhfdaaGreat
open Go.RowKit

/-- The runs of these names, nothing done. -/
def freshOf (l : List NodeD) : List RunD := l.map fun d => RunD.fresh d.name
theorem freshOf_length (l : List NodeD) : (freshOf l).length = l.length := by simp [freshOf]
theorem freshOf_getD (l : List NodeD) (i : Nat) (h : i < l.length) : (freshOf l).getD i RunD.zero = RunD.fresh (l.getD i NodeD.zero).name := by simp [freshOf, List.getD, h]

def freshCells (n : ByteArray) (x : Option Addr) (c : Nat) : List Value := [.string n, .bool false, .bool false, .string ⟨#[]⟩, .int .i64 0, .int .i64 0, .slice x 0 c]
theorem freshCells_one (n : ByteArray) (x : Option Addr) (c : Nat) : ∀ u ∈ freshCells n x c, u.oneCell' = true := RunD.one (RunD.fresh n) x c

/-- These cells are the fresh runs of these names. -/
def PackedR (xs : List Value) (l : List NodeD) : Prop := xs.length = l.length * 7 ∧ ∀ i, i < l.length → ∃ x c, (xs.drop (i * 7)).take 7 = freshCells (l.getD i NodeD.zero).name x c
theorem PackedR.nil : PackedR [] [] := ⟨rfl, fun i hi => by simp at hi⟩
theorem PackedR.snoc {xs : List Value} {l : List NodeD} {d : NodeD} (h : PackedR xs l) (x : Option Addr) (c : Nat) : PackedR (xs ++ freshCells d.name x c) (l ++ [d]) := by
  refine ⟨by simp [h.1, freshCells]; omega, fun i hi => ?_⟩
  rw [List.length_append] at hi
  simp only [List.length_cons, List.length_nil] at hi
  by_cases e : i < l.length
  · have e1 : (l ++ [d]).getD i NodeD.zero = l.getD i NodeD.zero := by simp [List.getD, List.getElem?_append_left e]
    have e2 : ((xs ++ freshCells d.name x c).drop (i * 7)).take 7 = (xs.drop (i * 7)).take 7 := by
      rw [List.drop_append_of_le_length (by rw [h.1]; omega), List.take_append_of_le_length (by rw [List.length_drop, h.1]; omega)]
    rw [e1, e2]
    exact h.2 i e
  · obtain rfl : i = l.length := by omega
    have e1 : (l ++ [d]).getD l.length NodeD.zero = d := by simp [List.getD]
    have e2 : ((xs ++ freshCells d.name x c).drop (l.length * 7)).take 7 = freshCells d.name x c := by
      rw [← h.1, List.drop_left]
      rfl
    rw [e1, e2]
    exact ⟨x, c, rfl⟩
theorem PackedR.runs {w : World} {base n : Nat} {v : Value} {xs : List Value} {l : List NodeD} (hO : w.ownsRow base 78 7 v n xs) (h : PackedR xs l) : n = l.length ∧ ∃ a cap, v = .slice a l.length cap ∧ Runs w a (freshOf l) := by
  have hn : n = l.length := by have q1 := hO.1; have q2 := h.1; omega
  subst hn
  refine ⟨rfl, ?_⟩
  rcases hO.2 with ⟨rfl, h0⟩ | ⟨g, cap, cur, rfl, hb, hg, hnc, _, _, _⟩
  · exact ⟨none, 0, by rw [h0], fun i hi => by rw [freshOf_length] at hi; omega⟩
  · refine ⟨_, cap, rfl, fun i hi => ?_⟩
    rw [freshOf_length] at hi
    obtain ⟨x, c, e⟩ := h.2 i hi
    refine ⟨g, 0, x, c, rfl, heap_lt hg, fun j u hu => ?_⟩
    rw [freshOf_getD l i hi] at hu
    have hj : j < 7 := by have := (List.getElem?_eq_some_iff.1 hu).1; simpa [RunD.cells] using this
    have hx' : ((xs.drop (i * 7)).take 7)[j]? = some u := by rw [e]; exact hu
    rw [List.getElem?_take, if_pos hj, List.getElem?_drop] at hx'
    have := hO.cells (g := g) rfl _ _ hx'
    rw [Addr.add_mid] at this
    rw [Nat.zero_add] at this ⊢
    exact this

/-- The same, and their Texts are nil. -/
def PackedZ (xs : List Value) (l : List NodeD) : Prop := xs.length = l.length * 7 ∧ ∀ i, i < l.length → (xs.drop (i * 7)).take 7 = freshCells (l.getD i NodeD.zero).name none 0
theorem PackedZ.nil : PackedZ [] [] := ⟨rfl, fun i hi => by simp at hi⟩
theorem PackedZ.packed {xs : List Value} {l : List NodeD} (h : PackedZ xs l) : PackedR xs l := ⟨h.1, fun i hi => ⟨none, 0, h.2 i hi⟩⟩
theorem PackedZ.snoc {xs : List Value} {l : List NodeD} {d : NodeD} (h : PackedZ xs l) : PackedZ (xs ++ freshCells d.name none 0) (l ++ [d]) := by
  refine ⟨by simp [h.1, freshCells]; omega, fun i hi => ?_⟩
  rw [List.length_append] at hi
  simp only [List.length_cons, List.length_nil] at hi
  by_cases e : i < l.length
  · have e1 : (l ++ [d]).getD i NodeD.zero = l.getD i NodeD.zero := by simp [List.getD, List.getElem?_append_left e]
    have e2 : ((xs ++ freshCells d.name none 0).drop (i * 7)).take 7 = (xs.drop (i * 7)).take 7 := by
      rw [List.drop_append_of_le_length (by rw [h.1]; omega), List.take_append_of_le_length (by rw [List.length_drop, h.1]; omega)]
    rw [e1, e2]
    exact h.2 i e
  · obtain rfl : i = l.length := by omega
    have e1 : (l ++ [d]).getD l.length NodeD.zero = d := by simp [List.getD]
    have e2 : ((xs ++ freshCells d.name none 0).drop (l.length * 7)).take 7 = freshCells d.name none 0 := by
      rw [← h.1, List.drop_left]
      rfl
    rw [e1, e2]
/-- The slice at a holds these fresh runs, their Texts nil. -/
def RunsZ (w : World) (a : Option Addr) (l : List NodeD) : Prop :=
  ∀ i, i < l.length → ∃ b o, a = some ⟨b, o, none⟩ ∧ b < w.heap.size ∧ w.rangeAt b (o + i * 7) (freshCells (l.getD i NodeD.zero).name none 0)
theorem RunsZ.kept {w w' : World} {a : Option Addr} {l : List NodeD} (h : RunsZ w a l) (k : Kept w w') : RunsZ w' a l := by
  intro i hi
  obtain ⟨b, o, e, hb, hr⟩ := h i hi
  exact ⟨b, o, e, Nat.lt_of_lt_of_le hb k.size, k.range hb hr⟩
theorem PackedZ.runs {w : World} {base n cap : Nat} {a : Option Addr} {xs : List Value} {l : List NodeD} (hO : w.ownsRow base 78 7 (.slice a n cap) n xs) (h : PackedZ xs l) : RunsZ w a l := by
  have hn : n = l.length := by have q1 := hO.1; have q2 := h.1; omega
  subst hn
  intro i hi
  rcases hO.2 with ⟨_, h0⟩ | ⟨g, cap, cur, e, hb, hg, hnc, _, _, _⟩
  · omega
  · simp only [Value.slice.injEq] at e
    obtain ⟨rfl, _, rfl⟩ := e
    refine ⟨g, 0, rfl, heap_lt hg, fun j u hu => ?_⟩
    have hj : j < 7 := by have := (List.getElem?_eq_some_iff.1 hu).1; simpa [freshCells] using this
    have hx' : ((xs.drop (i * 7)).take 7)[j]? = some u := by rw [h.2 i hi]; exact hu
    rw [List.getElem?_take, if_pos hj, List.getElem?_drop] at hx'
    have := hO.cells (g := g) rfl _ _ hx'
    rw [Addr.add_mid] at this
    rw [Nat.zero_add] at this ⊢
    exact this

theorem Tryz.infoRun : (Tryz.prog.info? 78).map (fun i => (i.zero, i.size, i.bytes)) = some (some (.agg #[.string ⟨#[]⟩, .bool false, .bool false, .string ⟨#[]⟩, .int .i64 0, .int .i64 0, .slice none 0 0]), 7, 80) := by kernel_rfl

/-- A name that is not there. -/
def Lacks (l : List NodeD) (d : NodeD) : Prop := ∀ j, j < l.length → nameAt l j ≠ d.name.toList
theorem Lacks.filter {l : List NodeD} {d : NodeD} (h : Lacks l d) : l.filter (otherN d.name.toList) = l := by
  refine List.filter_eq_self.2 fun x hx => ?_
  obtain ⟨i, hi, rfl⟩ := List.getElem_of_mem hx
  have := h i hi
  rw [nameAt_get hi] at this
  simpa [otherN] using this
theorem lacks_get {l : List NodeD} {d : NodeD} (h : Lacks l d) (hr : Rises l) (k : Nat) (hk : k < l.length) :
    (k < aheadN l d → (Op.bytesLess (l.getD k NodeD.zero).name.toList d.name.toList = true ∧ ((l.getD k NodeD.zero).name.toList == d.name.toList) = false) ∧ (putIn l d).getD k NodeD.zero = l.getD k NodeD.zero) ∧
    (aheadN l d ≤ k → (Op.bytesLess (l.getD k NodeD.zero).name.toList d.name.toList = false ∧ ((l.getD k NodeD.zero).name.toList == d.name.toList) = false) ∧ (putIn l d).getD (k + 1) NodeD.zero = l.getD k NodeD.zero) := by
  have hf := h.filter
  have h1 := other_get2 (l := l) (d := d) hr k (by rw [hf]; exact hk)
  rw [hf] at h1
  have hne : ((l.getD k NodeD.zero).name.toList == d.name.toList) = false := by
    rw [beq_eq_false_iff_ne]
    have := h k hk
    rw [nameAt_get hk] at this
    simpa [List.getD, hk] using this
  exact ⟨fun hlt => ⟨⟨(h1.1 hlt).1, hne⟩, (h1.1 hlt).2⟩, fun hge => h1.2 hge⟩

end Go.Proofs.YtmdckapiljhfdaaGreat

/-
  THE WALK over spec.l4Put: a fresh run whose name is not there.
-/
namespace Go.Proofs.YtmdckapiljhfdaaGreat
open Go.RowKit

theorem range_kept {w wi : World} {c : Array Value} {t : TypeId} (K : Kept (w.alloc (.cells c t)) wi) : wi.rangeAt w.heap.size 0 c.toList := Kept.range K (by simp) (range_new w c t)

set_option maxRecDepth 100000 in
set_option maxHeartbeats 3200000 in
theorem l4Put_any (w : World) (a : Option Addr) (cap : Nat) (l : List NodeD) (d : NodeD) (hl : l.length ≤ 1000) (hr : Rises l) (hno : Lacks l d) (hS : Runs w a (freshOf l)) :
    Calls Tryz.prog 39 #[.slice a l.length cap, .agg #[.string d.name, .bool false, .bool false, .string ⟨#[]⟩, .int .i64 0, .int .i64 0, .slice none 0 0]] w
      fun e w' => ∃ v xs, e = .returned v ∧ w'.ownsRow w.heap.size 78 7 v (putIn l d).length xs ∧ PackedR xs (putIn l d) ∧ Kept w w' := by
  go_enter Tryz.func39, Tryz.ntmps39
  obtain ⟨ino, hn0, hn1, hn2, hn3⟩ := info_parts Tryz.infoRun
  obtain ⟨T, hT⟩ : ∃ T, T = putIn l d := ⟨_, rfl⟩
  obtain ⟨ah, hah⟩ : ∃ ah, ah = aheadN l d := ⟨_, rfl⟩
  have HTl : Hid (T.length = l.length + 1) := by rw [hT]; have := putIn_length (d := d) hr; rw [hno.filter] at this; exact this
  have hah2 : ah ≤ l.length := by rw [hah]; have := aheadN_le (d := d) hr; rw [hno.filter] at this; exact this
  have HAt : Hid (T.getD ah NodeD.zero = d) := by rw [hT, hah]; exact putIn_at l d
  have HGet : Hid (∀ k, k < l.length → (k < ah → (Op.bytesLess (l.getD k NodeD.zero).name.toList d.name.toList = true ∧ ((l.getD k NodeD.zero).name.toList == d.name.toList) = false) ∧ T.getD k NodeD.zero = l.getD k NodeD.zero) ∧
      (ah ≤ k → (Op.bytesLess (l.getD k NodeD.zero).name.toList d.name.toList = false ∧ ((l.getD k NodeD.zero).name.toList == d.name.toList) = false) ∧ T.getD (k + 1) NodeD.zero = l.getD k NodeD.zero)) := by
    rw [hT, hah]
    exact fun k hk => lacks_get hno hr k hk
  have HT := hide hT
  rw [← hT]
  clear hT hah
  go_wp2
  have k1 : Kept w ((w.alloc (.cells #[.string d.name, .bool false, .bool false, .string ⟨#[]⟩, .int .i64 0, .int .i64 0, .slice (some ⟨w.heap.size + 1, 0, none⟩) 0 0] 78)).alloc (.cells #[] 9)) := ((Kept.refl _).alloc _).alloc _
  go_loopw [5, 6, 7] (fun out dn i wr => ∃ (k m : Nat) (xs : List Value), k ≤ l.length ∧ i = .int .i64 k ∧ ((dn = .bool true ∧ ah < k ∧ m = k + 1) ∨ (dn = .bool false ∧ k ≤ ah ∧ m = k)) ∧ wr.ownsRow (w.heap.size + 2) 78 7 out m xs ∧ PackedR xs (T.take m) ∧ Kept ((w.alloc (.cells #[.string d.name, .bool false, .bool false, .string ⟨#[]⟩, .int .i64 0, .int .i64 0, .slice (some ⟨w.heap.size + 1, 0, none⟩) 0 0] 78)).alloc (.cells #[] 9)) wr) (fun _ _ i _ => l.length - (intOf i).toNat)
  case atStart =>
    refine ⟨0, 0, [], Nat.zero_le _, rfl, .inr ⟨rfl, Nat.zero_le _, rfl⟩, ?_, PackedR.nil, (Kept.refl _).alloc _⟩
    have := World.ownsRow_made (base := w.heap.size + 2) (e := 78) (size := 7) ((w.alloc (.cells #[.string d.name, .bool false, .bool false, .string ⟨#[]⟩, .int .i64 0, .int .i64 0, .slice (some ⟨w.heap.size + 1, 0, none⟩) 0 0] 78)).alloc (.cells #[] 9)) #[] 0 (by simp) (Nat.zero_le _) rfl
    simpa using this
  case round =>
    obtain ⟨k, m, xs, hk, rfl, hdn, hown, hP, KWR⟩ := hrel
    have HOw := hide hown
    have HP := hide hP
    have zr := KWR.size
    simp only [World.size_alloc] at zr
    have KB := Kept.trans ((Kept.refl (w.alloc (.cells #[.string d.name, .bool false, .bool false, .string ⟨#[]⟩, .int .i64 0, .int .i64 0, .slice (some ⟨w.heap.size + 1, 0, none⟩) 0 0] 78))).alloc (.cells #[] 9)) KWR
    have hbx := range_kept KB
    have r0 := hbx 0 _ rfl
    have r1 := hbx 1 _ rfl
    have r2 := hbx 2 _ rfl
    have r3 := hbx 3 _ rfl
    have r4 := hbx 4 _ rfl
    have r5 := hbx 5 _ rfl
    have r6 := hbx 6 _ rfl
    simp only [Nat.add_zero, Nat.zero_add] at r0 r1 r2 r3 r4 r5 r6
    have hbb : w.heap.size < wr.heap.size := by omega
    clear hown hP hbx KB
    by_cases hlt : k < l.length
    · obtain ⟨b, o, xa, ca, rfl, hb, hc⟩ := (hS.kept (k1.trans KWR)) k (by rw [freshOf_length]; exact hlt)
      rw [freshOf_getD l k hlt] at hc
      have HG := hide (HGet.out k hlt)
      obtain ⟨x, hx⟩ : ∃ x, x = l.getD k NodeD.zero := ⟨_, rfl⟩
      rw [← hx] at hc HG
      have c0 : wr.cell? ⟨b, o + k * 7 + 0, none⟩ = some (.string x.name) := hc 0 _ rfl
      have c1 : wr.cell? ⟨b, o + k * 7 + 1, none⟩ = some (.bool false) := hc 1 _ rfl
      have c2 : wr.cell? ⟨b, o + k * 7 + 2, none⟩ = some (.bool false) := hc 2 _ rfl
      have c3 : wr.cell? ⟨b, o + k * 7 + 3, none⟩ = some (.string ⟨#[]⟩) := hc 3 _ rfl
      have c4 : wr.cell? ⟨b, o + k * 7 + 4, none⟩ = some (.int .i64 0) := hc 4 _ rfl
      have c5 : wr.cell? ⟨b, o + k * 7 + 5, none⟩ = some (.int .i64 0) := hc 5 _ rfl
      have c6 : wr.cell? ⟨b, o + k * 7 + 6, none⟩ = some (.slice xa 0 ca) := hc 6 _ rfl
      simp only [Nat.add_zero] at c0
      have HXk := hide hx
      clear hc hx
      have i0 : (k : Int) < (l.length : Int) := by omega
      rcases hdn with ⟨rfl, hka, hm⟩ | ⟨rfl, hka, hm'⟩
      · subst hm
        obtain ⟨⟨hbl, hbe⟩, hX2⟩ := HG.out.2 (by omega)
        have HX2 := hide hX2
        clear hX2
        go_wp2
        go_quiet (fail)
        obtain ⟨wq, hwq⟩ : ∃ wq, wq = wr.drewN nq := ⟨_, rfl⟩
        rw [← hwq]
        have KQ : Kept ((w.alloc (.cells #[.string d.name, .bool false, .bool false, .string ⟨#[]⟩, .int .i64 0, .int .i64 0, .slice (some ⟨w.heap.size + 1, 0, none⟩) 0 0] 78)).alloc (.cells #[] 9)) wq := (by rw [hwq]; exact KWR.drewN nq)
        have HOq : Hid (wq.ownsRow (w.heap.size + 2) 78 7 u5 (k + 1) xs) := (by rw [hwq]; exact HOw.out)
        have hbq : b < wq.heap.size := (by rw [hwq]; exact hb)
        have hbw : w.heap.size < wq.heap.size := (by rw [hwq]; exact hbb)
        have zq : w.heap.size + 2 ≤ wq.heap.size := (by rw [hwq]; exact zr)
        have q0 : wq.cell? ⟨b, o + k * 7, none⟩ = some (.string x.name) := (by rw [hwq]; exact c0)
        have q1 : wq.cell? ⟨b, o + k * 7 + 1, none⟩ = some (.bool false) := (by rw [hwq]; exact c1)
        have q2 : wq.cell? ⟨b, o + k * 7 + 2, none⟩ = some (.bool false) := (by rw [hwq]; exact c2)
        have q3 : wq.cell? ⟨b, o + k * 7 + 3, none⟩ = some (.string ⟨#[]⟩) := (by rw [hwq]; exact c3)
        have q4 : wq.cell? ⟨b, o + k * 7 + 4, none⟩ = some (.int .i64 0) := (by rw [hwq]; exact c4)
        have q5 : wq.cell? ⟨b, o + k * 7 + 5, none⟩ = some (.int .i64 0) := (by rw [hwq]; exact c5)
        have q6 : wq.cell? ⟨b, o + k * 7 + 6, none⟩ = some (.slice xa 0 ca) := (by rw [hwq]; exact c6)
        have s0 : wq.cell? ⟨w.heap.size, 0, none⟩ = some (.string d.name) := (by rw [hwq]; exact r0)
        clear hwq c0 c1 c2 c3 c4 c5 c6 r0 r1 r2 r3 r4 r5 r6 hb hbb zr
        go_wp2
        go_quiet (fail)
        go_wp2_with (at_builtin; refine wpList_append_own _ rfl (.tmp 44) (.tmp 49) 28 rfl (w.heap.size + 2) 78 ino _ 7 80 Tryz.underlying28 hn0 hn1 hn2 hn3 rfl (by decide) _ (k + 1) _ rfl (ownsRow_kept' HOq.out (by repeat (first | (with_reducible exact Kept.refl _) | apply Kept.alloc | apply Kept.drewN | apply Kept.drew))) ⟨wq.heap.size, 0, none⟩ 1 1 (freshCells x.name xa ca) rfl rfl (fun j u hu => (by rw [Addr.add_mid]; exact range_new wq (freshCells x.name xa ca).toArray 78 j u (by simpa using hu))) (freshCells_one x.name xa ca) (by unfold maxLen; omega) (by omega) (by simp; omega) ?_; intro v6 w6 hown6 hgr6 _; have kw6 : Kept ((w.alloc (.cells #[.string d.name, .bool false, .bool false, .string ⟨#[]⟩, .int .i64 0, .int .i64 0, .slice (some ⟨w.heap.size + 1, 0, none⟩) 0 0] 78)).alloc (.cells #[] 9)) w6 := kept_of_grown (KQ.trans (by repeat (first | (with_reducible exact Kept.refl _) | apply Kept.alloc | apply Kept.drewN | apply Kept.drew))) (by simp) (ownsRow_kept' HOq.out (by repeat (first | (with_reducible exact Kept.refl _) | apply Kept.alloc | apply Kept.drewN | apply Kept.drew))) hgr6; have HO6 := hide hown6; clear hown6 hgr6)
        go_wp2
        go_roundw
        case rel => exact ⟨k + 1, k + 1 + 1, xs ++ freshCells x.name xa ca, by omega, by go_num, .inl ⟨rfl, by omega, by omega⟩, HO6.out, by rw [take_snoc (by have := HTl.out; omega), HX2.out]; exact PackedR.snoc HP.out xa ca, kw6⟩
        case measure => simp [intOf]; omega
      · have hm := hm'.symm
        subst hm
        by_cases hkk : k < ah
        · obtain ⟨⟨hbl, hbe⟩, hX2⟩ := HG.out.1 hkk
          have HX2 := hide hX2
          clear hX2
          go_wp2
          go_quiet (fail)
          obtain ⟨wq, hwq⟩ : ∃ wq, wq = wr.drewN nq := ⟨_, rfl⟩
          rw [← hwq]
          have KQ : Kept ((w.alloc (.cells #[.string d.name, .bool false, .bool false, .string ⟨#[]⟩, .int .i64 0, .int .i64 0, .slice (some ⟨w.heap.size + 1, 0, none⟩) 0 0] 78)).alloc (.cells #[] 9)) wq := (by rw [hwq]; exact KWR.drewN nq)
          have HOq : Hid (wq.ownsRow (w.heap.size + 2) 78 7 u5 (k) xs) := (by rw [hwq]; exact HOw.out)
          have hbq : b < wq.heap.size := (by rw [hwq]; exact hb)
          have hbw : w.heap.size < wq.heap.size := (by rw [hwq]; exact hbb)
          have zq : w.heap.size + 2 ≤ wq.heap.size := (by rw [hwq]; exact zr)
          have q0 : wq.cell? ⟨b, o + k * 7, none⟩ = some (.string x.name) := (by rw [hwq]; exact c0)
          have q1 : wq.cell? ⟨b, o + k * 7 + 1, none⟩ = some (.bool false) := (by rw [hwq]; exact c1)
          have q2 : wq.cell? ⟨b, o + k * 7 + 2, none⟩ = some (.bool false) := (by rw [hwq]; exact c2)
          have q3 : wq.cell? ⟨b, o + k * 7 + 3, none⟩ = some (.string ⟨#[]⟩) := (by rw [hwq]; exact c3)
          have q4 : wq.cell? ⟨b, o + k * 7 + 4, none⟩ = some (.int .i64 0) := (by rw [hwq]; exact c4)
          have q5 : wq.cell? ⟨b, o + k * 7 + 5, none⟩ = some (.int .i64 0) := (by rw [hwq]; exact c5)
          have q6 : wq.cell? ⟨b, o + k * 7 + 6, none⟩ = some (.slice xa 0 ca) := (by rw [hwq]; exact c6)
          have s0 : wq.cell? ⟨w.heap.size, 0, none⟩ = some (.string d.name) := (by rw [hwq]; exact r0)
          clear hwq c0 c1 c2 c3 c4 c5 c6 r0 r1 r2 r3 r4 r5 r6 hb hbb zr
          go_wp2
          go_quiet (fail)
          go_wp2_with (at_builtin; refine wpList_append_own _ rfl (.tmp 44) (.tmp 49) 28 rfl (w.heap.size + 2) 78 ino _ 7 80 Tryz.underlying28 hn0 hn1 hn2 hn3 rfl (by decide) _ (k) _ rfl (ownsRow_kept' HOq.out (by repeat (first | (with_reducible exact Kept.refl _) | apply Kept.alloc | apply Kept.drewN | apply Kept.drew))) ⟨wq.heap.size, 0, none⟩ 1 1 (freshCells x.name xa ca) rfl rfl (fun j u hu => (by rw [Addr.add_mid]; exact range_new wq (freshCells x.name xa ca).toArray 78 j u (by simpa using hu))) (freshCells_one x.name xa ca) (by unfold maxLen; omega) (by omega) (by simp; omega) ?_; intro v6 w6 hown6 hgr6 _; have kw6 : Kept ((w.alloc (.cells #[.string d.name, .bool false, .bool false, .string ⟨#[]⟩, .int .i64 0, .int .i64 0, .slice (some ⟨w.heap.size + 1, 0, none⟩) 0 0] 78)).alloc (.cells #[] 9)) w6 := kept_of_grown (KQ.trans (by repeat (first | (with_reducible exact Kept.refl _) | apply Kept.alloc | apply Kept.drewN | apply Kept.drew))) (by simp) (ownsRow_kept' HOq.out (by repeat (first | (with_reducible exact Kept.refl _) | apply Kept.alloc | apply Kept.drewN | apply Kept.drew))) hgr6; have HO6 := hide hown6; clear hown6 hgr6)
          go_wp2
          go_roundw
          case rel => exact ⟨k + 1, k + 1, xs ++ freshCells x.name xa ca, by omega, by go_num, .inr ⟨rfl, by omega, by omega⟩, HO6.out, by rw [take_snoc (by have := HTl.out; omega), HX2.out]; exact PackedR.snoc HP.out xa ca, kw6⟩
          case measure => simp [intOf]; omega
        · obtain ⟨⟨hbl, hbe⟩, hX2⟩ := HG.out.2 (by omega)
          have HX2 := hide hX2
          clear hX2
          go_wp2
          go_quiet (fail)
          go_wp2_with (at_builtin; refine wpList_append_own _ rfl (.tmp 32) (.tmp 34) 28 rfl (w.heap.size + 2) 78 ino _ 7 80 Tryz.underlying28 hn0 hn1 hn2 hn3 rfl (by decide) _ (k) _ rfl (ownsRow_kept' HOw.out (by repeat (first | (with_reducible exact Kept.refl _) | apply Kept.alloc | apply Kept.drewN | apply Kept.drew))) ⟨wr.heap.size, 0, none⟩ 1 1 (freshCells d.name (some ⟨w.heap.size + 1, 0, none⟩) 0) rfl rfl (fun j u hu => (by rw [Addr.add_mid]; exact range_new wr (freshCells d.name (some ⟨w.heap.size + 1, 0, none⟩) 0).toArray 78 j u (by simpa using hu))) (freshCells_one d.name _ 0) (by unfold maxLen; omega) (by omega) (by simp; omega) ?_; intro v6 w6 hown6 hgr6 _; have kw6 : Kept ((w.alloc (.cells #[.string d.name, .bool false, .bool false, .string ⟨#[]⟩, .int .i64 0, .int .i64 0, .slice (some ⟨w.heap.size + 1, 0, none⟩) 0 0] 78)).alloc (.cells #[] 9)) w6 := kept_of_grown (KWR.trans (by repeat (first | (with_reducible exact Kept.refl _) | apply Kept.alloc | apply Kept.drewN | apply Kept.drew))) (by simp) (ownsRow_kept' HOw.out (by repeat (first | (with_reducible exact Kept.refl _) | apply Kept.alloc | apply Kept.drewN | apply Kept.drew))) hgr6; have HO6 := hide hown6; clear hown6 hgr6)
          obtain ⟨wq, hwq⟩ : ∃ wq, wq = w6 := ⟨_, rfl⟩
          subst hwq
          have KQ := kw6
          have HOq := HO6
          have HPq : Hid (PackedR (xs ++ freshCells d.name (some ⟨w.heap.size + 1, 0, none⟩) 0) (T.take (k + 1))) := (by show PackedR _ _; rw [take_snoc (by have := HTl.out; omega), show T.getD k NodeD.zero = d from (by rw [show k = ah by omega]; exact HAt.out)]; exact HP.out.snoc _ _)
          clear c0 c1 c2 c3 c4 c5 c6 r0 r1 r2 r3 r4 r5 r6 hb hbb zr kw6 HO6
          obtain ⟨b2, o2, xa, ca, e2, hbq, hc⟩ := (hS.kept (k1.trans KQ)) k (by rw [freshOf_length]; exact hlt)
          simp only [Option.some.injEq, Addr.mk.injEq, and_true] at e2
          obtain ⟨rfl, rfl⟩ := e2
          rw [freshOf_getD l k hlt, ← HXk.out] at hc
          have q0 : wq.cell? ⟨b, o + k * 7 + 0, none⟩ = some (.string x.name) := hc 0 _ rfl
          have q1 : wq.cell? ⟨b, o + k * 7 + 1, none⟩ = some (.bool false) := hc 1 _ rfl
          have q2 : wq.cell? ⟨b, o + k * 7 + 2, none⟩ = some (.bool false) := hc 2 _ rfl
          have q3 : wq.cell? ⟨b, o + k * 7 + 3, none⟩ = some (.string ⟨#[]⟩) := hc 3 _ rfl
          have q4 : wq.cell? ⟨b, o + k * 7 + 4, none⟩ = some (.int .i64 0) := hc 4 _ rfl
          have q5 : wq.cell? ⟨b, o + k * 7 + 5, none⟩ = some (.int .i64 0) := hc 5 _ rfl
          have q6 : wq.cell? ⟨b, o + k * 7 + 6, none⟩ = some (.slice xa 0 ca) := hc 6 _ rfl
          rw [Nat.add_zero] at q0
          have hbx := range_kept (Kept.trans ((Kept.refl (w.alloc (.cells #[.string d.name, .bool false, .bool false, .string ⟨#[]⟩, .int .i64 0, .int .i64 0, .slice (some ⟨w.heap.size + 1, 0, none⟩) 0 0] 78))).alloc (.cells #[] 9)) KQ)
          have s0 := hbx 0 _ rfl
          rw [Nat.add_zero] at s0
          have zq := KQ.size
          simp only [World.size_alloc] at zq
          have hbw : w.heap.size < wq.heap.size := by omega
          clear hc hbx
          go_wp2
          go_quiet (fail)
          go_wp2_with (at_builtin; refine wpList_append_own _ rfl (.tmp 44) (.tmp 49) 28 rfl (w.heap.size + 2) 78 ino _ 7 80 Tryz.underlying28 hn0 hn1 hn2 hn3 rfl (by decide) _ (k + 1) _ rfl (ownsRow_kept' HOq.out (by repeat (first | (with_reducible exact Kept.refl _) | apply Kept.alloc | apply Kept.drewN | apply Kept.drew))) ⟨wq.heap.size, 0, none⟩ 1 1 (freshCells x.name xa ca) rfl rfl (fun j u hu => (by rw [Addr.add_mid]; exact range_new wq (freshCells x.name xa ca).toArray 78 j u (by simpa using hu))) (freshCells_one x.name xa ca) (by unfold maxLen; omega) (by omega) (by simp; omega) ?_; intro v6 w6 hown6 hgr6 _; have kw6 : Kept ((w.alloc (.cells #[.string d.name, .bool false, .bool false, .string ⟨#[]⟩, .int .i64 0, .int .i64 0, .slice (some ⟨w.heap.size + 1, 0, none⟩) 0 0] 78)).alloc (.cells #[] 9)) w6 := kept_of_grown (KQ.trans (by repeat (first | (with_reducible exact Kept.refl _) | apply Kept.alloc | apply Kept.drewN | apply Kept.drew))) (by simp) (ownsRow_kept' HOq.out (by repeat (first | (with_reducible exact Kept.refl _) | apply Kept.alloc | apply Kept.drewN | apply Kept.drew))) hgr6; have HO6 := hide hown6; clear hown6 hgr6)
          go_wp2
          go_roundw
          case rel => exact ⟨k + 1, k + 1 + 1, (xs ++ freshCells d.name (some ⟨w.heap.size + 1, 0, none⟩) 0) ++ freshCells x.name xa ca, by omega, by go_num, .inl ⟨rfl, by omega, by omega⟩, HO6.out, by rw [take_snoc (by have := HTl.out; omega), HX2.out]; exact PackedR.snoc HPq.out xa ca, kw6⟩
          case measure => simp [intOf]; omega
    · have hkl : k = l.length := by omega
      subst hkl
      rcases hdn with ⟨rfl, hka, hm⟩ | ⟨rfl, hka, hm'⟩
      · subst hm
        go_wp2
        go_ret
        have hP := HP.out
        rw [List.take_of_length_le (by have := HTl.out; omega)] at hP
        have hO := HOw.out
        rw [← HTl.out] at hO
        first | exact ⟨_, xs, rfl, owns_base hO (by omega), hP, k1.trans KWR⟩ | exact ⟨xs, owns_base hO (by omega), hP, k1.trans KWR⟩
      · have hm := hm'.symm
        subst hm
        go_wp2_with (at_builtin; refine wpList_append_own _ rfl (.tmp 53) (.tmp 55) 28 rfl (w.heap.size + 2) 78 ino _ 7 80 Tryz.underlying28 hn0 hn1 hn2 hn3 rfl (by decide) _ (l.length) _ rfl (ownsRow_kept' HOw.out (by repeat (first | (with_reducible exact Kept.refl _) | apply Kept.alloc | apply Kept.drewN | apply Kept.drew))) ⟨wr.heap.size, 0, none⟩ 1 1 (freshCells d.name (some ⟨w.heap.size + 1, 0, none⟩) 0) rfl rfl (fun j u hu => (by rw [Addr.add_mid]; exact range_new wr (freshCells d.name (some ⟨w.heap.size + 1, 0, none⟩) 0).toArray 78 j u (by simpa using hu))) (freshCells_one d.name _ 0) (by unfold maxLen; omega) (by omega) (by simp; omega) ?_; intro v6 w6 hown6 hgr6 _; have kw6 : Kept ((w.alloc (.cells #[.string d.name, .bool false, .bool false, .string ⟨#[]⟩, .int .i64 0, .int .i64 0, .slice (some ⟨w.heap.size + 1, 0, none⟩) 0 0] 78)).alloc (.cells #[] 9)) w6 := kept_of_grown (KWR.trans (by repeat (first | (with_reducible exact Kept.refl _) | apply Kept.alloc | apply Kept.drewN | apply Kept.drew))) (by simp) (ownsRow_kept' HOw.out (by repeat (first | (with_reducible exact Kept.refl _) | apply Kept.alloc | apply Kept.drewN | apply Kept.drew))) hgr6; have HO6 := hide hown6; clear hown6 hgr6)
        go_ret
        have hP : PackedR (xs ++ freshCells d.name (some ⟨w.heap.size + 1, 0, none⟩) 0) (T.take (l.length + 1)) := (by rw [take_snoc (by have := HTl.out; omega), show T.getD l.length NodeD.zero = d from (by rw [show l.length = ah by omega]; exact HAt.out)]; exact HP.out.snoc _ _)
        rw [List.take_of_length_le (by have := HTl.out; omega)] at hP
        have hO := HO6.out
        rw [← HTl.out] at hO
        exact ⟨v6, rfl, _, owns_base hO (by omega), hP, k1.trans kw6⟩

end Go.Proofs.YtmdckapiljhfdaaGreat

/-
  WALKS: (*spec.l3Known).find, want.
-/
namespace Go.Proofs.YtmdckapiljhfdaaGreat
open Go.RowKit

/-- What is known: the web, and the runs so far, in a block of its own. -/
structure Known (w : World) (kb : Nat) (a : Option Addr) (n cap : Nat) (d : Option Addr) (m dc : Nat) : Prop where
  row : RowT w kb 48 2
  web : w.cell? ⟨kb, 0, none⟩ = some (.slice a n cap)
  runs : w.cell? ⟨kb, 1, none⟩ = some (.slice d m dc)

theorem Known.kept {w w' : World} {kb n cap m dc : Nat} {a d : Option Addr} (h : Known w kb a n cap d m dc) (k : Kept w w') : Known w' kb a n cap d m dc :=
  ⟨h.row.kept k, (k.cell h.row.lt).trans h.web, (k.cell h.row.lt).trans h.runs⟩

set_option maxRecDepth 100000 in
set_option maxHeartbeats 800000 in
theorem known_find (w : World) (kb : Nat) (a : Option Addr) (n cap : Nat) (d : Option Addr) (dc : Nat) (l : List NodeD) (key : ByteArray) (hl : l.length ≤ 1000) (hK : Known w kb a n cap d l.length dc) (hS : Runs w d (freshOf l)) :
    Calls Tryz.prog 38 #[.pointer (some ⟨kb, 0, none⟩), .string key] w fun e w' => (∃ r, e = .returned (.int .i64 r) ∧ (0 ≤ r ↔ HasName l key.toList)) ∧ w' = w := by
  have c1 := hK.runs
  have hb := hK.row.lt
  go_enter Tryz.func38, Tryz.ntmps38
  go_wp2
  go_loop [5] (fun i => ∃ k : Nat, k ≤ l.length ∧ i = .int .i64 k ∧ ∀ j, j < k → nameAt l j ≠ key.toList) (fun i => l.length - (intOf i).toNat)
  case atStart => exact ⟨0, Nat.zero_le _, rfl, fun j hj => absurd hj (Nat.not_lt_zero _)⟩
  case round =>
    obtain ⟨k, hk, rfl, hg⟩ := hrel
    have HG := hide hg
    clear hg
    by_cases hlt : k < l.length
    · obtain ⟨b, o, x, cx, rfl, hb', hc⟩ := hS k (by rw [freshOf_length]; exact hlt)
      rw [freshOf_getD l k hlt] at hc
      obtain ⟨y, hy⟩ : ∃ y, y = l.getD k NodeD.zero := ⟨_, rfl⟩
      rw [← hy] at hc
      have HN : Hid (nameAt l k = y.name.toList) := by show _ = _; unfold nameAt; rw [← hy]
      have c0 : w.cell? ⟨b, o + k * 7 + 0, none⟩ = some (.string y.name) := hc 0 _ rfl
      rw [Nat.add_zero] at c0
      clear hc hy
      cases hne : (y.name.toList == key.toList)
      · go_wp2
        go_round
        case rel =>
          refine ⟨k + 1, by omega, by go_num, fun j hj => ?_⟩
          by_cases e : j = k
          · subst e; rw [HN.out]; simpa using hne
          · exact HG.out j (by omega)
        case measure => simp [intOf]; omega
      · go_wp2
        go_ret
        exact ⟨⟨k, rfl, ⟨fun _ => ⟨k, hlt, by rw [HN.out]; simpa using hne⟩, fun _ => by omega⟩⟩, rfl⟩
    · go_wp2
      go_ret
      exact ⟨⟨-1, rfl, ⟨fun h => by omega, fun ⟨j, hj, e⟩ => absurd e (HG.out j (by omega))⟩⟩, rfl⟩

end Go.Proofs.YtmdckapiljhfdaaGreat

/-
  THE WALK over (*spec.l3Known).want.
-/
namespace Go.Proofs.YtmdckapiljhfdaaGreat
open Go.RowKit

def ghost (n : ByteArray) : NodeD := ⟨n, 0, []⟩
/-- Is there a node of that name? -/
def inWeb (webl : List NodeD) (n : ByteArray) : Bool := webl.any fun d => d.name.toList == n.toList
theorem inWeb_iff {webl : List NodeD} {n : ByteArray} : inWeb webl n = true ↔ HasName webl n.toList := by
  simp only [inWeb, List.any_eq_true, beq_iff_eq]
  constructor
  · rintro ⟨d, hd, e⟩
    obtain ⟨i, hi, rfl⟩ := List.getElem_of_mem hd
    exact ⟨i, hi, by rw [nameAt_get hi]; exact e⟩
  · rintro ⟨i, hi, e⟩
    exact ⟨webl[i], List.getElem_mem hi, by rw [← nameAt_get hi]; exact e⟩
/-- The names that are in the web, in their order. -/
def wanted (webl : List NodeD) (roots : List ByteArray) : List NodeD := (roots.filter (inWeb webl)).map ghost
theorem wanted_succ (webl : List NodeD) (roots : List ByteArray) (k : Nat) (h : k < roots.length) : wanted webl (roots.take (k + 1)) = wanted webl (roots.take k) ++ (if inWeb webl (roots.getD k ByteArray.empty) = true then [ghost (roots.getD k ByteArray.empty)] else []) := by
  unfold wanted
  rw [List.take_succ_eq_append_getElem h, List.filter_append, List.map_append]
  congr 1
  have e : roots.getD k ByteArray.empty = roots[k] := by simp [List.getD, h]
  rw [e]
  by_cases hf : inWeb webl roots[k] = true
  · simp [hf]
  · simp [hf]
theorem wanted_mem {webl : List NodeD} {roots : List ByteArray} {j : Nat} (h : j < (wanted webl roots).length) : ∃ i, i < roots.length ∧ nameAt (wanted webl roots) j = (roots.getD i ByteArray.empty).toList := by
  have hm := List.getElem_mem h
  rw [nameAt_get h]
  obtain ⟨n, hn, e⟩ := List.mem_map.1 hm
  have hn' := (List.mem_filter.1 hn).1
  obtain ⟨i, hi, e2⟩ := List.getElem_of_mem hn'
  refine ⟨i, hi, ?_⟩
  rw [← e]
  simp [ghost, List.getD, hi, e2]
theorem wanted_len (webl : List NodeD) (roots : List ByteArray) : (wanted webl roots).length ≤ roots.length := by
  unfold wanted
  rw [List.length_map]
  exact List.length_filter_le _ _
/-- A root that comes later is not there yet. -/
theorem wanted_lacks {webl : List NodeD} {roots : List ByteArray} (hN : NamesOk roots) {k : Nat} (hk : k < roots.length) : ¬ HasName (wanted webl (roots.take k)) (roots.getD k ByteArray.empty).toList := by
  rintro ⟨j, hj, e⟩
  obtain ⟨i, hi, e2⟩ := wanted_mem hj
  rw [List.length_take] at hi
  have e3 : (roots.take k).getD i ByteArray.empty = roots.getD i ByteArray.empty := by simp [List.getD, (by omega : i < k)]
  rw [e3] at e2
  have := (hN k hk).2 i (by omega)
  rw [e2] at e
  exact this (bytes_eq.1 (by rw [e]; simp))

/-- The runs so far, in their variable. -/
structure KnSt (w wr : World) (kb : Nat) (a : Option Addr) (n cap : Nat) (R : List NodeD) (d : Option Addr) (dc : Nat) (xs : List Value) : Prop where
  kb' : KeptBut kb (kb + 1) w wr
  known : Known wr kb a n cap d R.length dc
  own : wr.ownsRow w.heap.size 78 7 (.slice d R.length dc) R.length xs
  pack : PackedZ xs R

theorem KnSt.kept {w wr w' : World} {kb n cap dc : Nat} {a d : Option Addr} {R : List NodeD} {xs : List Value} (h : KnSt w wr kb a n cap R d dc xs) (k : Kept wr w') : KnSt w w' kb a n cap R d dc xs :=
  ⟨h.kb'.trans (KeptBut.of_kept k), h.known.kept k, ownsRow_kept' h.own k, h.pack⟩
theorem KnSt.grown {w wr W w6 : World} {kb n cap dc : Nat} {a d : Option Addr} {R : List NodeD} {xs : List Value} (h : KnSt w wr kb a n cap R d dc xs) (KW : Kept wr W) (hgr : W.grownBy w6 (Value.slice d R.length dc).ownBlock) : Below w.heap.size wr w6 :=
  have hz := h.kb'.size
  have hW := KW.size
  (Below.mono KW (by omega)).trans (Below.grown (Below.refl _ _) hgr (by omega) (fun g hg => ((ownsRow_kept' h.own KW).lt g hg).1))
theorem KnSt.next {w wr W w6 : World} {kb n cap dc cv6 : Nat} {a d av6 : Option Addr} {R : List NodeD} {xs : List Value} {y : NodeD} (h : KnSt w wr kb a n cap R d dc xs) (hol : kb < w.heap.size) (KW : Kept wr W) (hgr : W.grownBy w6 (Value.slice d R.length dc).ownBlock)
    (hO6 : w6.ownsRow w.heap.size 78 7 (.slice av6 (R.length + 1) cv6) (R.length + 1) (xs ++ freshCells y.name none 0)) :
    KnSt w (w6.setCell ⟨kb, 1, none⟩ (.slice av6 (R.length + 1) cv6)) kb a n cap (R ++ [y]) av6 cv6 (xs ++ freshCells y.name none 0) := by
  have bl := h.grown KW hgr
  have hr6 : RowT w6 kb 48 2 := h.known.row.block (bl.block kb hol)
  have hl : (R ++ [y]).length = R.length + 1 := by simp
  refine ⟨(h.kb'.below bl).setCell (Nat.le_refl _) (Nat.lt_succ_self _) _, ⟨hr6.set _, ?_, ?_⟩, ?_, h.pack.snoc⟩
  · rw [set_miss (by omega), Below.cell bl (p := ⟨kb, 0, none⟩) hol]
    exact h.known.web
  · rw [hl]; exact set_hit hr6.row (by omega) _
  · rw [hl]; exact owns_set hO6 hol _

set_option maxHeartbeats 800000 in
theorem l2At_no (w : World) (a : Option Addr) (cap : Nat) (l : List NodeD) (key : ByteArray) (hl : l.length ≤ 1048576) (hS : Nodes w a l) (h : ¬ HasName l key.toList) :
    Calls Tryz.prog 37 #[.agg #[.slice a l.length cap], .string key] w fun e w' => e = .returned (.int .i64 (-1)) ∧ Kept w w' := by
  have k0 : Kept w (w.alloc (.cells #[.slice a l.length cap] 34)) := (Kept.refl _).alloc _
  go_enter Tryz.func37, Tryz.ntmps37
  go_wp2
  go_loop [5] (fun i => ∃ k : Nat, k ≤ l.length ∧ i = .int .i64 k) (fun i => l.length - (intOf i).toNat)
  case atStart => exact ⟨0, Nat.zero_le _, rfl⟩
  case round =>
    obtain ⟨k, hk, rfl⟩ := hrel
    by_cases hlt : k < l.length
    · obtain ⟨b, o, cs, rfl, hb, hc, aa, ca, rfl, hA⟩ := (hS.kept k0) k hlt
      obtain ⟨d, hd⟩ : ∃ d, d = l.getD k NodeD.zero := ⟨_, rfl⟩
      rw [← hd] at hc
      have hne : (d.name.toList == key.toList) = false := by
        rw [beq_eq_false_iff_ne]
        intro e
        exact h ⟨k, hlt, by unfold nameAt; rw [← hd]; exact e⟩
      have c0 := hc 0 _ rfl
      rw [Nat.add_zero] at c0
      clear hc hd hA
      go_wp2
      go_round
      case rel => exact ⟨k + 1, by omega, by go_num⟩
      case measure => simp [intOf]; omega
    · go_wp2
      go_ret
      exact ⟨rfl, k0⟩
theorem l2At_in (w : World) (a : Option Addr) (cap : Nat) (l : List NodeD) (key : ByteArray) (hl : l.length ≤ 1048576) (hS : Nodes w a l) (h : HasName l key.toList) :
    Calls Tryz.prog 37 #[.agg #[.slice a l.length cap], .string key] w fun e w' => (∃ r : Nat, e = .returned (.int .i64 (r : Int))) ∧ Kept w w' := by
  refine (l2At_any w a cap l key hl hS).mono ?_
  rintro e w' ⟨⟨r, rfl, hr⟩, k⟩
  exact ⟨⟨r.toNat, by rw [Int.toNat_of_nonneg (hr.2 h)]⟩, k⟩
theorem known_find_no (w : World) (kb : Nat) (a : Option Addr) (n cap : Nat) (d : Option Addr) (dc : Nat) (l : List NodeD) (key : ByteArray) (hl : l.length ≤ 1000) (hK : Known w kb a n cap d l.length dc) (hS : Runs w d (freshOf l)) (h : ¬ HasName l key.toList) :
    Calls Tryz.prog 38 #[.pointer (some ⟨kb, 0, none⟩), .string key] w fun e w' => (∃ r : Int, e = .returned (.int .i64 r) ∧ r < 0) ∧ w' = w := by
  refine (known_find w kb a n cap d dc l key hl hK hS).mono ?_
  rintro e w' ⟨⟨r, rfl, hr⟩, k⟩
  exact ⟨⟨r, rfl, by have : ¬ 0 ≤ r := fun g => h (hr.1 g); omega⟩, k⟩

set_option maxRecDepth 100000 in
set_option maxHeartbeats 3200000 in
theorem want_any (w0 w : World) (k0 : Kept w0 w) (kb : Nat) (hk0 : w0.heap.size ≤ kb) (a : Option Addr) (cap : Nat) (webl : List NodeD) (rd : Option Addr) (rc : Nat) (roots : List ByteArray) (hwl : webl.length ≤ 1048576) (hrl : roots.length ≤ 10) (hN : NamesOk roots)
    (hK : Known w kb a webl.length cap none 0 0) (hS : Nodes w0 a webl) (hR : Strs w0 rd roots) :
    Calls Tryz.prog 20 #[.pointer (some ⟨kb, 0, none⟩), .slice rd roots.length rc] w fun e w' => e = .returned (.tuple #[]) ∧ ∃ d dc xs, KnSt w w' kb a webl.length cap (wanted webl roots) d dc xs := by
  go_enter Tryz.func20, Tryz.ntmps20
  go_wp2
  go_loopw [4] (fun i wr => ∃ (k : Nat) (d : Option Addr) (dc : Nat) (xs : List Value), k ≤ roots.length ∧ i = .int .i64 k ∧ KnSt w wr kb a webl.length cap (wanted webl (roots.take k)) d dc xs) (fun i _ => roots.length - (intOf i).toNat)
  case atStart => exact ⟨0, none, 0, [], Nat.zero_le _, rfl, KeptBut.refl _ _ _, hK, World.ownsRow_nil _ _ _ _, PackedZ.nil⟩
  case round =>
    obtain ⟨k, d, dc, xs, hk, rfl, hSt⟩ := hrel
    by_cases hlt : k < roots.length
    · obtain ⟨b, o, rfl, hb, hc⟩ := hR k hlt
      have Kr : Kept w0 wr := hSt.kb'.kept k0 hk0
      obtain ⟨R, hRk⟩ : ∃ R, R = wanted webl (roots.take k) := ⟨_, rfl⟩
      have hsucc := wanted_succ webl roots k hlt
      have hlack := wanted_lacks (webl := webl) hN hlt
      rw [← hRk] at hSt hlack hsucc
      have hRl : R.length ≤ 10 := by rw [hRk]; have := wanted_len webl (roots.take k); rw [List.length_take] at this; omega
      obtain ⟨v, hvk⟩ : ∃ v, v = roots.getD k ByteArray.empty := ⟨_, rfl⟩
      rw [← hvk] at hc hsucc hlack
      have HSu := hide hsucc
      have HLk := hide hlack
      have c0 := (Kr.cell hb).trans hc
      have m0 := hSt.known.web
      have m1 := hSt.known.runs
      have zk := hSt.known.row.lt
      have HSt := hide hSt
      clear hRk hvk hc hsucc hlack hSt
      have hbr : b < wr.heap.size := Nat.lt_of_lt_of_le hb Kr.size
      have i0 : (k : Int) < (roots.length : Int) := by omega
      by_cases hin : HasName webl v.toList
      · have hRuns := (PackedR.runs HSt.out.own HSt.out.pack.packed).2
        have HSO : Hid (∀ w', Kept wr w' → (fun w' => w'.cell? ⟨kb, 0, none⟩ = some (.slice a webl.length cap) ∧ w'.cell? ⟨kb, 1, none⟩ = some (.slice d R.length dc) ∧ w'.cell? ⟨b, o + k, none⟩ = some (.string v)) w') := fun w' kk => ⟨(kk.cell zk).trans m0, (kk.cell zk).trans m1, (kk.cell hbr).trans c0⟩
        have HRn : Hid (Runs wr d (freshOf R)) := by
          obtain ⟨a9, c9, ev, h⟩ := hRuns
          simp only [Value.slice.injEq, true_and] at ev
          rw [ev.1]
          exact h
        clear hRuns
        go_wp2
        go_region_held (fun w' => w'.cell? ⟨kb, 0, none⟩ = some (.slice a webl.length cap) ∧ w'.cell? ⟨kb, 1, none⟩ = some (.slice d R.length dc) ∧ w'.cell? ⟨b, o + k, none⟩ = some (.string v)) (exact unhide HSO _ (by repeat (first | (with_reducible exact Kept.refl _) | (with_reducible assumption) | apply Kept.drew))) ((first | (go_at_call 37; refine (l2At_in _ a cap webl v hwl (hS.kept (Kr.trans (by repeat (first | (with_reducible exact Kept.refl _) | (with_reducible assumption) | apply Kept.drew)))) hin).mono ?_; rintro e w1 ⟨⟨r1, rfl⟩, kk1⟩; have k1 : Kept wr w1 := Kept.trans (by repeat (first | (with_reducible exact Kept.refl _) | (with_reducible assumption) | apply Kept.drew)) kk1) | (go_at_call 38; refine (known_find_no _ kb a webl.length cap d dc R v (by omega) (HSt.out.known.kept (k1.trans (by repeat (first | (with_reducible exact Kept.refl _) | (with_reducible assumption) | apply Kept.drew)))) (HRn.out.kept (k1.trans (by repeat (first | (with_reducible exact Kept.refl _) | (with_reducible assumption) | apply Kept.drew)))) HLk.out).mono ?_; rintro e w2 ⟨⟨r2, rfl, hr2⟩, rfl⟩)))
        all_goals
          have hSt2 := HSt.out.kept k1
          have HSt2 := hide hSt2
          have n1 := hSt2.known.runs
          have n0 := (k1.cell hbr).trans c0
          have z2 := hSt2.kb'.size
          have hkw := hK.row.lt
          have hb0 : b < w.heap.size := Nat.lt_of_lt_of_le hb k0.size
          have hb2 : b < w2.heap.size := by omega
          have hk2 : kb < w2.heap.size := by omega
          have HSO4 : Hid (∀ w', Below w.heap.size w2 w' → (fun w' => w'.cell? ⟨kb, 1, none⟩ = some (.slice d R.length dc) ∧ w'.cell? ⟨b, o + k, none⟩ = some (.string v)) w') := fun w' bl => ⟨(Below.cell bl (p := ⟨kb, 1, none⟩) hkw).trans n1, (Below.cell bl (p := ⟨b, o + k, none⟩) hb0).trans n0⟩
          obtain ⟨ino, hn0, hn1, hn2, hn3⟩ := info_parts Tryz.infoRun
          clear hSt2
          go_wp2
          refine UpTo.region (by kernel_rfl) (fun w' => w'.cell? ⟨kb, 1, none⟩ = some (.slice d R.length dc) ∧ w'.cell? ⟨b, o + k, none⟩ = some (.string v)) 14 ⟨n1, n0⟩ (fun hHeld => ?_)
          refine UpTo.take 0 [12, 13, 14] (v := ?_) (by (simp only [List.getElem?_toArray, List.getElem?_cons_zero]; rfl)) (by kernel_rfl) (by kernel_rfl) (by kernel_rfl) (by kernel_rfl) (by exact fun _ _ _ h => h) (Or.inl ⟨by rfl, ?_⟩) hHeld ?_
          rotate_left
          · intro u hu
            try dsimp only at hu
            go_simp
            try with_reducible rfl
          try simp only [Act.put, List.setIfInBounds_toArray, List.set_cons_zero, List.set_cons_succ]
          refine UpTo.take 1 [2, 3, 4, 11, 14] (v := ?_) (by (simp only [List.getElem?_toArray, List.getElem?_cons_succ, List.getElem?_cons_zero]; rfl)) (by kernel_rfl) (by kernel_rfl) (by kernel_rfl) (by kernel_rfl) (by exact fun _ _ _ h => h) (Or.inl ⟨by rfl, ?_⟩) hHeld ?_
          rotate_left
          · intro u hu
            try dsimp only at hu
            go_simp
            try with_reducible rfl
          try simp only [Act.put, List.setIfInBounds_toArray, List.set_cons_zero, List.set_cons_succ]
          refine UpTo.take 2 [3, 4, 11, 14] (v := ?_) (by (simp only [List.getElem?_toArray, List.getElem?_cons_succ, List.getElem?_cons_zero]; rfl)) (by kernel_rfl) (by kernel_rfl) (by kernel_rfl) (by kernel_rfl) (by exact fun _ _ _ h => h) (Or.inl ⟨by rfl, ?_⟩) hHeld ?_
          rotate_left
          · intro u hu
            try dsimp only at hu
            go_simp
            try with_reducible rfl
          try simp only [Act.put, List.setIfInBounds_toArray, List.set_cons_zero, List.set_cons_succ]
          refine UpTo.take 3 [4, 11, 14] (v := ?_) (by (simp only [List.getElem?_toArray, List.getElem?_cons_succ, List.getElem?_cons_zero]; rfl)) (by kernel_rfl) (by kernel_rfl) (by kernel_rfl) (by kernel_rfl) (by exact fun _ _ _ h => h) (Or.inl ⟨by rfl, ?_⟩) hHeld ?_
          rotate_left
          · intro u hu
            try dsimp only at hu
            go_simp
            try with_reducible rfl
          try simp only [Act.put, List.setIfInBounds_toArray, List.set_cons_zero, List.set_cons_succ]
          refine UpTo.take 4 [11, 14] (v := ?_) (by (simp only [List.getElem?_toArray, List.getElem?_cons_succ, List.getElem?_cons_zero]; rfl)) (by kernel_rfl) (by kernel_rfl) (by kernel_rfl) (by kernel_rfl) (by exact fun _ _ _ h => h) (Or.inl ⟨by rfl, ?_⟩) hHeld ?_
          rotate_left
          · intro u hu
            try dsimp only at hu
            go_simp
            try with_reducible rfl
          try simp only [Act.put, List.setIfInBounds_toArray, List.set_cons_zero, List.set_cons_succ]
          refine UpTo.take 5 [7, 8, 9, 10, 11, 14] (v := ?_) (by (simp only [List.getElem?_toArray, List.getElem?_cons_succ, List.getElem?_cons_zero]; rfl)) (by kernel_rfl) (by kernel_rfl) (by kernel_rfl) (by kernel_rfl) (by exact fun _ _ _ h => h) (Or.inl ⟨by rfl, ?_⟩) hHeld ?_
          rotate_left
          · intro u hu
            try dsimp only at hu
            go_simp
            try with_reducible rfl
          try simp only [Act.put, List.setIfInBounds_toArray, List.set_cons_zero, List.set_cons_succ]
          refine UpTo.take 6 [7, 8, 9, 10, 11, 14] (v := ?_) (by (simp only [List.getElem?_toArray, List.getElem?_cons_succ, List.getElem?_cons_zero]; rfl)) (by kernel_rfl) (by kernel_rfl) (by kernel_rfl) (by kernel_rfl) (by exact fun _ _ _ h => h) (Or.inl ⟨by rfl, ?_⟩) hHeld ?_
          rotate_left
          · intro u hu
            try dsimp only at hu
            go_simp
            try with_reducible rfl
          try simp only [Act.put, List.setIfInBounds_toArray, List.set_cons_zero, List.set_cons_succ]
          refine UpTo.take 7 [8, 9, 10, 11, 14] (v := ?_) (by (simp only [List.getElem?_toArray, List.getElem?_cons_succ, List.getElem?_cons_zero]; rfl)) (by kernel_rfl) (by kernel_rfl) (by kernel_rfl) (by kernel_rfl) (by exact fun _ _ _ h => h) (Or.inl ⟨by rfl, ?_⟩) hHeld ?_
          rotate_left
          · intro u hu
            try dsimp only at hu
            go_simp
            try with_reducible rfl
          try simp only [Act.put, List.setIfInBounds_toArray, List.set_cons_zero, List.set_cons_succ]
          refine UpTo.take 8 [9, 10, 11, 14] (v := ?_) (by (simp only [List.getElem?_toArray, List.getElem?_cons_succ, List.getElem?_cons_zero]; rfl)) (by kernel_rfl) (by kernel_rfl) (by kernel_rfl) (by kernel_rfl) (by exact fun _ _ _ h => h) (Or.inl ⟨by rfl, ?_⟩) hHeld ?_
          rotate_left
          · intro u hu
            try dsimp only at hu
            go_simp
            try with_reducible rfl
          try simp only [Act.put, List.setIfInBounds_toArray, List.set_cons_zero, List.set_cons_succ]
          refine UpTo.take 9 [10, 11, 14] (v := ?_) (by (simp only [List.getElem?_toArray, List.getElem?_cons_succ, List.getElem?_cons_zero]; rfl)) (by kernel_rfl) (by kernel_rfl) (by kernel_rfl) (by kernel_rfl) (by exact fun _ _ _ h => h) (Or.inl ⟨by rfl, ?_⟩) hHeld ?_
          rotate_left
          · intro u hu
            try dsimp only at hu
            go_simp
            try with_reducible rfl
          try simp only [Act.put, List.setIfInBounds_toArray, List.set_cons_zero, List.set_cons_succ]
          refine UpTo.next 10 (by kernel_rfl) (by (simp only [List.getElem?_toArray, List.getElem?_cons_succ, List.getElem?_cons_zero]; rfl)) (fun K hK => ?_)
          go_simp
          have KW : Kept w2 (w2.alloc (.cells (freshCells v none 0).toArray 78)).drew := ((Kept.refl _).alloc _).drew
          refine hK.out _ _ (fun _ => HSO4.out _ (Below.mono KW (by omega))) ?_
          clear hK K hHeld
          try simp only [Act.put, List.setIfInBounds_toArray, List.set_cons_zero, List.set_cons_succ]
          refine UpTo.next 11 (by kernel_rfl) (by (simp only [List.getElem?_toArray, List.getElem?_cons_succ, List.getElem?_cons_zero]; rfl)) (fun K hK => ?_)
          refine step_append_lies _ rfl (.tmp 34) (.tmp 40) 28 rfl w.heap.size 78 ino _ 7 80 Tryz.underlying28 hn0 hn1 hn2 hn3 rfl (by decide) (.slice d R.length dc) R.length xs (by simp [Act.eval]) (ownsRow_kept' HSt2.out.own KW) ⟨w2.heap.size, 0, none⟩ 1 1 (freshCells v none 0) (by simp [Act.eval]) rfl (fun j u hu => by rw [Addr.add_mid]; exact range_new w2 (freshCells v none 0).toArray 78 j u (by simpa using hu)) (freshCells_one v none 0) (by omega) (by unfold maxLen; omega) (by omega) (by simp; omega) _ rfl ?_
          intro g6 cap6 w8 hown8 hgr8 hat hlt8
          have bl8 := HSt2.out.grown KW hgr8
          have hr8 : RowT w8 kb 48 2 := HSt2.out.known.row.block (bl8.block _ hkw)
          obtain ⟨⟨_, fo2⟩, fo1⟩ := hr8.row.at (i := 1) (by omega)
          have HN8 := hide (KnSt.next (y := ghost v) HSt2.out hkw KW hgr8 hown8)
          clear hown8 hgr8 hat hr8
          refine hK.out _ _ (fun _ => HSO4.out _ bl8) ?_
          clear hK K
          try simp only [Act.put, List.setIfInBounds_toArray, List.set_cons_zero, List.set_cons_succ]
          have hHeld := HSO4.out _ bl8
          refine UpTo.take 12 [13, 14] (v := ?_) (by (simp only [List.getElem?_toArray, List.getElem?_cons_succ, List.getElem?_cons_zero]; rfl)) (by kernel_rfl) (by kernel_rfl) (by kernel_rfl) (by kernel_rfl) (by exact fun _ _ _ h => h) (Or.inl ⟨by rfl, ?_⟩) hHeld ?_
          rotate_left
          · intro u hu
            try dsimp only at hu
            go_simp
            try with_reducible rfl
          try simp only [Act.put, List.setIfInBounds_toArray, List.set_cons_zero, List.set_cons_succ]
          refine UpTo.take 13 [14] (v := ?_) (by (simp only [List.getElem?_toArray, List.getElem?_cons_succ, List.getElem?_cons_zero]; rfl)) (by kernel_rfl) (by kernel_rfl) (by kernel_rfl) (by kernel_rfl) (by exact fun _ _ _ h => h) (Or.inl ⟨by rfl, ?_⟩) hHeld ?_
          rotate_left
          · intro u hu
            try dsimp only at hu
            go_simp
            try with_reducible rfl
          try simp only [Act.put, List.setIfInBounds_toArray, List.set_cons_zero, List.set_cons_succ]
          refine UpTo.next 14 (by kernel_rfl) (by (simp only [List.getElem?_toArray, List.getElem?_cons_succ, List.getElem?_cons_zero]; rfl)) (fun K hK => ?_)
          go_simp
          refine hK.out _ _ (fun h => absurd rfl h) ?_
          clear hK K
          try simp only [Act.put, List.setIfInBounds_toArray, List.set_cons_zero, List.set_cons_succ]
          refine UpTo.done (by kernel_rfl) ?_
          go_wp2
          go_roundw
          case rel => exact ⟨k + 1, _, cap6, _, by omega, by go_num, by rw [HSu.out, if_pos (inWeb_iff.2 hin)]; exact HN8.out⟩
          case measure => simp [intOf]; omega
      · have HSO : Hid (∀ w', Kept wr w' → (fun w' => w'.cell? ⟨kb, 0, none⟩ = some (.slice a webl.length cap) ∧ w'.cell? ⟨kb, 1, none⟩ = some (.slice d R.length dc) ∧ w'.cell? ⟨b, o + k, none⟩ = some (.string v)) w') := fun w' kk => ⟨(kk.cell zk).trans m0, (kk.cell zk).trans m1, (kk.cell hbr).trans c0⟩
        go_wp2
        refine UpTo.region (by kernel_rfl) (fun w' => w'.cell? ⟨kb, 0, none⟩ = some (.slice a webl.length cap) ∧ w'.cell? ⟨kb, 1, none⟩ = some (.slice d R.length dc) ∧ w'.cell? ⟨b, o + k, none⟩ = some (.string v)) 18 ⟨m0, m1, c0⟩ (fun hHeld => ?_)
        refine UpTo.take 0 [1, 2, 3, 8, 9, 10, 11, 12, 13, 14, 15, 16, 17, 18] (v := ?_) (by (simp only [List.getElem?_toArray, List.getElem?_cons_zero]; rfl)) (by kernel_rfl) (by kernel_rfl) (by kernel_rfl) (by kernel_rfl) (by exact fun _ _ _ h => h) (Or.inl ⟨by rfl, ?_⟩) hHeld ?_
        rotate_left
        · intro u hu
          try dsimp only at hu
          go_simp
          try with_reducible rfl
        try simp only [Act.put, List.setIfInBounds_toArray, List.set_cons_zero, List.set_cons_succ]
        refine UpTo.take 1 [2, 3, 8, 9, 10, 11, 12, 13, 14, 15, 16, 17, 18] (v := ?_) (by (simp only [List.getElem?_toArray, List.getElem?_cons_succ, List.getElem?_cons_zero]; rfl)) (by kernel_rfl) (by kernel_rfl) (by kernel_rfl) (by kernel_rfl) (by exact fun _ _ _ h => h) (Or.inl ⟨by rfl, ?_⟩) hHeld ?_
        rotate_left
        · intro u hu
          try dsimp only at hu
          go_simp
          try with_reducible rfl
        try simp only [Act.put, List.setIfInBounds_toArray, List.set_cons_zero, List.set_cons_succ]
        refine UpTo.take 2 [3, 8, 9, 10, 11, 12, 13, 14, 15, 16, 17, 18] (v := ?_) (by (simp only [List.getElem?_toArray, List.getElem?_cons_succ, List.getElem?_cons_zero]; rfl)) (by kernel_rfl) (by kernel_rfl) (by kernel_rfl) (by kernel_rfl) (by exact fun _ _ _ h => h) (Or.inl ⟨by rfl, ?_⟩) hHeld ?_
        rotate_left
        · intro u hu
          try dsimp only at hu
          go_simp
          try with_reducible rfl
        try simp only [Act.put, List.setIfInBounds_toArray, List.set_cons_zero, List.set_cons_succ]
        refine UpTo.take 3 [8, 9, 10, 11, 12, 13, 14, 15, 16, 17, 18] (v := ?_) (by (simp only [List.getElem?_toArray, List.getElem?_cons_succ, List.getElem?_cons_zero]; rfl)) (by kernel_rfl) (by kernel_rfl) (by kernel_rfl) (by kernel_rfl) (by exact fun _ _ _ h => h) (Or.inl ⟨by rfl, ?_⟩) hHeld ?_
        rotate_left
        · intro u hu
          try dsimp only at hu
          go_simp
          try with_reducible rfl
        try simp only [Act.put, List.setIfInBounds_toArray, List.set_cons_zero, List.set_cons_succ]
        refine UpTo.take 4 [6, 7, 8, 9, 10, 11, 12, 13, 14, 15, 16, 17, 18] (v := ?_) (by (simp only [List.getElem?_toArray, List.getElem?_cons_succ, List.getElem?_cons_zero]; rfl)) (by kernel_rfl) (by kernel_rfl) (by kernel_rfl) (by kernel_rfl) (by exact fun _ _ _ h => h) (Or.inl ⟨by rfl, ?_⟩) hHeld ?_
        rotate_left
        · intro u hu
          try dsimp only at hu
          go_simp
          try with_reducible rfl
        try simp only [Act.put, List.setIfInBounds_toArray, List.set_cons_zero, List.set_cons_succ]
        refine UpTo.take 5 [6, 7, 8, 9, 10, 11, 12, 13, 14, 15, 16, 17, 18] (v := ?_) (by (simp only [List.getElem?_toArray, List.getElem?_cons_succ, List.getElem?_cons_zero]; rfl)) (by kernel_rfl) (by kernel_rfl) (by kernel_rfl) (by kernel_rfl) (by exact fun _ _ _ h => h) (Or.inl ⟨by rfl, ?_⟩) hHeld ?_
        rotate_left
        · intro u hu
          try dsimp only at hu
          go_simp
          try with_reducible rfl
        try simp only [Act.put, List.setIfInBounds_toArray, List.set_cons_zero, List.set_cons_succ]
        refine UpTo.take 6 [7, 8, 9, 10, 11, 12, 13, 14, 15, 16, 17, 18] (v := ?_) (by (simp only [List.getElem?_toArray, List.getElem?_cons_succ, List.getElem?_cons_zero]; rfl)) (by kernel_rfl) (by kernel_rfl) (by kernel_rfl) (by kernel_rfl) (by exact fun _ _ _ h => h) (Or.inl ⟨by rfl, ?_⟩) hHeld ?_
        rotate_left
        · intro u hu
          try dsimp only at hu
          go_simp
          try with_reducible rfl
        try simp only [Act.put, List.setIfInBounds_toArray, List.set_cons_zero, List.set_cons_succ]
        refine UpTo.take 7 [8, 9, 10, 11, 12, 13, 14, 15, 16, 17, 18] (v := ?_) (by (simp only [List.getElem?_toArray, List.getElem?_cons_succ, List.getElem?_cons_zero]; rfl)) (by kernel_rfl) (by kernel_rfl) (by kernel_rfl) (by kernel_rfl) (by exact fun _ _ _ h => h) (Or.inl ⟨by rfl, ?_⟩) hHeld ?_
        rotate_left
        · intro u hu
          try dsimp only at hu
          go_simp
          try with_reducible rfl
        try simp only [Act.put, List.setIfInBounds_toArray, List.set_cons_zero, List.set_cons_succ]
        refine UpTo.next 8 (by kernel_rfl) (by (simp only [List.getElem?_toArray, List.getElem?_cons_succ, List.getElem?_cons_zero]; rfl)) (fun K hK => ?_)
        rw [if_pos (by rfl)]
        go_simp
        go_at_call 37
        refine (l2At_no _ a cap webl v hwl (hS.kept (Kr.trans (by repeat (first | (with_reducible exact Kept.refl _) | (with_reducible assumption) | apply Kept.drew)))) hin).mono ?_
        rintro e w1 ⟨rfl, kk1⟩
        have k1 : Kept wr w1 := Kept.trans (by repeat (first | (with_reducible exact Kept.refl _) | (with_reducible assumption) | apply Kept.drew)) kk1
        dsimp only
        refine hK.out _ _ (fun _ => HSO.out w1 k1) ?_
        clear hK K hHeld
        have hHeld := HSO.out w1 k1
        try simp only [Act.put, List.setIfInBounds_toArray, List.set_cons_zero, List.set_cons_succ]
        refine UpTo.take 9 [10, 11, 12, 13, 14, 15, 16, 17, 18] (v := ?_) (by (simp only [List.getElem?_toArray, List.getElem?_cons_succ, List.getElem?_cons_zero]; rfl)) (by kernel_rfl) (by kernel_rfl) (by kernel_rfl) (by kernel_rfl) (by exact fun _ _ _ h => h) (Or.inl ⟨by rfl, ?_⟩) hHeld ?_
        rotate_left
        · intro u hu
          try dsimp only at hu
          go_simp
          try with_reducible rfl
        try simp only [Act.put, List.setIfInBounds_toArray, List.set_cons_zero, List.set_cons_succ]
        refine UpTo.take 10 [11, 12, 13, 14, 15, 16, 17, 18] (v := ?_) (by (simp only [List.getElem?_toArray, List.getElem?_cons_succ, List.getElem?_cons_zero]; rfl)) (by kernel_rfl) (by kernel_rfl) (by kernel_rfl) (by kernel_rfl) (by exact fun _ _ _ h => h) (Or.inl ⟨by rfl, ?_⟩) hHeld ?_
        rotate_left
        · intro u hu
          try dsimp only at hu
          go_simp
          try with_reducible rfl
        try simp only [Act.put, List.setIfInBounds_toArray, List.set_cons_zero, List.set_cons_succ]
        refine UpTo.take 11 [16, 17, 18] (v := undef) (by (simp only [List.getElem?_toArray, List.getElem?_cons_succ, List.getElem?_cons_zero]; rfl)) (by kernel_rfl) (by kernel_rfl) (by kernel_rfl) (by kernel_rfl) (by exact fun _ _ _ h => h) (Or.inr ⟨by rfl, rfl⟩) hHeld ?_
        try simp only [Act.put, List.setIfInBounds_toArray, List.set_cons_zero, List.set_cons_succ]
        refine UpTo.take 12 [14, 15, 16, 17, 18] (v := undef) (by (simp only [List.getElem?_toArray, List.getElem?_cons_succ, List.getElem?_cons_zero]; rfl)) (by kernel_rfl) (by kernel_rfl) (by kernel_rfl) (by kernel_rfl) (by exact fun _ _ _ h => h) (Or.inr ⟨by rfl, rfl⟩) hHeld ?_
        try simp only [Act.put, List.setIfInBounds_toArray, List.set_cons_zero, List.set_cons_succ]
        refine UpTo.take 13 [14, 15, 16, 17, 18] (v := undef) (by (simp only [List.getElem?_toArray, List.getElem?_cons_succ, List.getElem?_cons_zero]; rfl)) (by kernel_rfl) (by kernel_rfl) (by kernel_rfl) (by kernel_rfl) (by exact fun _ _ _ h => h) (Or.inr ⟨by rfl, rfl⟩) hHeld ?_
        try simp only [Act.put, List.setIfInBounds_toArray, List.set_cons_zero, List.set_cons_succ]
        refine UpTo.take 14 [15, 16, 17, 18] (v := undef) (by (simp only [List.getElem?_toArray, List.getElem?_cons_succ, List.getElem?_cons_zero]; rfl)) (by kernel_rfl) (by kernel_rfl) (by kernel_rfl) (by kernel_rfl) (by exact fun _ _ _ h => h) (Or.inr ⟨by rfl, rfl⟩) hHeld ?_
        try simp only [Act.put, List.setIfInBounds_toArray, List.set_cons_zero, List.set_cons_succ]
        refine UpTo.take 15 [16, 17, 18] (v := undef) (by (simp only [List.getElem?_toArray, List.getElem?_cons_succ, List.getElem?_cons_zero]; rfl)) (by kernel_rfl) (by kernel_rfl) (by kernel_rfl) (by kernel_rfl) (by exact fun _ _ _ h => h) (Or.inr ⟨by rfl, rfl⟩) hHeld ?_
        try simp only [Act.put, List.setIfInBounds_toArray, List.set_cons_zero, List.set_cons_succ]
        refine UpTo.take 16 [17, 18] (v := undef) (by (simp only [List.getElem?_toArray, List.getElem?_cons_succ, List.getElem?_cons_zero]; rfl)) (by kernel_rfl) (by kernel_rfl) (by kernel_rfl) (by kernel_rfl) (by exact fun _ _ _ h => h) (Or.inr ⟨by rfl, rfl⟩) hHeld ?_
        try simp only [Act.put, List.setIfInBounds_toArray, List.set_cons_zero, List.set_cons_succ]
        refine UpTo.take 17 [18] (v := undef) (by (simp only [List.getElem?_toArray, List.getElem?_cons_succ, List.getElem?_cons_zero]; rfl)) (by kernel_rfl) (by kernel_rfl) (by kernel_rfl) (by kernel_rfl) (by exact fun _ _ _ h => h) (Or.inr ⟨by rfl, rfl⟩) hHeld ?_
        try simp only [Act.put, List.setIfInBounds_toArray, List.set_cons_zero, List.set_cons_succ]
        refine UpTo.next 18 (by kernel_rfl) (by (simp only [List.getElem?_toArray, List.getElem?_cons_succ, List.getElem?_cons_zero]; rfl)) (fun K hK => ?_)
        go_simp
        refine hK.out _ _ (fun h => absurd rfl h) ?_
        clear hK K
        try simp only [Act.put, List.setIfInBounds_toArray, List.set_cons_zero, List.set_cons_succ]
        refine UpTo.done (by kernel_rfl) ?_
        go_wp2
        go_roundw
        case rel => exact ⟨k + 1, d, dc, xs, by omega, by go_num, by rw [HSu.out, if_neg (fun h => hin (inWeb_iff.1 h)), List.append_nil]; exact HSt.out.kept k1⟩
        case measure => simp [intOf]; omega
    · have hkl : k = roots.length := by omega
      subst hkl
      rw [List.take_length] at hSt
      have HSt := hide hSt
      clear hSt
      go_wp2
      go_end0
      exact ⟨rfl, _, _, _, HSt.out⟩

end Go.Proofs.YtmdckapiljhfdaaGreat

/-
  THE RUNS IN ORDER: plain lists.
-/
namespace Go.Proofs.YtmdckapiljhfdaaGreat
open Go.RowKit

theorem rises_pair {l : List NodeD} : Rises l ↔ l.Pairwise fun x y => Op.bytesLess x.name.toList y.name.toList = true := by
  rw [List.pairwise_iff_getElem]
  constructor
  · intro h i j hi hj hij
    have := h i j hij hj
    rw [nameAt_get hi, nameAt_get hj] at this
    exact this
  · intro h i j hij hj
    rw [nameAt_get (by omega), nameAt_get hj]
    exact h i j (by omega) hj hij

theorem rises_putIn {l : List NodeD} {d : NodeD} (h : Rises l) : Rises (putIn l d) := by
  rw [rises_pair] at h ⊢
  unfold putIn
  rw [List.pairwise_append, List.pairwise_cons]
  refine ⟨h.filter _, ⟨fun x hx => ?_, h.filter _⟩, fun x hx y hy => ?_⟩
  · exact (List.mem_filter.1 hx).2
  · have hx2 : Op.bytesLess x.name.toList d.name.toList = true := (List.mem_filter.1 hx).2
    rcases List.mem_cons.1 hy with e | hy
    · rw [e]; exact hx2
    · exact less_trans _ _ _ hx2 (List.mem_filter.1 hy).2

/-- All of them, put in one by one. -/
def sortedOf (R : List NodeD) : List NodeD := R.foldl putIn []
theorem sortedOf_succ (R : List NodeD) (k : Nat) (h : k < R.length) : sortedOf (R.take (k + 1)) = putIn (sortedOf (R.take k)) (R.getD k NodeD.zero) := by
  unfold sortedOf
  rw [List.take_succ_eq_append_getElem h, List.foldl_append]
  simp [List.getD, h]
theorem foldl_putIn_rises (R : List NodeD) : ∀ t, Rises t → Rises (R.foldl putIn t) := by
  induction R with
  | nil => exact fun t h => h
  | cons d r ih => exact fun t h => ih _ (rises_putIn h)
theorem sortedOf_rises (R : List NodeD) : Rises (sortedOf R) := foldl_putIn_rises R [] fun i j _ hj => by simp at hj
theorem foldl_putIn_mem (R : List NodeD) : ∀ t x, x ∈ R.foldl putIn t → x ∈ t ∨ x ∈ R := by
  induction R with
  | nil => exact fun t x h => .inl h
  | cons d r ih =>
    intro t x h
    rcases ih _ x h with h | h
    · rcases putIn_mem h with e | h
      · rw [e]; exact .inr (List.mem_cons_self ..)
      · exact .inl h
    · exact .inr (List.mem_cons_of_mem _ h)
theorem sortedOf_mem {R : List NodeD} {x : NodeD} (h : x ∈ sortedOf R) : x ∈ R := by
  rcases foldl_putIn_mem R [] x h with h | h
  · cases h
  · exact h
/-- The names are different. -/
def Differ (R : List NodeD) : Prop := ∀ i j, i < j → j < R.length → nameAt R i ≠ nameAt R j
theorem sortedOf_lacks {R : List NodeD} (h : Differ R) {k : Nat} (hk : k < R.length) : Lacks (sortedOf (R.take k)) (R.getD k NodeD.zero) := by
  intro j hj e
  rw [nameAt_get hj] at e
  have hm := sortedOf_mem (List.getElem_mem hj)
  obtain ⟨i, hi, e2⟩ := List.getElem_of_mem hm
  rw [List.length_take] at hi
  rw [← e2, List.getElem_take] at e
  have h1 := h i k (by omega) hk
  rw [nameAt_get (by omega)] at h1
  exact h1 (by rw [e]; rfl)
theorem sortedOf_len {R : List NodeD} (h : Differ R) : ∀ k, k ≤ R.length → (sortedOf (R.take k)).length = k := by
  intro k
  induction k with
  | zero => intro _; simp [sortedOf]
  | succ k ih =>
    intro hk
    rw [sortedOf_succ R k hk, putIn_length (sortedOf_rises _), (sortedOf_lacks h hk).filter, ih (by omega)]

theorem differ_wanted {webl : List NodeD} : ∀ {roots : List ByteArray}, NamesOk roots → Differ (wanted webl roots) := by
  intro roots hN
  have hp : roots.Pairwise fun x y => x ≠ y := by
    rw [List.pairwise_iff_getElem]
    intro i j hi hj hij e
    have := (hN j hj).2 i hij
    simp [List.getD, hi, hj] at this
    exact this e
  have hq : (wanted webl roots).Pairwise fun x y => x.name.toList ≠ y.name.toList := by
    unfold wanted
    rw [List.pairwise_map]
    refine (hp.filter _).imp fun {x y} hxy e => ?_
    exact hxy (bytes_eq.1 (by rw [show x.toList = y.toList from e]; simp))
  rw [List.pairwise_iff_getElem] at hq
  intro i j hij hj
  rw [nameAt_get (by omega), nameAt_get hj]
  exact hq i j (by omega) hj hij

end Go.Proofs.YtmdckapiljhfdaaGreat

/-
  THE WALK over spec.l3State.
-/
namespace Go.Proofs.YtmdckapiljhfdaaGreat
open Go.RowKit

theorem Tryz.sizeState : (Tryz.prog.info? 30).map (·.size) = some 2 := by kernel_rfl

/-- The state that is being built, in its variable. -/
structure StSt (W1 wr : World) (sb : Nat) (ra : Option Addr) (n rc : Nat) (d : Option Addr) (m dc : Nat) (xs : List Value) : Prop where
  kb : KeptBut sb (sb + 1) W1 wr
  row : RowT wr sb 30 2
  roots : wr.cell? ⟨sb, 0, none⟩ = some (.slice ra n rc)
  runs : wr.cell? ⟨sb, 1, none⟩ = some (.slice d m dc)
  own : wr.ownsRow W1.heap.size 78 7 (.slice d m dc) m xs

/-- What l3State gives. -/
def StateEnd (roots : List ByteArray) (T : List NodeD) (w w' : World) (e : Ending) : Prop :=
  ∃ ra rc d dc xs base, e = .returned (.agg #[.slice ra roots.length rc, .slice d T.length dc]) ∧ TStrs w' 9 ra roots ∧ w.heap.size ≤ base ∧ w'.ownsRow base 78 7 (.slice d T.length dc) T.length xs ∧ PackedR xs T ∧ Kept w w'

set_option maxRecDepth 100000 in
set_option maxHeartbeats 3200000 in
theorem l3State_any (w : World) (rb ro rc : Nat) (roots : List ByteArray) (a : Option Addr) (cap : Nat) (R : List NodeD) (hrl : roots.length ≤ 10) (hRl : R.length ≤ 10) (hD : Differ R) (hR : Strs w (some ⟨rb, ro, none⟩) roots) (hS : RunsZ w a R) :
    Calls Tryz.prog 21 #[.slice (some ⟨rb, ro, none⟩) roots.length rc, .slice a R.length cap] w fun e w' => StateEnd roots (sortedOf R) w w' e := by
  obtain ⟨i0, hi, hz0, hz1, hz2⟩ := info_parts Tryz.infoStr
  have k0 : Kept w ((w.alloc (.cells #[.slice none 0 0, .slice none 0 0] 30)).alloc (.cells #[] 9)) := ((Kept.refl _).alloc _).alloc _
  have hO0 := World.ownsRow_made (base := w.heap.size + 1) (e := 9) (size := 1) (w.alloc (.cells #[.slice none 0 0, .slice none 0 0] 30)) #[] 0 (by simp) (Nat.zero_le _) rfl
  simp only [World.size_alloc] at hO0
  have hnews := strs_news (hR.kept k0)
  have HO0 := hide hO0
  have HNews := hide hnews
  clear hO0 hnews
  go_enter Tryz.func21, Tryz.ntmps21
  go_wp2_with (at_builtin; refine wpList_append_own _ rfl (.tmp 7) (.tmp 8) 25 rfl (w.heap.size + 1) 9 i0 _ 1 16 Tryz.underlying25 hi hz0 hz1 hz2 rfl (by decide) _ 0 [] rfl HO0.out ⟨rb, ro, none⟩ roots.length rc (roots.map Value.string) rfl (by simp) HNews.out (strs_one roots) (by unfold maxLen; omega) (by omega) (by simp) ?_; intro v6 w6 hown6 hgr6 _; have kw6 : Kept (w.alloc (.cells #[.slice none 0 0, .slice none 0 0] 30)) w6 := kept_of_grown ((Kept.refl _).alloc _) (by simp) HO0.out hgr6; have hown7 : w6.ownsRow (w.heap.size + 1) 9 1 v6 (0 + roots.length) (roots.map Value.string) := hown6; obtain ⟨ra, rc6, rfl, hrc6, hT6⟩ := tstrs_of_owned hown7; have HT6 := hide hT6; clear hown6 hown7 hgr6 hT6 hrc6)
  have z6 := kw6.size
  simp only [World.size_alloc] at z6
  have hres := rowAlloc kw6
  have HRes : Hid (RowT (w6.alloc (.cells #[.slice ra roots.length rc6, .slice none 0 0] 30)) w.heap.size 30 2) := hres.kept ((Kept.refl _).alloc _)
  have hsr := RowT.made w6 #[.slice ra roots.length rc6, .slice none 0 0] 30
  have HSr : Hid (RowT (w6.alloc (.cells #[.slice ra roots.length rc6, .slice none 0 0] 30)) w6.heap.size 30 2) := hsr
  have HT7 : Hid (TStrs (w6.alloc (.cells #[.slice ra roots.length rc6, .slice none 0 0] 30)) 9 ra roots) := HT6.out.same (u := 30) (.of_kept ((Kept.refl _).alloc _)) (by decide)
  have K1 : Kept w (w6.alloc (.cells #[.slice ra roots.length rc6, .slice none 0 0] 30)) := (Kept.trans ((Kept.refl _).alloc _) kw6).alloc _
  clear hres hsr HT6 HO0 HNews
  go_loopw [6] (fun i wr => ∃ (k : Nat) (d : Option Addr) (dc : Nat) (xs : List Value), k ≤ R.length ∧ i = .int .i64 k ∧ StSt (w6.alloc (.cells #[.slice ra roots.length rc6, .slice none 0 0] 30)) wr w6.heap.size ra roots.length rc6 d k dc xs ∧ PackedR xs (sortedOf (R.take k))) (fun i _ => R.length - (intOf i).toNat)
  case atStart =>
    have hc := range_new w6 #[.slice ra roots.length rc6, .slice none 0 0] 30
    exact ⟨0, none, 0, [], Nat.zero_le _, rfl, ⟨KeptBut.refl _ _ _, HSr.out, hc 0 _ rfl, hc 1 _ rfl, World.ownsRow_nil _ _ _ _⟩, PackedR.nil⟩
  case round =>
    obtain ⟨k, d, dc, xs, hk, rfl, hSt, hP⟩ := hrel
    have HSt := hide hSt
    have zr := hSt.kb.size
    simp only [World.size_alloc] at zr
    by_cases hlt : k < R.length
    · have Kr : Kept w wr := hSt.kb.kept K1 (by omega)
      obtain ⟨b, o, rfl, hb, hc⟩ := hS.kept Kr k hlt
      obtain ⟨t, ht⟩ : ∃ t, t = sortedOf (R.take k) := ⟨_, rfl⟩
      obtain ⟨y, hy⟩ : ∃ y, y = R.getD k NodeD.zero := ⟨_, rfl⟩
      have HSc : Hid (sortedOf (R.take (k + 1)) = putIn t y) := by show _ = _; rw [sortedOf_succ R k hlt, ht, hy]
      have hTr : Rises t := by rw [ht]; exact sortedOf_rises _
      have hTk : Lacks t y := by rw [ht, hy]; exact sortedOf_lacks hD hlt
      have hTl : t.length = k := by rw [ht]; exact sortedOf_len hD k hk
      rw [← ht] at hP
      rw [← hy] at hc
      have hLn : (putIn t y).length = k + 1 := by rw [putIn_length hTr, hTk.filter, hTl]
      have HRt : Hid (Runs wr d (freshOf t)) := by
        obtain ⟨_, a9, c9, ev, h⟩ := PackedR.runs hSt.own hP
        simp only [Value.slice.injEq] at ev
        rw [ev.1]
        exact h
      have HPut : Hid (∀ W, Runs W d (freshOf t) → Calls Tryz.prog 39 #[.slice d k dc, .agg #[.string y.name, .bool false, .bool false, .string ⟨#[]⟩, .int .i64 0, .int .i64 0, .slice none 0 0]] W fun e w' => ∃ v xs, e = .returned v ∧ w'.ownsRow W.heap.size 78 7 v (k + 1) xs ∧ PackedR xs (putIn t y) ∧ Kept W w') := by
        intro W hW
        have := l4Put_any W d dc t y (by omega) hTr hTk hW
        rw [hTl, hLn] at this
        exact this
      have c0 : wr.cell? ⟨b, o + k * 7 + 0, none⟩ = some (.string y.name) := hc 0 _ rfl
      have c1 : wr.cell? ⟨b, o + k * 7 + 1, none⟩ = some (.bool false) := hc 1 _ rfl
      have c2 : wr.cell? ⟨b, o + k * 7 + 2, none⟩ = some (.bool false) := hc 2 _ rfl
      have c3 : wr.cell? ⟨b, o + k * 7 + 3, none⟩ = some (.string ⟨#[]⟩) := hc 3 _ rfl
      have c4 : wr.cell? ⟨b, o + k * 7 + 4, none⟩ = some (.int .i64 0) := hc 4 _ rfl
      have c5 : wr.cell? ⟨b, o + k * 7 + 5, none⟩ = some (.int .i64 0) := hc 5 _ rfl
      have c6 : wr.cell? ⟨b, o + k * 7 + 6, none⟩ = some (.slice none 0 0) := hc 6 _ rfl
      rw [Nat.add_zero] at c0
      have m1 := hSt.runs
      have hsb := hSt.row.lt
      clear hc hy ht hTr hTk hTl hLn hP hSt
      have i0 : (k : Int) < (R.length : Int) := by omega
      have HSO : Hid (∀ w', Kept wr w' → (fun w' => w'.cell? ⟨w6.heap.size, 1, none⟩ = some (.slice d k dc) ∧ w'.cell? ⟨b, o + k * 7, none⟩ = some (.string y.name) ∧ w'.cell? ⟨b, o + k * 7 + 1, none⟩ = some (.bool false) ∧ w'.cell? ⟨b, o + k * 7 + 2, none⟩ = some (.bool false) ∧ w'.cell? ⟨b, o + k * 7 + 3, none⟩ = some (.string ⟨#[]⟩) ∧ w'.cell? ⟨b, o + k * 7 + 4, none⟩ = some (.int .i64 0) ∧ w'.cell? ⟨b, o + k * 7 + 5, none⟩ = some (.int .i64 0) ∧ w'.cell? ⟨b, o + k * 7 + 6, none⟩ = some (.slice none 0 0)) w') := fun w' kk => ⟨(kk.cell hsb).trans m1, (kk.cell hb).trans c0, (kk.cell hb).trans c1, (kk.cell hb).trans c2, (kk.cell hb).trans c3, (kk.cell hb).trans c4, (kk.cell hb).trans c5, (kk.cell hb).trans c6⟩
      go_wp2
      refine UpTo.region (by kernel_rfl) (fun w' => w'.cell? ⟨w6.heap.size, 1, none⟩ = some (.slice d k dc) ∧ w'.cell? ⟨b, o + k * 7, none⟩ = some (.string y.name) ∧ w'.cell? ⟨b, o + k * 7 + 1, none⟩ = some (.bool false) ∧ w'.cell? ⟨b, o + k * 7 + 2, none⟩ = some (.bool false) ∧ w'.cell? ⟨b, o + k * 7 + 3, none⟩ = some (.string ⟨#[]⟩) ∧ w'.cell? ⟨b, o + k * 7 + 4, none⟩ = some (.int .i64 0) ∧ w'.cell? ⟨b, o + k * 7 + 5, none⟩ = some (.int .i64 0) ∧ w'.cell? ⟨b, o + k * 7 + 6, none⟩ = some (.slice none 0 0)) 8 ⟨m1, c0, c1, c2, c3, c4, c5, c6⟩ (fun hHeld => ?_)
      refine UpTo.take 0 [1, 6, 8] (v := ?_) (by (simp only [List.getElem?_toArray, List.getElem?_cons_zero]; rfl)) (by kernel_rfl) (by kernel_rfl) (by kernel_rfl) (by kernel_rfl) (by exact fun _ _ _ h => h) (Or.inl ⟨by rfl, ?_⟩) hHeld ?_
      rotate_left
      · intro u hu
        try dsimp only at hu
        go_simp
        try with_reducible rfl
      try simp only [Act.put, List.setIfInBounds_toArray, List.set_cons_zero, List.set_cons_succ]
      refine UpTo.take 1 [6, 8] (v := ?_) (by (simp only [List.getElem?_toArray, List.getElem?_cons_succ, List.getElem?_cons_zero]; rfl)) (by kernel_rfl) (by kernel_rfl) (by kernel_rfl) (by kernel_rfl) (by exact fun _ _ _ h => h) (Or.inl ⟨by rfl, ?_⟩) hHeld ?_
      rotate_left
      · intro u hu
        try dsimp only at hu
        go_simp
        try with_reducible rfl
      try simp only [Act.put, List.setIfInBounds_toArray, List.set_cons_zero, List.set_cons_succ]
      refine UpTo.take 2 [4, 5, 6, 8] (v := ?_) (by (simp only [List.getElem?_toArray, List.getElem?_cons_succ, List.getElem?_cons_zero]; rfl)) (by kernel_rfl) (by kernel_rfl) (by kernel_rfl) (by kernel_rfl) (by exact fun _ _ _ h => h) (Or.inl ⟨by rfl, ?_⟩) hHeld ?_
      rotate_left
      · intro u hu
        try dsimp only at hu
        go_simp
        try with_reducible rfl
      try simp only [Act.put, List.setIfInBounds_toArray, List.set_cons_zero, List.set_cons_succ]
      refine UpTo.take 3 [4, 5, 6, 8] (v := ?_) (by (simp only [List.getElem?_toArray, List.getElem?_cons_succ, List.getElem?_cons_zero]; rfl)) (by kernel_rfl) (by kernel_rfl) (by kernel_rfl) (by kernel_rfl) (by exact fun _ _ _ h => h) (Or.inl ⟨by rfl, ?_⟩) hHeld ?_
      rotate_left
      · intro u hu
        try dsimp only at hu
        go_simp
        try with_reducible rfl
      try simp only [Act.put, List.setIfInBounds_toArray, List.set_cons_zero, List.set_cons_succ]
      refine UpTo.take 4 [5, 6, 8] (v := ?_) (by (simp only [List.getElem?_toArray, List.getElem?_cons_succ, List.getElem?_cons_zero]; rfl)) (by kernel_rfl) (by kernel_rfl) (by kernel_rfl) (by kernel_rfl) (by exact fun _ _ _ h => h) (Or.inl ⟨by rfl, ?_⟩) hHeld ?_
      rotate_left
      · intro u hu
        try dsimp only at hu
        go_simp
        try with_reducible rfl
      try simp only [Act.put, List.setIfInBounds_toArray, List.set_cons_zero, List.set_cons_succ]
      refine UpTo.take 5 [6, 8] (v := ?_) (by (simp only [List.getElem?_toArray, List.getElem?_cons_succ, List.getElem?_cons_zero]; rfl)) (by kernel_rfl) (by kernel_rfl) (by kernel_rfl) (by kernel_rfl) (by exact fun _ _ _ h => h) (Or.inl ⟨by rfl, ?_⟩) hHeld ?_
      rotate_left
      · intro u hu
        try dsimp only at hu
        go_simp
        try with_reducible rfl
      try simp only [Act.put, List.setIfInBounds_toArray, List.set_cons_zero, List.set_cons_succ]
      refine UpTo.next 6 (by kernel_rfl) (by (simp only [List.getElem?_toArray, List.getElem?_cons_succ, List.getElem?_cons_zero]; rfl)) (fun K hK => ?_)
      rw [if_pos (by rfl)]
      go_simp
      go_at_call 39
      refine (HPut.out _ (HRt.out.kept (by repeat (first | (with_reducible exact Kept.refl _) | (with_reducible assumption) | apply Kept.drew)))).mono ?_
      rintro e w2 ⟨v2, xs2, rfl, hO2, hP2, kk2⟩
      have k2 : Kept wr w2 := Kept.trans (by repeat (first | (with_reducible exact Kept.refl _) | (with_reducible assumption) | apply Kept.drew)) kk2
      have z2 := k2.size
      have hO2' := owns_base (base' := (w6.alloc (.cells #[.slice ra roots.length rc6, .slice none 0 0] 30)).heap.size) hO2 (by have := HSt.out.kb.size; exact Nat.le_trans this (Nat.le_of_eq (by rfl)))
      obtain ⟨d2, dc2, rfl⟩ := own_slice hO2
      have HO2 := hide hO2'
      have HP2 := hide hP2
      have hr2 := HSt.out.row.kept k2
      obtain ⟨⟨_, fo2⟩, fo1⟩ := hr2.row.at (i := 1) (by omega)
      have HRw := hide hr2
      clear hO2 hO2' hP2 hr2
      dsimp only
      refine hK.out _ _ (fun _ => HSO.out w2 k2) ?_
      clear hK K hHeld
      have hHeld := HSO.out w2 k2
      try simp only [Act.put, List.setIfInBounds_toArray, List.set_cons_zero, List.set_cons_succ]
      refine UpTo.take 7 [8] (v := ?_) (by (simp only [List.getElem?_toArray, List.getElem?_cons_succ, List.getElem?_cons_zero]; rfl)) (by kernel_rfl) (by kernel_rfl) (by kernel_rfl) (by kernel_rfl) (by exact fun _ _ _ h => h) (Or.inl ⟨by rfl, ?_⟩) hHeld ?_
      rotate_left
      · intro u hu
        try dsimp only at hu
        go_simp
        try with_reducible rfl
      try simp only [Act.put, List.setIfInBounds_toArray, List.set_cons_zero, List.set_cons_succ]
      refine UpTo.next 8 (by kernel_rfl) (by (simp only [List.getElem?_toArray, List.getElem?_cons_succ, List.getElem?_cons_zero]; rfl)) (fun K hK => ?_)
      go_simp
      refine hK.out _ _ (fun h => absurd rfl h) ?_
      clear hK K
      try simp only [Act.put, List.setIfInBounds_toArray, List.set_cons_zero, List.set_cons_succ]
      refine UpTo.done (by kernel_rfl) ?_
      go_wp2
      go_roundw
      case rel => exact ⟨k + 1, d2, dc2, xs2, by omega, by go_num, ⟨(HSt.out.kb.trans (KeptBut.of_kept k2)).setCell (Nat.le_refl _) (Nat.lt_succ_self _) _, HRw.out.set _, by rw [set_miss (by omega), k2.cell HSt.out.row.lt]; exact HSt.out.roots, set_hit HRw.out.row (by omega) _, owns_set HO2.out (by simp) _⟩, by rw [HSc.out]; exact HP2.out⟩
      case measure => simp [intOf]; omega
    · have hkl : k = R.length := by omega
      subst hkl
      rw [List.take_length] at hP
      have hTl := sortedOf_len hD R.length (Nat.le_refl _)
      rw [List.take_length] at hTl
      have m0 := hSt.roots
      have m1 := hSt.runs
      have hrs := HRes.out.block (hSt.kb.block _ (by simp; omega) (by omega))
      obtain ⟨⟨_, t0⟩, f0⟩ := hrs.row.at (i := 0) (by omega)
      obtain ⟨⟨_, t1⟩, f1⟩ := hrs.row.at (i := 1) (by omega)
      have HRs := hide hrs
      have HP := hide hP
      have HTl := hide hTl
      have hsb := hSt.row.lt
      have hwb := hrs.lt
      clear hrs hP hSt hTl
      go_wp2
      have hR9 := World.rangeAt_setCells_same wr w.heap.size 0 [.slice ra roots.length rc6, .slice d R.length dc] (HRs.out.row.there (o := 0) (m := 2) (Nat.le_refl _))
      have hO := owns_set (owns_set HSt.out.own (p := ⟨w.heap.size, 0, none⟩) (by simp; omega) (.slice ra roots.length rc6)) (p := ⟨w.heap.size, 1, none⟩) (by simp; omega) (.slice d R.length dc)
      have hT9 := ((HT7.out.same (SameKind.of_but HSt.out.kb HSr.out) (by decide)).same (HRs.out.same (o := 0) (.slice ra roots.length rc6)) (by decide)).same ((HRs.out.set (o := 0) (.slice ra roots.length rc6)).same (o := 1) (.slice d R.length dc)) (by decide)
      have hl9 := HTl.out
      refine bodyPost_ret_cell [.slice ra roots.length rc6, .slice d R.length dc] _ Tryz.results21 rfl hR9 Tryz.underlying30 rfl Tryz.sizeState rfl ⟨ra, rc6, d, dc, xs, _, by rw [hl9], hT9, K1.size, by rw [hl9]; exact hO, HP.out, ?_⟩
      exact ((HSt.out.kb.kept K1 (by omega)).setCell (Nat.le_refl _) _).setCell (Nat.le_refl _) _

end Go.Proofs.YtmdckapiljhfdaaGreat

/-
  WALKS: impl.validRoots, spec.l3RootsOk.
-/
namespace Go.Proofs.YtmdckapiljhfdaaGreat
open Go.RowKit

def RootsOk (l : List ByteArray) : Prop := 1 ≤ l.length ∧ l.length ≤ 10 ∧ NamesOk l

theorem l1In_no (w : World) (n lo hi : Int) (h : n < lo ∨ hi < n) :
    Calls Tryz.prog 35 #[.int .i64 n, .int .i64 lo, .int .i64 hi] w fun e w' => e = .returned (.bool false) ∧ w' = w := by
  by_cases h1 : lo ≤ n
  · have h2 : ¬ n ≤ hi := by omega
    go_enter Tryz.func35, Tryz.ntmps35
    go_wp2
    go_ret
    exact ⟨rfl, rfl⟩
  · go_enter Tryz.func35, Tryz.ntmps35
    go_wp2
    go_ret
    exact ⟨rfl, rfl⟩

set_option maxHeartbeats 800000 in
theorem l3RootsOk_any (w : World) (a : Option Addr) (cap : Nat) (l : List ByteArray) (hl : l.length ≤ maxLen) (hs : ∀ s ∈ l, s.size ≤ maxLen) (hS : Strs w a l) :
    Calls Tryz.prog 19 #[.slice a l.length cap] w fun e w' => Says e (RootsOk l) ∧ Kept w w' := by
  by_cases h : 1 ≤ l.length ∧ l.length ≤ 10
  · go_enter Tryz.func19, Tryz.ntmps19
    go_wp2_with (go_at_call 35; refine (l1In_yes _ _ _ _ (by omega) (by omega)).mono ?_; rintro e w' ⟨rfl, rfl⟩)
    refine (l1Names_any _ a cap l hl hs hS).mono ?_
    rintro e w1 ⟨hsay, k1⟩
    rcases hsay.cases with ⟨rfl, hyes⟩ | ⟨rfl, hno⟩
    · have HY := hide hyes
      clear hyes hsay
      go_wp2
      go_ret
      exact ⟨Says.yes ⟨h.1, h.2, HY.out⟩, k1⟩
    · have HY := hide hno
      clear hno hsay
      go_wp2
      go_ret
      exact ⟨Says.no fun g => HY.out g.2.2, k1⟩
  · go_enter Tryz.func19, Tryz.ntmps19
    go_wp2_with (go_at_call 35; refine (l1In_no _ _ _ _ (by omega)).mono ?_; rintro e w' ⟨rfl, rfl⟩)
    go_ret
    exact ⟨Says.no fun g => h ⟨g.1, g.2.1⟩, Kept.refl _⟩

set_option maxRecDepth 100000 in
set_option maxHeartbeats 1600000 in
theorem validRoots_any (w : World) (a : Option Addr) (cap : Nat) (l : List ByteArray) (hl : l.length ≤ maxLen) (hcap : l.length ≤ cap) (hs : ∀ s ∈ l, s.size ≤ maxLen) (hS : Strs w a l) :
    Calls Tryz.prog 42 #[.slice a l.length cap] w fun e w' => Says e (RootsOk l) ∧ Kept w w' := by
  have hl' := hl
  unfold maxLen at hl'
  by_cases h1 : (l.length : Int) < 1
  · go_enter Tryz.func42, Tryz.ntmps42
    go_wp2
    go_ret
    exact ⟨Says.no fun g => by have := g.1; omega, Kept.refl _⟩
  · by_cases h2 : (10 : Int) < l.length
    · go_enter Tryz.func42, Tryz.ntmps42
      go_wp2
      go_ret
      exact ⟨Says.no fun g => by have := g.2.1; omega, Kept.refl _⟩
    · have hb1 : decide ((l.length : Int) < 1) = false := by simpa using h1
      have hb2 : decide ((10 : Int) < l.length) = false := by simpa using h2
      go_enter Tryz.func42, Tryz.ntmps42
      go_wp2
      clear hb1 hb2
      go_loopw [15] (fun i wr => ∃ k : Nat, k ≤ l.length ∧ i = .int .i64 k ∧ Kept w wr ∧ ∀ j, j < k → NameOkAt l j) (fun i _ => l.length - (intOf i).toNat)
      case atStart => exact ⟨0, Nat.zero_le _, rfl, Kept.refl _, fun j hj => absurd hj (Nat.not_lt_zero _)⟩
      case round =>
        obtain ⟨k, hk, rfl, hw, hg⟩ := hrel
        have HG := hide hg
        clear hg
        by_cases hlt : k < l.length
        · obtain ⟨b, o, rfl, hb, hc⟩ := hS.kept hw k hlt
          have hsz : (l.getD k ByteArray.empty).size ≤ maxLen := hs _ (by simp [List.getD, hlt])
          obtain ⟨v, hvk⟩ : ∃ v, v = l.getD k ByteArray.empty := ⟨_, rfl⟩
          rw [← hvk] at hc hsz
          have HVK := hide hvk
          clear hvk
          go_wp2_with fail
          refine (validName_any _ v hsz).mono ?_
          rintro e w1 ⟨hsay, hw1⟩
          have hw2 := hw.trans hw1
          have hA1 := hS.kept hw2
          clear hc hb
          rcases hsay.cases with ⟨rfl, hyes⟩ | ⟨rfl, hno⟩
          · have HY := hide hyes
            clear hyes hsay hw hw1
            have hkc : k ≤ cap := by omega
            go_wp2_with fail
            refine (contains_take _ _ cap k l v hl (by omega) hA1).mono ?_
            rintro e w2 ⟨hsay, rfl⟩
            rcases hsay.cases with ⟨rfl, hyes⟩ | ⟨rfl, hno⟩
            · have HN := hide hyes
              clear hyes hsay hA1
              go_wp2
              go_ret
              exact ⟨Says.no fun h => by obtain ⟨i, hi, e⟩ := HN.out; exact (h.2.2 k hlt).2 i hi (by rw [e, HVK.out]), hw2⟩
            · have HN := hide hno
              clear hno hsay hA1
              go_wp2
              go_roundw
              case rel =>
                refine ⟨k + 1, by omega, by go_num, hw2, fun j hj => ?_⟩
                by_cases e : j = k
                · subst e
                  exact ⟨by rw [← HVK.out]; exact HY.out, fun m hm h => HN.out ⟨m, hm, by rw [h, HVK.out]⟩⟩
                · exact unhide HG j (by omega)
              case measure => simp [intOf]; omega
          · have HN := hide hno
            clear hno hsay hw hw1
            go_wp2
            go_ret
            exact ⟨Says.no fun h => HN.out (by rw [HVK.out]; exact (h.2.2 k hlt).1), hw2⟩
        · go_wp2
          go_ret
          exact ⟨Says.yes ⟨by omega, by omega, fun j hj => unhide HG j (by omega)⟩, hw⟩

end Go.Proofs.YtmdckapiljhfdaaGreat

/-
  THE WALK over spec.Start.
-/
namespace Go.Proofs.YtmdckapiljhfdaaGreat
open Go.RowKit

/-- What Start gives: roots, and the names of the runs. -/
def StartR (webl : List NodeD) (roots rts : List ByteArray) (T : List NodeD) : Prop :=
  (WebCode webl 0 ∧ RootsOk roots ∧ rts = roots ∧ T = sortedOf (wanted webl roots)) ∨ (¬ (WebCode webl 0 ∧ RootsOk roots) ∧ rts = [] ∧ T = [])
theorem StartR.unique {webl : List NodeD} {roots r r' : List ByteArray} {T T' : List NodeD} (h : StartR webl roots r T) (h' : StartR webl roots r' T') : r = r' ∧ T = T' := by
  rcases h with ⟨h1, h2, rfl, rfl⟩ | ⟨h1, rfl, rfl⟩ <;> rcases h' with ⟨g1, g2, rfl, rfl⟩ | ⟨g1, rfl, rfl⟩
  · exact ⟨rfl, rfl⟩
  · exact absurd ⟨h1, h2⟩ g1
  · exact absurd ⟨g1, g2⟩ h1
  · exact ⟨rfl, rfl⟩

/-- What the specification's walk ends with. -/
def StartEndS (webl : List NodeD) (roots : List ByteArray) (w w' : World) (e : Ending) : Prop :=
  ∃ rts T ra rc d dc xs base, e = .returned (.agg #[.slice ra rts.length rc, .slice d T.length dc]) ∧ StartR webl roots rts T ∧ TStrs w' 9 ra rts ∧ w.heap.size ≤ base ∧ w'.ownsRow base 78 7 (.slice d T.length dc) T.length xs ∧ PackedR xs T ∧ Kept w w'
theorem StartEndS.none {webl : List NodeD} {roots : List ByteArray} {w w' : World} {e : Ending} (he : e = .returned (.agg #[.slice none 0 0, .slice none 0 0])) (h : ¬ (WebCode webl 0 ∧ RootsOk roots)) (k : Kept w w') : StartEndS webl roots w w' e :=
  ⟨[], [], Option.none, 0, Option.none, 0, [], _, he, .inr ⟨h, rfl, rfl⟩, .inl rfl, Nat.le_refl _, World.ownsRow_nil _ _ _ _, PackedR.nil, k⟩

set_option maxRecDepth 100000 in
set_option maxHeartbeats 1600000 in
theorem specStart_any (w : World) (a : Option Addr) (cap : Nat) (webl : List NodeD) (rb ro rc : Nat) (roots : List ByteArray) (hl : webl.length ≤ 1048576) (hf : ∀ s ∈ webl, s.Fits) (hrl : roots.length ≤ maxLen) (hrs : ∀ s ∈ roots, s.size ≤ maxLen) (hS : Nodes w a webl) (hR : Strs w (some ⟨rb, ro, none⟩) roots) :
    Calls Tryz.prog 6 #[.agg #[.slice a webl.length cap], .slice (some ⟨rb, ro, none⟩) roots.length rc] w fun e w' => StartEndS webl roots w w' e := by
  have hl' : webl.length ≤ maxLen := by unfold maxLen; omega
  go_enter Tryz.func6, Tryz.ntmps6
  go_wp2_with fail
  refine (specCheckWeb_any _ a cap webl hl' hf (hS.kept (by repeat (first | apply Kept.alloc | exact Kept.refl _)))).mono ?_
  rintro e w1 ⟨⟨c, rfl, hc⟩, k1⟩
  have K1 : Kept w w1 := Kept.trans (by repeat (first | apply Kept.alloc | exact Kept.refl _)) k1
  have z1 := k1.size
  simp only [World.size_alloc] at z1
  have q0 := boxCell (w := w) (Kept.trans ((Kept.refl _).alloc _) k1)
  have hrow1 := rowAlloc k1
  simp only [World.size_alloc] at hrow1
  have HR1 : Hid (RowT w1 (w.heap.size + 1) 30 2) := hrow1
  obtain ⟨⟨_, x0⟩, g0⟩ := HR1.out.row.at (i := 0) (by omega)
  obtain ⟨⟨_, x1⟩, g1⟩ := HR1.out.row.at (i := 1) (by omega)
  have HC := hide hc
  clear hrow1 hc k1
  have hw1 : w.heap.size < w1.heap.size := by omega
  have hw2 : w.heap.size + 1 < w1.heap.size := by omega
  by_cases hc0 : c = 0
  · subst hc0
    go_wp2_with fail
    refine (l3RootsOk_any _ (some ⟨rb, ro, none⟩) rc roots hrl hrs (hR.kept K1)).mono ?_
    rintro e w2 ⟨hsay, k2⟩
    have q2 := (k2.cell (o := 0) hw1).trans q0
    have HR2 := hide (HR1.out.kept k2)
    have K2 := K1.trans k2
    have z2 := k2.size
    obtain ⟨⟨_, y0⟩, e0⟩ := HR2.out.row.at (i := 0) (by omega)
    obtain ⟨⟨_, y1⟩, e1⟩ := HR2.out.row.at (i := 1) (by omega)
    clear q0 x0 x1 g0 g1 HR1 K1 k2
    rcases hsay.cases with ⟨rfl, hyes⟩ | ⟨rfl, hno⟩
    · have HY := hide hyes
      clear hyes hsay
      have hv1 : w.heap.size < w2.heap.size := by omega
      have hKn0 : Known (w2.alloc (.cells #[.slice a webl.length cap, .slice none 0 0] 48)) w2.heap.size a webl.length cap none 0 0 := ⟨RowT.made w2 _ _, range_new w2 #[.slice a webl.length cap, .slice none 0 0] 48 0 _ rfl, range_new w2 #[.slice a webl.length cap, .slice none 0 0] 48 1 _ rfl⟩
      have HKn0 := hide hKn0
      clear hKn0
      go_wp2_with fail
      refine (want_any w2 _ ((Kept.refl _).alloc _) w2.heap.size (Nat.le_refl _) a cap webl (some ⟨rb, ro, none⟩) rc roots hl (by have := HY.out.2.1; omega) HY.out.2.2 HKn0.out (hS.kept K2) (hR.kept K2)).mono ?_
      rintro e w3 ⟨rfl, d, dc, xs, hKn⟩
      have k3 : Kept w2 w3 := hKn.kb'.kept ((Kept.refl _).alloc _) (Nat.le_refl _)
      have K3 := K2.trans k3
      have z3 := k3.size
      have m1 := hKn.known.runs
      have hkb := hKn.known.row.lt
      have HRz := hide (PackedZ.runs hKn.own hKn.pack)
      have HR3 := hide (HR2.out.kept k3)
      have hRl : (wanted webl roots).length ≤ 10 := by have := wanted_len webl roots; have := HY.out.2.1; omega
      clear hKn y0 y1 e0 e1 HR2 q2
      go_wp2_with fail
      refine (l3State_any _ rb ro rc roots d dc (wanted webl roots) (by have := HY.out.2.1; omega) hRl (differ_wanted HY.out.2.2) (hR.kept K3) HRz.out).mono ?_
      rintro e w4 hEnd
      obtain ⟨ra, rc4, d4, dc4, xs4, base, rfl, hT4, hb4, hO4, hP4, k4⟩ := hEnd
      have K4 := K3.trans k4
      have HR4 := hide (HR3.out.kept k4)
      have z4 := k4.size
      obtain ⟨⟨_, t0⟩, f0⟩ := HR4.out.row.at (i := 0) (by omega)
      obtain ⟨⟨_, t1⟩, f1⟩ := HR4.out.row.at (i := 1) (by omega)
      have HT4 := hide hT4
      have HO4 := hide hO4
      have HP4 := hide hP4
      obtain ⟨T, hTT⟩ : ∃ T, T = sortedOf (wanted webl roots) := ⟨_, rfl⟩
      rw [← hTT] at HO4 HP4 ⊢
      have HTT := hide hTT
      clear hT4 hO4 hP4 HR3 m1 hTT
      go_wp2
      have hR9 := World.rangeAt_setCells_same w4 (w.heap.size + 1) 0 [.slice ra roots.length rc4, .slice d4 T.length dc4] (HR4.out.row.there (o := 0) (m := 2) (Nat.le_refl _))
      have hO := owns_set (owns_set HO4.out (p := ⟨w.heap.size + 1, 0, none⟩) (by simp; omega) (.slice ra roots.length rc4)) (p := ⟨w.heap.size + 1, 1, none⟩) (by simp; omega) (.slice d4 T.length dc4)
      have hT9 := (HT4.out.same (HR4.out.same (o := 0) (.slice ra roots.length rc4)) (by decide)).same ((HR4.out.set (o := 0) (.slice ra roots.length rc4)).same (o := 1) (.slice d4 T.length dc4)) (by decide)
      exact bodyPost_ret_cell [.slice ra roots.length rc4, .slice d4 T.length dc4] _ Tryz.results6 rfl hR9 Tryz.underlying30 rfl Tryz.sizeState rfl ⟨roots, T, ra, rc4, d4, dc4, xs4, base, rfl, .inl ⟨HC.out, HY.out, rfl, HTT.out⟩, hT9, by omega, hO, HP4.out, (K4.setCell (by simp) _).setCell (by simp) _⟩
    · have HY := hide hno
      clear hno hsay
      go_wp2
      have hR9 := World.rangeAt_setCells_same w2 (w.heap.size + 1) 0 [.slice none 0 0, .slice none 0 0] (HR2.out.row.there (o := 0) (m := 2) (Nat.le_refl _))
      exact bodyPost_ret_cell [.slice none 0 0, .slice none 0 0] _ Tryz.results6 rfl hR9 Tryz.underlying30 rfl Tryz.sizeState rfl (StartEndS.none rfl (fun h => HY.out h.2) ((K2.setCell (by simp) _).setCell (by simp) _))
  · have hcb : (c == 0) = false := by simpa using hc0
    go_wp2
    have hR9 := World.rangeAt_setCells_same w1 (w.heap.size + 1) 0 [.slice none 0 0, .slice none 0 0] (HR1.out.row.there (o := 0) (m := 2) (Nat.le_refl _))
    exact bodyPost_ret_cell [.slice none 0 0, .slice none 0 0] _ Tryz.results6 rfl hR9 Tryz.underlying30 rfl Tryz.sizeState rfl (StartEndS.none rfl (fun h => hc0 (HC.out.unique h.1)) ((K1.setCell (by simp) _).setCell (by simp) _))

end Go.Proofs.YtmdckapiljhfdaaGreat
