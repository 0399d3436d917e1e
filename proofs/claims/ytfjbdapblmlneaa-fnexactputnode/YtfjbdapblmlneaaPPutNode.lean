import Derived.Test.YtfjbdapblmlneaaProg
import Derived.Test.YtfjbdapblmlneaaData
import Derived.Deep.Strs
import Derived.Deep.Slices
import Derived.ProofKit
import Derived.KernelRfl
import Derived.Test.YtfjbdapblmlneaaDataN
import Derived.Test.YtfjbdapblmlneaaOSpec2
import Derived.Deep.RegionLaw
import Derived.Test.YtfjbdapblmlneaaRows
import Derived.Test.YtfjbdapblmlneaaOPut3
import Derived.OpenShut
import Derived.ChangeMaps5
import Derived.ChangeOld
import Derived.Below
import Derived.Lib.SmallJoins

/-
  FROM THE FORM's READING OF AN ARGUMENT TO THE PLAIN DATA: strings, cases, steps.
-/
namespace Go.Proofs.Ytfjbdapblmlneaa
open Go.RowKit Go.Deep

section
variable {H : Type} {enc : TypeId × Value → H} {w : World} {base : Nat} {spare : Nat → Bool} {held : Bool}

theorem in64_of_wf {n : Int} (h : (Lit.int .i64 n).wf = true) : In64 n := by
  simpa [Lit.wf, IntKind.min, IntKind.max, IntKind.signed, IntKind.bits, In64] using h

/-- Cells that are there from an address on: the address is plain. -/
theorem plain_addr {a : Addr} {v : Value} (h : w.cell? a = some v) : ∃ b o, a = ⟨b, o, none⟩ ∧ b < w.heap.size := by
  obtain ⟨b, o, s⟩ := a
  have hs : s = none := World.cell?_spot h
  subst hs
  exact ⟨b, o, rfl, World.block_lt_of_cell? _ _ h⟩

theorem Try.cellsStr : Try.prog.cellsOf 9 = 1 := by kernel_rfl
theorem Try.cellsCase : Try.prog.cellsOf 152 = 2 := by kernel_rfl
theorem Try.cellsStep : Try.prog.cellsOf 114 = 8 := by kernel_rfl
theorem Try.cellsInt : Try.prog.cellsOf 3 = 1 := by kernel_rfl
theorem Try.cellsBool : Try.prog.cellsOf 4 = 1 := by kernel_rfl
theorem Try.cellsStrs : Try.prog.cellsOf 71 = 1 := by kernel_rfl
theorem Try.cellsCases : Try.prog.cellsOf 112 = 1 := by kernel_rfl
theorem Try.cellsSteps : Try.prog.cellsOf 22 = 1 := by kernel_rfl

theorem readStrs {fuel : Nat} {cs : List Value} {x : DataW H × List MemPlace} (h : DataW.trod enc Try.prog w base spare held fuel 71 cs = some x) :
    ∃ a l cap, cs = [.slice a l.length cap] ∧ Strs w a l ∧ l.length ≤ maxLen ∧ l.length ≤ cap ∧ ∀ s ∈ l, s.size ≤ maxLen := by
  rcases open_strs Try.underlying71 Try.underlying9 Try.cellsStr h with ⟨rfl, _⟩ | ⟨a, len, cap, m, Sx, rfl, _, hl, hm, hmm, _, hx⟩
  · exact ⟨none, [], 0, rfl, fun i hi => absurd hi (Nat.not_lt_zero _), Nat.zero_le _, Nat.zero_le _, fun s hs => by cases hs⟩
  · have hlm : len ≤ m := by rw [hmm]; split <;> omega
    refine ⟨some a, (List.range len).map Sx, cap, by simp, fun i hi => ?_, by simp; omega, by simp; omega, fun s hs => ?_⟩
    · have hi' : i < len := by simpa using hi
      obtain ⟨b, o, rfl, hb⟩ := plain_addr (by have := (hx 0 (by omega)).1; simpa [Addr.add] using this)
      refine ⟨b, o, rfl, hb, ?_⟩
      have := (hx i (by omega)).1
      rw [Addr.add_mid] at this
      rw [this]
      simp [List.getD, hi']
    · simp only [List.mem_map, List.mem_range] at hs
      obtain ⟨i, hi, rfl⟩ := hs
      exact (hx i (by omega)).2

theorem list2 {l : List Value} (h : l.length = 2) : ∃ a b, l = [a, b] := by
  match l, h with
  | [a, b], _ => exact ⟨a, b, rfl⟩
theorem list8 {l : List Value} (h : l.length = 8) : ∃ a b c d e f g i, l = [a, b, c, d, e, f, g, i] := by
  match l, h with
  | [a, b, c, d, e, f, g, i], _ => exact ⟨a, b, c, d, e, f, g, i, rfl⟩

set_option maxRecDepth 100000 in
theorem readCase {fuel : Nat} {cs : List Value} {x : DataW H × List MemPlace} (h : DataW.trod enc Try.prog w base spare held fuel 152 cs = some x) :
    ∃ c : CaseD, cs = c.cells ∧ c.text.size ≤ maxLen ∧ In64 c.goto := by
  obtain ⟨xs, n, _, _, hlen, hxl, hf⟩ := DataW.trod_struct Try.underlying152 h
  rw [Try.cellsCase] at hlen
  obtain ⟨v0, v1, rfl⟩ := list2 hlen
  · skip
    have f0 : DataW.trod enc Try.prog w base spare held n 9 (([v0, v1].drop 0).take (Try.prog.cellsOf 9)) = xs[0]? := hf 0 _ rfl
    rw [Try.cellsStr, List.getElem?_eq_getElem (by rw [hxl]; decide)] at f0
    have f1 : DataW.trod enc Try.prog w base spare held n 3 (([v0, v1].drop 1).take (Try.prog.cellsOf 3)) = xs[1]? := hf 1 _ rfl
    rw [Try.cellsInt, List.getElem?_eq_getElem (by rw [hxl]; decide)] at f1
    obtain ⟨s, e0, _, hs⟩ := DataW.trod_string Try.underlying9 f0
    obtain ⟨g, e1, _, hg⟩ := DataW.trod_int Try.underlying3 f1
    simp only [List.drop_zero, List.take_succ_cons, List.take_zero, List.drop_succ_cons, List.cons.injEq, and_true] at e0 e1
    subst e0 e1
    exact ⟨⟨s, g⟩, rfl, hs, in64_of_wf hg⟩

theorem readCases {fuel : Nat} {cs : List Value} {x : DataW H × List MemPlace} (h : DataW.trod enc Try.prog w base spare held fuel 112 cs = some x) :
    ∃ a l cap, cs = [.slice a l.length cap] ∧ Cases w a l ∧ l.length ≤ maxLen ∧ ∀ c ∈ l, c.text.size ≤ maxLen ∧ In64 c.goto := by
  rcases open_slice Try.underlying112 h with ⟨rfl, _⟩ | ⟨a, len, cap, m, n, D, Pl, rfl, _, hl, hm, hmm, _, hx⟩
  · exact ⟨none, [], 0, rfl, fun i hi => absurd hi (Nat.not_lt_zero _), Nat.zero_le _, fun s hs => by cases hs⟩
  · have hlm : len ≤ m := by rw [hmm]; split <;> omega
    obtain ⟨C, hC⟩ := @choose_lt CaseD ⟨CaseD.zero⟩ m (fun i c => (∃ cs', w.cells? base (a.add (i * 2)) 2 = some cs' ∧ cs' = c.cells) ∧ c.text.size ≤ maxLen ∧ In64 c.goto) (fun i hi => by
      obtain ⟨cs', h1, h2⟩ := hx i hi
      rw [Try.cellsCase] at h1
      obtain ⟨c, e, g1, g2⟩ := readCase h2
      exact ⟨c, ⟨cs', h1, e⟩, g1, g2⟩)
    refine ⟨some a, (List.range len).map C, cap, by simp, fun i hi => ?_, by simp; omega, fun c hc => ?_⟩
    · have hi' : i < len := by simpa using hi
      obtain ⟨⟨cs0, z1, z2⟩, _⟩ := hC 0 (by omega)
      obtain ⟨_, _, z3⟩ := World.cells?_some z1
      obtain ⟨b, o, rfl, hb⟩ := plain_addr (by have := z3 0 (by decide); rw [z2] at this; simpa [Addr.add, CaseD.cells] using this)
      refine ⟨b, o, rfl, hb, fun j v hv => ?_⟩
      obtain ⟨⟨cs', y1, y2⟩, _⟩ := hC i (by omega)
      obtain ⟨_, y4, y3⟩ := World.cells?_some y1
      have e : ((List.range len).map C).getD i CaseD.zero = C i := by simp [List.getD, hi']
      rw [e, ← y2] at hv
      have hj : j < 2 := by rw [← y4]; exact (List.getElem?_eq_some_iff.1 hv).1
      have := y3 j hj
      rw [Addr.add_mid, Addr.add_mid, hv] at this
      exact this
    · simp only [List.mem_map, List.mem_range] at hc
      obtain ⟨i, hi, rfl⟩ := hc
      exact (hC i (by omega)).2

set_option maxRecDepth 100000 in
theorem readStep {fuel : Nat} {cs : List Value} {x : DataW H × List MemPlace} (h : DataW.trod enc Try.prog w base spare held fuel 114 cs = some x) :
    ∃ s : StepD, StepIs w cs s ∧ s.Fits := by
  obtain ⟨xs, n, _, _, hlen, hxl, hf⟩ := DataW.trod_struct Try.underlying114 h
  rw [Try.cellsStep] at hlen
  obtain ⟨v0, v1, v2, v3, v4, v5, v6, v7, rfl⟩ := list8 hlen
  · skip
    have f0 : DataW.trod enc Try.prog w base spare held n 71 (([v0, v1, v2, v3, v4, v5, v6, v7].drop 0).take (Try.prog.cellsOf 71)) = xs[0]? := hf 0 _ rfl
    rw [Try.cellsStrs, List.getElem?_eq_getElem (by rw [hxl]; decide)] at f0
    have f1 : DataW.trod enc Try.prog w base spare held n 3 (([v0, v1, v2, v3, v4, v5, v6, v7].drop 1).take (Try.prog.cellsOf 3)) = xs[1]? := hf 1 _ rfl
    rw [Try.cellsInt, List.getElem?_eq_getElem (by rw [hxl]; decide)] at f1
    have f2 : DataW.trod enc Try.prog w base spare held n 112 (([v0, v1, v2, v3, v4, v5, v6, v7].drop 2).take (Try.prog.cellsOf 112)) = xs[2]? := hf 2 _ rfl
    rw [Try.cellsCases, List.getElem?_eq_getElem (by rw [hxl]; decide)] at f2
    have f3 : DataW.trod enc Try.prog w base spare held n 3 (([v0, v1, v2, v3, v4, v5, v6, v7].drop 3).take (Try.prog.cellsOf 3)) = xs[3]? := hf 3 _ rfl
    rw [Try.cellsInt, List.getElem?_eq_getElem (by rw [hxl]; decide)] at f3
    have f4 : DataW.trod enc Try.prog w base spare held n 3 (([v0, v1, v2, v3, v4, v5, v6, v7].drop 4).take (Try.prog.cellsOf 3)) = xs[4]? := hf 4 _ rfl
    rw [Try.cellsInt, List.getElem?_eq_getElem (by rw [hxl]; decide)] at f4
    have f5 : DataW.trod enc Try.prog w base spare held n 4 (([v0, v1, v2, v3, v4, v5, v6, v7].drop 5).take (Try.prog.cellsOf 4)) = xs[5]? := hf 5 _ rfl
    rw [Try.cellsBool, List.getElem?_eq_getElem (by rw [hxl]; decide)] at f5
    have f6 : DataW.trod enc Try.prog w base spare held n 4 (([v0, v1, v2, v3, v4, v5, v6, v7].drop 6).take (Try.prog.cellsOf 4)) = xs[6]? := hf 6 _ rfl
    rw [Try.cellsBool, List.getElem?_eq_getElem (by rw [hxl]; decide)] at f6
    have f7 : DataW.trod enc Try.prog w base spare held n 9 (([v0, v1, v2, v3, v4, v5, v6, v7].drop 7).take (Try.prog.cellsOf 9)) = xs[7]? := hf 7 _ rfl
    rw [Try.cellsStr, List.getElem?_eq_getElem (by rw [hxl]; decide)] at f7
    obtain ⟨aa, asks, ca, e0, g1, g2, g3, g4⟩ := readStrs f0
    obtain ⟨on, e1, _, w1⟩ := DataW.trod_int Try.underlying3 f1
    obtain ⟨ac, cases, cc, e2, g5, g6, g7⟩ := readCases f2
    obtain ⟨els, e3, _, w3⟩ := DataW.trod_int Try.underlying3 f3
    obtain ⟨fall, e4, _, w4⟩ := DataW.trod_int Try.underlying3 f4
    obtain ⟨fin, e5, _⟩ := DataW.trod_bool Try.underlying4 f5
    obtain ⟨bad, e6, _⟩ := DataW.trod_bool Try.underlying4 f6
    obtain ⟨give, e7, _, w7⟩ := DataW.trod_string Try.underlying9 f7
    simp only [List.drop_zero, List.take_succ_cons, List.take_zero, List.drop_succ_cons, List.cons.injEq, and_true] at e0 e1 e2 e3 e4 e5 e6 e7
    subst e0 e1 e2 e3 e4 e5 e6 e7
    exact ⟨⟨asks, on, cases, els, fall, fin, bad, give⟩, ⟨aa, ca, ac, cc, rfl, g1, g5, g3⟩, ⟨g2, g4, in64_of_wf w1, g6, g7, in64_of_wf w3, in64_of_wf w4, w7⟩⟩

theorem readSteps {fuel : Nat} {cs : List Value} {x : DataW H × List MemPlace} (h : DataW.trod enc Try.prog w base spare held fuel 22 cs = some x) :
    ∃ a l cap, cs = [.slice a l.length cap] ∧ Steps w a l ∧ l.length ≤ maxLen ∧ ∀ s ∈ l, s.Fits := by
  rcases open_slice Try.underlying22 h with ⟨rfl, _⟩ | ⟨a, len, cap, m, n, D, Pl, rfl, _, hl, hm, hmm, _, hx⟩
  · exact ⟨none, [], 0, rfl, fun i hi => absurd hi (Nat.not_lt_zero _), Nat.zero_le _, fun s hs => by cases hs⟩
  · have hlm : len ≤ m := by rw [hmm]; split <;> omega
    obtain ⟨C, hC⟩ := @choose_lt StepD ⟨StepD.zero⟩ m (fun i c => (∃ cs', w.cells? base (a.add (i * 8)) 8 = some cs' ∧ StepIs w cs' c) ∧ c.Fits) (fun i hi => by
      obtain ⟨cs', h1, h2⟩ := hx i hi
      rw [Try.cellsStep] at h1
      obtain ⟨c, e, g1⟩ := readStep h2
      exact ⟨c, ⟨cs', h1, e⟩, g1⟩)
    refine ⟨some a, (List.range len).map C, cap, by simp, fun i hi => ?_, by simp; omega, fun c hc => ?_⟩
    · have hi' : i < len := by simpa using hi
      obtain ⟨⟨cs0, z1, z2⟩, _⟩ := hC 0 (by omega)
      obtain ⟨_, z4, z3⟩ := World.cells?_some z1
      obtain ⟨b, o, rfl, hb⟩ := plain_addr (a := a) (v := cs0[0]'(by omega)) (by have := z3 0 (by decide); rw [List.getElem?_eq_getElem (by omega)] at this; simpa [Addr.add] using this)
      obtain ⟨⟨cs', y1, y2⟩, _⟩ := hC i (by omega)
      obtain ⟨_, y4, y3⟩ := World.cells?_some y1
      have e : ((List.range len).map C).getD i StepD.zero = C i := by simp [List.getD, hi']
      refine ⟨b, o, cs', rfl, hb, fun j v hv => ?_, by rw [e]; exact y2⟩
      have hj : j < 8 := by rw [← y4]; exact (List.getElem?_eq_some_iff.1 hv).1
      have := y3 j hj
      rw [Addr.add_mid, Addr.add_mid, hv] at this
      exact this
    · simp only [List.mem_map, List.mem_range] at hc
      obtain ⟨i, hi, rfl⟩ := hc
      exact (hC i (by omega)).2

end
end Go.Proofs.Ytfjbdapblmlneaa

/-
  FROM THE FORM's READING OF AN ARGUMENT TO THE PLAIN DATA: nodes.
-/
namespace Go.Proofs.Ytfjbdapblmlneaa
open Go.RowKit Go.Deep

section
variable {H : Type} {enc : TypeId × Value → H} {w : World} {base : Nat} {spare : Nat → Bool} {held : Bool}

theorem Try.cellsNode : Try.prog.cellsOf 55 = 3 := by kernel_rfl
theorem Try.cellsAct : Try.prog.cellsOf 24 = 2 := by kernel_rfl

theorem list3 {l : List Value} (h : l.length = 3) : ∃ a b c, l = [a, b, c] := by
  match l, h with
  | [a, b, c], _ => exact ⟨a, b, c, rfl⟩

set_option maxRecDepth 100000 in
theorem readNode {fuel : Nat} {cs : List Value} {x : DataW H × List MemPlace} (h : DataW.trod enc Try.prog w base spare held fuel 55 cs = some x) :
    ∃ d : NodeD, NodeIs w cs d ∧ d.Fits := by
  obtain ⟨xs, n, _, _, hlen, hxl, hf⟩ := DataW.trod_struct Try.underlying55 h
  rw [Try.cellsNode] at hlen
  obtain ⟨v0, v1, v2, rfl⟩ := list3 hlen
  have f0 : DataW.trod enc Try.prog w base spare held n 9 (([v0, v1, v2].drop 0).take (Try.prog.cellsOf 9)) = xs[0]? := hf 0 _ rfl
  rw [Try.cellsStr, List.getElem?_eq_getElem (by rw [hxl]; decide)] at f0
  have f1 : DataW.trod enc Try.prog w base spare held n 24 (([v0, v1, v2].drop 1).take (Try.prog.cellsOf 24)) = xs[1]? := hf 1 _ rfl
  rw [Try.cellsAct, List.getElem?_eq_getElem (by rw [hxl]; decide)] at f1
  obtain ⟨name, e0, _, hn⟩ := DataW.trod_string Try.underlying9 f0
  obtain ⟨ys, m, _, _, _, hyl, hg⟩ := DataW.trod_struct Try.underlying24 f1
  have g0 : DataW.trod enc Try.prog w base spare held m 3 (([v1, v2].drop 0).take (Try.prog.cellsOf 3)) = ys[0]? := hg 0 _ rfl
  rw [Try.cellsInt, List.getElem?_eq_getElem (by rw [hyl]; decide)] at g0
  have g1 : DataW.trod enc Try.prog w base spare held m 22 (([v1, v2].drop 1).take (Try.prog.cellsOf 22)) = ys[1]? := hg 1 _ rfl
  rw [Try.cellsSteps, List.getElem?_eq_getElem (by rw [hyl]; decide)] at g1
  obtain ⟨cost, e1, _, hc⟩ := DataW.trod_int Try.underlying3 g0
  obtain ⟨a, l, cap, e2, hS, hl, hs⟩ := readSteps g1
  simp only [List.drop_zero, List.take_succ_cons, List.take_zero, List.drop_succ_cons, List.cons.injEq, and_true] at e0 e1 e2
  subst e0 e1 e2
  exact ⟨⟨name, cost, l⟩, ⟨a, cap, rfl, hS⟩, ⟨hn, in64_of_wf hc, hl, hs⟩⟩

theorem readNodes {fuel : Nat} {cs : List Value} {x : DataW H × List MemPlace} (h : DataW.trod enc Try.prog w base spare held fuel 43 cs = some x) :
    ∃ a l cap, cs = [.slice a l.length cap] ∧ Nodes w a l ∧ l.length ≤ maxLen ∧ ∀ s ∈ l, s.Fits := by
  rcases open_slice Try.underlying43 h with ⟨rfl, _⟩ | ⟨a, len, cap, m, n, D, Pl, rfl, _, hl, hm, hmm, _, hx⟩
  · exact ⟨none, [], 0, rfl, fun i hi => absurd hi (Nat.not_lt_zero _), Nat.zero_le _, fun s hs => by cases hs⟩
  · have hlm : len ≤ m := by rw [hmm]; split <;> omega
    obtain ⟨C, hC⟩ := @choose_lt NodeD ⟨NodeD.zero⟩ m (fun i c => (∃ cs', w.cells? base (a.add (i * 3)) 3 = some cs' ∧ NodeIs w cs' c) ∧ c.Fits) (fun i hi => by
      obtain ⟨cs', h1, h2⟩ := hx i hi
      rw [Try.cellsNode] at h1
      obtain ⟨c, e, g1⟩ := readNode h2
      exact ⟨c, ⟨cs', h1, e⟩, g1⟩)
    refine ⟨some a, (List.range len).map C, cap, by simp, fun i hi => ?_, by simp; omega, fun c hc => ?_⟩
    · have hi' : i < len := by simpa using hi
      obtain ⟨⟨cs0, z1, z2⟩, _⟩ := hC 0 (by omega)
      obtain ⟨_, z4, z3⟩ := World.cells?_some z1
      obtain ⟨b, o, rfl, hb⟩ := plain_addr (a := a) (v := cs0[0]'(by omega)) (by have := z3 0 (by decide); rw [List.getElem?_eq_getElem (by omega)] at this; simpa [Addr.add] using this)
      obtain ⟨⟨cs', y1, y2⟩, _⟩ := hC i (by omega)
      obtain ⟨_, y4, y3⟩ := World.cells?_some y1
      have e : ((List.range len).map C).getD i NodeD.zero = C i := by simp [List.getD, hi']
      refine ⟨b, o, cs', rfl, hb, fun j v hv => ?_, by rw [e]; exact y2⟩
      have hj : j < 3 := by rw [← y4]; exact (List.getElem?_eq_some_iff.1 hv).1
      have := y3 j hj
      rw [Addr.add_mid, Addr.add_mid, hv] at this
      exact this
    · simp only [List.mem_map, List.mem_range] at hc
      obtain ⟨i, hi, rfl⟩ := hc
      exact (hC i (by omega)).2

end
end Go.Proofs.Ytfjbdapblmlneaa

/-
  THE WALK over spec.l2Without.
-/
namespace Go.Proofs.Ytfjbdapblmlneaa
open Go.RowKit

set_option maxRecDepth 100000 in
set_option maxHeartbeats 3200000 in
theorem l2Without_any (w : World) (B cap : Nat) (l : List NodeD) (key : ByteArray) (hl : l.length ≤ 1048576) (hs : ∀ d ∈ l, d.steps.length ≤ 1048576 ∧ ∀ s ∈ d.steps, s.asks.length ≤ 1048576 ∧ s.cases.length ≤ 1048576) (hS : NodesNew w B l) :
    Calls Try.prog 54 #[.agg #[.slice (some ⟨B, 0, none⟩) l.length cap], .string key] w fun e w' => ∃ a c xs base, e = .returned (.agg #[.slice a (l.filter (otherN key.toList)).length c]) ∧ w.heap.size ≤ base ∧ w'.ownsRow base 60 3 (.slice a (l.filter (otherN key.toList)).length c) (l.filter (otherN key.toList)).length xs ∧ PackedN w' xs (l.filter (otherN key.toList)) ∧ Kept w w' := by
  go_enter Try.func54, Try.ntmps54
  go_wp2
  have k0 : Kept w (((w.alloc (.cells #[.slice (some ⟨B, 0, none⟩) l.length cap] 50)).alloc (.cells #[.slice none 0 0] 50)).alloc (.cells #[.slice none 0 0] 50)) := (((Kept.refl _).alloc _).alloc _).alloc _
  go_loopw [6] (fun i wr => ∃ (k m : Nat) (av : Option Addr) (cv : Nat) (xs : List Value), k ≤ l.length ∧ i = .int .i64 k ∧ Kept w wr ∧ w.heap.size + 3 ≤ wr.heap.size ∧ wr.cell? ⟨w.heap.size, 0, none⟩ = some (.slice (some ⟨B, 0, none⟩) l.length cap) ∧ RowT wr (w.heap.size + 1) 50 1 ∧ RowT wr (w.heap.size + 2) 50 1 ∧
      wr.cell? ⟨w.heap.size + 2, 0, none⟩ = some (.slice av m cv) ∧ m = ((l.take k).filter (otherN key.toList)).length ∧ wr.ownsRow (w.heap.size + 3) 60 3 (.slice av m cv) m xs ∧ PackedN wr xs ((l.take k).filter (otherN key.toList))) (fun i _ => l.length - (intOf i).toNat)
  case atStart =>
    have hO := range_new ((w.alloc (.cells #[.slice (some ⟨B, 0, none⟩) l.length cap] 50)).alloc (.cells #[.slice none 0 0] 50)) #[.slice none 0 0] 50
    simp only [World.size_alloc] at hO
    refine ⟨0, 0, none, 0, [], Nat.zero_le _, rfl, k0, ?_, ?_, ?_, ?_, hO 0 _ rfl, rfl, World.ownsRow_nil _ _ _ _, PackedN.nil _⟩
    · simp only [World.size_alloc]; omega
    · rw [Kept.cell (w := w.alloc (.cells #[.slice (some ⟨B, 0, none⟩) l.length cap] 50)) (((Kept.refl _).alloc _).alloc _) (by simp)]
      exact range_new w _ _ 0 _ rfl
    · exact RowT.kept (by have := RowT.made (w.alloc (.cells #[.slice (some ⟨B, 0, none⟩) l.length cap] 50)) #[.slice none 0 0] 50; simpa using this) ((Kept.refl _).alloc _)
    · have := RowT.made ((w.alloc (.cells #[.slice (some ⟨B, 0, none⟩) l.length cap] 50)).alloc (.cells #[.slice none 0 0] 50)) #[.slice none 0 0] 50
      simpa using this
  case round =>
    clear k0
    obtain ⟨k, m, av, cv, xs, hk, rfl, hw, hz, p0, hr1, hr2, o0, hm, hown, hP⟩ := hrel
    have hNs : w.heap.size < wr.heap.size := by omega
    have HR1 := hide hr1
    have HR2 := hide hr2
    have HOw := hide hown
    have HP := hide hP
    have HMe := hide hm
    have hml : m ≤ l.length := by rw [hm]; exact Nat.le_trans (List.length_filter_le _ _) (by rw [List.length_take]; omega)
    clear hr1 hr2 hown hP hm
    by_cases hlt : k < l.length
    · obtain ⟨b1, hb1, hrg, hSt⟩ := (hS.kept hw).2 k hlt
      have hBs : B < wr.heap.size := (hS.kept hw).1
      have hBw : B < w.heap.size := hS.1
      have hsz := hs (l.getD k NodeD.zero) (by simp [List.getD, hlt])
      have hfs := filter_take_succ (otherN key.toList) l k hlt
      obtain ⟨d, hdd⟩ : ∃ d, d = l.getD k NodeD.zero := ⟨_, rfl⟩
      rw [← hdd] at hrg hSt hsz hfs
      have HFs := hide hfs
      have c0 := hrg 0 _ rfl
      have c1 := hrg 1 _ rfl
      have c2 := hrg 2 _ rfl
      rw [Nat.add_zero] at c0
      clear hrg hdd hfs
      cases hne : (d.name.toList == key.toList)
      · have HSO : Hid (∀ w', Below (w.heap.size + 3) wr w' → w'.cell? ⟨w.heap.size + 2, 0, none⟩ = some (.slice av m cv) ∧ w'.cell? ⟨w.heap.size, 0, none⟩ = some (.slice (some ⟨B, 0, none⟩) l.length cap) ∧ w'.cell? ⟨B, k * 3, none⟩ = some (.string d.name) ∧ w'.cell? ⟨B, k * 3 + 1, none⟩ = some (.int .i64 d.cost) ∧ w'.cell? ⟨B, k * 3 + 2, none⟩ = some (.slice (some ⟨b1, 0, none⟩) d.steps.length d.steps.length)) := fun w' bl => ⟨(Below.cell bl (p := ⟨w.heap.size + 2, 0, none⟩) (by simp)).trans o0, (Below.cell bl (p := ⟨w.heap.size, 0, none⟩) (by simp <;> omega)).trans p0, (Below.cell bl (p := ⟨B, k * 3, none⟩) (by simp <;> omega)).trans c0, (Below.cell bl (p := ⟨B, k * 3 + 1, none⟩) (by simp <;> omega)).trans c1, (Below.cell bl (p := ⟨B, k * 3 + 2, none⟩) (by simp <;> omega)).trans c2⟩
        have hz2 : w.heap.size + 2 < wr.heap.size := by omega
        obtain ⟨ino, hn0, hn1, hn2, hn3⟩ := info_parts Try.infoNode
        go_wp2
        refine UpTo.region (by kernel_rfl) (fun w' => w'.cell? ⟨w.heap.size + 2, 0, none⟩ = some (.slice av m cv) ∧ w'.cell? ⟨w.heap.size, 0, none⟩ = some (.slice (some ⟨B, 0, none⟩) l.length cap) ∧ w'.cell? ⟨B, k * 3, none⟩ = some (.string d.name) ∧ w'.cell? ⟨B, k * 3 + 1, none⟩ = some (.int .i64 d.cost) ∧ w'.cell? ⟨B, k * 3 + 2, none⟩ = some (.slice (some ⟨b1, 0, none⟩) d.steps.length d.steps.length)) 19 ⟨o0, p0, c0, c1, c2⟩ (fun hHeld => ?_)
        refine UpTo.take 0 [1, 17, 19] (v := ?_) (by (simp only [List.getElem?_toArray, List.getElem?_cons_zero]; rfl)) (by kernel_rfl) (by kernel_rfl) (by kernel_rfl) (by kernel_rfl) (by exact fun _ _ _ h => h) (Or.inl ⟨by rfl, ?_⟩) hHeld ?_
        rotate_left
        · intro u hu
          try dsimp only at hu
          go_simp
          try with_reducible rfl
        try simp only [Act.put, List.setIfInBounds_toArray, List.set_cons_zero, List.set_cons_succ]
        refine UpTo.take 1 [17, 19] (v := ?_) (by (simp only [List.getElem?_toArray, List.getElem?_cons_succ, List.getElem?_cons_zero]; rfl)) (by kernel_rfl) (by kernel_rfl) (by kernel_rfl) (by kernel_rfl) (by exact fun _ _ _ h => h) (Or.inl ⟨by rfl, ?_⟩) hHeld ?_
        rotate_left
        · intro u hu
          try dsimp only at hu
          go_simp
          try with_reducible rfl
        try simp only [Act.put, List.setIfInBounds_toArray, List.set_cons_zero, List.set_cons_succ]
        refine UpTo.take 2 [3, 5, 6, 7, 15, 16, 17, 19] (v := ?_) (by (simp only [List.getElem?_toArray, List.getElem?_cons_succ, List.getElem?_cons_zero]; rfl)) (by kernel_rfl) (by kernel_rfl) (by kernel_rfl) (by kernel_rfl) (by exact fun _ _ _ h => h) (Or.inl ⟨by rfl, ?_⟩) hHeld ?_
        rotate_left
        · intro u hu
          try dsimp only at hu
          go_simp
          try with_reducible rfl
        try simp only [Act.put, List.setIfInBounds_toArray, List.set_cons_zero, List.set_cons_succ]
        refine UpTo.take 3 [5, 6, 7, 15, 16, 17, 19] (v := ?_) (by (simp only [List.getElem?_toArray, List.getElem?_cons_succ, List.getElem?_cons_zero]; rfl)) (by kernel_rfl) (by kernel_rfl) (by kernel_rfl) (by kernel_rfl) (by exact fun _ _ _ h => h) (Or.inl ⟨by rfl, ?_⟩) hHeld ?_
        rotate_left
        · intro u hu
          try dsimp only at hu
          go_simp
          try with_reducible rfl
        try simp only [Act.put, List.setIfInBounds_toArray, List.set_cons_zero, List.set_cons_succ]
        refine UpTo.take 4 [5, 6, 7, 15, 16, 17, 19] (v := ?_) (by (simp only [List.getElem?_toArray, List.getElem?_cons_succ, List.getElem?_cons_zero]; rfl)) (by kernel_rfl) (by kernel_rfl) (by kernel_rfl) (by kernel_rfl) (by exact fun _ _ _ h => h) (Or.inl ⟨by rfl, ?_⟩) hHeld ?_
        rotate_left
        · intro u hu
          try dsimp only at hu
          go_simp
          try with_reducible rfl
        try simp only [Act.put, List.setIfInBounds_toArray, List.set_cons_zero, List.set_cons_succ]
        refine UpTo.take 5 [6, 7, 15, 16, 17, 19] (v := ?_) (by (simp only [List.getElem?_toArray, List.getElem?_cons_succ, List.getElem?_cons_zero]; rfl)) (by kernel_rfl) (by kernel_rfl) (by kernel_rfl) (by kernel_rfl) (by exact fun _ _ _ h => h) (Or.inl ⟨by rfl, ?_⟩) hHeld ?_
        rotate_left
        · intro u hu
          try dsimp only at hu
          go_simp
          try with_reducible rfl
        try simp only [Act.put, List.setIfInBounds_toArray, List.set_cons_zero, List.set_cons_succ]
        refine UpTo.take 6 [7, 15, 16, 17, 19] (v := ?_) (by (simp only [List.getElem?_toArray, List.getElem?_cons_succ, List.getElem?_cons_zero]; rfl)) (by kernel_rfl) (by kernel_rfl) (by kernel_rfl) (by kernel_rfl) (by exact fun _ _ _ h => h) (Or.inl ⟨by rfl, ?_⟩) hHeld ?_
        rotate_left
        · intro u hu
          try dsimp only at hu
          go_simp
          try with_reducible rfl
        try simp only [Act.put, List.setIfInBounds_toArray, List.set_cons_zero, List.set_cons_succ]
        refine UpTo.take 7 [15, 16, 17, 19] (v := ?_) (by (simp only [List.getElem?_toArray, List.getElem?_cons_succ, List.getElem?_cons_zero]; rfl)) (by kernel_rfl) (by kernel_rfl) (by kernel_rfl) (by kernel_rfl) (by exact fun _ _ _ h => h) (Or.inl ⟨by rfl, ?_⟩) hHeld ?_
        rotate_left
        · intro u hu
          try dsimp only at hu
          go_simp
          try with_reducible rfl
        try simp only [Act.put, List.setIfInBounds_toArray, List.set_cons_zero, List.set_cons_succ]
        refine UpTo.take 8 [9, 11, 12, 13, 14, 15, 16, 17, 19] (v := ?_) (by (simp only [List.getElem?_toArray, List.getElem?_cons_succ, List.getElem?_cons_zero]; rfl)) (by kernel_rfl) (by kernel_rfl) (by kernel_rfl) (by kernel_rfl) (by exact fun _ _ _ h => h) (Or.inl ⟨by rfl, ?_⟩) hHeld ?_
        rotate_left
        · intro u hu
          try dsimp only at hu
          go_simp
          try with_reducible rfl
        try simp only [Act.put, List.setIfInBounds_toArray, List.set_cons_zero, List.set_cons_succ]
        refine UpTo.take 9 [11, 12, 13, 14, 15, 16, 17, 19] (v := ?_) (by (simp only [List.getElem?_toArray, List.getElem?_cons_succ, List.getElem?_cons_zero]; rfl)) (by kernel_rfl) (by kernel_rfl) (by kernel_rfl) (by kernel_rfl) (by exact fun _ _ _ h => h) (Or.inl ⟨by rfl, ?_⟩) hHeld ?_
        rotate_left
        · intro u hu
          try dsimp only at hu
          go_simp
          try with_reducible rfl
        try simp only [Act.put, List.setIfInBounds_toArray, List.set_cons_zero, List.set_cons_succ]
        refine UpTo.take 10 [11, 12, 13, 14, 15, 16, 17, 19] (v := ?_) (by (simp only [List.getElem?_toArray, List.getElem?_cons_succ, List.getElem?_cons_zero]; rfl)) (by kernel_rfl) (by kernel_rfl) (by kernel_rfl) (by kernel_rfl) (by exact fun _ _ _ h => h) (Or.inl ⟨by rfl, ?_⟩) hHeld ?_
        rotate_left
        · intro u hu
          try dsimp only at hu
          go_simp
          try with_reducible rfl
        try simp only [Act.put, List.setIfInBounds_toArray, List.set_cons_zero, List.set_cons_succ]
        refine UpTo.take 11 [12, 13, 14, 15, 16, 17, 19] (v := ?_) (by (simp only [List.getElem?_toArray, List.getElem?_cons_succ, List.getElem?_cons_zero]; rfl)) (by kernel_rfl) (by kernel_rfl) (by kernel_rfl) (by kernel_rfl) (by exact fun _ _ _ h => h) (Or.inl ⟨by rfl, ?_⟩) hHeld ?_
        rotate_left
        · intro u hu
          try dsimp only at hu
          go_simp
          try with_reducible rfl
        try simp only [Act.put, List.setIfInBounds_toArray, List.set_cons_zero, List.set_cons_succ]
        refine UpTo.take 12 [13, 14, 15, 16, 17, 19] (v := ?_) (by (simp only [List.getElem?_toArray, List.getElem?_cons_succ, List.getElem?_cons_zero]; rfl)) (by kernel_rfl) (by kernel_rfl) (by kernel_rfl) (by kernel_rfl) (by exact fun _ _ _ h => h) (Or.inl ⟨by rfl, ?_⟩) hHeld ?_
        rotate_left
        · intro u hu
          try dsimp only at hu
          go_simp
          try with_reducible rfl
        try simp only [Act.put, List.setIfInBounds_toArray, List.set_cons_zero, List.set_cons_succ]
        refine UpTo.take 13 [14, 15, 16, 17, 19] (v := ?_) (by (simp only [List.getElem?_toArray, List.getElem?_cons_succ, List.getElem?_cons_zero]; rfl)) (by kernel_rfl) (by kernel_rfl) (by kernel_rfl) (by kernel_rfl) (by exact fun _ _ _ h => h) (Or.inl ⟨by rfl, ?_⟩) hHeld ?_
        rotate_left
        · intro u hu
          try dsimp only at hu
          go_simp
          try with_reducible rfl
        try simp only [Act.put, List.setIfInBounds_toArray, List.set_cons_zero, List.set_cons_succ]
        refine UpTo.next 14 (by kernel_rfl) (by (simp only [List.getElem?_toArray, List.getElem?_cons_succ, List.getElem?_cons_zero]; rfl)) (fun K hK => ?_)
        rw [if_pos (by rfl)]
        go_simp
        go_at_call 55
        refine (l1Copy_lit _ d.cost b1 d.steps.length d.steps hsz.1 hsz.2 (hSt.kept (by repeat (first | apply Kept.drew | apply Kept.alloc | exact Kept.refl _)))).mono ?_
        rintro e w2 ⟨a2, ca2, rfl, hT2, k2⟩
        have kk : Kept wr w2 := Kept.trans (by repeat (first | apply Kept.drew | apply Kept.alloc | exact Kept.refl _)) k2
        have bl2 : Below (w.heap.size + 3) wr w2 := Below.mono kk (by omega)
        have hzz := kk.size
        have hz22 : w.heap.size + 2 < w2.heap.size := by omega
        have HT2 := hide hT2
        clear hT2 k2
        dsimp only
        refine hK.out _ _ (fun _ => HSO.out w2 bl2) ?_
        clear hK K hHeld
        have hHeld := HSO.out w2 bl2
        try simp only [Act.put, List.setIfInBounds_toArray, List.set_cons_zero, List.set_cons_succ]
        refine UpTo.take 15 [16, 17, 19] (v := ?_) (by (simp only [List.getElem?_toArray, List.getElem?_cons_succ, List.getElem?_cons_zero]; rfl)) (by kernel_rfl) (by kernel_rfl) (by kernel_rfl) (by kernel_rfl) (by exact fun _ _ _ h => h) (Or.inl ⟨by rfl, ?_⟩) hHeld ?_
        rotate_left
        · intro u hu
          try dsimp only at hu
          go_simp
          try with_reducible rfl
        try simp only [Act.put, List.setIfInBounds_toArray, List.set_cons_zero, List.set_cons_succ]
        refine UpTo.next 16 (by kernel_rfl) (by (simp only [List.getElem?_toArray, List.getElem?_cons_succ, List.getElem?_cons_zero]; rfl)) (fun K hK => ?_)
        go_simp
        have KW : Kept wr (w2.alloc (.cells #[.string d.name, .int .i64 d.cost, .slice a2 d.steps.length ca2] 60)) := kk.alloc _
        refine hK.out _ _ (fun _ => HSO.out _ (Below.mono KW (by omega))) ?_
        clear hK K hHeld
        try simp only [Act.put, List.setIfInBounds_toArray, List.set_cons_zero, List.set_cons_succ]
        refine UpTo.next 17 (by kernel_rfl) (by (simp only [List.getElem?_toArray, List.getElem?_cons_succ, List.getElem?_cons_zero]; rfl)) (fun K hK => ?_)
        refine step_append_lies _ rfl (.tmp 24) (.tmp 39) 48 rfl (w.heap.size + 3) 60 ino _ 3 48 Try.underlying48 hn0 hn1 hn2 hn3 rfl (by decide) (.slice av m cv) m xs (by simp [Act.eval]) (ownsRow_kept' HOw.out KW) ⟨w2.heap.size, 0, none⟩ 1 1 [.string d.name, .int .i64 d.cost, .slice a2 d.steps.length ca2] (by simp [Act.eval]) rfl (fun j u hu => by rw [Addr.add_mid]; exact range_new w2 #[.string d.name, .int .i64 d.cost, .slice a2 d.steps.length ca2] 60 j u (by simpa using hu)) (node_one d a2 ca2) (by omega) (by unfold maxLen; omega) (by omega) (by simp; omega) _ rfl ?_
        intro g cap3 w6 hown3 hgr3 hat hlt3
        have K2W : Kept w2 (w2.alloc (.cells #[.string d.name, .int .i64 d.cost, .slice a2 d.steps.length ca2] 60)) := (Kept.refl _).alloc _
        have hOW := ownsRow_kept' HOw.out KW
        have HAn := hide (AfterN.of hw hz KW p0 HR1.out HR2.out hOW hgr3)
        have HPk := hide (pack_next KW K2W HP.out HT2.out hOW hgr3)
        have HO3 := hide hown3
        have bl6 : Below (w.heap.size + 3) wr w6 := HAn.out.below
        have fo := HAn.out.out.row.at (i := 0) (by omega)
        have fo1 := fo.2
        obtain ⟨vo, fo2⟩ := fo.1
        clear fo KW K2W hOW hown3 hgr3 hat
        refine hK.out _ _ (fun _ => HSO.out _ bl6) ?_
        clear hK K
        try simp only [Act.put, List.setIfInBounds_toArray, List.set_cons_zero, List.set_cons_succ]
        have hHeld := HSO.out _ bl6
        refine UpTo.take 18 [19] (v := ?_) (by (simp only [List.getElem?_toArray, List.getElem?_cons_succ, List.getElem?_cons_zero]; rfl)) (by kernel_rfl) (by kernel_rfl) (by kernel_rfl) (by kernel_rfl) (by exact fun _ _ _ h => h) (Or.inl ⟨by rfl, ?_⟩) hHeld ?_
        rotate_left
        · intro u hu
          try dsimp only at hu
          go_simp
          try with_reducible rfl
        try simp only [Act.put, List.setIfInBounds_toArray, List.set_cons_zero, List.set_cons_succ]
        refine UpTo.next 19 (by kernel_rfl) (by (simp only [List.getElem?_toArray, List.getElem?_cons_succ, List.getElem?_cons_zero]; rfl)) (fun K hK => ?_)
        go_simp
        refine hK.out _ _ (fun h => absurd rfl h) ?_
        clear hK K
        try simp only [Act.put, List.setIfInBounds_toArray, List.set_cons_zero, List.set_cons_succ]
        refine UpTo.done (by kernel_rfl) ?_
        go_wp2
        go_roundw
        case rel =>
          have T3 := HAn.out
          have ef : (l.take (k + 1)).filter (otherN key.toList) = (l.take k).filter (otherN key.toList) ++ [d] := by rw [HFs.out, if_pos (by simp [otherN, hne])]
          refine ⟨k + 1, m + 1, _, cap3, _, by omega, by go_num, T3.kept.setCell (by simp <;> omega) _, by rw [size_setCell]; exact T3.size, ?_, T3.res.block (Below.heap_setCell _ _ _ _ (by simp)), T3.out.set _, set_hit T3.out.row (by omega) _, by rw [ef, List.length_append, ← HMe.out]; rfl, owns_set HO3.out (by simp) _, ?_⟩
          · rw [World.cell?_setCell_other _ _ _ _ (by simp)]; exact T3.arg
          · rw [ef]; exact HPk.out.same (T3.out.same _) (by decide) (by decide) (by decide)
        case measure => simp [intOf]; omega
      · go_wp2
        go_roundw
        case rel =>
          have e : (l.take (k + 1)).filter (otherN key.toList) = (l.take k).filter (otherN key.toList) := by rw [HFs.out, if_neg (by simp [otherN, hne])]; simp
          exact ⟨k + 1, m, av, cv, xs, by omega, by go_num, hw, hz, p0, HR1.out, HR2.out, o0, by rw [e]; exact HMe.out, HOw.out, by rw [e]; exact HP.out⟩
        case measure => simp [intOf]; omega
    · have hkl : k = l.length := by omega
      subst hkl
      rw [List.take_length] at HP HMe
      obtain ⟨⟨_, x0⟩, g0⟩ := HR1.out.row.at (i := 0) (by omega)
      go_wp2
      have hR := World.rangeAt_setCells_same wr (w.heap.size + 1) 0 [.slice av m cv] (HR1.out.row.there (o := 0) (m := 1) (Nat.le_refl _))
      have hO := owns_set HOw.out (p := ⟨w.heap.size + 1, 0, none⟩) (by simp) (.slice av m cv)
      have hPk := HP.out.same (HR1.out.same (o := 0) (.slice av m cv)) (by decide) (by decide) (by decide)
      have hme := HMe.out
      subst hme
      exact bodyPost_ret_cell [.slice av _ cv] _ Try.results54 rfl hR Try.underlying50 rfl Try.sizeWeb rfl ⟨av, cv, xs, w.heap.size + 3, rfl, by omega, hO, hPk, hw.setCell (by simp) _⟩

theorem l2wSaid : L2WSaid := fun w B cap l key hl hs hS => l2Without_any w B cap l key hl hs hS

end Go.Proofs.Ytfjbdapblmlneaa

/-
  'Rows.FnExactPutNodeSaid', PROVED.
-/
namespace Go.Proofs.Ytfjbdapblmlneaa
open Go.ChangeShapes Go.WideShapes Go.ChangeAt Go.RowKit Go.Joins Go.ChangeMaps

theorem Try.ownW : ownKnob Try.prog.godebug = none := by kernel_rfl
theorem Try.laidOutW : laidOutB Try.prog = true := by kernel_rfl
theorem Try.cellsLWeb : Try.prog.cellsOf 45 = 1 := by kernel_rfl

theorem array1 {cs : Array Value} (h : cs.size = 1) : ∃ v, cs = #[v] := by
  obtain ⟨l⟩ := cs
  match l, h with
  | [v], _ => exact ⟨v, rfl⟩

theorem Try.cellsLNodes : Try.prog.cellsOf 43 = 1 := by kernel_rfl

set_option maxRecDepth 100000 in
theorem putNodeLifted (os : Os) (started : os.Started) (H : Type) (enc : TypeId × Value → H) :
    ReturnsInHanded {} Try.checked os 6 .any (Rows.fnExactPutNodeSpec.pre6 enc Try.prog Try.f6 Rows.fnExactPutNodeRow.domain false) (Rows.fnExactPutNodeSpec.post enc Try.prog Try.f6 false true false false) := by
  refine returnsInHanded_of_change (C := Try.checked) Try.ownW started (by kernel_rfl) Try.func6
    (ChangeSpec.witness6 (enc := enc) (C := Try.checked) false ⟨#[], #[.agg #[.slice none 0 0], .agg #[.string ByteArray.empty, .int .i64 0, .slice none 0 0]], []⟩ 8 (by kernel_rfl) (by kernel_rfl) (by kernel_rfl) (by kernel_rfl)) ?_
  intro W base args ds gs before hval0 hW _ _
  have hval : ∀ (j : Nat) t v, Try.f6.params[j]? = some t → args[j]? = some v → Value.okWide Try.prog W .any base t v := hval0
  have hW' := hW
  obtain ⟨p, q, hA0, hV, rfl, hfz, hnd⟩ := hW
  have hA : DataW.TrodAll enc Try.prog W 0 (fun _ => true) true Try.f6.params.toList args.toList ds p := hA0
  rw [Try.params6] at hA hval
  obtain ⟨v0, vs0, d0, ds0, p0, q0, hargs, rfl, rfl, h0, r0⟩ := trodAll_cons hA
  obtain ⟨v1, vs1, d1, ds1, p1, q1, rfl, rfl, rfl, h1, r1⟩ := trodAll_cons r0
  obtain ⟨rfl, rfl, rfl⟩ := trodAll_nil r1
  obtain rfl : args = #[v0, v1] := by cases args; simp_all
  obtain ⟨rfl, rfl⟩ := trodVars_none hV
  have k0 := h0
  have lt0 : ∀ x ∈ p0, x.block < W.heap.size := by obtain ⟨m, hm⟩ := k0; exact DataW.trod_lt m _ _ _ hm
  have k1 := h1
  have lt1 : ∀ x ∈ p1, x.block < W.heap.size := by obtain ⟨m, hm⟩ := k1; exact DataW.trod_lt m _ _ _ hm
  obtain ⟨cs1, rfl, hsz1⟩ := okWide_struct Try.underlying55 (hval 1 55 v1 rfl rfl)
  obtain ⟨fuel1, hf1⟩ := h1
  obtain ⟨d, ⟨an, cn, ed, hSn⟩, hdf⟩ := readNode hf1
  obtain rfl : cs1 = #[.string d.name, .int .i64 d.cost, .slice an d.steps.length cn] := by
    have ed2 : cs1.toList = [.string d.name, .int .i64 d.cost, .slice an d.steps.length cn] := ed
    cases cs1
    simpa using ed2
  obtain ⟨cs, rfl, hsz⟩ := okWide_struct Try.underlying45 (hval 0 45 v0 rfl rfl)
  obtain ⟨fuel, hf0⟩ := h0
  obtain ⟨xs, n, _, _, hlen, hxl, hf⟩ := DataW.trod_struct Try.underlying45 hf0
  obtain ⟨v, rfl⟩ := array1 (hsz.trans Try.cellsLWeb)
  have f0 : DataW.trod enc Try.prog W 0 (fun _ => true) true n 43 (([v].drop 0).take (Try.prog.cellsOf 43)) = xs[0]? := hf 0 _ rfl
  rw [Try.cellsLNodes, List.getElem?_eq_getElem (by rw [hxl]; decide)] at f0
  obtain ⟨a, l, cap, e1, hS, hl, hs⟩ := readNodes f0
  simp only [List.drop_zero, List.take_succ_cons, List.take_zero, List.cons.injEq, and_true] at e1
  subst e1
  clear hA0 hval0
  refine (lawPut (hide l2wSaid) W a cap l d an cn hl hs hdf hS hSn).mono fun e W' ⟨he, bel⟩ => ?_
  subst he
  exact ⟨_, rfl, _, _, _, [], _, [], hW', trodAll_mk1 (shut_bool Try.underlying4 _), (trodAll_cons_mk (Below.trod Try.laidOutW (by kernel_rfl) (of_decide_eq_true (by kernel_rfl)) k0 bel lt0) (trodAll_cons_mk (Below.trod Try.laidOutW (by kernel_rfl) (of_decide_eq_true (by kernel_rfl)) k1 bel lt1) trodAll_mk0)), rfl, Below.frame bel _, fun h => by cases h⟩

theorem putNodeHolds : Rows.FnExactPutNodeSaid :=
  OpenClaim.holds_of_wide 6 Try.f6 rfl rfl rfl rfl rfl rfl rfl ⟨rfl, rfl, rfl, rfl, rfl⟩ rfl rfl rfl rfl rfl (by kernel_rfl) Try.func6 (by kernel_rfl)
    (of_decide_eq_true (by kernel_rfl)) (by unfold Func.isWrapper; first | (rw [if_pos (by decide +kernel)]; kernel_rfl) | (rw [if_neg (by decide +kernel)]; exact ⟨rfl, rfl⟩))
    (fun os started H enc _ => putNodeLifted os started H enc)

end Go.Proofs.Ytfjbdapblmlneaa
