import Derived.Test.YtjhemildijapmaaGreatDoorKReadN
import Derived.Test.YtjhemildijapmaaGreatDoorKVDo
namespace Go.Proofs.YtjhemildijapmaaGreatDoor
open Go.RowKit Go.Deep
section
variable {H : Type} {enc : TypeId × Value → H} {w : World} {base : Nat} {spare : Nat → Bool} {held : Bool}
theorem Tryz.cellsRun : Tryz.prog.cellsOf 79 = 7 := by kernel_rfl
theorem Tryz.cellsRuns : Tryz.prog.cellsOf 26 = 1 := by kernel_rfl
theorem list7 {l : List Value} (h : l.length = 7) : ∃ a b c d e f g, l = [a, b, c, d, e, f, g] := by
  match l, h with
  | [a, b, c, d, e, f, g], _ => exact ⟨a, b, c, d, e, f, g, rfl⟩
theorem readStrs0 {fuel : Nat} {cs : List Value} {x : DataW H × List MemPlace} (h : DataW.trod enc Tryz.prog w base spare held fuel 25 cs = some x) :
    ∃ a l cap, cs = [.slice a l.length cap] ∧ Strs w a l ∧ l.length ≤ maxLen ∧ (∀ s ∈ l, s.size ≤ maxLen) ∧ (a = none → cap = 0) := by
  obtain ⟨a, l, cap, h1, h2, h3, _, h4⟩ := readStrs h
  refine ⟨a, l, cap, h1, h2, h3, h4, fun e => ?_⟩
  rcases open_strs Tryz.underlying25 Tryz.underlying9 Tryz.cellsStr h with ⟨h5, _⟩ | ⟨a', len, cap', m, Sx, h5, _⟩
  · rw [h5] at h1
    simp only [List.cons.injEq, Value.slice.injEq, and_true] at h1
    exact h1.2.2.symm
  · rw [h5, e] at h1
    simp at h1
set_option maxRecDepth 100000 in
theorem readRun {fuel : Nat} {cs : List Value} {x : DataW H × List MemPlace} (h : DataW.trod enc Tryz.prog w base spare held fuel 79 cs = some x) :
    ∃ (r : RunX) (xa : Option Addr) (xc : Nat), cs = r.cells xa xc ∧ Strs w xa r.texts ∧ (xa = none → xc = 0) ∧ r.Fits := by
  obtain ⟨xs, n, _, _, hlen, hxl, hf⟩ := DataW.trod_struct Tryz.underlying79 h
  rw [Tryz.cellsRun] at hlen
  obtain ⟨v0, v1, v2, v3, v4, v5, v6, rfl⟩ := list7 hlen
  have f0 : DataW.trod enc Tryz.prog w base spare held n 9 (([v0, v1, v2, v3, v4, v5, v6].drop 0).take (Tryz.prog.cellsOf 9)) = xs[0]? := hf 0 _ rfl
  rw [Tryz.cellsStr, List.getElem?_eq_getElem (by rw [hxl]; decide)] at f0
  have f1 : DataW.trod enc Tryz.prog w base spare held n 4 (([v0, v1, v2, v3, v4, v5, v6].drop 1).take (Tryz.prog.cellsOf 4)) = xs[1]? := hf 1 _ rfl
  rw [Tryz.cellsBool, List.getElem?_eq_getElem (by rw [hxl]; decide)] at f1
  have f2 : DataW.trod enc Tryz.prog w base spare held n 4 (([v0, v1, v2, v3, v4, v5, v6].drop 2).take (Tryz.prog.cellsOf 4)) = xs[2]? := hf 2 _ rfl
  rw [Tryz.cellsBool, List.getElem?_eq_getElem (by rw [hxl]; decide)] at f2
  have f3 : DataW.trod enc Tryz.prog w base spare held n 9 (([v0, v1, v2, v3, v4, v5, v6].drop 3).take (Tryz.prog.cellsOf 9)) = xs[3]? := hf 3 _ rfl
  rw [Tryz.cellsStr, List.getElem?_eq_getElem (by rw [hxl]; decide)] at f3
  have f4 : DataW.trod enc Tryz.prog w base spare held n 3 (([v0, v1, v2, v3, v4, v5, v6].drop 4).take (Tryz.prog.cellsOf 3)) = xs[4]? := hf 4 _ rfl
  rw [Tryz.cellsInt, List.getElem?_eq_getElem (by rw [hxl]; decide)] at f4
  have f5 : DataW.trod enc Tryz.prog w base spare held n 3 (([v0, v1, v2, v3, v4, v5, v6].drop 5).take (Tryz.prog.cellsOf 3)) = xs[5]? := hf 5 _ rfl
  rw [Tryz.cellsInt, List.getElem?_eq_getElem (by rw [hxl]; decide)] at f5
  have f6 : DataW.trod enc Tryz.prog w base spare held n 25 (([v0, v1, v2, v3, v4, v5, v6].drop 6).take (Tryz.prog.cellsOf 25)) = xs[6]? := hf 6 _ rfl
  rw [Tryz.cellsStrs, List.getElem?_eq_getElem (by rw [hxl]; decide)] at f6
  obtain ⟨name, e0, _, hn⟩ := DataW.trod_string Tryz.underlying9 f0
  obtain ⟨ov, e1, _⟩ := DataW.trod_bool Tryz.underlying4 f1
  obtain ⟨fl, e2, _⟩ := DataW.trod_bool Tryz.underlying4 f2
  obtain ⟨tx, e3, _, ht⟩ := DataW.trod_string Tryz.underlying9 f3
  obtain ⟨at', e4, _, _⟩ := DataW.trod_int Tryz.underlying3 f4
  obtain ⟨vi, e5, _, _⟩ := DataW.trod_int Tryz.underlying3 f5
  obtain ⟨a, l, cap, e6, hS, hl, hs, hx⟩ := readStrs0 f6
  simp only [List.drop_zero, List.take_succ_cons, List.take_zero, List.drop_succ_cons, List.cons.injEq, and_true] at e0 e1 e2 e3 e4 e5 e6
  subst e0 e1 e2 e3 e4 e5 e6
  exact ⟨⟨name, ov, fl, tx, at', vi, l⟩, a, cap, rfl, hS, hx, ⟨hn, ht, hl, hs⟩⟩
theorem readRuns {fuel : Nat} {cs : List Value} {x : DataW H × List MemPlace} (h : DataW.trod enc Tryz.prog w base spare held fuel 26 cs = some x) :
    ∃ a l cap, cs = [.slice a l.length cap] ∧ RunsX w a l ∧ l.length ≤ maxLen ∧ ∀ r ∈ l, r.Fits := by
  rcases open_slice Tryz.underlying26 h with ⟨rfl, _⟩ | ⟨a, len, cap, m, n, D, Pl, rfl, _, hl, hm, hmm, _, hx⟩
  · exact ⟨none, [], 0, rfl, fun i hi => absurd hi (Nat.not_lt_zero _), Nat.zero_le _, fun s hs => by cases hs⟩
  · have hlm : len ≤ m := by rw [hmm]; split <;> omega
    obtain ⟨C, hC⟩ := @choose_lt RunX ⟨RunX.zero⟩ m (fun i c => (∃ cs' xa xc, w.cells? base (a.add (i * 7)) 7 = some cs' ∧ cs' = c.cells xa xc ∧ Strs w xa c.texts ∧ (xa = none → xc = 0)) ∧ c.Fits) (fun i hi => by
      obtain ⟨cs', h1, h2⟩ := hx i hi
      rw [Tryz.cellsRun] at h1
      obtain ⟨c, xa, xc, e, g1, g2, g3⟩ := readRun h2
      exact ⟨c, ⟨cs', xa, xc, h1, e, g1, g2⟩, g3⟩)
    refine ⟨some a, (List.range len).map C, cap, by simp, fun i hi => ?_, by simp; omega, fun c hc => ?_⟩
    · have hi' : i < len := by simpa using hi
      obtain ⟨⟨cs0, _, _, z1, _⟩, _⟩ := hC 0 (by omega)
      obtain ⟨_, z4, z3⟩ := World.cells?_some z1
      obtain ⟨b, o, rfl, hb⟩ := plain_addr (a := a) (v := cs0[0]'(by omega)) (by have := z3 0 (by decide); rw [List.getElem?_eq_getElem (by omega)] at this; simpa [Addr.add] using this)
      obtain ⟨⟨cs', xa, xc, y1, y2, y5, y6⟩, _⟩ := hC i (by omega)
      obtain ⟨_, y4, y3⟩ := World.cells?_some y1
      have e : ((List.range len).map C).getD i RunX.zero = C i := by simp [List.getD, hi']
      refine ⟨b, o, xa, xc, rfl, hb, fun j v hv => ?_, by rw [e]; exact y5, y6⟩
      rw [e, ← y2] at hv
      have hj : j < 7 := by rw [← y4]; exact (List.getElem?_eq_some_iff.1 hv).1
      have := y3 j hj
      rw [Addr.add_mid, Addr.add_mid, hv] at this
      exact this
    · simp only [List.mem_map, List.mem_range] at hc
      obtain ⟨i, hi, rfl⟩ := hc
      exact (hC i (by omega)).2
end
end Go.Proofs.YtjhemildijapmaaGreatDoor
