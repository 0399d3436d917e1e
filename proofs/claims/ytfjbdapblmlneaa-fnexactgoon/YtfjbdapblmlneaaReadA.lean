import Derived.Test.YtfjbdapblmlneaaRead
import Derived.Test.YtfjbdapblmlneaaDataA

/-
  FROM THE FORM's READING OF AN ARGUMENT TO THE PLAIN DATA: answers.
-/
namespace Go.Proofs.Ytfjbdapblmlneaa
open Go.RowKit Go.Deep

section
variable {H : Type} {enc : TypeId × Value → H} {w : World} {base : Nat} {spare : Nat → Bool} {held : Bool}

theorem Try.cellsAnswer : Try.prog.cellsOf 83 = 2 := by kernel_rfl

set_option maxRecDepth 100000 in
theorem readAnswer {fuel : Nat} {cs : List Value} {x : DataW H × List MemPlace} (h : DataW.trod enc Try.prog w base spare held fuel 83 cs = some x) :
    ∃ c : AnswerD, cs = c.cells ∧ c.text.size ≤ maxLen := by
  obtain ⟨xs, n, _, _, hlen, hxl, hf⟩ := DataW.trod_struct Try.underlying83 h
  rw [Try.cellsAnswer] at hlen
  obtain ⟨v0, v1, rfl⟩ := list2 hlen
  · skip
    have f0 : DataW.trod enc Try.prog w base spare held n 4 (([v0, v1].drop 0).take (Try.prog.cellsOf 4)) = xs[0]? := hf 0 _ rfl
    rw [Try.cellsBool, List.getElem?_eq_getElem (by rw [hxl]; decide)] at f0
    have f1 : DataW.trod enc Try.prog w base spare held n 9 (([v0, v1].drop 1).take (Try.prog.cellsOf 9)) = xs[1]? := hf 1 _ rfl
    rw [Try.cellsStr, List.getElem?_eq_getElem (by rw [hxl]; decide)] at f1
    obtain ⟨g, e0, _⟩ := DataW.trod_bool Try.underlying4 f0
    obtain ⟨s, e1, _, hs⟩ := DataW.trod_string Try.underlying9 f1
    simp only [List.drop_zero, List.take_succ_cons, List.take_zero, List.drop_succ_cons, List.cons.injEq, and_true] at e0 e1
    subst e0 e1
    exact ⟨⟨g, s⟩, rfl, hs⟩

theorem readAnswers {fuel : Nat} {cs : List Value} {x : DataW H × List MemPlace} (h : DataW.trod enc Try.prog w base spare held fuel 33 cs = some x) :
    ∃ a l cap, cs = [.slice a l.length cap] ∧ Answers w a l ∧ l.length ≤ maxLen ∧ ∀ c ∈ l, c.text.size ≤ maxLen := by
  rcases open_slice Try.underlying33 h with ⟨rfl, _⟩ | ⟨a, len, cap, m, n, D, Pl, rfl, _, hl, hm, hmm, _, hx⟩
  · exact ⟨none, [], 0, rfl, fun i hi => absurd hi (Nat.not_lt_zero _), Nat.zero_le _, fun s hs => by cases hs⟩
  · have hlm : len ≤ m := by rw [hmm]; split <;> omega
    obtain ⟨C, hC⟩ := @choose_lt AnswerD ⟨AnswerD.zero⟩ m (fun i c => (∃ cs', w.cells? base (a.add (i * 2)) 2 = some cs' ∧ cs' = c.cells) ∧ c.text.size ≤ maxLen) (fun i hi => by
      obtain ⟨cs', h1, h2⟩ := hx i hi
      rw [Try.cellsAnswer] at h1
      obtain ⟨c, e, g1⟩ := readAnswer h2
      exact ⟨c, ⟨cs', h1, e⟩, g1⟩)
    refine ⟨some a, (List.range len).map C, cap, by simp, fun i hi => ?_, by simp; omega, fun c hc => ?_⟩
    · have hi' : i < len := by simpa using hi
      obtain ⟨⟨cs0, z1, z2⟩, _⟩ := hC 0 (by omega)
      obtain ⟨_, _, z3⟩ := World.cells?_some z1
      obtain ⟨b, o, rfl, hb⟩ := plain_addr (by have := z3 0 (by decide); rw [z2] at this; simpa [Addr.add, AnswerD.cells] using this)
      refine ⟨b, o, rfl, hb, fun j v hv => ?_⟩
      obtain ⟨⟨cs', y1, y2⟩, _⟩ := hC i (by omega)
      obtain ⟨_, y4, y3⟩ := World.cells?_some y1
      have e : ((List.range len).map C).getD i AnswerD.zero = C i := by simp [List.getD, hi']
      rw [e, ← y2] at hv
      have hj : j < 2 := by rw [← y4]; exact (List.getElem?_eq_some_iff.1 hv).1
      have := y3 j hj
      rw [Addr.add_mid, Addr.add_mid, hv] at this
      exact this
    · simp only [List.mem_map, List.mem_range] at hc
      obtain ⟨i, hi, rfl⟩ := hc
      exact (hC i (by omega)).2

end
end Go.Proofs.Ytfjbdapblmlneaa
