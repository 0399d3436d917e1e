import Derived.Test.YtinkfgkjdaaeaaaGreatDoorKOPackN
import Derived.Test.YtinkfgkjdaaeaaaGreatDoorKFFmt2

namespace Go.Proofs.YtinkfgkjdaaeaaaGreatDoor
open Go.RowKit

def decL (n : Int) : List UInt8 := if n < 0 then [45, 49] else if n < 10 then [UInt8.ofNat (48 + n.toNat)] else [UInt8.ofNat (48 + n.toNat / 10), UInt8.ofNat (48 + n.toNat % 10)]

theorem decL_len (n : Int) : 1 ≤ (decL n).length ∧ (decL n).length ≤ 2 := by
  unfold decL
  split
  · simp
  · split <;> simp

def PlainB (c : UInt8) : Prop := 32 ≤ c.toNat ∧ c.toNat ≤ 126 ∧ c.toNat ≠ 34 ∧ c.toNat ≠ 92
instance (c : UInt8) : Decidable (PlainB c) := by unfold PlainB; infer_instance

def quoteB (c : UInt8) : List UInt8 := if PlainB c then [c] else 92 :: hexL 2 c.toNat

theorem quoteB_len (c : UInt8) : (quoteB c).length ≤ 3 := by
  unfold quoteB
  split
  · simp
  · simp [hexL_length]

def quotesL (l : List UInt8) : List UInt8 := l.flatMap quoteB
def quoteL (l : List UInt8) : List UInt8 := 34 :: (quotesL l ++ [34])

theorem quotesL_len : ∀ l : List UInt8, (quotesL l).length ≤ 3 * l.length
  | [] => by simp [quotesL]
  | c :: r => by
    have h1 := quoteB_len c
    have h2 := quotesL_len r
    simp only [quotesL, List.flatMap_cons, List.length_append, List.length_cons] at h2 ⊢
    omega
theorem quoteL_len (l : List UInt8) : (quoteL l).length ≤ 3 * l.length + 2 := by
  have := quotesL_len l
  simp only [quoteL, List.length_cons, List.length_append, List.length_nil]
  omega
theorem quotesL_take_succ (l : List UInt8) (k : Nat) (h : k < l.length) : quotesL (l.take (k + 1)) = quotesL (l.take k) ++ quoteB l[k] := by
  unfold quotesL
  rw [List.take_succ_eq_append_getElem h, List.flatMap_append, List.flatMap_singleton]

def namesL (l : List ByteArray) : List UInt8 := if l.length = 0 then [45] else Lib.join (texts l) [44]

def caseL (c : CaseD) : List UInt8 := [99, 97, 115, 101, 32] ++ decL c.goto ++ [32] ++ quoteL c.text.data.toList ++ [10]
def casesL (l : List CaseD) : List UInt8 := l.flatMap caseL
def askL (s : StepD) : List UInt8 := [97, 115, 107, 32] ++ namesL s.asks ++ [32, 111, 110, 32] ++ decL s.on ++ [32, 101, 108, 115, 101, 32] ++ decL s.els ++ [32, 102, 97, 108, 108, 32] ++ decL s.fall ++ [10]
def stepL (s : StepD) : List UInt8 :=
  if s.fin = true ∧ s.bad = true then [98, 97, 100, 32] ++ quoteL s.give.data.toList ++ [10]
  else if s.fin = true then [101, 110, 100, 32] ++ quoteL s.give.data.toList ++ [10]
  else askL s ++ casesL s.cases
def headL (d : NodeD) : List UInt8 := [110, 111, 100, 101, 32] ++ d.name.data.toList ++ [32] ++ decL d.cost ++ [10]
def stepsL (l : List StepD) : List UInt8 := l.flatMap stepL
def nodeL (d : NodeD) : List UInt8 := headL d ++ stepsL d.steps
def nodesL (l : List NodeD) : List UInt8 := l.flatMap nodeL

theorem casesL_take_succ (l : List CaseD) (k : Nat) (h : k < l.length) : casesL (l.take (k + 1)) = casesL (l.take k) ++ caseL (l.getD k CaseD.zero) := by
  have e : l.getD k CaseD.zero = l[k] := by simp [List.getD, h]
  unfold casesL
  rw [e, List.take_succ_eq_append_getElem h, List.flatMap_append, List.flatMap_singleton]
theorem stepsL_take_succ (l : List StepD) (k : Nat) (h : k < l.length) : stepsL (l.take (k + 1)) = stepsL (l.take k) ++ stepL (l.getD k StepD.zero) := by
  have e : l.getD k StepD.zero = l[k] := by simp [List.getD, h]
  unfold stepsL
  rw [e, List.take_succ_eq_append_getElem h, List.flatMap_append, List.flatMap_singleton]
theorem nodesL_take_succ (l : List NodeD) (k : Nat) (h : k < l.length) : nodesL (l.take (k + 1)) = nodesL (l.take k) ++ nodeL (l.getD k NodeD.zero) := by
  have e : l.getD k NodeD.zero = l[k] := by simp [List.getD, h]
  unfold nodesL
  rw [e, List.take_succ_eq_append_getElem h, List.flatMap_append, List.flatMap_singleton]

theorem flat_le {α : Type} (f : α → List UInt8) (n : Nat) : ∀ l : List α, (∀ x ∈ l, (f x).length ≤ n) → (l.flatMap f).length ≤ n * l.length
  | [], _ => by simp
  | x :: r, h => by
    have h1 := h x (by simp)
    have h2 := flat_le f n r (fun y hy => h y (by simp [hy]))
    simp only [List.flatMap_cons, List.length_append, List.length_cons, Nat.mul_succ]
    omega

theorem namesL_le {l : List ByteArray} (hl : l.length ≤ 5) (h : ∀ i, i < l.length → (l.getD i ByteArray.empty).size ≤ 20) : (namesL l).length ≤ 105 := by
  unfold namesL
  split
  · simp
  · have := join_le (texts l) 20 (fun t ht => by
      simp only [texts, List.mem_map] at ht
      obtain ⟨x, hx, rfl⟩ := ht
      obtain ⟨i, hi, rfl⟩ := List.getElem_of_mem hx
      have := h i hi
      simpa [List.getD, hi] using this)
    rw [texts_length] at this
    omega

theorem caseL_le {c : CaseD} (h : c.text.size ≤ 200) : (caseL c).length ≤ 700 := by
  have h1 := decL_len c.goto
  have h2 := quoteL_len c.text.data.toList
  have h3 : c.text.data.toList.length = c.text.size := by simp
  simp only [caseL, List.length_append, List.length_cons, List.length_nil]
  omega

theorem casesL_le {s : StepD} {n : Int} (h : CasesOk s n) (k : Nat) (hk : k ≤ 5) : (casesL (s.cases.take k)).length ≤ 3500 := by
  have := flat_le caseL 700 (s.cases.take k) (fun c hc => by
    have hm := List.mem_of_mem_take hc
    obtain ⟨i, hi, rfl⟩ := List.getElem_of_mem hm
    have := (h i hi).1
    simp only [List.getD, List.getElem?_eq_getElem hi, Option.getD_some] at this
    exact caseL_le this)
  have h2 : (s.cases.take k).length ≤ k := by simp; omega
  simp only [casesL]
  have h3 : 700 * (s.cases.take k).length ≤ 700 * 5 := Nat.mul_le_mul_left _ (by omega)
  omega

theorem askL_le {s : StepD} {n : Int} (h : FrontOk s n) : (askL s).length ≤ 140 := by
  have h0 := namesL_le h.2.2.1 (fun i hi => (h.2.2.2.1 i hi).1.2.1)
  have h1 := decL_len s.on
  have h2 := decL_len s.els
  have h3 := decL_len s.fall
  simp only [askL, List.length_append, List.length_cons, List.length_nil]
  omega

theorem stepL_le {s : StepD} {n : Int} (h : StepOk s n) : (stepL s).length ≤ 3700 := by
  unfold stepL
  have h3 : s.give.data.toList.length = s.give.size := by simp
  have h2 := quoteL_len s.give.data.toList
  split
  · rename_i g
    have := (h.1 g.1).2.2.2.2.2
    simp only [List.length_append, List.length_cons, List.length_nil]
    omega
  · split
    · rename_i g
      have := (h.1 g).2.2.2.2.2
      simp only [List.length_append, List.length_cons, List.length_nil]
      omega
    · rename_i g
      have hA := h.2 (by simpa using g)
      have h4 := askL_le hA.1
      have h5 := casesL_le hA.2 s.cases.length hA.1.2.2.2.2.1
      rw [List.take_length] at h5
      simp only [List.length_append]
      omega

theorem stepsL_le {l : List StepD} {n : Int} (h : ∀ i, i < l.length → StepOk (l.getD i StepD.zero) n) (hl : l.length ≤ 20) (k : Nat) : (stepsL (l.take k)).length ≤ 74000 := by
  have := flat_le stepL 3700 (l.take k) (fun c hc => by
    have hm := List.mem_of_mem_take hc
    obtain ⟨i, hi, rfl⟩ := List.getElem_of_mem hm
    have := h i hi
    simp only [List.getD, List.getElem?_eq_getElem hi, Option.getD_some] at this
    exact stepL_le this)
  have h2 : (l.take k).length ≤ 20 := by simp; omega
  simp only [stepsL]
  have h3 : 3700 * (l.take k).length ≤ 3700 * 20 := Nat.mul_le_mul_left _ h2
  omega

def NodeOk (d : NodeD) : Prop := NameOk d.name ∧ ActionOk ⟨d.cost, d.steps⟩

theorem headL_le {d : NodeD} (h : NodeOk d) : (headL d).length ≤ 40 := by
  have h1 := decL_len d.cost
  have h2 := h.1.2.1
  have h3 : d.name.data.toList.length = d.name.size := by simp
  simp only [headL, List.length_append, List.length_cons, List.length_nil]
  omega

theorem nodeL_le {d : NodeD} (h : NodeOk d) : (nodeL d).length ≤ 74100 := by
  have h1 := headL_le h
  have h2 := stepsL_le h.2.2.2 h.2.2.1.2 d.steps.length
  simp only [List.take_length] at h2
  simp only [nodeL, List.length_append]
  omega

def WebOkL (l : List NodeD) : Prop := l.length ≤ 60 ∧ ∀ i, i < l.length → NodeOk (l.getD i NodeD.zero)

theorem nodesL_le {l : List NodeD} (h : WebOkL l) (k : Nat) : (nodesL (l.take k)).length ≤ 4446000 := by
  have := flat_le nodeL 74100 (l.take k) (fun c hc => by
    have hm := List.mem_of_mem_take hc
    obtain ⟨i, hi, rfl⟩ := List.getElem_of_mem hm
    have := h.2 i hi
    simp only [List.getD, List.getElem?_eq_getElem hi, Option.getD_some] at this
    exact nodeL_le this)
  have h2 : (l.take k).length ≤ 60 := by have := h.1; simp; omega
  simp only [nodesL]
  have h3 : 74100 * (l.take k).length ≤ 74100 * 60 := Nat.mul_le_mul_left _ h2
  omega

def formL (l : List NodeD) : List UInt8 := if 100000 < (nodesL l).length then [] else nodesL l

theorem webOk_of_code {l : List NodeD} (h : WebCode l 0) : WebOkL l := by
  rcases h with ⟨_, h⟩ | ⟨_, _, h⟩ | ⟨_, _, _, h⟩ | ⟨_, _, _, _, h⟩ | ⟨h1, h2, _, h4, _⟩
  · cases h
  · cases h
  · cases h
  · cases h
  · refine ⟨by omega, fun i hi => ⟨?_, ?_⟩⟩
    · exact Classical.byContradiction fun g => h2 ⟨i, hi, g⟩
    · exact Classical.byContradiction fun g => h4 ⟨i, hi, g⟩

end Go.Proofs.YtinkfgkjdaaeaaaGreatDoor
