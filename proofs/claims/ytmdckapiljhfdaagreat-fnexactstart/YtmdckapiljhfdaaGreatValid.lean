import Derived.Test.YtmdckapiljhfdaaGreatData

/-
  WHAT IS VALID, said plainly: names, steps, actions. Nothing of the dump is named here.
-/
namespace Go.Proofs.YtmdckapiljhfdaaGreat
open Go.RowKit

/-- The call answers whether p. -/
def Says (e : Ending) (p : Prop) : Prop := ∃ r, e = .returned (.bool r) ∧ (r = true ↔ p)
theorem Says.yes {p : Prop} (h : p) : Says (.returned (.bool true)) p := ⟨true, rfl, by simp [h]⟩
theorem Says.no {p : Prop} (h : ¬ p) : Says (.returned (.bool false)) p := ⟨false, rfl, by simp [h]⟩
theorem Says.cases {e : Ending} {p : Prop} (h : Says e p) : (e = .returned (.bool true) ∧ p) ∨ (e = .returned (.bool false) ∧ ¬ p) := by
  obtain ⟨r, rfl, hr⟩ := h
  cases r
  · right; exact ⟨rfl, fun hp => by simpa using hr.2 hp⟩
  · left; exact ⟨rfl, hr.1 rfl⟩
theorem Says.dec (p : Prop) [Decidable p] : Says (.returned (.bool (decide p))) p := ⟨decide p, rfl, by simp⟩
theorem Says.congr {e : Ending} {p q : Prop} (h : Says e p) (hpq : p ↔ q) : Says e q := by
  obtain ⟨r, rfl, hr⟩ := h
  exact ⟨r, rfl, hr.trans hpq⟩

theorem bytes_eq {s t : ByteArray} : (t.toList == s.toList) = true ↔ t = s := by
  rw [ByteArray.toList_eq, ByteArray.toList_eq]
  constructor
  · intro h
    cases s; cases t
    simp at h
    simp [h]
  · rintro rfl
    simp
theorem bytes_ne {s t : ByteArray} (h : (t.toList == s.toList) = false) : t ≠ s := fun e => by rw [bytes_eq.2 e] at h; cases h

theorem empty_iff (s : ByteArray) : s.toList = [] ↔ s.size = 0 := by
  rw [ByteArray.toList_eq, ← List.length_eq_zero_iff, Array.length_toList]
  exact Iff.rfl

def GoodByte (c : UInt8) : Prop := 33 ≤ (c.toNat : Int) ∧ (c.toNat : Int) ≤ 126 ∧ (c.toNat : Int) ≠ 44

/-- A name. -/
def NameOk (s : ByteArray) : Prop := 1 ≤ s.size ∧ s.size ≤ 20 ∧ (s.toList == [45]) = false ∧ ∀ i (h : i < s.size), GoodByte s[i]

/-- Names, no two the same. -/
def NamesOk (l : List ByteArray) : Prop := ∀ i, i < l.length → NameOk (l.getD i ByteArray.empty) ∧ ∀ j, j < i → l.getD j ByteArray.empty ≠ l.getD i ByteArray.empty

def CaseOk (n : Int) (c : CaseD) : Prop := c.text.size ≤ 200 ∧ 0 ≤ c.goto ∧ c.goto < n

def EndOk (s : StepD) : Prop := s.asks.length = 0 ∧ s.on = 0 ∧ s.cases.length = 0 ∧ s.els = 0 ∧ s.fall = 0 ∧ s.give.size ≤ 30

def FrontOk (s : StepD) (n : Int) : Prop :=
  s.bad = false ∧ s.give.size = 0 ∧ s.asks.length ≤ 5 ∧ NamesOk s.asks ∧ s.cases.length ≤ 5 ∧ (0 ≤ s.els ∧ s.els < n) ∧ (-1 ≤ s.fall ∧ s.fall < n) ∧ (s.on = 0 ∨ (0 ≤ s.on ∧ s.on < s.asks.length))

def CaseOkAt (s : StepD) (n : Int) (i : Nat) : Prop := CaseOk n (s.cases.getD i CaseD.zero)

def CasesOk (s : StepD) (n : Int) : Prop := ∀ i, i < s.cases.length → CaseOkAt s n i

def AskOk (s : StepD) (n : Int) : Prop := FrontOk s n ∧ CasesOk s n

def StepOk (s : StepD) (n : Int) : Prop := (s.fin = true → EndOk s) ∧ (s.fin = false → AskOk s n)

def ActionOk (a : ActionD) : Prop := (1 ≤ a.cost ∧ a.cost ≤ 20) ∧ (1 ≤ a.steps.length ∧ a.steps.length ≤ 20) ∧ ∀ i, i < a.steps.length → StepOk (a.steps.getD i StepD.zero) a.steps.length

end Go.Proofs.YtmdckapiljhfdaaGreat
