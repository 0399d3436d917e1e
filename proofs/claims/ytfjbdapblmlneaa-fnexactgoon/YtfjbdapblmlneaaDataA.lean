import Derived.Test.YtfjbdapblmlneaaData

/-
  ANSWERS, and what it means that a world holds them. Nothing of the dump is named here.
-/
namespace Go.Proofs.Ytfjbdapblmlneaa
open Go.RowKit

structure AnswerD where
  fail : Bool
  text : ByteArray

def AnswerD.zero : AnswerD := ⟨false, ByteArray.empty⟩

/-- The cells of an answer. -/
def AnswerD.cells (c : AnswerD) : List Value := [.bool c.fail, .string c.text]

theorem AnswerD.one (c : AnswerD) : (#[.bool c.fail, .string c.text] : Array Value).all (·.oneCell') = true :=
  all_oneCell_toArray (cs := [.bool c.fail, .string c.text]) (by simp [Value.oneCell'])

/-- The slice that begins at a holds these answers. -/
def Answers (w : World) (a : Option Addr) (l : List AnswerD) : Prop :=
  ∀ i, i < l.length → ∃ b o, a = some ⟨b, o, none⟩ ∧ b < w.heap.size ∧ w.rangeAt b (o + i * 2) (l.getD i AnswerD.zero).cells

theorem Answers.kept {w w' : World} {a : Option Addr} {l : List AnswerD} (h : Answers w a l) (k : Kept w w') : Answers w' a l := by
  intro i hi
  obtain ⟨b, o, ha, hb, hc⟩ := h i hi
  exact ⟨b, o, ha, Nat.lt_of_lt_of_le hb k.size, k.range hb hc⟩

theorem Answers.setCell {w : World} {b o : Nat} {l : List AnswerD} (h : Answers w (some ⟨b, o, none⟩) l) {p : Addr} (hp : p.block ≠ b) (v : Value) : Answers (w.setCell p v) (some ⟨b, o, none⟩) l := by
  intro i hi
  obtain ⟨b', o', e, hb, hc⟩ := h i hi
  simp only [Option.some.injEq, Addr.mk.injEq, and_true] at e
  obtain ⟨rfl, rfl⟩ := e
  exact ⟨_, _, rfl, by rw [size_setCell]; exact hb, fun j u hu => by rw [World.cell?_setCell_other _ _ _ _ (fun e => hp (by rw [e]))]; exact hc j u hu⟩

theorem Answers.setCells {b o : Nat} {l : List AnswerD} {g : Nat} (hg : g ≠ b) : ∀ (vs : List Value) (k : Nat) {w : World}, Answers w (some ⟨b, o, none⟩) l → Answers (w.setCells g k vs) (some ⟨b, o, none⟩) l
  | [], _, _, h => h
  | v :: r, k, _, h => by
    rw [World.setCells]
    exact Answers.setCells hg r (k + 1) (h.setCell (p := ⟨g, k, none⟩) hg v)

end Go.Proofs.Ytfjbdapblmlneaa
