import Derived.Test.YtlllckfifkgcnaaDoorWConv
import Derived.Test.YtlllckfifkgcnaaDoorFPlain

/-
  THE WALK over spec.Finish.
-/
namespace Go.Proofs.YtlllckfifkgcnaaDoor
open Go.RowKit

def texts (l : List ByteArray) : List (List UInt8) := l.map (·.data.toList)
def finB (give : ByteArray) (l : List ByteArray) : ByteArray := ⟨(finishOf give.data.toList (texts l)).toArray⟩

theorem texts_length (l : List ByteArray) : (texts l).length = l.length := by simp [texts]
theorem texts_getD (l : List ByteArray) (k : Nat) (h : k < l.length) : (texts l).getD k [] = (l.getD k ByteArray.empty).data.toList := by simp [texts, List.getD, h]

theorem finB_none {give : ByteArray} {l : List ByteArray} (h : 30 < give.size ∨ 100 < l.length ∨ ∃ i, i < l.length ∧ 200 < (l.getD i ByteArray.empty).size) : finB give l = ByteArray.empty := by
  unfold finB finishOf
  rw [if_pos]
  · rfl
  · rcases h with h | h | ⟨i, h1, h2⟩
    · left; simpa using h
    · right; left; simpa [texts] using h
    · right; right
      refine ⟨(l.getD i ByteArray.empty).data.toList, ?_, by simpa using h2⟩
      simp [texts, List.getD, h1]
      exact ⟨_, List.getElem_mem h1, rfl⟩

/-- All is of the right size. -/
def FinFits (give : ByteArray) (l : List ByteArray) : Prop := give.size ≤ 30 ∧ l.length ≤ 100 ∧ ∀ i, i < l.length → (l.getD i ByteArray.empty).size ≤ 200

theorem FinFits.not {give : ByteArray} {l : List ByteArray} (h : FinFits give l) : ¬(30 < give.data.toList.length ∨ 100 < (texts l).length ∨ (∃ t ∈ texts l, 200 < t.length)) := by
  rintro (g | g | ⟨t, ht, g⟩)
  · have := h.1; simp at g; omega
  · have := h.2.1; simp [texts] at g; omega
  · simp only [texts, List.mem_map] at ht
    obtain ⟨x, hx, rfl⟩ := ht
    obtain ⟨i, hi, rfl⟩ := List.getElem_of_mem hx
    have := h.2.2 i hi
    simp [List.getD, hi] at this g
    omega

theorem finB_short {give : ByteArray} {l : List ByteArray} {b : ByteArray} (h : FinFits give l) (hb : b.data.toList = wholeOf give.data.toList (texts l)) (hs : b.size ≤ 200) : finB give l = b := by
  unfold finB finishOf
  rw [if_neg h.not, if_pos (by rw [← hb]; simpa using hs), ← hb]

theorem finB_long {give : ByteArray} {l : List ByteArray} {b : ByteArray} (h : FinFits give l) (hb : b.data.toList = wholeOf give.data.toList (texts l)) (hs : 200 < b.size) : finB give l = ⟨(35 :: hexL 16 (sumOf b.data.toList).toNat).toArray⟩ := by
  unfold finB finishOf
  rw [if_neg h.not, if_neg (by rw [← hb]; simp; omega), ← hb]

theorem ba_ext {a b : ByteArray} (h : a.data.toList = b.data.toList) : a = b := by
  cases a; cases b
  simp at h
  simp [h]
theorem ba_append (a b : ByteArray) : (a ++ b).data.toList = a.data.toList ++ b.data.toList := by simp [ByteArray.data_append]

theorem ret_str {a b : ByteArray} (h : a = b) : Ending.returned (.string a) = .returned (.string b) := by rw [h]

/-- One digit of the specification's table. -/
theorem tab_cut (n : Nat) (h : n < 16) : (((⟨#[48, 49, 50, 51, 52, 53, 54, 55, 56, 57, 97, 98, 99, 100, 101, 102]⟩ : ByteArray).extract n 16).extract 0 1).data.toList = [hexDig n] := by
  have : ∀ m : Fin 16, (((⟨#[48, 49, 50, 51, 52, 53, 54, 55, 56, 57, 97, 98, 99, 100, 101, 102]⟩ : ByteArray).extract m.val 16).extract 0 1).data.toList = [hexDig m.val] := by decide +kernel
  exact this ⟨n, h⟩

end Go.Proofs.YtlllckfifkgcnaaDoor
