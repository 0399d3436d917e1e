import Derived.Test.YtlllckfifkgcnaaDoorData

/-
  LISTS THAT OWN THEIR MEMORY: each row in a block of its own, among the blocks from lo to hi. Nothing of the dump is named here.
-/
namespace Go.Proofs.YtlllckfifkgcnaaDoor
open Go.RowKit

/-- All blocks as they were, but those from lo to hi. -/
structure KeptBut (lo hi : Nat) (w w' : World) : Prop where
  os : w'.os = w.os
  tape : w'.tape = w.tape
  output : w'.output = w.output
  size : w.heap.size ≤ w'.heap.size
  block : ∀ k, k < w.heap.size → (k < lo ∨ hi ≤ k) → w'.heap[k]? = w.heap[k]?

theorem KeptBut.of_kept {lo hi : Nat} {w w' : World} (h : Kept w w') : KeptBut lo hi w w' := ⟨h.os, h.tape, h.output, h.size, fun k hk _ => h.block k hk⟩
theorem KeptBut.refl (lo hi : Nat) (w : World) : KeptBut lo hi w w := .of_kept (Kept.refl w)
theorem KeptBut.trans {lo hi : Nat} {a b c : World} (h : KeptBut lo hi a b) (k : KeptBut lo hi b c) : KeptBut lo hi a c :=
  ⟨k.os.trans h.os, k.tape.trans h.tape, k.output.trans h.output, Nat.le_trans h.size k.size, fun i hi' ho => (k.block i (Nat.lt_of_lt_of_le hi' h.size) ho).trans (h.block i hi' ho)⟩
theorem KeptBut.mono {lo hi lo' hi' : Nat} {a b : World} (h : KeptBut lo hi a b) (h1 : lo' ≤ lo) (h2 : hi ≤ hi') : KeptBut lo' hi' a b :=
  ⟨h.os, h.tape, h.output, h.size, fun k hk ho => h.block k hk (by omega)⟩
theorem KeptBut.drew {lo hi : Nat} {a b : World} (h : KeptBut lo hi a b) : KeptBut lo hi a b.drew := ⟨h.os, h.tape, h.output, h.size, h.block⟩
theorem KeptBut.drewN {lo hi : Nat} {a b : World} (h : KeptBut lo hi a b) (n : Nat) : KeptBut lo hi a (b.drewN n) := ⟨h.os, h.tape, h.output, h.size, h.block⟩
theorem KeptBut.alloc {lo hi : Nat} {a b : World} (h : KeptBut lo hi a b) (o : Obj) : KeptBut lo hi a (b.alloc o) := h.trans (.of_kept ((Kept.refl b).alloc o))
theorem KeptBut.setCell {lo hi : Nat} {a b : World} (h : KeptBut lo hi a b) {p : Addr} (h1 : lo ≤ p.block) (h2 : p.block < hi) (v : Value) : KeptBut lo hi a (b.setCell p v) :=
  ⟨h.os, h.tape, h.output, by rw [size_setCell]; exact h.size, fun k hk ho => by rw [Below.heap_setCell _ _ _ _ (by omega)]; exact h.block k hk ho⟩
/-- What was kept ahead of it is kept behind it, if the blocks that are written are new. -/
theorem KeptBut.kept {lo hi : Nat} {w a b : World} (h : KeptBut lo hi a b) (hk : Kept w a) (hlo : w.heap.size ≤ lo) : Kept w b :=
  ⟨h.os.trans hk.os, h.tape.trans hk.tape, h.output.trans hk.output, Nat.le_trans hk.size h.size, fun k hk' => (h.block k (Nat.lt_of_lt_of_le hk' hk.size) (by omega)).trans (hk.block k hk')⟩

/-- The blocks from lo to hi are as they were. -/
def Same (lo hi : Nat) (w w' : World) : Prop := ∀ b, lo ≤ b → b < hi → b < w.heap.size → w'.heap[b]? = w.heap[b]?

theorem Same.mono {lo hi lo' hi' : Nat} {w w' : World} (h : Same lo hi w w') (h1 : lo ≤ lo') (h2 : hi' ≤ hi) : Same lo' hi' w w' := fun b hb hb' hs => h b (by omega) (by omega) hs
theorem Kept.same {w w' : World} (h : Kept w w') (lo hi : Nat) : Same lo hi w w' := fun b _ _ hs => h.block b hs
theorem KeptBut.same {lo hi : Nat} {w w' : World} (h : KeptBut lo hi w w') {l2 h2 : Nat} (hd : h2 ≤ lo ∨ hi ≤ l2) : Same l2 h2 w w' := fun b _ _ hs => h.block b hs (by omega)
theorem Same.setCell {lo hi : Nat} (w : World) {p : Addr} (hp : p.block < lo ∨ hi ≤ p.block) (v : Value) : Same lo hi w (w.setCell p v) := fun b _ _ _ => Below.heap_setCell _ _ _ _ (by omega)

theorem Same.cell {lo hi : Nat} {w w' : World} (h : Same lo hi w w') {b o : Nat} (h1 : lo ≤ b) (h2 : b < hi) (h3 : b < w.heap.size) : w'.cell? ⟨b, o, none⟩ = w.cell? ⟨b, o, none⟩ := World.cell?_of_block (w := w) (h b h1 h2 h3)
theorem Same.row {lo hi : Nat} {w w' : World} (h : Same lo hi w w') {b n : Nat} (h1 : lo ≤ b) (h2 : b < hi) (hr : Row w b n) : Row w' b n := by
  have hl := hr.lt
  obtain ⟨t, f, hr⟩ := hr
  exact ⟨t, f, hr.of_block (h b h1 h2 hl)⟩
theorem Same.range {lo hi : Nat} {w w' : World} (h : Same lo hi w w') {b o : Nat} {cs : List Value} (h1 : lo ≤ b) (h2 : b < hi) (h3 : b < w.heap.size) (hr : w.rangeAt b o cs) : w'.rangeAt b o cs :=
  fun j v hv => by rw [h.cell h1 h2 h3]; exact hr j v hv

/-- The slice at a holds these strings, in a row of its own among the blocks from lo to hi. -/
def StrsIn (w : World) (lo hi : Nat) (a : Option Addr) (l : List ByteArray) : Prop :=
  l = [] ∨ ∃ b, a = some ⟨b, 0, none⟩ ∧ lo ≤ b ∧ b < hi ∧ Row w b l.length ∧ ∀ i, i < l.length → w.cell? ⟨b, i, none⟩ = some (.string (l.getD i ByteArray.empty))

theorem StrsIn.same {w w' : World} {lo hi : Nat} {a : Option Addr} {l : List ByteArray} (h : StrsIn w lo hi a l) (k : Same lo hi w w') : StrsIn w' lo hi a l := by
  rcases h with h | ⟨b, ha, h1, h2, hr, hc⟩
  · exact .inl h
  · exact .inr ⟨b, ha, h1, h2, k.row h1 h2 hr, fun i hi => by rw [k.cell h1 h2 hr.lt]; exact hc i hi⟩
theorem StrsIn.mono {w : World} {lo hi lo' hi' : Nat} {a : Option Addr} {l : List ByteArray} (h : StrsIn w lo hi a l) (h1 : lo' ≤ lo) (h2 : hi ≤ hi') : StrsIn w lo' hi' a l := by
  rcases h with h | ⟨b, ha, g1, g2, hr, hc⟩
  · exact .inl h
  · exact .inr ⟨b, ha, by omega, by omega, hr, hc⟩
theorem StrsIn.strs {w : World} {lo hi : Nat} {a : Option Addr} {l : List ByteArray} (h : StrsIn w lo hi a l) : Strs w a l := by
  rcases h with rfl | ⟨b, ha, h1, h2, hr, hc⟩
  · intro i hi
    simp at hi
  · intro i hi
    exact ⟨b, 0, ha, hr.lt, by rw [Nat.zero_add]; exact hc i hi⟩

/-- The slice at a holds these cases, in a row of its own. -/
def CasesIn (w : World) (lo hi : Nat) (a : Option Addr) (l : List CaseD) : Prop :=
  l = [] ∨ ∃ b, a = some ⟨b, 0, none⟩ ∧ lo ≤ b ∧ b < hi ∧ Row w b (l.length * 2) ∧ ∀ i, i < l.length → w.rangeAt b (i * 2) (l.getD i CaseD.zero).cells

theorem CasesIn.same {w w' : World} {lo hi : Nat} {a : Option Addr} {l : List CaseD} (h : CasesIn w lo hi a l) (k : Same lo hi w w') : CasesIn w' lo hi a l := by
  rcases h with h | ⟨b, ha, h1, h2, hr, hc⟩
  · exact .inl h
  · exact .inr ⟨b, ha, h1, h2, k.row h1 h2 hr, fun i hi => k.range h1 h2 hr.lt (hc i hi)⟩
theorem CasesIn.mono {w : World} {lo hi lo' hi' : Nat} {a : Option Addr} {l : List CaseD} (h : CasesIn w lo hi a l) (h1 : lo' ≤ lo) (h2 : hi ≤ hi') : CasesIn w lo' hi' a l := by
  rcases h with h | ⟨b, ha, g1, g2, hr, hc⟩
  · exact .inl h
  · exact .inr ⟨b, ha, by omega, by omega, hr, hc⟩
theorem CasesIn.cases {w : World} {lo hi : Nat} {a : Option Addr} {l : List CaseD} (h : CasesIn w lo hi a l) : Cases w a l := by
  rcases h with rfl | ⟨b, ha, h1, h2, hr, hc⟩
  · intro i hi
    simp at hi
  · intro i hi
    exact ⟨b, 0, ha, hr.lt, by rw [Nat.zero_add]; exact hc i hi⟩

/-- Element j of the row in block B is this step, its lists in rows of their own. -/
def StepIn (w : World) (B j lo hi : Nat) (s : StepD) : Prop :=
  ∃ aa ca ac cc mid, lo ≤ mid ∧ mid ≤ hi ∧ w.rangeAt B (j * 8) (s.cells aa ca ac cc) ∧ StrsIn w lo mid aa s.asks ∧ CasesIn w mid hi ac s.cases ∧ s.asks.length ≤ ca

theorem StepIn.same {w w' : World} {B j lo hi : Nat} {s : StepD} (h : StepIn w B j lo hi s) (k : Same lo hi w w') (hB : w'.rangeAt B (j * 8) = w.rangeAt B (j * 8)) : StepIn w' B j lo hi s := by
  obtain ⟨aa, ca, ac, cc, mid, h1, h2, h3, h4, h5, h6⟩ := h
  exact ⟨aa, ca, ac, cc, mid, h1, h2, by rw [hB]; exact h3, h4.same (k.mono (Nat.le_refl _) h2), h5.same (k.mono h1 (Nat.le_refl _)), h6⟩

/-- The slice at a holds these steps, in a row of its own; the lists of each in blocks of their own behind it. -/
def StepsIn (w : World) (lo hi : Nat) (a : Option Addr) (l : List StepD) : Prop :=
  l = [] ∨ ∃ (b : Nat) (c : Nat → Nat), a = some ⟨b, 0, none⟩ ∧ lo ≤ b ∧ b < c 0 ∧ c l.length ≤ hi ∧ Row w b (l.length * 8) ∧ (∀ i j, i ≤ j → c i ≤ c j) ∧ ∀ i, i < l.length → StepIn w b i (c i) (c (i + 1)) (l.getD i StepD.zero)

theorem rangeAt_of_block {w w' : World} {b : Nat} (h : w'.heap[b]? = w.heap[b]?) (o : Nat) : w'.rangeAt b o = w.rangeAt b o := by
  funext cs
  unfold World.rangeAt
  have hc : ∀ j, w'.cell? ⟨b, j, none⟩ = w.cell? ⟨b, j, none⟩ := fun j => World.cell?_of_block (w := w) h
  simp only [hc]

theorem StepsIn.same {w w' : World} {lo hi : Nat} {a : Option Addr} {l : List StepD} (h : StepsIn w lo hi a l) (k : Same lo hi w w') : StepsIn w' lo hi a l := by
  rcases h with h | ⟨b, c, ha, h1, h2, h3, hr, hm, hc⟩
  · exact .inl h
  · have hbh : b < hi := Nat.lt_of_lt_of_le h2 (Nat.le_trans (hm 0 _ (Nat.zero_le _)) h3)
    refine .inr ⟨b, c, ha, h1, h2, h3, k.row h1 hbh hr, hm, fun i hi' => (hc i hi').same (k.mono ?_ ?_) (rangeAt_of_block (k b h1 hbh hr.lt) _)⟩
    · have := hm 0 i (Nat.zero_le _); omega
    · have := hm (i + 1) l.length (by omega); omega
theorem StepsIn.mono {w : World} {lo hi lo' hi' : Nat} {a : Option Addr} {l : List StepD} (h : StepsIn w lo hi a l) (h1 : lo' ≤ lo) (h2 : hi ≤ hi') : StepsIn w lo' hi' a l := by
  rcases h with h | ⟨b, c, ha, g1, g2, g3, hr, hm, hc⟩
  · exact .inl h
  · exact .inr ⟨b, c, ha, by omega, g2, by omega, hr, hm, hc⟩
theorem StepsIn.steps {w : World} {lo hi : Nat} {a : Option Addr} {l : List StepD} (h : StepsIn w lo hi a l) : Steps w a l := by
  rcases h with rfl | ⟨b, c, ha, h1, h2, h3, hr, hm, hc⟩
  · intro i hi
    simp at hi
  · intro i hi
    obtain ⟨aa, ca, ac, cc, mid, g1, g2, g3, g4, g5, g6⟩ := hc i hi
    exact ⟨b, 0, _, ha, hr.lt, by rw [Nat.zero_add]; exact g3, aa, ca, ac, cc, rfl, g4.strs, g5.cases, g6⟩

end Go.Proofs.YtlllckfifkgcnaaDoor
