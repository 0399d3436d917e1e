import Derived.Test.YtghipdfemoofhaaGreatDoorKValid
import Derived.OwnWalk

namespace Go.Proofs.YtghipdfemoofhaaGreatDoor
open Go.RowKit

structure KeptBut (lo hi : Nat) (w w' : World) : Prop where
  os : w'.os = w.os
  tape : w'.tape = w.tape
  output : w'.output = w.output
  size : w.heap.size ≤ w'.heap.size
  block : ∀ k, k < w.heap.size → (k < lo ∨ hi ≤ k) → w'.heap[k]? = w.heap[k]?

theorem KeptBut.of_kept {lo hi : Nat} {w w' : World} (h : Kept w w') : KeptBut lo hi w w' := ⟨h.os, h.tape, h.output, h.size, fun k hk _ => h.block k hk⟩
theorem KeptBut.refl (lo hi : Nat) (w : World) : KeptBut lo hi w w := .of_kept (Kept.refl w)
theorem KeptBut.trans {lo hi : Nat} {a b c : World} (h : KeptBut lo hi a b) (k : KeptBut lo hi b c) : KeptBut lo hi a c :=
  ⟨k.os.trans h.os, k.tape.trans h.tape, k.output.trans h.output, Nat.le_trans h.size k.size, fun i hi' ho => (k.block i (Nat.lt_of_lt_of_le hi' h.size) ho).trans (h.block i hi' ho)⟩
theorem KeptBut.mono {lo hi lo' hi' : Nat} {a b : World} (h : KeptBut lo hi a b) (h1 : lo' ≤ lo) (h2 : hi ≤ hi') : KeptBut lo' hi' a b :=
  ⟨h.os, h.tape, h.output, h.size, fun k hk ho => h.block k hk (by omega)⟩
theorem KeptBut.drew {lo hi : Nat} {a b : World} (h : KeptBut lo hi a b) : KeptBut lo hi a b.drew := ⟨h.os, h.tape, h.output, h.size, h.block⟩
theorem KeptBut.drewN {lo hi : Nat} {a b : World} (h : KeptBut lo hi a b) (n : Nat) : KeptBut lo hi a (b.drewN n) := ⟨h.os, h.tape, h.output, h.size, h.block⟩
theorem KeptBut.alloc {lo hi : Nat} {a b : World} (h : KeptBut lo hi a b) (o : Obj) : KeptBut lo hi a (b.alloc o) := h.trans (.of_kept ((Kept.refl b).alloc o))
theorem KeptBut.setCell {lo hi : Nat} {a b : World} (h : KeptBut lo hi a b) {p : Addr} (h1 : lo ≤ p.block) (h2 : p.block < hi) (v : Value) : KeptBut lo hi a (b.setCell p v) :=
  ⟨h.os, h.tape, h.output, by rw [size_setCell]; exact h.size, fun k hk ho => by rw [Below.heap_setCell _ _ _ _ (by omega)]; exact h.block k hk ho⟩
theorem KeptBut.kept {lo hi : Nat} {w a b : World} (h : KeptBut lo hi a b) (hk : Kept w a) (hlo : w.heap.size ≤ lo) : Kept w b :=
  ⟨h.os.trans hk.os, h.tape.trans hk.tape, h.output.trans hk.output, Nat.le_trans hk.size h.size, fun k hk' => (h.block k (Nat.lt_of_lt_of_le hk' hk.size) (by omega)).trans (hk.block k hk')⟩

def Same (lo hi : Nat) (w w' : World) : Prop := ∀ b, lo ≤ b → b < hi → b < w.heap.size → w'.heap[b]? = w.heap[b]?

theorem Same.mono {lo hi lo' hi' : Nat} {w w' : World} (h : Same lo hi w w') (h1 : lo ≤ lo') (h2 : hi' ≤ hi) : Same lo' hi' w w' := fun b hb hb' hs => h b (by omega) (by omega) hs
theorem Kept.same {w w' : World} (h : Kept w w') (lo hi : Nat) : Same lo hi w w' := fun b _ _ hs => h.block b hs
theorem KeptBut.same {lo hi : Nat} {w w' : World} (h : KeptBut lo hi w w') {l2 h2 : Nat} (hd : h2 ≤ lo ∨ hi ≤ l2) : Same l2 h2 w w' := fun b _ _ hs => h.block b hs (by omega)
theorem Same.setCell {lo hi : Nat} (w : World) {p : Addr} (hp : p.block < lo ∨ hi ≤ p.block) (v : Value) : Same lo hi w (w.setCell p v) := fun b _ _ _ => Below.heap_setCell _ _ _ _ (by omega)

theorem Same.cell {lo hi : Nat} {w w' : World} (h : Same lo hi w w') {b o : Nat} (h1 : lo ≤ b) (h2 : b < hi) (h3 : b < w.heap.size) : w'.cell? ⟨b, o, none⟩ = w.cell? ⟨b, o, none⟩ := World.cell?_of_block (w := w) (h b h1 h2 h3)
theorem Same.row {lo hi : Nat} {w w' : World} (h : Same lo hi w w') {b n : Nat} (h1 : lo ≤ b) (h2 : b < hi) (hr : Row w b n) : Row w' b n := by
  have hl := hr.lt
  obtain ⟨t, f, hr⟩ := hr
  exact ⟨t, f, hr.of_block (h b h1 h2 hl)⟩
theorem Same.range {lo hi : Nat} {w w' : World} (h : Same lo hi w w') {b o : Nat} {cs : List Value} (h1 : lo ≤ b) (h2 : b < hi) (h3 : b < w.heap.size) (hr : w.rangeAt b o cs) : w'.rangeAt b o cs :=
  fun j v hv => by rw [h.cell h1 h2 h3]; exact hr j v hv

def StrsIn (w : World) (lo hi : Nat) (a : Option Addr) (l : List ByteArray) : Prop :=
  l = [] ∨ ∃ b, a = some ⟨b, 0, none⟩ ∧ lo ≤ b ∧ b < hi ∧ Row w b l.length ∧ ∀ i, i < l.length → w.cell? ⟨b, i, none⟩ = some (.string (l.getD i ByteArray.empty))

theorem StrsIn.same {w w' : World} {lo hi : Nat} {a : Option Addr} {l : List ByteArray} (h : StrsIn w lo hi a l) (k : Same lo hi w w') : StrsIn w' lo hi a l := by
  rcases h with h | ⟨b, ha, h1, h2, hr, hc⟩
  · exact .inl h
  · exact .inr ⟨b, ha, h1, h2, k.row h1 h2 hr, fun i hi => by rw [k.cell h1 h2 hr.lt]; exact hc i hi⟩
theorem StrsIn.mono {w : World} {lo hi lo' hi' : Nat} {a : Option Addr} {l : List ByteArray} (h : StrsIn w lo hi a l) (h1 : lo' ≤ lo) (h2 : hi ≤ hi') : StrsIn w lo' hi' a l := by
  rcases h with h | ⟨b, ha, g1, g2, hr, hc⟩
  · exact .inl h
  · exact .inr ⟨b, ha, by omega, by omega, hr, hc⟩
theorem StrsIn.strs {w : World} {lo hi : Nat} {a : Option Addr} {l : List ByteArray} (h : StrsIn w lo hi a l) : Strs w a l := by
  rcases h with rfl | ⟨b, ha, h1, h2, hr, hc⟩
  · intro i hi
    simp at hi
  · intro i hi
    exact ⟨b, 0, ha, hr.lt, by rw [Nat.zero_add]; exact hc i hi⟩

def CasesIn (w : World) (lo hi : Nat) (a : Option Addr) (l : List CaseD) : Prop :=
  l = [] ∨ ∃ b, a = some ⟨b, 0, none⟩ ∧ lo ≤ b ∧ b < hi ∧ Row w b (l.length * 2) ∧ ∀ i, i < l.length → w.rangeAt b (i * 2) (l.getD i CaseD.zero).cells

theorem CasesIn.same {w w' : World} {lo hi : Nat} {a : Option Addr} {l : List CaseD} (h : CasesIn w lo hi a l) (k : Same lo hi w w') : CasesIn w' lo hi a l := by
  rcases h with h | ⟨b, ha, h1, h2, hr, hc⟩
  · exact .inl h
  · exact .inr ⟨b, ha, h1, h2, k.row h1 h2 hr, fun i hi => k.range h1 h2 hr.lt (hc i hi)⟩
theorem CasesIn.mono {w : World} {lo hi lo' hi' : Nat} {a : Option Addr} {l : List CaseD} (h : CasesIn w lo hi a l) (h1 : lo' ≤ lo) (h2 : hi ≤ hi') : CasesIn w lo' hi' a l := by
  rcases h with h | ⟨b, ha, g1, g2, hr, hc⟩
  · exact .inl h
  · exact .inr ⟨b, ha, by omega, by omega, hr, hc⟩
theorem CasesIn.cases {w : World} {lo hi : Nat} {a : Option Addr} {l : List CaseD} (h : CasesIn w lo hi a l) : Cases w a l := by
  rcases h with rfl | ⟨b, ha, h1, h2, hr, hc⟩
  · intro i hi
    simp at hi
  · intro i hi
    exact ⟨b, 0, ha, hr.lt, by rw [Nat.zero_add]; exact hc i hi⟩

def StepIn (w : World) (B j lo hi : Nat) (s : StepD) : Prop :=
  ∃ aa ca ac cc mid, lo ≤ mid ∧ mid ≤ hi ∧ w.rangeAt B (j * 8) (s.cells aa ca ac cc) ∧ StrsIn w lo mid aa s.asks ∧ CasesIn w mid hi ac s.cases ∧ s.asks.length ≤ ca

theorem StepIn.same {w w' : World} {B j lo hi : Nat} {s : StepD} (h : StepIn w B j lo hi s) (k : Same lo hi w w') (hB : w'.rangeAt B (j * 8) = w.rangeAt B (j * 8)) : StepIn w' B j lo hi s := by
  obtain ⟨aa, ca, ac, cc, mid, h1, h2, h3, h4, h5, h6⟩ := h
  exact ⟨aa, ca, ac, cc, mid, h1, h2, by rw [hB]; exact h3, h4.same (k.mono (Nat.le_refl _) h2), h5.same (k.mono h1 (Nat.le_refl _)), h6⟩

def StepsIn (w : World) (lo hi : Nat) (a : Option Addr) (l : List StepD) : Prop :=
  l = [] ∨ ∃ (b : Nat) (c : Nat → Nat), a = some ⟨b, 0, none⟩ ∧ lo ≤ b ∧ b < c 0 ∧ c l.length ≤ hi ∧ Row w b (l.length * 8) ∧ (∀ i j, i ≤ j → c i ≤ c j) ∧ ∀ i, i < l.length → StepIn w b i (c i) (c (i + 1)) (l.getD i StepD.zero)

theorem rangeAt_of_block {w w' : World} {b : Nat} (h : w'.heap[b]? = w.heap[b]?) (o : Nat) : w'.rangeAt b o = w.rangeAt b o := by
  funext cs
  unfold World.rangeAt
  have hc : ∀ j, w'.cell? ⟨b, j, none⟩ = w.cell? ⟨b, j, none⟩ := fun j => World.cell?_of_block (w := w) h
  simp only [hc]

theorem StepsIn.same {w w' : World} {lo hi : Nat} {a : Option Addr} {l : List StepD} (h : StepsIn w lo hi a l) (k : Same lo hi w w') : StepsIn w' lo hi a l := by
  rcases h with h | ⟨b, c, ha, h1, h2, h3, hr, hm, hc⟩
  · exact .inl h
  · have hbh : b < hi := Nat.lt_of_lt_of_le h2 (Nat.le_trans (hm 0 _ (Nat.zero_le _)) h3)
    refine .inr ⟨b, c, ha, h1, h2, h3, k.row h1 hbh hr, hm, fun i hi' => (hc i hi').same (k.mono ?_ ?_) (rangeAt_of_block (k b h1 hbh hr.lt) _)⟩
    · have := hm 0 i (Nat.zero_le _); omega
    · have := hm (i + 1) l.length (by omega); omega
theorem StepsIn.mono {w : World} {lo hi lo' hi' : Nat} {a : Option Addr} {l : List StepD} (h : StepsIn w lo hi a l) (h1 : lo' ≤ lo) (h2 : hi ≤ hi') : StepsIn w lo' hi' a l := by
  rcases h with h | ⟨b, c, ha, g1, g2, g3, hr, hm, hc⟩
  · exact .inl h
  · exact .inr ⟨b, c, ha, by omega, g2, by omega, hr, hm, hc⟩
theorem StepsIn.steps {w : World} {lo hi : Nat} {a : Option Addr} {l : List StepD} (h : StepsIn w lo hi a l) : Steps w a l := by
  rcases h with rfl | ⟨b, c, ha, h1, h2, h3, hr, hm, hc⟩
  · intro i hi
    simp at hi
  · intro i hi
    obtain ⟨aa, ca, ac, cc, mid, g1, g2, g3, g4, g5, g6⟩ := hc i hi
    exact ⟨b, 0, _, ha, hr.lt, by rw [Nat.zero_add]; exact g3, aa, ca, ac, cc, rfl, g4.strs, g5.cases, g6⟩

end Go.Proofs.YtghipdfemoofhaaGreatDoor

namespace Go.Proofs.YtghipdfemoofhaaGreatDoor
open Go.RowKit

theorem Row.at {w : World} {b n i : Nat} (h : Row w b n) (hi : i < n) : (∃ v, w.cell? ⟨b, i, none⟩ = some v) ∧ w.frozen? ⟨b, i, none⟩ = false := by
  obtain ⟨t, f, h⟩ := h
  exact ⟨⟨_, h.cell hi⟩, h.frozen i⟩
theorem set_hit {w : World} {b n o : Nat} (h : Row w b n) (ho : o < n) (v : Value) : (w.setCell ⟨b, o, none⟩ v).cell? ⟨b, o, none⟩ = some v := by
  obtain ⟨⟨old, hc⟩, _⟩ := h.at ho
  exact World.cell?_setCell_same _ _ _ hc
theorem set_miss {w : World} {b o p : Nat} (hn : o ≠ p) (v : Value) : (w.setCell ⟨b, o, none⟩ v).cell? ⟨b, p, none⟩ = w.cell? ⟨b, p, none⟩ :=
  World.cell?_setCell_other _ _ _ _ (by simp <;> omega)
theorem ownsRow_kept' {w w' : World} {base size : Nat} {e : TypeId} {v : Value} {n : Nat} {xs : List Value} (h : w.ownsRow base e size v n xs) (k : Kept w w') : w'.ownsRow base e size v n xs :=
  h.kept (row := none) ⟨k.os, k.tape, k.output, k.size, fun i hi _ => k.block i hi⟩ (by cases v.ownBlock <;> simp)
theorem owns_set {w : World} {base size : Nat} {e : TypeId} {v : Value} {n : Nat} {xs : List Value} (h : w.ownsRow base e size v n xs) {p : Addr} (hp : p.block < base) (u : Value) : (w.setCell p u).ownsRow base e size v n xs := by
  refine ⟨h.1, ?_⟩
  rcases h.2 with h2 | ⟨g, cap, cur, rfl, hb, hg, rest⟩
  · exact .inl h2
  · exact .inr ⟨g, cap, cur, rfl, hb, by rw [Below.heap_setCell _ _ _ _ (by omega)]; exact hg, rest⟩
theorem kept_of_grown {w0 w w' : World} {v : Value} {base : Nat} {e : TypeId} {n : Nat} {xs : List Value} {size : Nat} (k : Kept w0 w) (hb : w0.heap.size ≤ base) (h : w.ownsRow base e size v n xs) (g : w.grownBy w' v.ownBlock) : Kept w0 w' :=
  Below.grown k g k.size (fun b hb' => Nat.le_trans hb (h.lt b hb').1)
theorem owns_base {w : World} {base base' size : Nat} {e : TypeId} {v : Value} {n : Nat} {xs : List Value} (h : w.ownsRow base e size v n xs) (hb : base' ≤ base) : w.ownsRow base' e size v n xs := by
  refine ⟨h.1, ?_⟩
  rcases h.2 with h2 | ⟨g, cap, cur, rfl, hb', rest⟩
  · exact .inl h2
  · exact .inr ⟨g, cap, cur, rfl, Nat.le_trans hb hb', rest⟩
theorem KeptBut.of_grown {W w2 : World} {g : Nat} (h : W.grownBy w2 (some g)) : KeptBut g (g + 1) W w2 :=
  ⟨h.os, h.tape, h.output, h.size, fun k hk ho => h.block k hk (by simp; omega)⟩
def SameKind (t : TypeId) (w w' : World) : Prop := ∀ (b : Nat) (cur : Array Value) (u : TypeId) (fr : Nat × Nat), u ≠ t → w.heap[b]? = some (Obj.cells cur u fr) → w'.heap[b]? = some (Obj.cells cur u fr)
theorem heap_lt {w : World} {b : Nat} {o : Obj} (h : w.heap[b]? = some o) : b < w.heap.size := (Array.getElem?_eq_some_iff.1 h).1
theorem SameKind.refl (t : TypeId) (w : World) : SameKind t w w := fun _ _ _ _ _ h => h
theorem SameKind.trans {t : TypeId} {a b c : World} (h : SameKind t a b) (k : SameKind t b c) : SameKind t a c := fun x cur u fr hu hb => k x cur u fr hu (h x cur u fr hu hb)
theorem SameKind.of_kept {t : TypeId} {w w' : World} (h : Kept w w') : SameKind t w w' := fun b cur u fr _ hb => by rw [h.block b (heap_lt hb)]; exact hb
theorem SameKind.of_grown {t : TypeId} {w w' : World} {v : Value} {base n size : Nat} {xs : List Value} (h : w.ownsRow base t size v n xs) (g : w.grownBy w' v.ownBlock) : SameKind t w w' := by
  intro b cur u fr hu hb
  rw [g.block b (heap_lt hb) ?_]
  · exact hb
  · intro e
    rcases h.2 with ⟨rfl, _⟩ | ⟨g', cap, cur', rfl, _, hg', _⟩
    · simp [Value.ownBlock] at e
    · simp only [Value.ownBlock, Option.some.injEq] at e
      subst e
      rw [hb] at hg'
      simp only [Option.some.injEq, Obj.cells.injEq] at hg'
      exact hu hg'.2.1
theorem SameKind.setCell {t : TypeId} {w : World} {p : Addr} {cur : Array Value} {fr : Nat × Nat} (h : w.heap[p.block]? = some (Obj.cells cur t fr)) (v : Value) : SameKind t w (w.setCell p v) := by
  intro b cur' u fr' hu hb
  rw [Below.heap_setCell _ _ _ _ ?_]
  · exact hb
  · intro e
    rw [e, h] at hb
    simp only [Option.some.injEq, Obj.cells.injEq] at hb
    exact hu hb.2.1.symm
def RowT (w : World) (b : Nat) (t : TypeId) (n : Nat) : Prop := ∃ cur : Array Value, w.heap[b]? = some (Obj.cells cur t (0, 0)) ∧ cur.size = n
theorem RowT.row {w : World} {b n : Nat} {t : TypeId} (h : RowT w b t n) : Row w b n := by
  obtain ⟨cur, h1, h2⟩ := h
  exact ⟨t, fun i => cur.getD i undef, cur, h1, h2, fun i hi => by simp [Array.getD, h2, hi]⟩
theorem RowT.made (w : World) (c : Array Value) (t : TypeId) : RowT (w.alloc (.cells c t)) w.heap.size t c.size := ⟨c, heap_alloc_new w _, rfl⟩
theorem RowT.block {w w' : World} {b n : Nat} {t : TypeId} (h : RowT w b t n) (k : w'.heap[b]? = w.heap[b]?) : RowT w' b t n := by
  obtain ⟨cur, h1, h2⟩ := h
  exact ⟨cur, k.trans h1, h2⟩
theorem RowT.lt {w : World} {b n : Nat} {t : TypeId} (h : RowT w b t n) : b < w.heap.size := let ⟨_, h1, _⟩ := h; heap_lt h1
theorem RowT.kept {w w' : World} {b n : Nat} {t : TypeId} (h : RowT w b t n) (k : Kept w w') : RowT w' b t n := h.block (k.block b h.lt)
theorem RowT.set {w : World} {b n o : Nat} {t : TypeId} (h : RowT w b t n) (v : Value) : RowT (w.setCell ⟨b, o, none⟩ v) b t n := by
  obtain ⟨cur, h1, h2⟩ := h
  obtain ⟨t', f', c', g1, g2, _⟩ := (RowT.row ⟨cur, h1, h2⟩).set ⟨b, o, none⟩ rfl v
  have : t' = t := by
    simp only [World.setCell] at g1
    simp [Array.getElem?_modify, h1] at g1
    exact g1.2.symm
  subst this
  exact ⟨c', g1, g2⟩
theorem RowT.same {w : World} {b n o : Nat} {t : TypeId} (h : RowT w b t n) (v : Value) : SameKind t w (w.setCell ⟨b, o, none⟩ v) := by
  obtain ⟨cur, h1, _⟩ := h
  exact SameKind.setCell (p := ⟨b, o, none⟩) h1 v
def TStrs (w : World) (t : TypeId) (a : Option Addr) (l : List ByteArray) : Prop :=
  l = [] ∨ ∃ b cur fr, a = some ⟨b, 0, none⟩ ∧ w.heap[b]? = some (Obj.cells cur t fr) ∧ ∀ i, i < l.length → w.cell? ⟨b, i, none⟩ = some (.string (l.getD i ByteArray.empty))
def TCases (w : World) (t : TypeId) (a : Option Addr) (l : List CaseD) : Prop :=
  l = [] ∨ ∃ b cur fr, a = some ⟨b, 0, none⟩ ∧ w.heap[b]? = some (Obj.cells cur t fr) ∧ ∀ i, i < l.length → w.rangeAt b (i * 2) (l.getD i CaseD.zero).cells
theorem TStrs.same {w w' : World} {t u : TypeId} {a : Option Addr} {l : List ByteArray} (h : TStrs w t a l) (k : SameKind u w w') (hu : t ≠ u) : TStrs w' t a l := by
  rcases h with h | ⟨b, cur, fr, ha, hb, hc⟩
  · exact .inl h
  · have hb' := k b cur t fr hu hb
    exact .inr ⟨b, cur, fr, ha, hb', fun i hi => by rw [World.cell?_of_block (w := w) (hb'.trans hb.symm)]; exact hc i hi⟩
theorem TStrs.strs {w : World} {t : TypeId} {a : Option Addr} {l : List ByteArray} (h : TStrs w t a l) : Strs w a l := by
  rcases h with rfl | ⟨b, cur, fr, ha, hb, hc⟩
  · intro i hi; simp at hi
  · exact fun i hi => ⟨b, 0, ha, heap_lt hb, by rw [Nat.zero_add]; exact hc i hi⟩
theorem TCases.same {w w' : World} {t u : TypeId} {a : Option Addr} {l : List CaseD} (h : TCases w t a l) (k : SameKind u w w') (hu : t ≠ u) : TCases w' t a l := by
  rcases h with h | ⟨b, cur, fr, ha, hb, hc⟩
  · exact .inl h
  · have hb' := k b cur t fr hu hb
    exact .inr ⟨b, cur, fr, ha, hb', fun i hi j v hv => by rw [World.cell?_of_block (w := w) (hb'.trans hb.symm)]; exact hc i hi j v hv⟩
theorem TCases.cases {w : World} {t : TypeId} {a : Option Addr} {l : List CaseD} (h : TCases w t a l) : Cases w a l := by
  rcases h with rfl | ⟨b, cur, fr, ha, hb, hc⟩
  · intro i hi; simp at hi
  · exact fun i hi => ⟨b, 0, ha, heap_lt hb, by rw [Nat.zero_add]; exact hc i hi⟩
def TStep (w : World) (ts tc : TypeId) (cs : List Value) (s : StepD) : Prop := ∃ aa ca ac cc, cs = s.cells aa ca ac cc ∧ TStrs w ts aa s.asks ∧ TCases w tc ac s.cases ∧ s.asks.length ≤ ca
theorem TStep.same {w w' : World} {ts tc u : TypeId} {cs : List Value} {s : StepD} (h : TStep w ts tc cs s) (k : SameKind u w w') (h1 : ts ≠ u) (h2 : tc ≠ u) : TStep w' ts tc cs s := by
  obtain ⟨aa, ca, ac, cc, e, g1, g2, g3⟩ := h
  exact ⟨aa, ca, ac, cc, e, g1.same k h1, g2.same k h2, g3⟩
def PackedS (w : World) (ts tc : TypeId) (xs : List Value) (l : List StepD) : Prop :=
  xs.length = l.length * 8 ∧ ∀ i, i < l.length → TStep w ts tc ((xs.drop (i * 8)).take 8) (l.getD i StepD.zero)
theorem PackedS.nil (w : World) (ts tc : TypeId) : PackedS w ts tc [] [] := ⟨rfl, fun i hi => by simp at hi⟩
theorem PackedS.same {w w' : World} {ts tc u : TypeId} {xs : List Value} {l : List StepD} (h : PackedS w ts tc xs l) (k : SameKind u w w') (h1 : ts ≠ u) (h2 : tc ≠ u) : PackedS w' ts tc xs l :=
  ⟨h.1, fun i hi => (h.2 i hi).same k h1 h2⟩
theorem PackedS.snoc {w : World} {ts tc : TypeId} {xs cs : List Value} {l : List StepD} {k : Nat} (hk : k < l.length) (h : PackedS w ts tc xs (l.take k)) (hc : TStep w ts tc cs (l.getD k StepD.zero)) : PackedS w ts tc (xs ++ cs) (l.take (k + 1)) := by
  have hcl : cs.length = 8 := by obtain ⟨_, _, _, _, rfl, _⟩ := hc; rfl
  have hl : (l.take k).length = k := by rw [List.length_take]; omega
  have hxl : xs.length = k * 8 := by rw [h.1, hl]
  refine ⟨by rw [List.length_append, List.length_take, hxl, hcl, Nat.min_eq_left (by omega)]; omega, fun i hi => ?_⟩
  rw [List.length_take] at hi
  by_cases e : i < k
  · have e1 : (l.take (k + 1)).getD i StepD.zero = (l.take k).getD i StepD.zero := by simp [List.getD, e, (by omega : i < k + 1)]
    have e2 : ((xs ++ cs).drop (i * 8)).take 8 = (xs.drop (i * 8)).take 8 := by
      rw [List.drop_append_of_le_length (by omega), List.take_append_of_le_length (by rw [List.length_drop]; omega)]
    rw [e1, e2]
    exact h.2 i (by rw [hl]; exact e)
  · obtain rfl : i = k := by omega
    have e1 : (l.take (i + 1)).getD i StepD.zero = l.getD i StepD.zero := by simp [List.getD]
    have e2 : ((xs ++ cs).drop (i * 8)).take 8 = cs := by
      rw [← hxl, List.drop_left, List.take_of_length_le (by omega)]
    rw [e1, e2]
    exact hc
def TSteps (w : World) (t ts tc : TypeId) (v : Value) (l : List StepD) : Prop := ∃ base xs, w.ownsRow base t 8 v l.length xs ∧ PackedS w ts tc xs l
theorem owns_kept {w w' : World} {base size : Nat} {e : TypeId} {v : Value} {n : Nat} {xs : List Value} (h : w.ownsRow base e size v n xs) {u : TypeId} (k : SameKind u w w') (hu : e ≠ u) : w'.ownsRow base e size v n xs := by
  refine ⟨h.1, ?_⟩
  rcases h.2 with h2 | ⟨g, cap, cur, rfl, hb, hg, rest⟩
  · exact .inl h2
  · exact .inr ⟨g, cap, cur, rfl, hb, k g cur e _ hu hg, rest⟩
theorem TSteps.same {w w' : World} {t ts tc u : TypeId} {v : Value} {l : List StepD} (h : TSteps w t ts tc v l) (k : SameKind u w w') (h0 : t ≠ u) (h1 : ts ≠ u) (h2 : tc ≠ u) : TSteps w' t ts tc v l := by
  obtain ⟨base, xs, g1, g2⟩ := h
  exact ⟨base, xs, owns_kept g1 k h0, g2.same k h1 h2⟩
theorem TSteps.steps {w : World} {t ts tc : TypeId} {v : Value} {l : List StepD} (h : TSteps w t ts tc v l) : ∃ a cap, v = .slice a l.length cap ∧ Steps w a l := by
  obtain ⟨base, xs, g1, g2⟩ := h
  rcases g1.2 with ⟨rfl, h0⟩ | ⟨g, cap, cur, rfl, hb, hg, hnc, _, _, _⟩
  · exact ⟨none, 0, by rw [h0], fun i hi => by omega⟩
  · refine ⟨_, cap, rfl, fun i hi => ?_⟩
    obtain ⟨aa, ca, ac, cc, e, s1, s2, s3⟩ := g2.2 i hi
    refine ⟨g, 0, _, rfl, heap_lt hg, fun j u hu => ?_, aa, ca, ac, cc, rfl, s1.strs, s2.cases, s3⟩
    rw [← e] at hu
    have hj : j < 8 := by have := (List.getElem?_eq_some_iff.1 hu).1; rw [List.length_take] at this; omega
    rw [List.getElem?_take, if_pos hj, List.getElem?_drop] at hu
    have := g1.cells (g := g) rfl _ _ hu
    rw [Addr.add_mid] at this
    rw [Nat.zero_add] at this ⊢
    exact this
theorem own_slice {w : World} {base size : Nat} {e : TypeId} {v : Value} {n : Nat} {xs : List Value} (h : w.ownsRow base e size v n xs) : ∃ a cap, v = .slice a n cap := by
  rcases h.2 with ⟨rfl, rfl⟩ | ⟨g, cap, cur, rfl, _⟩
  · exact ⟨none, 0, rfl⟩
  · exact ⟨_, cap, rfl⟩
theorem range_new (w : World) (c : Array Value) (t : TypeId) : (w.alloc (.cells c t)).rangeAt w.heap.size 0 c.toList := fun j v hv => by
  rw [Nat.zero_add, World.cell?_alloc_mark]
  simpa using hv
theorem KeptBut.below {lo hi : Nat} {w wr w6 : World} (h : KeptBut lo hi w wr) (b : Below w.heap.size wr w6) : KeptBut lo hi w w6 :=
  ⟨b.os.trans h.os, b.tape.trans h.tape, b.output.trans h.output, Nat.le_trans h.size b.size, fun k hk ho => (b.block k hk).trans (h.block k hk ho)⟩

end Go.Proofs.YtghipdfemoofhaaGreatDoor
