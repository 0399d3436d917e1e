import Derived.OrdersHeld
import Derived.Deep.RegionHeld
import Derived.Test.YtmdckapiljhfdaaGreatOWithout
import Derived.Test.YtmdckapiljhfdaaGreatDBase
import Derived.Test.YtmdckapiljhfdaaGreatOCopy1
import Derived.Deep.RegionHeldLaw
import Derived.Deep.AppendLies

/-
  A REGION THAT DRAWS ITS ORDER AND WHOSE LAST OPERATION WRITES A CELL THAT IT HAS READ ('x = append(x, f(y))'):
  a condition S on the world that need not hold behind that last operation. A load may be taken first under S
  if the last operation is among those that wait for it.
-/
namespace Go.Proofs.YtmdckapiljhfdaaGreat

section
variable {P : Program} {ops : Array Oper} {Q : Exit → Act → World → Prop} {md : Region.Mode} {S : World → Prop} {z : Nat}

/-- Whatever comes up: S behind every operation but number z. -/
def UpTo (P : Program) (md : Region.Mode) (ops : Array Oper) (Q : Exit → Act → World → Prop) (S : World → Prop) (z : Nat) : Nat → Array Bool → Act → World → Prop
  | 0, up, a, w => Region.ready md ops up = [] ∧ Q .normal a w
  | n + 1, up, a, w => (Region.ready md ops up = [] → Q .normal a w) ∧ ∀ k ∈ Region.ready md ops up, wpOp P ops Q k (fun b u => (k ≠ z → S u) ∧ UpTo P md ops Q S z n (up.setIfInBounds k true) b u) a w

theorem UpTo.any : ∀ (n : Nat) (up : Array Bool) (a : Act) (w : World), UpTo P md ops Q S z n up a w → wpAny P md ops Q n up a w
  | 0, _, _, _, h => h
  | n + 1, _, _, _, h => ⟨h.1, fun k hk => wpOp_mono (fun b u g => UpTo.any n _ b u g.2) (h.2 k hk)⟩

theorem UpTo.region {id : Nat} {a : Act} {w : World} (hm : P.follows .mixedOrders = true) (S : World → Prop) (z : Nat) (hS : S w.drew)
    (h : S w.drew → UpTo P .any ops Q S z ops.size (Array.replicate ops.size false) a w.drew) : (Code.region id ops true).wp P Q a w :=
  wp_region_any hm (UpTo.any _ _ _ _ (h hS))

/-- The operations D wait, each for number i or for another of D. -/
def waitB (md : Region.Mode) (ops : Array Oper) (i : Nat) (D : List Nat) : Bool :=
  D.all fun d => match ops[d]? with
    | some o => o.after.toList.any fun e => Region.binds md e && (e.on == i || D.contains e.on)
    | none => false

theorem wait_not {i : Nat} {D : List Nat} {up : Array Bool} (hD : waitB md ops i D = true) (hi : up.getD i true = false) (hun : ∀ d ∈ D, up.getD d true = false) {k : Nat}
    (hk : k ∈ Region.ready md ops up) : k ∉ D := by
  intro hkD
  obtain ⟨_, o, ho, hall⟩ := mem_ready.1 hk
  have h1 := List.all_eq_true.1 hD k hkD
  simp only [ho, List.any_eq_true, Array.mem_toList_iff, Bool.and_eq_true, Bool.or_eq_true, beq_iff_eq, List.contains_iff_mem] at h1
  obtain ⟨e, he, hb, hon⟩ := h1
  have h2 := hall e he hb
  have h3 : up.getD e.on true = false := by
    rcases hon with h | h
    · rw [h]; exact hi
    · exact hun _ h
  rcases Nat.lt_or_ge e.on up.size with h' | h'
  · simp [h'] at h2 h3
    rw [h3] at h2
    cases h2
  · simp [Array.getElem?_eq_none h'] at h2

theorem UpTo.take' {i : Nat} {oi : Oper} {v : Value} (hi : ops[i]? = some oi) (hsel : Region.noSelect ops = true) (hQ : ∀ c a w, Q (.panic c) (a.put oi.dst v) w → Q (.panic c) a w)
    {D : List Nat} (hz : z ∈ D) (hD : waitB md ops i D = true) :
    ∀ (n : Nat) (up : Array Bool) (a : Act) (w : World), (∀ j oj, ops[j]? = some oj → j ≠ i → up.getD j true = false → (∀ e ∈ oj.after, Region.binds md e = true → e.on ≠ i) → oi.apart ops oj = true) →
      (∀ d ∈ D, up.getD d true = false) → i ∈ Region.ready md ops up → YieldsIf P ops S oi v a → S w →
      UpTo P md ops Q S z n (up.setIfInBounds i true) (a.put oi.dst v) w → UpTo P md ops Q S z (n + 1) up a w := by
  intro n
  induction n with
  | zero =>
    intro up a w _ _ hr hy hS H
    refine ⟨fun h => (by rw [h] at hr; cases hr), fun j hj => ?_⟩
    by_cases e : j = i
    · exact e ▸ hy.wpOp hi hS ⟨fun _ => hS, H⟩
    · have := ready_mono hj e
      rw [H.1] at this
      cases this
  | succ n ih =>
    intro up a w hfree hun hr hy hS H
    refine ⟨fun h => (by rw [h] at hr; cases hr), fun j hj => ?_⟩
    by_cases e : j = i
    · exact e ▸ hy.wpOp hi hS ⟨fun _ => hS, H⟩
    · have hiu := (mem_ready.1 hr).1
      have hjD := wait_not hD hiu hun hj
      have hjz : j ≠ z := fun h => hjD (h ▸ hz)
      obtain ⟨hju, oj, hoj, hall⟩ := mem_ready.1 hj
      have hno : ∀ e ∈ oj.after, Region.binds md e = true → e.on ≠ i := fun e he hb heq => by
        have h1 := hall e he hb
        rw [heq] at h1
        rcases Nat.lt_or_ge i up.size with h' | h'
        · simp [h'] at hiu h1; rw [hiu] at h1; cases h1
        · simp [Array.getElem?_eq_none h'] at h1
      have h2 := wpOp_putIf hoj (hfree j oj hoj e hju hno) (fun cs b => Region.noSelect_spec hsel i oi cs b hi) (fun cs b => Region.noSelect_spec hsel j oj cs b hoj) hQ hy (H.2 j (ready_mono hj e))
      refine wpOp_mono (fun b u g => ⟨g.2.1, ih (up.setIfInBounds j true) b u (fun k ok hk hki hku hkn => hfree k ok hk hki ?_ hkn) (fun d hd => ?_) (ready_mono hr (Ne.symm e)) g.1 (g.2.1 hjz) ?_⟩) h2
      · by_cases hjk : j = k
        · exact hjk ▸ hju
        · rw [getD_set_ne true hjk] at hku; exact hku
      · rw [getD_set_ne true (fun h : j = d => hjD (h ▸ hd))]; exact hun d hd
      · rw [Array.setIfInBounds_comm _ _ e]; exact g.2.2

theorem UpTo.take (i : Nat) (D : List Nat) {oi : Oper} {v : Value} {n : Nat} {up : Array Bool} {a : Act} {w : World} (hi : ops[i]? = some oi) (hsel : Region.noSelect ops = true)
    (hf : Region.free md ops up i = true) (hr : (Region.ready md ops up).contains i = true) (hD : (D.contains z && waitB md ops i D && D.all fun d => !up.getD d true) = true)
    (hQ : ∀ c a w, Q (.panic c) (a.put oi.dst v) w → Q (.panic c) a w) (hy : YieldsIf P ops S oi v a) (hS : S w)
    (h : UpTo P md ops Q S z n (up.setIfInBounds i true) (a.put oi.dst v) w) : UpTo P md ops Q S z (n + 1) up a w := by
  simp only [Bool.and_eq_true, List.contains_iff_mem, List.all_eq_true, Bool.not_eq_true'] at hD
  exact UpTo.take' hi hsel hQ hD.1.1 hD.1.2 n up a w (Region.free_spec hi hf) hD.2 (by simpa using hr) hy hS h

theorem UpTo.next (i : Nat) {o : Oper} {n : Nat} {up : Array Bool} {a : Act} {w : World} (hr : Region.ready md ops up = [i]) (ho : ops[i]? = some o)
    (h : ∀ K : Act → World → Prop, Shut (∀ b u, (i ≠ z → S u) → UpTo P md ops Q S z n (up.setIfInBounds i true) b u → K b u) → if Region.wanted o (yielded ops a.tmps) = true then Oper.wp P o a w K Q else K (a.put o.dst undef) w) :
    UpTo P md ops Q S z (n + 1) up a w := by
  refine ⟨fun h0 => (by rw [hr] at h0; cases h0), fun k hk => ?_⟩
  rw [hr] at hk
  obtain rfl : k = i := by simpa using hk
  exact wpOp_step ho (fun K hK => h K (fun b u h1 h2 => hK b u ⟨h1, h2⟩))

theorem UpTo.two (i j : Nat) {oi oj : Oper} {n : Nat} {up : Array Bool} {a : Act} {w : World} (hr : Region.ready md ops up = [i, j]) (hoi : ops[i]? = some oi) (hoj : ops[j]? = some oj)
    (h1 : ∀ K : Act → World → Prop, Shut (∀ b u, (i ≠ z → S u) → UpTo P md ops Q S z n (up.setIfInBounds i true) b u → K b u) → if Region.wanted oi (yielded ops a.tmps) = true then Oper.wp P oi a w K Q else K (a.put oi.dst undef) w)
    (h2 : ∀ K : Act → World → Prop, Shut (∀ b u, (j ≠ z → S u) → UpTo P md ops Q S z n (up.setIfInBounds j true) b u → K b u) → if Region.wanted oj (yielded ops a.tmps) = true then Oper.wp P oj a w K Q else K (a.put oj.dst undef) w) :
    UpTo P md ops Q S z (n + 1) up a w := by
  refine ⟨fun h0 => (by rw [hr] at h0; cases h0), fun k hk => ?_⟩
  rw [hr] at hk
  simp only [List.mem_cons, List.not_mem_nil, or_false] at hk
  rcases hk with rfl | rfl
  · exact wpOp_step hoi (fun K hK => h1 K (fun b u h1 h2 => hK b u ⟨h1, h2⟩))
  · exact wpOp_step hoj (fun K hK => h2 K (fun b u h1 h2 => hK b u ⟨h1, h2⟩))

theorem UpTo.done {n : Nat} {up : Array Bool} {a : Act} {w : World} (hr : Region.ready md ops up = []) (h : Q .normal a w) : UpTo P md ops Q S z n up a w := by
  cases n with
  | zero => exact ⟨hr, h⟩
  | succ n => exact ⟨fun _ => h, by rw [hr]; simp⟩

end
end Go.Proofs.YtmdckapiljhfdaaGreat

/-
  LISTS WHOSE BLOCKS HAVE A KIND: a store into a row of another kind leaves them alone.
-/
namespace Go.Proofs.YtmdckapiljhfdaaGreat
open Go.RowKit











end Go.Proofs.YtmdckapiljhfdaaGreat

/-
  NODES that lie in a row, their lists in rows of their own kinds.
-/
namespace Go.Proofs.YtmdckapiljhfdaaGreat
open Go.RowKit

/-- These cells are these nodes, their steps in rows of their own kinds. -/
def PackedN (w : World) (xs : List Value) (l : List NodeD) : Prop :=
  xs.length = l.length * 3 ∧ ∀ i, i < l.length → ∃ v, (xs.drop (i * 3)).take 3 = [.string (l.getD i NodeD.zero).name, .int .i64 (l.getD i NodeD.zero).cost, v] ∧ TSteps w 108 9 122 v (l.getD i NodeD.zero).steps
theorem PackedN.nil (w : World) : PackedN w [] [] := ⟨rfl, fun i hi => by simp at hi⟩
theorem PackedN.same {w w' : World} {u : TypeId} {xs : List Value} {l : List NodeD} (h : PackedN w xs l) (k : SameKind u w w') (h0 : 108 ≠ u) (h1 : 9 ≠ u) (h2 : 122 ≠ u) : PackedN w' xs l :=
  ⟨h.1, fun i hi => by obtain ⟨v, e, g⟩ := h.2 i hi; exact ⟨v, e, g.same k h0 h1 h2⟩⟩
theorem PackedN.snoc {w : World} {xs : List Value} {l : List NodeD} {d : NodeD} {v : Value} (h : PackedN w xs l) (hv : TSteps w 108 9 122 v d.steps) : PackedN w (xs ++ [.string d.name, .int .i64 d.cost, v]) (l ++ [d]) := by
  refine ⟨by simp [h.1]; omega, fun i hi => ?_⟩
  rw [List.length_append] at hi
  simp only [List.length_cons, List.length_nil] at hi
  by_cases e : i < l.length
  · have e1 : (l ++ [d]).getD i NodeD.zero = l.getD i NodeD.zero := by simp [List.getD, List.getElem?_append_left e]
    have e2 : ((xs ++ [.string d.name, .int .i64 d.cost, v]).drop (i * 3)).take 3 = (xs.drop (i * 3)).take 3 := by
      rw [List.drop_append_of_le_length (by rw [h.1]; omega), List.take_append_of_le_length (by rw [List.length_drop, h.1]; omega)]
    rw [e1, e2]
    exact h.2 i e
  · obtain rfl : i = l.length := by omega
    have e1 : (l ++ [d]).getD l.length NodeD.zero = d := by simp [List.getD]
    have e2 : ((xs ++ [.string d.name, .int .i64 d.cost, v]).drop (l.length * 3)).take 3 = [.string d.name, .int .i64 d.cost, v] := by
      rw [← h.1, List.drop_left]
      rfl
    rw [e1, e2]
    exact ⟨v, rfl, hv⟩
theorem PackedN.nodes {w : World} {base : Nat} {v : Value} {xs : List Value} {l : List NodeD} (hO : w.ownsRow base 72 3 v l.length xs) (h : PackedN w xs l) : ∃ a cap, v = .slice a l.length cap ∧ Nodes w a l := by
  rcases hO.2 with ⟨rfl, h0⟩ | ⟨g, cap, cur, rfl, hb, hg, hnc, _, _, _⟩
  · exact ⟨none, 0, by rw [h0], fun i hi => by omega⟩
  · refine ⟨_, cap, rfl, fun i hi => ?_⟩
    obtain ⟨u, e, hT⟩ := h.2 i hi
    obtain ⟨a, c, rfl, hSt⟩ := hT.steps
    refine ⟨g, 0, _, rfl, heap_lt hg, fun j x hx => ?_, a, c, rfl, hSt⟩
    have hj : j < 3 := by have := (List.getElem?_eq_some_iff.1 hx).1; simpa [NodeD.cells] using this
    have hx' : ((xs.drop (i * 3)).take 3)[j]? = some x := by rw [e]; exact hx
    rw [List.getElem?_take, if_pos hj, List.getElem?_drop] at hx'
    have := hO.cells (g := g) rfl _ _ hx'
    rw [Addr.add_mid] at this
    rw [Nat.zero_add] at this ⊢
    exact this

end Go.Proofs.YtmdckapiljhfdaaGreat

/-
  THE WALK over spec.l1Copy.
-/
namespace Go.Proofs.YtmdckapiljhfdaaGreat
open Go.RowKit

theorem strs_news {w : World} {b o : Nat} {l : List ByteArray} (h : Strs w (some ⟨b, o, none⟩) l) : ∀ j u, (l.map Value.string)[j]? = some u → w.cell? ((⟨b, o, none⟩ : Addr).add j) = some u := by
  intro j u hu
  rw [List.getElem?_map] at hu
  obtain ⟨x, hx, rfl⟩ := Option.map_eq_some_iff.1 hu
  obtain ⟨hj, hx'⟩ := List.getElem?_eq_some_iff.1 hx
  obtain ⟨b', o', e, _, hc⟩ := h j hj
  simp only [Option.some.injEq, Addr.mk.injEq, and_true] at e
  obtain ⟨rfl, rfl⟩ := e
  rw [Addr.add_mid, hc]
  simp [List.getD, hj, hx']
theorem strs_one (l : List ByteArray) : ∀ u ∈ l.map Value.string, u.oneCell' = true := by
  intro u hu
  obtain ⟨x, _, rfl⟩ := List.mem_map.1 hu
  rfl
theorem tstrs_of_owned {w : World} {base : Nat} {t : TypeId} {v : Value} {n : Nat} {l : List ByteArray} (h : w.ownsRow base t 1 v n (l.map Value.string)) : ∃ a cap, v = .slice a l.length cap ∧ l.length ≤ cap ∧ TStrs w t a l := by
  have hn : n = l.length := by have := h.1; simp at this; omega
  subst hn
  rcases h.2 with ⟨rfl, h0⟩ | ⟨g, cap, cur, rfl, hb, hg, hnc, _, _, _⟩
  · exact ⟨none, 0, by rw [h0], by omega, .inl (List.eq_nil_of_length_eq_zero h0)⟩
  · refine ⟨_, cap, rfl, hnc, .inr ⟨g, cur, _, rfl, hg, fun i hi => ?_⟩⟩
    have := h.cells (g := g) rfl i (.string (l.getD i ByteArray.empty)) (by simp [List.getD, hi])
    rw [Addr.add_mid, Nat.zero_add] at this
    exact this

def caseCells (l : List CaseD) : List Value := (l.map CaseD.cells).flatten
theorem caseCells_length (l : List CaseD) : (caseCells l).length = l.length * 2 := by
  induction l with
  | nil => rfl
  | cons c r ih => simp only [caseCells, List.map_cons, List.flatten_cons, List.length_append, List.length_cons] at ih ⊢; rw [ih]; simp [CaseD.cells]; omega
theorem caseCells_one (l : List CaseD) : ∀ u ∈ caseCells l, u.oneCell' = true := by
  intro u hu
  simp only [caseCells, List.mem_flatten, List.mem_map] at hu
  obtain ⟨_, ⟨c, _, rfl⟩, hu⟩ := hu
  simp only [CaseD.cells, List.mem_cons, List.not_mem_nil, or_false] at hu
  rcases hu with rfl | rfl <;> rfl
theorem caseCells_get : ∀ (l : List CaseD) (i j : Nat), i < l.length → j < 2 → (caseCells l)[i * 2 + j]? = ((l.getD i CaseD.zero).cells)[j]?
  | [], _, _, h, _ => absurd h (Nat.not_lt_zero _)
  | c :: r, 0, j, _, hj => by
    have e : caseCells (c :: r) = c.cells ++ caseCells r := rfl
    rw [e, Nat.zero_mul, Nat.zero_add, List.getElem?_append_left (by simpa [CaseD.cells] using hj)]
    rfl
  | c :: r, i + 1, j, h, hj => by
    have e : caseCells (c :: r) = c.cells ++ caseCells r := rfl
    have hl : c.cells.length = 2 := rfl
    rw [e, List.getElem?_append_right (by rw [hl]; omega), hl, show (i + 1) * 2 + j - 2 = i * 2 + j by omega, caseCells_get r i j (by simpa using h) hj]
    rfl
theorem cases_news {w : World} {b o : Nat} {l : List CaseD} (h : Cases w (some ⟨b, o, none⟩) l) : ∀ j u, (caseCells l)[j]? = some u → w.cell? ((⟨b, o, none⟩ : Addr).add j) = some u := by
  intro j u hu
  have hj : j < l.length * 2 := by rw [← caseCells_length]; exact (List.getElem?_eq_some_iff.1 hu).1
  have hi : j / 2 < l.length := by omega
  have e := caseCells_get l (j / 2) (j % 2) hi (by omega)
  rw [show j / 2 * 2 + j % 2 = j by omega, hu] at e
  obtain ⟨b', o', e', _, hc⟩ := h (j / 2) hi
  simp only [Option.some.injEq, Addr.mk.injEq, and_true] at e'
  obtain ⟨rfl, rfl⟩ := e'
  have := hc (j % 2) u e.symm
  rw [Addr.add_mid]
  rw [show o + j / 2 * 2 + j % 2 = o + j by omega] at this
  exact this
theorem tcases_of_owned {w : World} {base : Nat} {t : TypeId} {v : Value} {n : Nat} {l : List CaseD} (h : w.ownsRow base t 2 v n (caseCells l)) : ∃ a cap, v = .slice a l.length cap ∧ TCases w t a l := by
  have hn : n = l.length := by have := h.1; rw [caseCells_length] at this; omega
  subst hn
  rcases h.2 with ⟨rfl, h0⟩ | ⟨g, cap, cur, rfl, hb, hg, hnc, _, _, _⟩
  · exact ⟨none, 0, by rw [h0], .inl (List.eq_nil_of_length_eq_zero h0)⟩
  · refine ⟨_, cap, rfl, .inr ⟨g, cur, _, rfl, hg, fun i hi j u hu => ?_⟩⟩
    have hj : j < 2 := by have := (List.getElem?_eq_some_iff.1 hu).1; simpa [CaseD.cells] using this
    have := h.cells (g := g) rfl (i * 2 + j) u (by rw [caseCells_get l i j hi hj]; exact hu)
    rw [Addr.add_mid, Nat.zero_add] at this
    exact this

/-- What is known behind the first append of a round. -/
structure AfterOne (wr w2 : World) (s : StepD) (b1 b2 : Nat) (a1 : Option Addr) : Prop where
  kept : Kept wr w2
  box : RowT w2 wr.heap.size 108 8
  asks : TStrs w2 9 a1 s.asks
  cells : ∀ i v, (#[.slice (some ⟨b1, 0, none⟩) s.asks.length s.asks.length, .int .i64 s.on, .slice (some ⟨b2, 0, none⟩) s.cases.length s.cases.length, .int .i64 s.els, .int .i64 s.fall, .bool s.fin, .bool s.bad, .string s.give] : Array Value)[i]? = some v → w2.cell? ⟨wr.heap.size, i, none⟩ = some v

theorem AfterOne.kept2 {wr w2 : World} {s : StepD} {b1 b2 : Nat} {a1 : Option Addr} (h : AfterOne wr w2 s b1 b2 a1) {v : Value} {o : Obj} : Kept wr ((w2.setCell ⟨wr.heap.size, 0, none⟩ v).alloc o) := (h.kept.setCell (Nat.le_refl _) _).alloc _
theorem AfterOne.own2 {wr w2 : World} {s : StepD} {b1 b2 : Nat} {a1 : Option Addr} (h : AfterOne wr w2 s b1 b2 a1) {v : Value} (base : Nat) (hb : base ≤ wr.heap.size) : ((w2.setCell ⟨wr.heap.size, 0, none⟩ v).alloc (.cells #[] 122)).ownsRow base 122 2 (.slice (some ⟨w2.heap.size, 0, none⟩) 0 0) 0 [] := by
  have hk := h.kept.size
  have := World.ownsRow_made (base := base) (e := 122) (size := 2) (w2.setCell ⟨wr.heap.size, 0, none⟩ v) #[] 0 (by rw [size_setCell]; omega) (Nat.zero_le _) rfl
  rw [size_setCell] at this
  exact this

/-- What is known behind the second append of a round. -/
structure AfterTwo (wr w4 : World) (s : StepD) (b2 : Nat) (a1 : Option Addr) (ca1 : Nat) (a2 : Option Addr) : Prop where
  kept : Kept wr w4
  box : RowT w4 wr.heap.size 108 8
  asks : TStrs w4 9 a1 s.asks
  cases : TCases w4 122 a2 s.cases
  cells : ∀ i v, (#[.slice a1 s.asks.length ca1, .int .i64 s.on, .slice (some ⟨b2, 0, none⟩) s.cases.length s.cases.length, .int .i64 s.els, .int .i64 s.fall, .bool s.fin, .bool s.bad, .string s.give] : Array Value)[i]? = some v → w4.cell? ⟨wr.heap.size, i, none⟩ = some v

theorem AfterOne.two {wr w2 w4 : World} {s : StepD} {b1 b2 : Nat} {a1 a2 : Option Addr} {ca1 : Nat} (h : AfterOne wr w2 s b1 b2 a1)
    (hgr : ((w2.setCell ⟨wr.heap.size, 0, none⟩ (.slice a1 s.asks.length ca1)).alloc (.cells #[] 122)).grownBy w4 (some w2.heap.size)) (hT2 : TCases w4 122 a2 s.cases) : AfterTwo wr w4 s b2 a1 ca1 a2 := by
  have kb := KeptBut.of_grown hgr
  have hz := h.kept.size
  have hx : wr.heap.size < w2.heap.size := h.box.lt
  have hs := kb.same (l2 := wr.heap.size) (h2 := wr.heap.size + 1) (by omega)
  have b1' : RowT ((w2.setCell ⟨wr.heap.size, 0, none⟩ (.slice a1 s.asks.length ca1)).alloc (.cells #[] 122)) wr.heap.size 108 8 := (h.box.set _).kept ((Kept.refl _).alloc _)
  have hka : SameKind 108 w2 ((w2.setCell ⟨wr.heap.size, 0, none⟩ (.slice a1 s.asks.length ca1)).alloc (.cells #[] 122)) := (h.box.same _).trans (.of_kept ((Kept.refl _).alloc _))
  have hkb : SameKind 122 ((w2.setCell ⟨wr.heap.size, 0, none⟩ (.slice a1 s.asks.length ca1)).alloc (.cells #[] 122)) w4 := by
    have := h.own2 (v := .slice a1 s.asks.length ca1) wr.heap.size (Nat.le_refl _)
    exact SameKind.of_grown this hgr
  refine ⟨kb.kept h.kept2 (by omega), b1'.block (hs _ (Nat.le_refl _) (by omega) b1'.lt), (h.asks.same hka (by decide)).same hkb (by decide), hT2, fun i v hv => ?_⟩
  rw [hs.cell (Nat.le_refl _) (by omega) b1'.lt, Kept.cell (w := w2.setCell ⟨wr.heap.size, 0, none⟩ (.slice a1 s.asks.length ca1)) ((Kept.refl _).alloc _) (by rw [size_setCell]; exact hx)]
  match i, hv with
  | 0, hv => simp at hv; subst hv; exact set_hit h.box.row (by omega) _
  | i + 1, hv => rw [set_miss (by omega)]; exact h.cells (i + 1) v (by simpa using hv)

theorem step_one (s : StepD) (aa : Option Addr) (ca : Nat) (ac : Option Addr) (cc : Nat) : ∀ u ∈ s.cells aa ca ac cc, u.oneCell' = true := by
  intro u hu
  have := StepD.one s aa ca ac cc
  rw [Array.all_eq_true_iff_forall_mem] at this
  exact this u (by simpa using hu)


/-- What is known behind the third append of a round. -/
structure AfterThree (w w6 : World) (cost : Int) (B n cap : Nat) : Prop where
  kept : Kept w w6
  size : w.heap.size + 3 ≤ w6.heap.size
  arg : w6.cell? ⟨w.heap.size, 1, none⟩ = some (.slice (some ⟨B, 0, none⟩) n cap)
  res : RowT w6 (w.heap.size + 1) 70 2
  out : RowT w6 (w.heap.size + 2) 70 2
  cost : w6.cell? ⟨w.heap.size + 2, 0, none⟩ = some (.int .i64 cost)

theorem AfterThree.of {w wr W6 w6 : World} {cost : Int} {B n cap k cv : Nat} {av : Option Addr} {xs : List Value} (hw : Kept w wr) (hz : w.heap.size + 3 ≤ wr.heap.size) (K6 : Kept wr W6)
    (p1 : wr.cell? ⟨w.heap.size, 1, none⟩ = some (.slice (some ⟨B, 0, none⟩) n cap)) (hr1 : RowT wr (w.heap.size + 1) 70 2) (hr2 : RowT wr (w.heap.size + 2) 70 2) (o0 : wr.cell? ⟨w.heap.size + 2, 0, none⟩ = some (.int .i64 cost))
    (hO : W6.ownsRow (w.heap.size + 3) 108 8 (.slice av k cv) k xs) (hgr : W6.grownBy w6 (Value.slice av k cv).ownBlock) : AfterThree w w6 cost B n cap := by
  have hz6 := K6.size
  have bl : Below (w.heap.size + 3) W6 w6 := Below.grown (Below.refl _ _) hgr (by omega) (fun g hg => (hO.lt g hg).1)
  have hc : ∀ b o, b < w.heap.size + 3 → w6.cell? ⟨b, o, none⟩ = wr.cell? ⟨b, o, none⟩ := fun b o hb => (Below.cell bl (p := ⟨b, o, none⟩) hb).trans (K6.cell (by omega))
  have hb : ∀ b, b < w.heap.size + 3 → w6.heap[b]? = wr.heap[b]? := fun b hb => (bl.block b hb).trans (K6.block b (by omega))
  refine ⟨kept_of_grown (hw.trans K6) (by omega) hO hgr, Nat.le_trans (by omega) bl.size, by rw [hc _ _ (by omega)]; exact p1, hr1.block (hb _ (by omega)), hr2.block (hb _ (by omega)), by rw [hc _ _ (by omega)]; exact o0⟩

/-- The next element is packed. -/
theorem AfterTwo.three {wr w4 w6 : World} {s : StepD} {b2 ca1 ca2 base k cv : Nat} {a1 a2 av : Option Addr} {xs : List Value} {l : List StepD} (h : AfterTwo wr w4 s b2 a1 ca1 a2) (hk : k < l.length) (hs : s = l.getD k StepD.zero) (hca : s.asks.length ≤ ca1)
    (hP : PackedS wr 9 122 xs (l.take k)) (hO : ((w4.setCell ⟨wr.heap.size, 2, none⟩ (.slice a2 s.cases.length ca2)).alloc (.cells #[.slice a1 s.asks.length ca1, .int .i64 s.on, .slice a2 s.cases.length ca2, .int .i64 s.els, .int .i64 s.fall, .bool s.fin, .bool s.bad, .string s.give] 108)).ownsRow base 108 8 (.slice av k cv) k xs) (hgr : ((w4.setCell ⟨wr.heap.size, 2, none⟩ (.slice a2 s.cases.length ca2)).alloc (.cells #[.slice a1 s.asks.length ca1, .int .i64 s.on, .slice a2 s.cases.length ca2, .int .i64 s.els, .int .i64 s.fall, .bool s.fin, .bool s.bad, .string s.give] 108)).grownBy w6 (Value.slice av k cv).ownBlock) :
    PackedS w6 9 122 (xs ++ s.cells a1 ca1 a2 ca2) (l.take (k + 1)) := by
  have ka : SameKind 108 w4 ((w4.setCell ⟨wr.heap.size, 2, none⟩ (.slice a2 s.cases.length ca2)).alloc (.cells #[.slice a1 s.asks.length ca1, .int .i64 s.on, .slice a2 s.cases.length ca2, .int .i64 s.els, .int .i64 s.fall, .bool s.fin, .bool s.bad, .string s.give] 108)) := (h.box.same _).trans (.of_kept ((Kept.refl _).alloc _))
  have kb : SameKind 108 ((w4.setCell ⟨wr.heap.size, 2, none⟩ (.slice a2 s.cases.length ca2)).alloc (.cells #[.slice a1 s.asks.length ca1, .int .i64 s.on, .slice a2 s.cases.length ca2, .int .i64 s.els, .int .i64 s.fall, .bool s.fin, .bool s.bad, .string s.give] 108)) w6 := SameKind.of_grown hO hgr
  have K6 : Kept wr ((w4.setCell ⟨wr.heap.size, 2, none⟩ (.slice a2 s.cases.length ca2)).alloc (.cells #[.slice a1 s.asks.length ca1, .int .i64 s.on, .slice a2 s.cases.length ca2, .int .i64 s.els, .int .i64 s.fall, .bool s.fin, .bool s.bad, .string s.give] 108)) := (h.kept.setCell (Nat.le_refl _) _).alloc _
  have kc : SameKind 108 wr w6 := (SameKind.of_kept K6).trans kb
  refine PackedS.snoc hk (hP.same kc (by decide) (by decide)) ?_
  rw [← hs]
  exact ⟨a1, ca1, a2, ca2, rfl, h.asks.same (ka.trans kb) (by decide), h.cases.same (ka.trans kb) (by decide), hca⟩


end Go.Proofs.YtmdckapiljhfdaaGreat

/-
  THE WALK over spec.l2Without.
-/
namespace Go.Proofs.YtmdckapiljhfdaaGreat
open Go.RowKit

/-- Is it another name? -/
def otherN (key : List UInt8) (d : NodeD) : Bool := !(d.name.toList == key)

theorem filter_take_succ (f : NodeD → Bool) (l : List NodeD) (k : Nat) (h : k < l.length) : (l.take (k + 1)).filter f = (l.take k).filter f ++ (if f (l.getD k NodeD.zero) = true then [l.getD k NodeD.zero] else []) := by
  rw [List.take_succ_eq_append_getElem h, List.filter_append]
  congr 1
  have e : l.getD k NodeD.zero = l[k] := by simp [List.getD, h]
  rw [e]
  by_cases hf : f l[k] = true
  · simp [hf]
  · simp [hf]

/-- What is known behind the append of a round. -/
structure AfterN (w wr w6 : World) (B n cap : Nat) : Prop where
  kept : Kept w w6
  size : w.heap.size + 3 ≤ w6.heap.size
  arg : w6.cell? ⟨w.heap.size, 0, none⟩ = some (.slice (some ⟨B, 0, none⟩) n cap)
  res : RowT w6 (w.heap.size + 1) 34 1
  out : RowT w6 (w.heap.size + 2) 34 1
  below : Below (w.heap.size + 3) wr w6

theorem AfterN.of {w wr W w6 : World} {B n cap m cv : Nat} {av : Option Addr} {xs : List Value} (hw : Kept w wr) (hz : w.heap.size + 3 ≤ wr.heap.size) (KW : Kept wr W)
    (p0 : wr.cell? ⟨w.heap.size, 0, none⟩ = some (.slice (some ⟨B, 0, none⟩) n cap)) (hr1 : RowT wr (w.heap.size + 1) 34 1) (hr2 : RowT wr (w.heap.size + 2) 34 1)
    (hO : W.ownsRow (w.heap.size + 3) 72 3 (.slice av m cv) m xs) (hgr : W.grownBy w6 (Value.slice av m cv).ownBlock) : AfterN w wr w6 B n cap := by
  have hzW := KW.size
  have bl : Below (w.heap.size + 3) wr w6 := (Below.mono KW (by omega)).trans (Below.grown (Below.refl _ _) hgr (by omega) (fun g hg => (hO.lt g hg).1))
  refine ⟨kept_of_grown (hw.trans KW) (by omega) hO hgr, Nat.le_trans hz bl.size, ?_, hr1.block (bl.block _ (by omega)), hr2.block (bl.block _ (by omega)), bl⟩
  rw [Below.cell bl (p := ⟨w.heap.size, 0, none⟩) (by simp <;> omega)]
  exact p0

theorem pack_next {wr W w2 w6 : World} {base m cv ca : Nat} {av a2 : Option Addr} {xs : List Value} {l : List NodeD} {d : NodeD} (KW : Kept wr W) (K2 : Kept w2 W) (hP : PackedN wr xs l) (hT : TSteps w2 108 9 122 (.slice a2 d.steps.length ca) d.steps)
    (hO : W.ownsRow base 72 3 (.slice av m cv) m xs) (hgr : W.grownBy w6 (Value.slice av m cv).ownBlock) : PackedN w6 (xs ++ [.string d.name, .int .i64 d.cost, .slice a2 d.steps.length ca]) (l ++ [d]) := by
  have kb : SameKind 72 W w6 := SameKind.of_grown hO hgr
  exact (hP.same ((SameKind.of_kept KW).trans kb) (by decide) (by decide) (by decide)).snoc (hT.same ((SameKind.of_kept K2).trans kb) (by decide) (by decide) (by decide))

theorem node_one (d : NodeD) (a : Option Addr) (c : Nat) : ∀ u ∈ ([.string d.name, .int .i64 d.cost, .slice a d.steps.length c] : List Value), u.oneCell' = true := by
  intro u hu
  simp only [List.mem_cons, List.not_mem_nil, or_false] at hu
  rcases hu with rfl | rfl | rfl <;> rfl

end Go.Proofs.YtmdckapiljhfdaaGreat
