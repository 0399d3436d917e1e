import Derived.Test.YtlllckfifkgcnaaDoorDGive

/-
  A STEP THAT IS BEING DRAWN: its variable, its two lists that the call owns, the reader beside it.
-/
namespace Go.Proofs.YtlllckfifkgcnaaDoor
open Go.RowKit

theorem Tryd.dInfoStr : (Tryd.prog.info? 9).map (fun i => (i.zero, i.size, i.bytes)) = some (some (.string ByteArray.empty), 1, 16) := by kernel_rfl
theorem Tryd.dInfoCase : (Tryd.prog.info? 62).map (fun i => (i.zero, i.size, i.bytes)) = some (some (.agg #[.string ByteArray.empty, .int .i64 0]), 2, 24) := by kernel_rfl
theorem Tryd.dInfoStep : (Tryd.prog.info? 50).map (fun i => (i.zero, i.size, i.bytes)) = some (some (.agg #[.slice none 0 0, .int .i64 0, .slice none 0 0, .int .i64 0, .int .i64 0, .bool false, .bool false, .string ByteArray.empty]), 8, 96) := by kernel_rfl
theorem Tryd.dSizeAction : (Tryd.prog.info? 25).map (·.size) = some 2 := by kernel_rfl
theorem dInfo_parts {P : Program} {e : TypeId} {z : Value} {size bytes : Nat} (h : (P.info? e).map (fun i => (i.zero, i.size, i.bytes)) = some (some z, size, bytes)) : ∃ i, P.info? e = some i ∧ i.zero = some z ∧ i.size = size ∧ i.bytes = bytes := by
  obtain ⟨i, hi, hzz⟩ := Option.map_eq_some_iff.1 h
  simp only [Prod.mk.injEq] at hzz
  exact ⟨i, hi, hzz.1, hzz.2.1, hzz.2.2⟩

theorem d_strs_one (l : List ByteArray) : ∀ u ∈ l.map Value.string, u.oneCell' = true := by
  intro u hu
  obtain ⟨x, _, rfl⟩ := List.mem_map.1 hu
  rfl
theorem d_tstrs_of_owned {w : World} {base : Nat} {t : TypeId} {v : Value} {n : Nat} {l : List ByteArray} (h : w.ownsRow base t 1 v n (l.map Value.string)) : ∃ a cap, v = .slice a l.length cap ∧ l.length ≤ cap ∧ TStrs w t a l := by
  have hn : n = l.length := by have := h.1; simp at this; omega
  subst hn
  rcases h.2 with ⟨rfl, h0⟩ | ⟨g, cap, cur, rfl, hb, hg, hnc, _, _, _⟩
  · exact ⟨none, 0, by rw [h0], by omega, .inl (List.eq_nil_of_length_eq_zero h0)⟩
  · refine ⟨_, cap, rfl, hnc, .inr ⟨g, cur, _, rfl, hg, fun i hi => ?_⟩⟩
    have := h.cells (g := g) rfl i (.string (l.getD i ByteArray.empty)) (by simp [List.getD, hi])
    rw [Addr.add_mid, Nat.zero_add] at this
    exact this
def dCaseCells (l : List CaseD) : List Value := (l.map CaseD.cells).flatten
theorem dCaseCells_length (l : List CaseD) : (dCaseCells l).length = l.length * 2 := by
  induction l with
  | nil => rfl
  | cons c r ih => simp only [dCaseCells, List.map_cons, List.flatten_cons, List.length_append, List.length_cons] at ih ⊢; rw [ih]; simp [CaseD.cells]; omega
theorem dCaseCells_snoc (l : List CaseD) (c : CaseD) : dCaseCells (l ++ [c]) = dCaseCells l ++ c.cells := by simp [dCaseCells]
theorem dCaseCells_one (l : List CaseD) : ∀ u ∈ dCaseCells l, u.oneCell' = true := by
  intro u hu
  simp only [dCaseCells, List.mem_flatten, List.mem_map] at hu
  obtain ⟨_, ⟨c, _, rfl⟩, hu⟩ := hu
  simp only [CaseD.cells, List.mem_cons, List.not_mem_nil, or_false] at hu
  rcases hu with rfl | rfl <;> rfl
theorem dCaseCells_get : ∀ (l : List CaseD) (i j : Nat), i < l.length → j < 2 → (dCaseCells l)[i * 2 + j]? = ((l.getD i CaseD.zero).cells)[j]?
  | [], _, _, h, _ => absurd h (Nat.not_lt_zero _)
  | c :: r, 0, j, _, hj => by
    have e : dCaseCells (c :: r) = c.cells ++ dCaseCells r := rfl
    rw [e, Nat.zero_mul, Nat.zero_add, List.getElem?_append_left (by simpa [CaseD.cells] using hj)]
    rfl
  | c :: r, i + 1, j, h, hj => by
    have e : dCaseCells (c :: r) = c.cells ++ dCaseCells r := rfl
    have hl : c.cells.length = 2 := rfl
    rw [e, List.getElem?_append_right (by rw [hl]; omega), hl, show (i + 1) * 2 + j - 2 = i * 2 + j by omega, dCaseCells_get r i j (by simpa using h) hj]
    rfl
theorem d_tcases_of_owned {w : World} {base : Nat} {t : TypeId} {v : Value} {n : Nat} {l : List CaseD} (h : w.ownsRow base t 2 v n (dCaseCells l)) : ∃ a cap, v = .slice a l.length cap ∧ TCases w t a l := by
  have hn : n = l.length := by have := h.1; rw [dCaseCells_length] at this; omega
  subst hn
  rcases h.2 with ⟨rfl, h0⟩ | ⟨g, cap, cur, rfl, hb, hg, hnc, _, _, _⟩
  · exact ⟨none, 0, by rw [h0], .inl (List.eq_nil_of_length_eq_zero h0)⟩
  · refine ⟨_, cap, rfl, .inr ⟨g, cur, _, rfl, hg, fun i hi j u hu => ?_⟩⟩
    have hj : j < 2 := by have := (List.getElem?_eq_some_iff.1 hu).1; simpa [CaseD.cells] using this
    have := h.cells (g := g) rfl (i * 2 + j) u (by rw [dCaseCells_get l i j hi hj]; exact hu)
    rw [Addr.add_mid, Nat.zero_add] at this
    exact this
theorem d_step_one (s : StepD) (aa : Option Addr) (ca : Nat) (ac : Option Addr) (cc : Nat) : ∀ u ∈ s.cells aa ca ac cc, u.oneCell' = true := by
  intro u hu
  have := StepD.one s aa ca ac cc
  rw [Array.all_eq_true_iff_forall_mem] at this
  exact this u (by simpa using hu)

/-- A pick writes into blocks of the reader's kind alone. -/
theorem KeptBut.sameKind {w w' : World} {rb : Nat} {a : Option Addr} {cap : Nat} {bs : List UInt8} {p : Nat} (h : KeptBut rb (rb + 1) w w') (hR : Rd w rb a cap bs p) : SameKind 71 w w' := by
  intro b cur u fr hu hb
  obtain ⟨c, h1, _⟩ := hR.row
  have hne : b ≠ rb := by
    rintro rfl
    rw [h1] at hb
    simp only [Option.some.injEq, Obj.cells.injEq] at hb
    exact hu hb.2.1.symm
  rw [h.block b (heap_lt hb) (by omega)]
  exact hb
theorem KeptBut.cell {w w' : World} {lo hi : Nat} (h : KeptBut lo hi w w') {b o : Nat} (hb : b < w.heap.size) (hn : b < lo ∨ hi ≤ b) : w'.cell? ⟨b, o, none⟩ = w.cell? ⟨b, o, none⟩ := World.cell?_of_block (w := w) (h.block b hb hn)
theorem RowT.but {w w' : World} {lo hi b n : Nat} {t : TypeId} (h : RowT w b t n) (k : KeptBut lo hi w w') (hn : b < lo ∨ hi ≤ b) : RowT w' b t n := h.block (k.block b h.lt hn)

theorem in64_of {x : Int} (h : -1000 ≤ x ∧ x ≤ 1000) : In64 x := by unfold In64; omega
/-- A case of small size, a step of small size. -/
def CaseD.Tiny (c : CaseD) : Prop := c.text.size ≤ 300 ∧ -1000 ≤ c.goto ∧ c.goto ≤ 1000
structure StepD.TinyN (m : Nat) (s : StepD) : Prop where
  asks : s.asks.length ≤ m
  askEach : ∀ x ∈ s.asks, x.size ≤ 300
  on : -1000 ≤ s.on ∧ s.on ≤ 1000
  cases : s.cases.length ≤ m
  caseEach : ∀ c ∈ s.cases, c.Tiny
  els : In64 s.els
  fall : -1000 ≤ s.fall ∧ s.fall ≤ 1000
  give : s.give.size ≤ 300
theorem StepD.TinyN.fits {m : Nat} {s : StepD} (h : s.TinyN m) (hm : m ≤ 1000) : s.Fits := by
  have := h.asks; have := h.cases; have := h.on; have := h.fall; have := h.give
  refine ⟨?_, fun x hx => ?_, ?_, ?_, fun c hc => ⟨?_, ?_⟩, ?_, ?_, ?_⟩
  all_goals first | exact h.els | (unfold maxLen; omega) | (unfold In64; omega) | skip
  · have := h.askEach x hx; unfold maxLen; omega
  · have := (h.caseEach c hc).1; unfold maxLen; omega
  · have := (h.caseEach c hc).2; unfold In64; omega

abbrev StepD.Tiny (s : StepD) : Prop := StepD.TinyN 20 s
theorem StepD.Tiny.fits {s : StepD} (h : s.Tiny) : s.Fits := StepD.TinyN.fits h (by omega)
theorem StepD.TinyN.mono {m n : Nat} {s : StepD} (h : s.TinyN m) (hn : m ≤ n) : s.TinyN n := ⟨Nat.le_trans h.asks hn, h.askEach, h.on, Nat.le_trans h.cases hn, h.caseEach, h.els, h.fall, h.give⟩

/-- The variable of a step. -/
structure SBox (w : World) (sb : Nat) (va vc : Value) (s : StepD) : Prop where
  row : RowT w sb 50 8
  c0 : w.cell? ⟨sb, 0, none⟩ = some va
  c1 : w.cell? ⟨sb, 1, none⟩ = some (.int .i64 s.on)
  c2 : w.cell? ⟨sb, 2, none⟩ = some vc
  c3 : w.cell? ⟨sb, 3, none⟩ = some (.int .i64 s.els)
  c4 : w.cell? ⟨sb, 4, none⟩ = some (.int .i64 s.fall)
  c5 : w.cell? ⟨sb, 5, none⟩ = some (.bool s.fin)
  c6 : w.cell? ⟨sb, 6, none⟩ = some (.bool s.bad)
  c7 : w.cell? ⟨sb, 7, none⟩ = some (.string s.give)
theorem SBox.block {w w' : World} {sb : Nat} {va vc : Value} {s : StepD} (h : SBox w sb va vc s) (k : w'.heap[sb]? = w.heap[sb]?) : SBox w' sb va vc s := by
  have hc : ∀ o, w'.cell? ⟨sb, o, none⟩ = w.cell? ⟨sb, o, none⟩ := fun o => World.cell?_of_block (w := w) k
  exact ⟨h.row.block k, (hc _).trans h.c0, (hc _).trans h.c1, (hc _).trans h.c2, (hc _).trans h.c3, (hc _).trans h.c4, (hc _).trans h.c5, (hc _).trans h.c6, (hc _).trans h.c7⟩
theorem SBox.kept {w w' : World} {sb : Nat} {va vc : Value} {s : StepD} (h : SBox w sb va vc s) (k : Kept w w') : SBox w' sb va vc s := h.block (k.block sb h.row.lt)
theorem SBox.cell {w : World} {sb : Nat} {va vc : Value} {s : StepD} (h : SBox w sb va vc s) {o : Nat} (ho : o < 8) : (∃ v, w.cell? ⟨sb, o, none⟩ = some v) ∧ w.frozen? ⟨sb, o, none⟩ = false := h.row.row.at ho
theorem SBox.made (w : World) (els fall : Int) : SBox (w.alloc (.cells #[.slice none 0 0, .int .i64 0, .slice none 0 0, .int .i64 els, .int .i64 fall, .bool false, .bool false, .string ⟨#[]⟩] 50)) w.heap.size (.slice none 0 0) (.slice none 0 0) ⟨[], 0, [], els, fall, false, false, ⟨#[]⟩⟩ := by
  have hr := range_new w #[.slice none 0 0, .int .i64 0, .slice none 0 0, .int .i64 els, .int .i64 fall, .bool false, .bool false, .string ⟨#[]⟩] 50
  have hc : ∀ j v, (#[.slice none 0 0, .int .i64 0, .slice none 0 0, .int .i64 els, .int .i64 fall, .bool false, .bool false, .string ⟨#[]⟩] : Array Value).toList[j]? = some v → (w.alloc (.cells #[.slice none 0 0, .int .i64 0, .slice none 0 0, .int .i64 els, .int .i64 fall, .bool false, .bool false, .string ⟨#[]⟩] 50)).cell? ⟨w.heap.size, j, none⟩ = some v := fun j v hv => by
    have := hr j v hv
    rw [Nat.zero_add] at this
    exact this
  exact ⟨RowT.made w _ _, hc 0 _ rfl, hc 1 _ rfl, hc 2 _ rfl, hc 3 _ rfl, hc 4 _ rfl, hc 5 _ rfl, hc 6 _ rfl, hc 7 _ rfl⟩
theorem SBox.on {w : World} {sb : Nat} {va vc : Value} {s : StepD} (h : SBox w sb va vc s) (x : Int) : SBox (w.setCell ⟨sb, 1, none⟩ (.int .i64 x)) sb va vc { s with on := x } :=
  ⟨h.row.set _, (set_miss (by omega) _).trans h.c0, set_hit h.row.row (by omega) _, (set_miss (by omega) _).trans h.c2, (set_miss (by omega) _).trans h.c3, (set_miss (by omega) _).trans h.c4, (set_miss (by omega) _).trans h.c5, (set_miss (by omega) _).trans h.c6, (set_miss (by omega) _).trans h.c7⟩
theorem SBox.els {w : World} {sb : Nat} {va vc : Value} {s : StepD} (h : SBox w sb va vc s) (x : Int) : SBox (w.setCell ⟨sb, 3, none⟩ (.int .i64 x)) sb va vc { s with els := x } :=
  ⟨h.row.set _, (set_miss (by omega) _).trans h.c0, (set_miss (by omega) _).trans h.c1, (set_miss (by omega) _).trans h.c2, set_hit h.row.row (by omega) _, (set_miss (by omega) _).trans h.c4, (set_miss (by omega) _).trans h.c5, (set_miss (by omega) _).trans h.c6, (set_miss (by omega) _).trans h.c7⟩
theorem SBox.fall {w : World} {sb : Nat} {va vc : Value} {s : StepD} (h : SBox w sb va vc s) (x : Int) : SBox (w.setCell ⟨sb, 4, none⟩ (.int .i64 x)) sb va vc { s with fall := x } :=
  ⟨h.row.set _, (set_miss (by omega) _).trans h.c0, (set_miss (by omega) _).trans h.c1, (set_miss (by omega) _).trans h.c2, (set_miss (by omega) _).trans h.c3, set_hit h.row.row (by omega) _, (set_miss (by omega) _).trans h.c5, (set_miss (by omega) _).trans h.c6, (set_miss (by omega) _).trans h.c7⟩
theorem SBox.fin {w : World} {sb : Nat} {va vc : Value} {s : StepD} (h : SBox w sb va vc s) (x : Bool) : SBox (w.setCell ⟨sb, 5, none⟩ (.bool x)) sb va vc { s with fin := x } :=
  ⟨h.row.set _, (set_miss (by omega) _).trans h.c0, (set_miss (by omega) _).trans h.c1, (set_miss (by omega) _).trans h.c2, (set_miss (by omega) _).trans h.c3, (set_miss (by omega) _).trans h.c4, set_hit h.row.row (by omega) _, (set_miss (by omega) _).trans h.c6, (set_miss (by omega) _).trans h.c7⟩
theorem SBox.bad {w : World} {sb : Nat} {va vc : Value} {s : StepD} (h : SBox w sb va vc s) (x : Bool) : SBox (w.setCell ⟨sb, 6, none⟩ (.bool x)) sb va vc { s with bad := x } :=
  ⟨h.row.set _, (set_miss (by omega) _).trans h.c0, (set_miss (by omega) _).trans h.c1, (set_miss (by omega) _).trans h.c2, (set_miss (by omega) _).trans h.c3, (set_miss (by omega) _).trans h.c4, (set_miss (by omega) _).trans h.c5, set_hit h.row.row (by omega) _, (set_miss (by omega) _).trans h.c7⟩
theorem SBox.give {w : World} {sb : Nat} {va vc : Value} {s : StepD} (h : SBox w sb va vc s) (x : ByteArray) : SBox (w.setCell ⟨sb, 7, none⟩ (.string x)) sb va vc { s with give := x } :=
  ⟨h.row.set _, (set_miss (by omega) _).trans h.c0, (set_miss (by omega) _).trans h.c1, (set_miss (by omega) _).trans h.c2, (set_miss (by omega) _).trans h.c3, (set_miss (by omega) _).trans h.c4, (set_miss (by omega) _).trans h.c5, (set_miss (by omega) _).trans h.c6, set_hit h.row.row (by omega) _⟩
theorem SBox.asks {w : World} {sb : Nat} {va vc : Value} {s : StepD} (h : SBox w sb va vc s) (v : Value) (l : List ByteArray) : SBox (w.setCell ⟨sb, 0, none⟩ v) sb v vc { s with asks := l } :=
  ⟨h.row.set _, set_hit h.row.row (by omega) _, (set_miss (by omega) _).trans h.c1, (set_miss (by omega) _).trans h.c2, (set_miss (by omega) _).trans h.c3, (set_miss (by omega) _).trans h.c4, (set_miss (by omega) _).trans h.c5, (set_miss (by omega) _).trans h.c6, (set_miss (by omega) _).trans h.c7⟩
theorem SBox.cases {w : World} {sb : Nat} {va vc : Value} {s : StepD} (h : SBox w sb va vc s) (v : Value) (l : List CaseD) : SBox (w.setCell ⟨sb, 2, none⟩ v) sb va v { s with cases := l } :=
  ⟨h.row.set _, (set_miss (by omega) _).trans h.c0, (set_miss (by omega) _).trans h.c1, set_hit h.row.row (by omega) _, (set_miss (by omega) _).trans h.c3, (set_miss (by omega) _).trans h.c4, (set_miss (by omega) _).trans h.c5, (set_miss (by omega) _).trans h.c6, (set_miss (by omega) _).trans h.c7⟩

theorem SBox.same {w w' : World} {sb : Nat} {va vc : Value} {s : StepD} (h : SBox w sb va vc s) {t : TypeId} (k : SameKind t w w') (ht : 50 ≠ t) : SBox w' sb va vc s := by
  obtain ⟨cur, h1, _⟩ := h.row
  exact h.block ((k sb cur _ _ ht h1).trans h1.symm)

/-- The step that is being drawn; W is the world ahead of its variable. -/
structure SStN (m : Nat) (W wr : World) (rb sb : Nat) (a : Option Addr) (cap : Nat) (bs : List UInt8) (p : Nat) (va vc : Value) (s : StepD) : Prop where
  rd : Rd wr rb a cap bs p
  rd0 : ∃ p0, Rd W rb a cap bs p0
  sbl : W.heap.size ≤ sb
  kb : KeptBut rb (rb + 1) W wr
  box : SBox wr sb va vc s
  asks : wr.ownsRow W.heap.size 9 1 va s.asks.length (s.asks.map Value.string)
  cases : wr.ownsRow W.heap.size 62 2 vc s.cases.length (dCaseCells s.cases)
  tiny : s.TinyN m

theorem SStN.rbl {mN : Nat} {W wr : World} {rb sb : Nat} {a : Option Addr} {cap : Nat} {bs : List UInt8} {p : Nat} {va vc : Value} {s : StepD} (h : SStN mN W wr rb sb a cap bs p va vc s) : rb < W.heap.size := let ⟨_, h0⟩ := h.rd0; h0.row.lt
theorem SStN.drawn {mN : Nat} {W wr w' : World} {rb sb : Nat} {a : Option Addr} {cap : Nat} {bs : List UInt8} {p p' : Nat} {va vc : Value} {s : StepD} (h : SStN mN W wr rb sb a cap bs p va vc s) (hR : Rd w' rb a cap bs p') (k : KeptBut rb (rb + 1) wr w') : SStN mN W w' rb sb a cap bs p' va vc s := by
  have hk := k.sameKind h.rd
  have := h.rbl
  have := h.sbl
  exact ⟨hR, h.rd0, h.sbl, h.kb.trans k, h.box.block (k.block sb h.box.row.lt (by omega)), owns_kept h.asks hk (by decide), owns_kept h.cases hk (by decide), h.tiny⟩
theorem SStN.kept {mN : Nat} {W wr w' : World} {rb sb : Nat} {a : Option Addr} {cap : Nat} {bs : List UInt8} {p : Nat} {va vc : Value} {s : StepD} (h : SStN mN W wr rb sb a cap bs p va vc s) (k : Kept wr w') : SStN mN W w' rb sb a cap bs p va vc s := h.drawn (h.rd.kept k) (.of_kept k)

/-- What is written behind the blocks of W leaves the reader alone. -/
theorem Rd.below {W w w' : World} {rb : Nat} {a : Option Addr} {cap : Nat} {bs : List UInt8} {p p0 : Nat} (h : Rd w rb a cap bs p) (h0 : Rd W rb a cap bs p0) (k : Below W.heap.size w w') (_hz : W.heap.size ≤ w.heap.size) : Rd w' rb a cap bs p := by
  have hc : ∀ b o, b < W.heap.size → w'.cell? ⟨b, o, none⟩ = w.cell? ⟨b, o, none⟩ := fun b o hl => World.cell?_of_block (w := w) (k.block b hl)
  have hr := h0.row.lt
  have hs := k.size
  refine ⟨h.row.block (k.block _ hr), (hc _ _ hr).trans h.c0, (hc _ _ hr).trans h.c1, fun i hi => ?_⟩
  obtain ⟨b, o, e, hne, _, hcc⟩ := h.bytes i hi
  obtain ⟨b', o', e', _, hl, _⟩ := h0.bytes i hi
  rw [e] at e'
  simp only [Option.some.injEq, Addr.mk.injEq, and_true] at e'
  obtain ⟨rfl, rfl⟩ := e'
  exact ⟨b, o, e, hne, by omega, by rw [hc _ _ hl]; exact hcc⟩
theorem KeptBut.below {W w w' : World} {rb : Nat} (h : KeptBut rb (rb + 1) W w) (k : Below W.heap.size w w') : KeptBut rb (rb + 1) W w' :=
  ⟨k.os.trans h.os, k.tape.trans h.tape, k.output.trans h.output, Nat.le_trans h.size k.size, fun i hi ho => (k.block i hi).trans (h.block i hi ho)⟩

/-- A field of the variable is written. -/
theorem SStN.field {mN : Nat} {W wr : World} {rb sb : Nat} {a : Option Addr} {cap : Nat} {bs : List UInt8} {p : Nat} {va vc : Value} {s s' : StepD} (h : SStN mN W wr rb sb a cap bs p va vc s) {o : Nat} {v : Value} (hb : SBox (wr.setCell ⟨sb, o, none⟩ v) sb va vc s') (ha : s'.asks = s.asks) (hc : s'.cases = s.cases) (ht : s'.TinyN mN) : SStN mN W (wr.setCell ⟨sb, o, none⟩ v) rb sb a cap bs p va vc s' := by
  have hk := h.box.row.same (o := o) v
  have hbl : Below W.heap.size wr (wr.setCell ⟨sb, o, none⟩ v) := (Below.refl _ _).setCell h.sbl v
  obtain ⟨p0, h0⟩ := h.rd0
  exact ⟨h.rd.below h0 hbl h.kb.size, h.rd0, h.sbl, h.kb.below hbl, hb, by rw [ha]; exact owns_kept h.asks hk (by decide), by rw [hc]; exact owns_kept h.cases hk (by decide), ht⟩
theorem SStN.on {mN : Nat} {W wr : World} {rb sb : Nat} {a : Option Addr} {cap : Nat} {bs : List UInt8} {p : Nat} {va vc : Value} {s : StepD} (h : SStN mN W wr rb sb a cap bs p va vc s) {x : Int} (hx : -1000 ≤ x ∧ x ≤ 1000) : SStN mN W (wr.setCell ⟨sb, 1, none⟩ (.int .i64 x)) rb sb a cap bs p va vc { s with on := x } :=
  h.field (h.box.on x) rfl rfl ⟨h.tiny.asks, h.tiny.askEach, hx, h.tiny.cases, h.tiny.caseEach, h.tiny.els, h.tiny.fall, h.tiny.give⟩
theorem SStN.els {mN : Nat} {W wr : World} {rb sb : Nat} {a : Option Addr} {cap : Nat} {bs : List UInt8} {p : Nat} {va vc : Value} {s : StepD} (h : SStN mN W wr rb sb a cap bs p va vc s) {x : Int} (hx : -1000 ≤ x ∧ x ≤ 1000) : SStN mN W (wr.setCell ⟨sb, 3, none⟩ (.int .i64 x)) rb sb a cap bs p va vc { s with els := x } :=
  h.field (h.box.els x) rfl rfl ⟨h.tiny.asks, h.tiny.askEach, h.tiny.on, h.tiny.cases, h.tiny.caseEach, in64_of hx, h.tiny.fall, h.tiny.give⟩
theorem SStN.fall {mN : Nat} {W wr : World} {rb sb : Nat} {a : Option Addr} {cap : Nat} {bs : List UInt8} {p : Nat} {va vc : Value} {s : StepD} (h : SStN mN W wr rb sb a cap bs p va vc s) {x : Int} (hx : -1000 ≤ x ∧ x ≤ 1000) : SStN mN W (wr.setCell ⟨sb, 4, none⟩ (.int .i64 x)) rb sb a cap bs p va vc { s with fall := x } :=
  h.field (h.box.fall x) rfl rfl ⟨h.tiny.asks, h.tiny.askEach, h.tiny.on, h.tiny.cases, h.tiny.caseEach, h.tiny.els, hx, h.tiny.give⟩

theorem SStN.askBox {mN : Nat} {W wr w1 w2 : World} {rb sb : Nat} {a : Option Addr} {cap : Nat} {bs : List UInt8} {p : Nat} {va vc : Value} {s : StepD} (h : SStN mN W wr rb sb a cap bs p va vc s) (k1 : Kept wr w1) (hg : w1.grownBy w2 va.ownBlock) : SBox w2 sb va vc s :=
  (h.kept k1).box.same (SameKind.of_grown (h.kept k1).asks hg) (by decide)
theorem SStN.caseBox {mN : Nat} {W wr w1 w2 : World} {rb sb : Nat} {a : Option Addr} {cap : Nat} {bs : List UInt8} {p : Nat} {va vc : Value} {s : StepD} (h : SStN mN W wr rb sb a cap bs p va vc s) (k1 : Kept wr w1) (hg : w1.grownBy w2 vc.ownBlock) : SBox w2 sb va vc s :=
  (h.kept k1).box.same (SameKind.of_grown (h.kept k1).cases hg) (by decide)

/-- A name is appended to the asks. -/
theorem SStN.addAsk {mN : Nat} {W wr w1 w2 : World} {rb sb : Nat} {a : Option Addr} {cap : Nat} {bs : List UInt8} {p : Nat} {va vc v' : Value} {s : StepD} {x : ByteArray} (h : SStN mN W wr rb sb a cap bs p va vc s) (k1 : Kept wr w1)
    (hown : w2.ownsRow W.heap.size 9 1 v' (s.asks.length + 1) (s.asks.map Value.string ++ [.string x])) (hg : w1.grownBy w2 va.ownBlock) (hl : s.asks.length + 1 ≤ mN) (hx : x.size ≤ 300) : SStN mN W (w2.setCell ⟨sb, 0, none⟩ v') rb sb a cap bs p v' vc { s with asks := s.asks ++ [x] } := by
  have h1 := h.kept k1
  have hk : SameKind 9 w1 w2 := SameKind.of_grown h1.asks hg
  have hb2 := h1.box.same hk (by decide)
  have hk2 := hb2.row.same (o := 0) v'
  have hbl : Below W.heap.size w1 (w2.setCell ⟨sb, 0, none⟩ v') := ((Below.refl _ _).grown hg h1.kb.size (fun k hk => (h1.asks.lt k hk).1)).setCell h.sbl v'
  obtain ⟨p0, h0⟩ := h.rd0
  refine ⟨h1.rd.below h0 hbl h1.kb.size, h.rd0, h.sbl, h1.kb.below hbl, hb2.asks v' _, ?_, owns_kept (owns_kept h1.cases hk (by decide)) hk2 (by decide), ?_⟩
  · have := owns_kept hown hk2 (by decide)
    simpa using this
  · refine ⟨by simpa using hl, fun y hy => ?_, h.tiny.on, h.tiny.cases, h.tiny.caseEach, h.tiny.els, h.tiny.fall, h.tiny.give⟩
    simp only [List.mem_append, List.mem_singleton] at hy
    rcases hy with hy | rfl
    · exact h.tiny.askEach y hy
    · exact hx
/-- A case is appended to the cases. -/
theorem SStN.addCase {mN : Nat} {W wr w1 w2 : World} {rb sb : Nat} {a : Option Addr} {cap : Nat} {bs : List UInt8} {p : Nat} {va vc v' : Value} {s : StepD} {x : CaseD} (h : SStN mN W wr rb sb a cap bs p va vc s) (k1 : Kept wr w1)
    (hown : w2.ownsRow W.heap.size 62 2 v' (s.cases.length + 1) (dCaseCells s.cases ++ x.cells)) (hg : w1.grownBy w2 vc.ownBlock) (hl : s.cases.length + 1 ≤ mN) (hx : x.Tiny) : SStN mN W (w2.setCell ⟨sb, 2, none⟩ v') rb sb a cap bs p va v' { s with cases := s.cases ++ [x] } := by
  have h1 := h.kept k1
  have hk : SameKind 62 w1 w2 := SameKind.of_grown h1.cases hg
  have hb2 := h1.box.same hk (by decide)
  have hk2 := hb2.row.same (o := 2) v'
  have hbl : Below W.heap.size w1 (w2.setCell ⟨sb, 2, none⟩ v') := ((Below.refl _ _).grown hg h1.kb.size (fun k hk => (h1.cases.lt k hk).1)).setCell h.sbl v'
  obtain ⟨p0, h0⟩ := h.rd0
  refine ⟨h1.rd.below h0 hbl h1.kb.size, h.rd0, h.sbl, h1.kb.below hbl, hb2.cases v' _, owns_kept (owns_kept h1.asks hk (by decide)) hk2 (by decide), ?_, ?_⟩
  · have := owns_kept hown hk2 (by decide)
    rw [← dCaseCells_snoc] at this
    simpa using this
  · refine ⟨h.tiny.asks, h.tiny.askEach, h.tiny.on, by simpa using hl, fun y hy => ?_, h.tiny.els, h.tiny.fall, h.tiny.give⟩
    simp only [List.mem_append, List.mem_singleton] at hy
    rcases hy with hy | rfl
    · exact h.tiny.caseEach y hy
    · exact hx
/-- A nil slice among these cells has no room. -/
def NilOk (cs : List Value) : Prop := ∀ n c, Value.slice none n c ∈ cs → n = 0 ∧ c = 0
theorem NilOk.append {xs cs : List Value} (h : NilOk xs) (k : NilOk cs) : NilOk (xs ++ cs) := fun n c hm => by
  rcases List.mem_append.1 hm with h1 | h1
  · exact h n c h1
  · exact k n c h1
theorem nil_of_owned {w : World} {base size : Nat} {e : TypeId} {n c m : Nat} {xs : List Value} (h : w.ownsRow base e size (.slice none n c) m xs) : n = 0 ∧ c = 0 := by
  rcases h.2 with ⟨e, _⟩ | ⟨g, cap, cur, e, _⟩
  · simp only [Value.slice.injEq, true_and] at e; exact e
  · simp at e
theorem nil_cells {s : StepD} {aa ac : Option Addr} {ca cc : Nat} (h1 : aa = none → s.asks.length = 0 ∧ ca = 0) (h2 : ac = none → s.cases.length = 0 ∧ cc = 0) : NilOk (s.cells aa ca ac cc) := by
  intro n c hm
  simp only [StepD.cells, List.mem_cons, List.not_mem_nil, or_false, Value.slice.injEq, reduceCtorEq, false_or, or_self] at hm
  rcases hm with ⟨e, rfl, rfl⟩ | ⟨e, rfl, rfl⟩
  · exact h1 e.symm
  · exact h2 e.symm
theorem SStN.nils {mN : Nat} {W wr : World} {rb sb : Nat} {a : Option Addr} {cap : Nat} {bs : List UInt8} {p : Nat} {aa ac : Option Addr} {n ca m cc : Nat} {s : StepD} (h : SStN mN W wr rb sb a cap bs p (.slice aa n ca) (.slice ac m cc) s) (hn : n = s.asks.length) (hm : m = s.cases.length) : NilOk (s.cells aa ca ac cc) := by
  subst hn hm
  exact nil_cells (fun e => by subst e; exact nil_of_owned h.asks) (fun e => by subst e; exact nil_of_owned h.cases)
/-- The cells of the variable. -/
theorem SStN.cells {mN : Nat} {W wr : World} {rb sb : Nat} {a : Option Addr} {cap : Nat} {bs : List UInt8} {p : Nat} {va vc : Value} {s : StepD} (h : SStN mN W wr rb sb a cap bs p va vc s) : ∃ aa ca ac cc, va = .slice aa s.asks.length ca ∧ vc = .slice ac s.cases.length cc ∧ TStep wr 9 62 (s.cells aa ca ac cc) s := by
  obtain ⟨aa, ca, ea, hca, ta⟩ := d_tstrs_of_owned h.asks
  obtain ⟨ac, cc, ec, tc⟩ := d_tcases_of_owned h.cases
  exact ⟨aa, ca, ac, cc, ea, ec, aa, ca, ac, cc, rfl, ta, tc, hca⟩

abbrev SSt (W wr : World) (rb sb : Nat) (a : Option Addr) (cap : Nat) (bs : List UInt8) (p : Nat) (va vc : Value) (s : StepD) : Prop := SStN 20 W wr rb sb a cap bs p va vc s

/-- The action that is being drawn; w is the world ahead of its variables. -/
structure AStN (m : Nat) (w wr : World) (rb ab : Nat) (a : Option Addr) (cap : Nat) (bs : List UInt8) (p : Nat) (cost : Int) (v : Value) (L : List StepD) (xs : List Value) : Prop where
  rd : Rd wr rb a cap bs p
  rd0 : ∃ p0, Rd w rb a cap bs p0
  abl : w.heap.size ≤ ab
  kb : KeptBut rb (rb + 1) w wr
  row : RowT wr ab 25 2
  c0 : wr.cell? ⟨ab, 0, none⟩ = some (.int .i64 cost)
  c1 : wr.cell? ⟨ab, 1, none⟩ = some v
  own : wr.ownsRow w.heap.size 50 8 v L.length xs
  pack : PackedS wr 9 62 xs L
  tiny : ∀ s ∈ L, s.TinyN m
  nils : NilOk xs

theorem AStN.rbl {mN : Nat} {w wr : World} {rb ab : Nat} {a : Option Addr} {cap : Nat} {bs : List UInt8} {p : Nat} {cost : Int} {v : Value} {L : List StepD} {xs : List Value} (h : AStN mN w wr rb ab a cap bs p cost v L xs) : rb < w.heap.size := let ⟨_, h0⟩ := h.rd0; h0.row.lt
theorem AStN.drawn {mN : Nat} {w wr w' : World} {rb ab : Nat} {a : Option Addr} {cap : Nat} {bs : List UInt8} {p p' : Nat} {cost : Int} {v : Value} {L : List StepD} {xs : List Value} (h : AStN mN w wr rb ab a cap bs p cost v L xs) (hR : Rd w' rb a cap bs p') (k : KeptBut rb (rb + 1) wr w') : AStN mN w w' rb ab a cap bs p' cost v L xs := by
  have hk := k.sameKind h.rd
  have := h.rbl
  have := h.abl
  have hc : ∀ o, w'.cell? ⟨ab, o, none⟩ = wr.cell? ⟨ab, o, none⟩ := fun o => k.cell h.row.lt (by omega)
  exact ⟨hR, h.rd0, h.abl, h.kb.trans k, h.row.but k (by omega), (hc _).trans h.c0, (hc _).trans h.c1, owns_kept h.own hk (by decide), h.pack.same hk (by decide) (by decide), h.tiny, h.nils⟩
theorem AStN.kept {mN : Nat} {w wr w' : World} {rb ab : Nat} {a : Option Addr} {cap : Nat} {bs : List UInt8} {p : Nat} {cost : Int} {v : Value} {L : List StepD} {xs : List Value} (h : AStN mN w wr rb ab a cap bs p cost v L xs) (k : Kept wr w') : AStN mN w w' rb ab a cap bs p cost v L xs := h.drawn (h.rd.kept k) (.of_kept k)

theorem PackedS.push {w : World} {ts tc : TypeId} {xs cs : List Value} {l : List StepD} {s : StepD} (h : PackedS w ts tc xs l) (hc : TStep w ts tc cs s) : PackedS w ts tc (xs ++ cs) (l ++ [s]) := by
  have e1 : (l ++ [s]).take l.length = l := by simp
  have e2 : (l ++ [s]).take (l.length + 1) = l ++ [s] := by rw [List.take_of_length_le]; simp
  have := PackedS.snoc (k := l.length) (l := l ++ [s]) (by simp) (by rw [e1]; exact h) (cs := cs) (by simpa [List.getD] using hc)
  rw [e2] at this
  exact this

theorem AStN.pushRow {mN : Nat} {w wr w1 w2 : World} {rb ab : Nat} {a : Option Addr} {cap : Nat} {bs : List UInt8} {p : Nat} {cost : Int} {v : Value} {L : List StepD} {xs : List Value} (h : AStN mN w wr rb ab a cap bs p cost v L xs) (k1 : Kept wr w1) (hg : w1.grownBy w2 v.ownBlock) : w2.cell? ⟨ab, 1, none⟩ = some v ∧ RowT w2 ab 25 2 := by
  have h1 := h.kept k1
  have hk : SameKind 50 w1 w2 := SameKind.of_grown h1.own hg
  obtain ⟨cur, g1, g2⟩ := h1.row
  have hb := hk ab cur _ _ (by decide) g1
  exact ⟨by rw [World.cell?_of_block (w := w1) (hb.trans g1.symm)]; exact h1.c1, cur, hb, g2⟩
/-- A step is appended to the action. -/
theorem AStN.push {mN : Nat} {w wr w1 w2 : World} {rb ab : Nat} {a : Option Addr} {cap : Nat} {bs : List UInt8} {p : Nat} {cost : Int} {v v' : Value} {L : List StepD} {xs cs : List Value} {s : StepD} (h : AStN mN w wr rb ab a cap bs p cost v L xs) (k1 : Kept wr w1) (hs : TStep wr 9 62 cs s) (ht : s.TinyN mN) (hn : NilOk cs)
    (hown : w2.ownsRow w.heap.size 50 8 v' (L.length + 1) (xs ++ cs)) (hg : w1.grownBy w2 v.ownBlock) : AStN mN w (w2.setCell ⟨ab, 1, none⟩ v') rb ab a cap bs p cost v' (L ++ [s]) (xs ++ cs) := by
  have h1 := h.kept k1
  have hk : SameKind 50 w1 w2 := SameKind.of_grown h1.own hg
  have hr2 : RowT w2 ab 25 2 := by
    obtain ⟨cur, g1, g2⟩ := h1.row
    exact ⟨cur, hk ab cur _ _ (by decide) g1, g2⟩
  have hc2 : w2.cell? ⟨ab, 0, none⟩ = some (.int .i64 cost) := by
    obtain ⟨cur, g1, _⟩ := h1.row
    rw [World.cell?_of_block (w := w1) ((hk ab cur _ _ (by decide) g1).trans g1.symm)]
    exact h1.c0
  have hk2 := hr2.same (o := 1) v'
  have hbl : Below w.heap.size w1 (w2.setCell ⟨ab, 1, none⟩ v') := ((Below.refl _ _).grown hg h1.kb.size (fun k hk => (h1.own.lt k hk).1)).setCell h.abl v'
  obtain ⟨p0, h0⟩ := h.rd0
  refine ⟨h1.rd.below h0 hbl h1.kb.size, h.rd0, h.abl, h1.kb.below hbl, hr2.set _, (set_miss (by omega) _).trans hc2, set_hit hr2.row (by omega) _, ?_, ?_, fun y hy => ?_, h.nils.append hn⟩
  · have := owns_kept hown hk2 (by decide)
    simpa using this
  · exact ((h1.pack.push (hs.same (u := 71) (SameKind.of_kept k1) (by decide) (by decide))).same hk (by decide) (by decide)).same hk2 (by decide) (by decide)
  · simp only [List.mem_append, List.mem_singleton] at hy
    rcases hy with hy | rfl
    · exact h.tiny y hy
    · exact ht
theorem AStN.cost {mN : Nat} {w wr : World} {rb ab : Nat} {a : Option Addr} {cap : Nat} {bs : List UInt8} {p : Nat} {cost x : Int} {v : Value} {L : List StepD} {xs : List Value} (h : AStN mN w wr rb ab a cap bs p cost v L xs) : AStN mN w (wr.setCell ⟨ab, 0, none⟩ (.int .i64 x)) rb ab a cap bs p x v L xs := by
  have hk := h.row.same (o := 0) (.int .i64 x)
  have hbl : Below w.heap.size wr (wr.setCell ⟨ab, 0, none⟩ (.int .i64 x)) := (Below.refl _ _).setCell h.abl _
  obtain ⟨p0, h0⟩ := h.rd0
  exact ⟨h.rd.below h0 hbl h.kb.size, h.rd0, h.abl, h.kb.below hbl, h.row.set _, set_hit h.row.row (by omega) _, (set_miss (by omega) _).trans h.c1, owns_kept h.own hk (by decide), (h.pack.same hk (by decide) (by decide)), h.tiny, h.nils⟩

abbrev ASt (w wr : World) (rb ab : Nat) (a : Option Addr) (cap : Nat) (bs : List UInt8) (p : Nat) (cost : Int) (v : Value) (L : List StepD) (xs : List Value) : Prop := AStN 20 w wr rb ab a cap bs p cost v L xs

end Go.Proofs.YtlllckfifkgcnaaDoor
