import Derived.Test.YtlllckfifkgcnaaDoorDDraw0

/-
  THE WALK over spec.l1Copy: steps whose lists lie anywhere; what comes out owns its lists, each in a row of its own.
-/
namespace Go.Proofs.YtlllckfifkgcnaaDoor
open Go.RowKit

theorem d_strs_news {w : World} {ad : Addr} {l : List ByteArray} (h : Strs w (some ad) l) : ∀ j u, (l.map Value.string)[j]? = some u → w.cell? (ad.add j) = some u := by
  intro j u hu
  rw [List.getElem?_map] at hu
  obtain ⟨x, hx, rfl⟩ := Option.map_eq_some_iff.1 hu
  obtain ⟨hj, hx'⟩ := List.getElem?_eq_some_iff.1 hx
  obtain ⟨b', o', e, _, hc⟩ := h j hj
  simp only [Option.some.injEq] at e
  subst e
  rw [Addr.add_mid, hc]
  simp [List.getD, hj, hx']
theorem d_cases_news {w : World} {ad : Addr} {l : List CaseD} (h : Cases w (some ad) l) : ∀ j u, (dCaseCells l)[j]? = some u → w.cell? (ad.add j) = some u := by
  intro j u hu
  have hj : j < l.length * 2 := by rw [← dCaseCells_length]; exact (List.getElem?_eq_some_iff.1 hu).1
  have hi : j / 2 < l.length := by omega
  have e := dCaseCells_get l (j / 2) (j % 2) hi (by omega)
  rw [show j / 2 * 2 + j % 2 = j by omega, hu] at e
  obtain ⟨b', o', e', _, hc⟩ := h (j / 2) hi
  simp only [Option.some.injEq] at e'
  subst e'
  have := hc (j % 2) u e.symm
  rw [Addr.add_mid]
  rw [show o' + j / 2 * 2 + j % 2 = o' + j by omega] at this
  exact this

/-- The slice that begins at a holds these steps; a nil list has no room. -/
def StepsN (w : World) (a : Option Addr) (l : List StepD) : Prop :=
  ∀ i, i < l.length → ∃ b o aa ca ac cc, a = some ⟨b, o, none⟩ ∧ b < w.heap.size ∧ w.rangeAt b (o + i * 8) ((l.getD i StepD.zero).cells aa ca ac cc) ∧ Strs w aa (l.getD i StepD.zero).asks ∧ Cases w ac (l.getD i StepD.zero).cases ∧
    (aa = none → (l.getD i StepD.zero).asks.length = 0 ∧ ca = 0) ∧ (ac = none → (l.getD i StepD.zero).cases.length = 0 ∧ cc = 0)
theorem StepsN.kept {w w' : World} {a : Option Addr} {l : List StepD} (h : StepsN w a l) (k : Kept w w') : StepsN w' a l := by
  intro i hi
  obtain ⟨b, o, aa, ca, ac, cc, ha, hb, hr, hs, hc, h1, h2⟩ := h i hi
  exact ⟨b, o, aa, ca, ac, cc, ha, Nat.lt_of_lt_of_le hb k.size, k.range hb hr, hs.kept k, hc.kept k, h1, h2⟩
theorem TStepsN.stepsN {w : World} {v : Value} {L : List StepD} (h : TStepsN w v L) : ∃ a cap, v = .slice a L.length cap ∧ L.length ≤ cap ∧ StepsN w a L := by
  obtain ⟨base, xs, g1, g2, g3⟩ := h
  rcases g1.2 with ⟨rfl, h0⟩ | ⟨g, cap, cur, rfl, hb, hg, hnc, _, _, _⟩
  · exact ⟨none, 0, by rw [h0], by omega, fun i hi => by omega⟩
  · refine ⟨_, cap, rfl, hnc, fun i hi => ?_⟩
    obtain ⟨aa, ca, ac, cc, e, s1, s2, s3⟩ := g2.2 i hi
    have hcell : ∀ j u, ((xs.drop (i * 8)).take 8)[j]? = some u → w.cell? ⟨g, 0 + i * 8 + j, none⟩ = some u := by
      intro j u hu
      have hj : j < 8 := by have := (List.getElem?_eq_some_iff.1 hu).1; rw [List.length_take] at this; omega
      rw [List.getElem?_take, if_pos hj, List.getElem?_drop] at hu
      have := g1.cells (g := g) rfl _ _ hu
      rw [Addr.add_mid] at this
      rw [Nat.add_assoc]
      exact this
    have hmem : ∀ u, u ∈ (L.getD i StepD.zero).cells aa ca ac cc → u ∈ xs := fun u hu => by
      rw [← e] at hu
      exact List.mem_of_mem_drop (List.mem_of_mem_take hu)
    refine ⟨g, 0, aa, ca, ac, cc, rfl, heap_lt hg, fun j u hu => hcell j u (by rw [e]; exact hu), s1.strs, s2.cases, fun ha => ?_, fun ha => ?_⟩
    · subst ha; exact g3 _ _ (hmem _ (by simp [StepD.cells]))
    · subst ha; exact g3 _ _ (hmem _ (by simp [StepD.cells]))

/-- These cells are that step; its lists lie in rows of the call's own. -/
def OStep (w : World) (base : Nat) (cs : List Value) (s : StepD) : Prop :=
  ∃ aa ca ac cc, cs = s.cells aa ca ac cc ∧ w.ownsRow base 9 1 (.slice aa s.asks.length ca) s.asks.length (s.asks.map Value.string) ∧ w.ownsRow base 62 2 (.slice ac s.cases.length cc) s.cases.length (dCaseCells s.cases)
theorem OStep.same {w w' : World} {base : Nat} {cs : List Value} {s : StepD} (h : OStep w base cs s) {u : TypeId} (k : SameKind u w w') (h1 : 9 ≠ u) (h2 : 62 ≠ u) : OStep w' base cs s := by
  obtain ⟨aa, ca, ac, cc, e, g1, g2⟩ := h
  exact ⟨aa, ca, ac, cc, e, owns_kept g1 k h1, owns_kept g2 k h2⟩
theorem OStep.base {w : World} {base base' : Nat} {cs : List Value} {s : StepD} (h : OStep w base cs s) (hb : base' ≤ base) : OStep w base' cs s := by
  obtain ⟨aa, ca, ac, cc, e, g1, g2⟩ := h
  exact ⟨aa, ca, ac, cc, e, owns_base g1 hb, owns_base g2 hb⟩
theorem OStep.step {w : World} {base : Nat} {cs : List Value} {s : StepD} (h : OStep w base cs s) : TStep w 9 62 cs s := by
  obtain ⟨aa, ca, ac, cc, e, g1, g2⟩ := h
  obtain ⟨a1, c1, e1, h1, t1⟩ := d_tstrs_of_owned g1
  obtain ⟨a2, c2, e2, t2⟩ := d_tcases_of_owned g2
  simp only [Value.slice.injEq, true_and] at e1 e2
  obtain ⟨rfl, rfl⟩ := e1
  obtain ⟨rfl, rfl⟩ := e2
  exact ⟨_, _, _, _, e, t1, t2, h1⟩
theorem OStep.nils {w : World} {base : Nat} {cs : List Value} {s : StepD} (h : OStep w base cs s) : NilOk cs := by
  obtain ⟨aa, ca, ac, cc, rfl, g1, g2⟩ := h
  exact nil_cells (fun e => by subst e; exact nil_of_owned g1) (fun e => by subst e; exact nil_of_owned g2)
/-- The block of the asks, of the cases. -/
def askBlk (cs : List Value) : Option Nat := (cs.getD 0 undef).ownBlock
def caseBlk (cs : List Value) : Option Nat := (cs.getD 2 undef).ownBlock
theorem OStep.blks {w : World} {base : Nat} {cs : List Value} {s : StepD} (h : OStep w base cs s) : (∀ b, askBlk cs = some b → base ≤ b ∧ b < w.heap.size) ∧ ∀ b, caseBlk cs = some b → base ≤ b ∧ b < w.heap.size := by
  obtain ⟨aa, ca, ac, cc, rfl, g1, g2⟩ := h
  exact ⟨fun b hb => g1.lt b hb, fun b hb => g2.lt b hb⟩
def segS (xs : List Value) (i : Nat) : List Value := (xs.drop (i * 8)).take 8
/-- These cells are these steps, all their lists in rows of their own. -/
structure PackedO (w : World) (base : Nat) (xs : List Value) (l : List StepD) : Prop where
  len : xs.length = l.length * 8
  each : ∀ i, i < l.length → OStep w base (segS xs i) (l.getD i StepD.zero)
  apart : ∀ i j, i < l.length → j < l.length → i ≠ j → (∀ b, askBlk (segS xs i) = some b → askBlk (segS xs j) ≠ some b) ∧ ∀ b, caseBlk (segS xs i) = some b → caseBlk (segS xs j) ≠ some b
theorem PackedO.nil (w : World) (base : Nat) : PackedO w base [] [] := ⟨rfl, fun i hi => by simp at hi, fun i j hi => by simp at hi⟩
theorem PackedO.same {w w' : World} {base : Nat} {xs : List Value} {l : List StepD} (h : PackedO w base xs l) {u : TypeId} (k : SameKind u w w') (h1 : 9 ≠ u) (h2 : 62 ≠ u) : PackedO w' base xs l :=
  ⟨h.len, fun i hi => (h.each i hi).same k h1 h2, h.apart⟩
theorem PackedO.packed {w : World} {base : Nat} {xs : List Value} {l : List StepD} (h : PackedO w base xs l) : PackedS w 9 62 xs l := ⟨h.len, fun i hi => (h.each i hi).step⟩
theorem PackedO.push {w : World} {base H : Nat} {xs cs : List Value} {l : List StepD} {s : StepD} (h : PackedO w base xs l) (hs : OStep w H cs s) (hb : base ≤ H) (hold : ∀ i, i < l.length → (∀ b, askBlk (segS xs i) = some b → b < H) ∧ ∀ b, caseBlk (segS xs i) = some b → b < H) : PackedO w base (xs ++ cs) (l ++ [s]) := by
  have hcl : cs.length = 8 := by obtain ⟨_, _, _, _, rfl, _⟩ := hs; rfl
  have hxl := h.len
  have old : ∀ i, i < l.length → segS (xs ++ cs) i = segS xs i ∧ (l ++ [s]).getD i StepD.zero = l.getD i StepD.zero := by
    intro i hi
    refine ⟨?_, by simp [List.getD, List.getElem?_append_left hi]⟩
    unfold segS
    rw [List.drop_append_of_le_length (by omega), List.take_append_of_le_length (by rw [List.length_drop]; omega)]
  have new : segS (xs ++ cs) l.length = cs ∧ (l ++ [s]).getD l.length StepD.zero = s := by
    refine ⟨?_, by simp [List.getD]⟩
    unfold segS
    rw [← hxl, List.drop_left, List.take_of_length_le (by omega)]
  refine ⟨by simp only [List.length_append, List.length_cons, List.length_nil, hxl, hcl]; omega, fun i hi => ?_, fun i j hi hj hij => ?_⟩
  · by_cases e : i < l.length
    · rw [(old i e).1, (old i e).2]; exact h.each i e
    · obtain rfl : i = l.length := by simp at hi; omega
      rw [new.1, new.2]; exact hs.base hb
  · simp only [List.length_append, List.length_cons, List.length_nil] at hi hj
    by_cases e : i < l.length
    · by_cases e2 : j < l.length
      · rw [(old i e).1, (old j e2).1]; exact h.apart i j e e2 hij
      · obtain rfl : j = l.length := by omega
        rw [(old i e).1, new.1]
        exact ⟨fun b hb hc => by have := (hold i e).1 b hb; have := (hs.blks.1 b hc).1; omega, fun b hb hc => by have := (hold i e).2 b hb; have := (hs.blks.2 b hc).1; omega⟩
    · obtain rfl : i = l.length := by omega
      have e2 : j < l.length := by omega
      rw [new.1, (old j e2).1]
      exact ⟨fun b hb hc => by have := (hold j e2).1 b hc; have := (hs.blks.1 b hb).1; omega, fun b hb hc => by have := (hold j e2).2 b hc; have := (hs.blks.2 b hb).1; omega⟩

/-- The copy that is being made. -/
structure CSt (w wr : World) (a : Option Addr) (n cap : Nat) (cost : Int) (v : Value) (L : List StepD) (xs : List Value) : Prop where
  kept : Kept w wr
  argr : RowT wr w.heap.size 25 2
  arg : wr.cell? ⟨w.heap.size, 1, none⟩ = some (.slice a n cap)
  res : RowT wr (w.heap.size + 1) 25 2
  out : RowT wr (w.heap.size + 2) 25 2
  o0 : wr.cell? ⟨w.heap.size + 2, 0, none⟩ = some (.int .i64 cost)
  o1 : wr.cell? ⟨w.heap.size + 2, 1, none⟩ = some v
  own : wr.ownsRow w.heap.size 50 8 v L.length xs
  pack : PackedO wr w.heap.size xs L
theorem CSt.of_kept {w wr w' : World} {a : Option Addr} {n cap : Nat} {cost : Int} {v : Value} {L : List StepD} {xs : List Value} (h : CSt w wr a n cap cost v L xs) (k : Kept wr w') : CSt w w' a n cap cost v L xs :=
  ⟨h.kept.trans k, h.argr.kept k, (k.cell h.argr.lt).trans h.arg, h.res.kept k, h.out.kept k, (k.cell h.out.lt).trans h.o0, (k.cell h.out.lt).trans h.o1, ownsRow_kept' h.own k, h.pack.same (u := 71) (SameKind.of_kept k) (by decide) (by decide)⟩
theorem CSt.pushRow {w wr w1 w2 : World} {a : Option Addr} {n cap : Nat} {cost : Int} {v : Value} {L : List StepD} {xs : List Value} (h : CSt w wr a n cap cost v L xs) (k1 : Kept wr w1) (hg : w1.grownBy w2 v.ownBlock) : w2.cell? ⟨w.heap.size + 2, 1, none⟩ = some v ∧ RowT w2 (w.heap.size + 2) 25 2 := by
  have h1 := h.of_kept k1
  have hk : SameKind 50 w1 w2 := SameKind.of_grown h1.own hg
  obtain ⟨cur, g1, g2⟩ := h1.out
  have hb := hk _ cur _ _ (by decide) g1
  exact ⟨by rw [World.cell?_of_block (w := w1) (hb.trans g1.symm)]; exact h1.o1, cur, hb, g2⟩
theorem CSt.push {w wr w4 w1 w2 : World} {a : Option Addr} {n cap : Nat} {cost : Int} {v v' : Value} {L : List StepD} {xs cs : List Value} {s : StepD} (h : CSt w wr a n cap cost v L xs) (k4 : Kept wr w4) (k1 : Kept w4 w1) (hs : OStep w4 wr.heap.size cs s)
    (hown : w2.ownsRow w.heap.size 50 8 v' (L.length + 1) (xs ++ cs)) (hg : w1.grownBy w2 v.ownBlock) : CSt w (w2.setCell ⟨w.heap.size + 2, 1, none⟩ v') a n cap cost v' (L ++ [s]) (xs ++ cs) := by
  have h1 := h.of_kept (k4.trans k1)
  have hk : SameKind 50 w1 w2 := SameKind.of_grown h1.own hg
  have row : ∀ b, RowT w1 b 25 2 → RowT w2 b 25 2 ∧ ∀ o, w2.cell? ⟨b, o, none⟩ = w1.cell? ⟨b, o, none⟩ := by
    intro b hr
    obtain ⟨cur, g1, g2⟩ := hr
    have hb := hk _ cur _ _ (by decide) g1
    exact ⟨⟨cur, hb, g2⟩, fun o => World.cell?_of_block (w := w1) (hb.trans g1.symm)⟩
  have ra := row _ h1.argr
  have rr := row _ h1.res
  have ro := row _ h1.out
  have hk2 := ro.1.same (o := 1) v'
  have hz := h.kept.size
  have hpk : PackedO w1 w.heap.size (xs ++ cs) (L ++ [s]) := h1.pack.push (hs.same (u := 71) (SameKind.of_kept k1) (by decide) (by decide)) hz (fun i hi => ⟨fun b hb => ((h.pack.each i hi).blks.1 b hb).2, fun b hb => ((h.pack.each i hi).blks.2 b hb).2⟩)
  refine ⟨(kept_of_grown h1.kept (Nat.le_refl _) h1.own hg).setCell (by simp) _, ra.1.block (Below.heap_setCell _ _ _ _ (by simp)), ?_, rr.1.block (Below.heap_setCell _ _ _ _ (by simp)), ro.1.set _, (set_miss (by omega) _).trans ((ro.2 0).trans h1.o0), set_hit ro.1.row (by omega) _, ?_, (hpk.same hk (by decide) (by decide)).same hk2 (by decide) (by decide)⟩
  · rw [World.cell?_setCell_other _ _ _ _ (by simp)]; exact (ra.2 1).trans h1.arg
  · have := owns_kept hown hk2 (by decide)
    simpa using this

/-- Behind the first, the second list of a step. -/
def CS1 (wr wx : World) (s : StepD) (v1 v2 : Value) : Prop := Kept wr wx ∧ SBox wx wr.heap.size v1 v2 s ∧ wx.ownsRow wr.heap.size 9 1 v1 s.asks.length (s.asks.map Value.string)
def CS2 (wr wx : World) (s : StepD) (v1 v2 : Value) : Prop := CS1 wr wx s v1 v2 ∧ wx.ownsRow wr.heap.size 62 2 v2 s.cases.length (dCaseCells s.cases)

end Go.Proofs.YtlllckfifkgcnaaDoor
