import Derived.Test.YtlllckfifkgcnaaDoorDCopyB

/-
  TOWARD spec.l1SpoilAction: a copied action one of whose steps is changed.
-/
namespace Go.Proofs.YtlllckfifkgcnaaDoor
open Go.RowKit

theorem Tryd.dSizeStep : (Tryd.prog.info? 50).map (·.size) = some 8 := by kernel_rfl

/-- Steps that can be read, their blocks by kinds. -/
def StW (w : World) (v : Value) (L : List StepD) : Prop :=
  ∃ a cap, v = .slice a L.length cap ∧ L.length ≤ cap ∧ ∀ i, i < L.length → ∃ b o cur fr cs, a = some ⟨b, o, none⟩ ∧ w.heap[b]? = some (Obj.cells cur 50 fr) ∧ w.rangeAt b (o + i * 8) cs ∧ TStep w 9 62 cs (L.getD i StepD.zero) ∧ NilOk cs
theorem StW.same {w w' : World} {v : Value} {L : List StepD} (h : StW w v L) {u : TypeId} (k : SameKind u w w') (h0 : 50 ≠ u) (h1 : 9 ≠ u) (h2 : 62 ≠ u) : StW w' v L := by
  obtain ⟨a, cap, e, hc, g⟩ := h
  refine ⟨a, cap, e, hc, fun i hi => ?_⟩
  obtain ⟨b, o, cur, fr, cs, ea, hb, hr, ht, hn⟩ := g i hi
  have hb' := k b cur _ fr h0 hb
  exact ⟨b, o, cur, fr, cs, ea, hb', fun j x hx => by rw [World.cell?_of_block (w := w) (hb'.trans hb.symm)]; exact hr j x hx, ht.same k h1 h2, hn⟩
theorem StW.stepsN {w : World} {v : Value} {L : List StepD} (h : StW w v L) : ∃ a cap, v = .slice a L.length cap ∧ L.length ≤ cap ∧ StepsN w a L := by
  obtain ⟨a, cap, e, hc, g⟩ := h
  refine ⟨a, cap, e, hc, fun i hi => ?_⟩
  obtain ⟨b, o, cur, fr, cs, ea, hb, hr, ⟨aa, ca, ac, cc, ecs, s1, s2, s3⟩, hn⟩ := g i hi
  subst ecs
  refine ⟨b, o, aa, ca, ac, cc, ea, heap_lt hb, hr, s1.strs, s2.cases, fun e => ?_, fun e => ?_⟩
  · subst e; exact hn _ _ (by simp [StepD.cells])
  · subst e; exact hn _ _ (by simp [StepD.cells])
theorem StW.steps {w : World} {v : Value} {L : List StepD} (h : StW w v L) : ∃ a cap, v = .slice a L.length cap ∧ L.length ≤ cap ∧ Steps w a L := by
  obtain ⟨a, cap, e, hc, g⟩ := h
  refine ⟨a, cap, e, hc, fun i hi => ?_⟩
  obtain ⟨b, o, cur, fr, cs, ea, hb, hr, ⟨aa, ca, ac, cc, ecs, s1, s2, s3⟩, hn⟩ := g i hi
  exact ⟨b, o, cs, ea, heap_lt hb, hr, aa, ca, ac, cc, ecs, s1.strs, s2.cases, s3⟩
theorem seg_cells {w : World} {base g n cap : Nat} {xs : List Value} (h : w.ownsRow base 50 8 (.slice (some ⟨g, 0, none⟩) n cap) n xs) (i : Nat) : w.rangeAt g (0 + i * 8) (segS xs i) := by
  intro j u hu
  unfold segS at hu
  have hj : j < 8 := by have := (List.getElem?_eq_some_iff.1 hu).1; rw [List.length_take] at this; omega
  rw [List.getElem?_take, if_pos hj, List.getElem?_drop] at hu
  have := h.cells (g := g) rfl _ _ hu
  rw [Addr.add_mid] at this
  rw [Nat.add_assoc]
  exact this
theorem seg_mem {xs : List Value} {i : Nat} {u : Value} (h : u ∈ segS xs i) : u ∈ xs := List.mem_of_mem_drop (List.mem_of_mem_take h)
theorem StW.of_owned {w : World} {base : Nat} {v : Value} {L : List StepD} {xs : List Value} (h : w.ownsRow base 50 8 v L.length xs) (hp : PackedS w 9 62 xs L) (hn : NilOk xs) : StW w v L := by
  rcases h.2 with ⟨rfl, h0⟩ | ⟨g, cap, cur, rfl, hb, hg, hnc, _, _, _⟩
  · exact ⟨none, 0, by rw [h0], by omega, fun i hi => by omega⟩
  · exact ⟨_, cap, rfl, hnc, fun i hi => ⟨g, 0, cur, _, _, rfl, hg, seg_cells h i, hp.2 i hi, fun n c hm => hn n c (seg_mem hm)⟩⟩
theorem TStepsN.stW {w : World} {v : Value} {L : List StepD} (h : TStepsN w v L) : StW w v L := by
  obtain ⟨base, xs, g1, g2, g3⟩ := h
  exact StW.of_owned g1 g2 g3
theorem PackedO.nils {w : World} {base : Nat} {xs : List Value} {l : List StepD} (h : PackedO w base xs l) : NilOk xs := by
  intro n c hm
  obtain ⟨j, hj, e⟩ := List.getElem_of_mem hm
  have hl := h.len
  have hi : j / 8 < l.length := by omega
  refine (h.each (j / 8) hi).nils n c ?_
  rw [← e]
  unfold segS
  refine List.mem_of_getElem? (i := j % 8) ?_
  rw [List.getElem?_take, if_pos (by omega), List.getElem?_drop, show j / 8 * 8 + j % 8 = j by omega, List.getElem?_eq_getElem hj]

/-- A drawn action that can be read. -/
def DrewW (M : Nat) (w w' : World) (rb : Nat) (a : Option Addr) (cap : Nat) (bs : List UInt8) (p t : Nat) (e : Ending) : Prop :=
  ∃ (cost : Int) (v : Value) (L : List StepD) (p' : Nat), e = .returned (.agg #[.int .i64 cost, v]) ∧ p ≤ p' ∧ p' ≤ p + t ∧ L.length ≤ 21 ∧ (-1000 ≤ cost ∧ cost ≤ 1000) ∧ (∀ s ∈ L, s.TinyN M) ∧ StW w' v L ∧ Rd w' rb a cap bs p' ∧ KeptBut rb (rb + 1) w w'

theorem owns_other {w w' : World} {base size : Nat} {e : TypeId} {v : Value} {n : Nat} {xs : List Value} (h : w.ownsRow base e size v n xs) (hb : ∀ b, v.ownBlock = some b → w'.heap[b]? = w.heap[b]?) : w'.ownsRow base e size v n xs := by
  refine ⟨h.1, ?_⟩
  rcases h.2 with h2 | ⟨g, cap, cur, rfl, hb', hg, rest⟩
  · exact .inl h2
  · exact .inr ⟨g, cap, cur, rfl, hb', (hb g rfl).trans hg, rest⟩

/-- Another step of the action: its lists lie apart from those of the one that is changed. -/
def Oth (w : World) (base : Nat) (va vc : Value) (cs : List Value) (t : StepD) : Prop := OStep w base cs t ∧ (∀ b, askBlk cs = some b → va.ownBlock ≠ some b) ∧ ∀ b, caseBlk cs = some b → vc.ownBlock ≠ some b
theorem Oth.same {w w' : World} {base : Nat} {va vc : Value} {cs : List Value} {t : StepD} (h : Oth w base va vc cs t) {u : TypeId} (k : SameKind u w w') (h1 : 9 ≠ u) (h2 : 62 ≠ u) : Oth w' base va vc cs t := ⟨h.1.same k h1 h2, h.2⟩
theorem Oth.grownAsk {w1 w2 : World} {base : Nat} {va vc v' : Value} {cs : List Value} {t : StepD} (h : Oth w1 base va vc cs t) {n : Nat} {xs : List Value} (ho : w1.ownsRow base 9 1 va n xs) (hg : w1.grownBy w2 va.ownBlock) (hat : v'.ownBlock = va.ownBlock ∨ v'.ownBlock = some w1.heap.size) : Oth w2 base v' vc cs t := by
  have hb := h.1.blks
  obtain ⟨⟨aa, ca, ac, cc, rfl, g1, g2⟩, d1, d2⟩ := h
  refine ⟨⟨aa, ca, ac, cc, rfl, owns_other g1 (fun b hb' => hg.block b (hb.1 b hb').2 (fun e => d1 b hb' e.symm)), owns_kept g2 (SameKind.of_grown ho hg) (by decide)⟩, fun b hb' => ?_, d2⟩
  rcases hat with e | e
  · rw [e]; exact d1 b hb'
  · rw [e]; intro e2; have := (hb.1 b hb').2; simp only [Option.some.injEq] at e2; omega
theorem Oth.grownCase {w1 w2 : World} {base : Nat} {va vc v' : Value} {cs : List Value} {t : StepD} (h : Oth w1 base va vc cs t) {n : Nat} {xs : List Value} (ho : w1.ownsRow base 62 2 vc n xs) (hg : w1.grownBy w2 vc.ownBlock) (hat : v'.ownBlock = vc.ownBlock ∨ v'.ownBlock = some w1.heap.size) : Oth w2 base va v' cs t := by
  have hb := h.1.blks
  obtain ⟨⟨aa, ca, ac, cc, rfl, g1, g2⟩, d1, d2⟩ := h
  refine ⟨⟨aa, ca, ac, cc, rfl, owns_kept g1 (SameKind.of_grown ho hg) (by decide), owns_other g2 (fun b hb' => hg.block b (hb.2 b hb').2 (fun e => d2 b hb' e.symm))⟩, d1, fun b hb' => ?_⟩
  rcases hat with e | e
  · rw [e]; exact d2 b hb'
  · rw [e]; intro e2; have := (hb.2 b hb').2; simp only [Option.some.injEq] at e2; omega

/-- One step of a copied action is being changed. -/
structure SpSt (M : Nat) (w wr : World) (rb ob sb : Nat) (a : Option Addr) (cap : Nat) (bs : List UInt8) (p : Nat) (cost : Int) (v : Value) (L : List StepD) (xs : List Value) (k : Nat) (va vc : Value) (s : StepD) : Prop where
  st : SStN M w wr rb sb a cap bs p va vc s
  obl : w.heap.size ≤ ob
  row : RowT wr ob 25 2
  c0 : wr.cell? ⟨ob, 0, none⟩ = some (.int .i64 cost)
  c1 : wr.cell? ⟨ob, 1, none⟩ = some v
  own : wr.ownsRow w.heap.size 50 8 v L.length xs
  sbn : v.ownBlock ≠ some sb
  len : xs.length = L.length * 8
  kl : k < L.length
  oth : ∀ i, i < L.length → i ≠ k → Oth wr w.heap.size va vc (segS xs i) (L.getD i StepD.zero)
  tiny : ∀ s ∈ L, s.TinyN M
theorem RowT.sameT {w w' : World} {b n : Nat} {t u : TypeId} (h : RowT w b t n) (k : SameKind u w w') (hu : t ≠ u) : RowT w' b t n ∧ ∀ o, w'.cell? ⟨b, o, none⟩ = w.cell? ⟨b, o, none⟩ := by
  obtain ⟨cur, g1, g2⟩ := h
  have hb := k _ cur _ _ hu g1
  exact ⟨⟨cur, hb, g2⟩, fun o => World.cell?_of_block (w := w) (hb.trans g1.symm)⟩
theorem SpSt.drawn {M : Nat} {w wr w' : World} {rb ob sb : Nat} {a : Option Addr} {cap : Nat} {bs : List UInt8} {p p' : Nat} {cost : Int} {v : Value} {L : List StepD} {xs : List Value} {k : Nat} {va vc : Value} {s : StepD} (h : SpSt M w wr rb ob sb a cap bs p cost v L xs k va vc s) (hR : Rd w' rb a cap bs p') (kb : KeptBut rb (rb + 1) wr w') : SpSt M w w' rb ob sb a cap bs p' cost v L xs k va vc s := by
  have hk := kb.sameKind h.st.rd
  have hr := h.row.sameT hk (by decide)
  exact ⟨h.st.drawn hR kb, h.obl, hr.1, (hr.2 0).trans h.c0, (hr.2 1).trans h.c1, owns_kept h.own hk (by decide), h.sbn, h.len, h.kl, fun i hi hn => (h.oth i hi hn).same hk (by decide) (by decide), h.tiny⟩
theorem SpSt.kept {M : Nat} {w wr w' : World} {rb ob sb : Nat} {a : Option Addr} {cap : Nat} {bs : List UInt8} {p : Nat} {cost : Int} {v : Value} {L : List StepD} {xs : List Value} {k : Nat} {va vc : Value} {s : StepD} (h : SpSt M w wr rb ob sb a cap bs p cost v L xs k va vc s) (kk : Kept wr w') : SpSt M w w' rb ob sb a cap bs p cost v L xs k va vc s := h.drawn (h.st.rd.kept kk) (.of_kept kk)
theorem SpSt.field {M : Nat} {w wr : World} {rb ob sb : Nat} {a : Option Addr} {cap : Nat} {bs : List UInt8} {p : Nat} {cost : Int} {v : Value} {L : List StepD} {xs : List Value} {k : Nat} {va vc : Value} {s s' : StepD} (h : SpSt M w wr rb ob sb a cap bs p cost v L xs k va vc s) {o : Nat} {x : Value} (hb : SBox (wr.setCell ⟨sb, o, none⟩ x) sb va vc s') (ha : s'.asks = s.asks) (hc : s'.cases = s.cases) (ht : s'.TinyN M) : SpSt M w (wr.setCell ⟨sb, o, none⟩ x) rb ob sb a cap bs p cost v L xs k va vc s' := by
  have hk := h.st.box.row.same (o := o) x
  have hr := h.row.sameT hk (by decide)
  exact ⟨h.st.field hb ha hc ht, h.obl, hr.1, (hr.2 0).trans h.c0, (hr.2 1).trans h.c1, owns_other h.own (fun b hb' => Below.heap_setCell _ _ _ _ (fun e => h.sbn (by rw [hb', e]))), h.sbn, h.len, h.kl, fun i hi hn => (h.oth i hi hn).same hk (by decide) (by decide), h.tiny⟩
theorem SpSt.addAsk {M : Nat} {w wr w1 w2 : World} {rb ob sb : Nat} {a : Option Addr} {cap : Nat} {bs : List UInt8} {p : Nat} {cost : Int} {v : Value} {L : List StepD} {xs : List Value} {k : Nat} {va vc v' : Value} {s : StepD} {x : ByteArray} (h : SpSt M w wr rb ob sb a cap bs p cost v L xs k va vc s) (k1 : Kept wr w1)
    (hown : w2.ownsRow w.heap.size 9 1 v' (s.asks.length + 1) (s.asks.map Value.string ++ [.string x])) (hg : w1.grownBy w2 va.ownBlock) (hat : v'.ownBlock = va.ownBlock ∨ v'.ownBlock = some w1.heap.size) (hl : s.asks.length + 1 ≤ M) (hx : x.size ≤ 300) : SpSt M w (w2.setCell ⟨sb, 0, none⟩ v') rb ob sb a cap bs p cost v L xs k v' vc { s with asks := s.asks ++ [x] } := by
  have h1 := h.kept k1
  have hk : SameKind 9 w1 w2 := SameKind.of_grown h1.st.asks hg
  have hb2 := h1.st.box.same hk (by decide)
  have hk2 := hb2.row.same (o := 0) v'
  have hr1 := h1.row.sameT hk (by decide)
  have hr2 := hr1.1.sameT hk2 (by decide)
  exact ⟨h.st.addAsk k1 hown hg hl hx, h.obl, hr2.1, (hr2.2 0).trans ((hr1.2 0).trans h1.c0), (hr2.2 1).trans ((hr1.2 1).trans h1.c1), owns_other (owns_kept h1.own hk (by decide)) (fun b hb' => Below.heap_setCell _ _ _ _ (fun e => h.sbn (by rw [hb', e]))), h.sbn, h.len, h.kl,
    fun i hi hn => ((h1.oth i hi hn).grownAsk h1.st.asks hg hat).same hk2 (by decide) (by decide), h.tiny⟩
theorem SpSt.addCase {M : Nat} {w wr w1 w2 : World} {rb ob sb : Nat} {a : Option Addr} {cap : Nat} {bs : List UInt8} {p : Nat} {cost : Int} {v : Value} {L : List StepD} {xs : List Value} {k : Nat} {va vc v' : Value} {s : StepD} {x : CaseD} (h : SpSt M w wr rb ob sb a cap bs p cost v L xs k va vc s) (k1 : Kept wr w1)
    (hown : w2.ownsRow w.heap.size 62 2 v' (s.cases.length + 1) (dCaseCells s.cases ++ x.cells)) (hg : w1.grownBy w2 vc.ownBlock) (hat : v'.ownBlock = vc.ownBlock ∨ v'.ownBlock = some w1.heap.size) (hl : s.cases.length + 1 ≤ M) (hx : x.Tiny) : SpSt M w (w2.setCell ⟨sb, 2, none⟩ v') rb ob sb a cap bs p cost v L xs k va v' { s with cases := s.cases ++ [x] } := by
  have h1 := h.kept k1
  have hk : SameKind 62 w1 w2 := SameKind.of_grown h1.st.cases hg
  have hb2 := h1.st.box.same hk (by decide)
  have hk2 := hb2.row.same (o := 2) v'
  have hr1 := h1.row.sameT hk (by decide)
  have hr2 := hr1.1.sameT hk2 (by decide)
  exact ⟨h.st.addCase k1 hown hg hl hx, h.obl, hr2.1, (hr2.2 0).trans ((hr1.2 0).trans h1.c0), (hr2.2 1).trans ((hr1.2 1).trans h1.c1), owns_other (owns_kept h1.own hk (by decide)) (fun b hb' => Below.heap_setCell _ _ _ _ (fun e => h.sbn (by rw [hb', e]))), h.sbn, h.len, h.kl,
    fun i hi hn => ((h1.oth i hi hn).grownCase h1.st.cases hg hat).same hk2 (by decide) (by decide), h.tiny⟩
theorem SpSt.cost {M : Nat} {w wr : World} {rb ob sb : Nat} {a : Option Addr} {cap : Nat} {bs : List UInt8} {p : Nat} {cost x : Int} {v : Value} {L : List StepD} {xs : List Value} {k : Nat} {va vc : Value} {s : StepD} (h : SpSt M w wr rb ob sb a cap bs p cost v L xs k va vc s) : SpSt M w (wr.setCell ⟨ob, 0, none⟩ (.int .i64 x)) rb ob sb a cap bs p x v L xs k va vc s := by
  have hk := h.row.same (o := 0) (.int .i64 x)
  have hbl : Below w.heap.size wr (wr.setCell ⟨ob, 0, none⟩ (.int .i64 x)) := (Below.refl _ _).setCell h.obl _
  obtain ⟨p0, h0⟩ := h.st.rd0
  have st : SStN M w (wr.setCell ⟨ob, 0, none⟩ (.int .i64 x)) rb sb a cap bs p va vc s := ⟨h.st.rd.below h0 hbl h.st.kb.size, h.st.rd0, h.st.sbl, h.st.kb.below hbl, h.st.box.same hk (by decide), owns_kept h.st.asks hk (by decide), owns_kept h.st.cases hk (by decide), h.st.tiny⟩
  exact ⟨st, h.obl, h.row.set _, set_hit h.row.row (by omega) _, (set_miss (by omega) _).trans h.c1, owns_kept h.own hk (by decide), h.sbn, h.len, h.kl, fun i hi hn => (h.oth i hi hn).same hk (by decide) (by decide), h.tiny⟩

theorem RowT.setCells {g n : Nat} {t : TypeId} : ∀ (vs : List Value) (o : Nat) {w : World}, RowT w g t n → RowT (w.setCells g o vs) g t n ∧ SameKind t w (w.setCells g o vs)
  | [], _, _, h => ⟨h, SameKind.refl _ _⟩
  | v :: r, o, _, h => by
    rw [World.setCells]
    have := RowT.setCells r (o + 1) (h.set (o := o) v)
    exact ⟨this.1, (h.same (o := o) v).trans this.2⟩
theorem Below.setCells' {B g : Nat} (hg : B ≤ g) : ∀ (vs : List Value) (o : Nat) {a w : World}, Below B a w → Below B a (w.setCells g o vs)
  | [], _, _, _, h => h
  | v :: r, o, _, _, h => by
    rw [World.setCells]
    exact Below.setCells' hg r (o + 1) (h.setCell (p := ⟨g, o, none⟩) hg v)

/-- The action as it goes into the result. -/
structure FinSt (M : Nat) (w wr : World) (rb ob : Nat) (a : Option Addr) (cap : Nat) (bs : List UInt8) (p : Nat) (cost : Int) (v : Value) (L : List StepD) : Prop where
  rd : Rd wr rb a cap bs p
  kb : KeptBut rb (rb + 1) w wr
  row : RowT wr ob 25 2
  c0 : wr.cell? ⟨ob, 0, none⟩ = some (.int .i64 cost)
  c1 : wr.cell? ⟨ob, 1, none⟩ = some v
  stw : StW wr v L
  tiny : ∀ s ∈ L, s.TinyN M

/-- The changed step is written back. -/
theorem SpSt.store {M : Nat} {w wr : World} {rb ob sb : Nat} {a : Option Addr} {cap : Nat} {bs : List UInt8} {p : Nat} {cost : Int} {L : List StepD} {xs : List Value} {k g cv : Nat} {aa ac : Option Addr} {ca cc : Nat} {s : StepD} (h : SpSt M w wr rb ob sb a cap bs p cost (.slice (some ⟨g, 0, none⟩) L.length cv) L xs k (.slice aa s.asks.length ca) (.slice ac s.cases.length cc) s) :
    FinSt M w (wr.setCells g (k * 8) (s.cells aa ca ac cc)) rb ob a cap bs p cost (.slice (some ⟨g, 0, none⟩) L.length cv) (L.set k s) := by
  have hkl := h.kl
  have hlen := h.len
  rcases h.own.2 with ⟨e, _⟩ | ⟨g', cap', cur, e, hb, hg, hnc, _, hcz, _⟩
  · simp at e
  simp only [Value.slice.injEq, Option.some.injEq, Addr.mk.injEq, and_true, true_and] at e
  obtain ⟨rfl, rfl⟩ := e
  have hrow : RowT wr g 50 (cv * 8) := ⟨cur, hg, hcz⟩
  have hs := RowT.setCells (s.cells aa ca ac cc) (k * 8) hrow
  have hr := h.row.sameT hs.2 (by decide)
  have hbl : Below w.heap.size wr (wr.setCells g (k * 8) (s.cells aa ca ac cc)) := Below.setCells' hb _ _ (Below.refl _ _)
  obtain ⟨p0, h0⟩ := h.st.rd0
  obtain ⟨cur', hg', _⟩ := hs.1
  refine ⟨h.st.rd.below h0 hbl h.st.kb.size, h.st.kb.below hbl, hr.1, (hr.2 0).trans h.c0, (hr.2 1).trans h.c1, ⟨some ⟨g, 0, none⟩, cv, by rw [List.length_set], by rw [List.length_set]; exact hnc, fun i hi => ?_⟩, fun t ht => ?_⟩
  · rw [List.length_set] at hi
    by_cases e : i = k
    · subst e
      refine ⟨g, 0, cur', _, s.cells aa ca ac cc, rfl, hg', ?_, ?_, ?_⟩
      · rw [Nat.zero_add]
        exact World.rangeAt_setCells_same wr g (i * 8) (s.cells aa ca ac cc) (hrow.row.there (by show i * 8 + 8 ≤ cv * 8; omega))
      · have e1 : (L.set i s).getD i StepD.zero = s := by simp [List.getD, hi]
        rw [e1]
        exact (OStep.step ⟨aa, ca, ac, cc, rfl, h.st.asks, h.st.cases⟩).same hs.2 (by decide) (by decide)
      · exact OStep.nils ⟨aa, ca, ac, cc, rfl, h.st.asks, h.st.cases⟩
    · have ho := (h.oth i hi e).1
      have hcl : (segS xs i).length = 8 := by obtain ⟨_, _, _, _, e', _⟩ := ho; rw [e']; rfl
      refine ⟨g, 0, cur', _, segS xs i, rfl, hg', ?_, ?_, ho.nils⟩
      · refine World.rangeAt_setCells_apart (seg_cells h.own i) g (k * 8) _ (.inr ?_)
        show 0 + i * 8 + (segS xs i).length ≤ k * 8 ∨ k * 8 + 8 ≤ 0 + i * 8
        rw [hcl]
        omega
      · have e1 : (L.set k s).getD i StepD.zero = L.getD i StepD.zero := by simp [List.getD, Ne.symm e]
        rw [e1]
        exact ho.step.same hs.2 (by decide) (by decide)
  · rcases List.mem_or_eq_of_mem_set ht with h1 | rfl
    · exact h.tiny t h1
    · exact h.st.tiny

/-- The end: the action is copied into the result's variable. -/
theorem FinSt.ends {M : Nat} {w A0 wr : World} {rb ob qb : Nat} {a : Option Addr} {cap : Nat} {bs : List UInt8} {p p' t : Nat} {cost : Int} {v : Value} {L : List StepD} {e : Ending} (h : FinSt M A0 wr rb ob a cap bs p' cost v L) (hr : RowT wr qb 25 2) (hq : w.heap.size ≤ qb) (k0 : Kept w A0) {pw : Nat} (hw : Rd w rb a cap bs pw)
    (he : e = .returned (.agg #[.int .i64 cost, v])) (h1 : p ≤ p') (h2 : p' ≤ p + t) (h4 : L.length ≤ 21) (h5 : -1000 ≤ cost ∧ cost ≤ 1000) : DrewW M w ((wr.setCell ⟨qb, 0, none⟩ (.int .i64 cost)).setCell ⟨qb, 1, none⟩ v) rb a cap bs p t e := by
  have hk1 := hr.same (o := 0) (.int .i64 cost)
  have hk2 := (hr.set (o := 0) (.int .i64 cost)).same (o := 1) v
  have hk := hk1.trans hk2
  have hbl : Below w.heap.size wr ((wr.setCell ⟨qb, 0, none⟩ (.int .i64 cost)).setCell ⟨qb, 1, none⟩ v) := ((Below.refl _ _).setCell (p := ⟨qb, 0, none⟩) hq _).setCell (p := ⟨qb, 1, none⟩) hq _
  have hkb : KeptBut rb (rb + 1) w wr := ⟨h.kb.os.trans k0.os, h.kb.tape.trans k0.tape, h.kb.output.trans k0.output, Nat.le_trans k0.size h.kb.size, fun i hi ho => (h.kb.block i (Nat.lt_of_lt_of_le hi k0.size) ho).trans (k0.block i hi)⟩
  exact ⟨cost, v, L, p', he, h1, h2, h4, h5, h.tiny, h.stw.same hk (by decide) (by decide) (by decide), h.rd.below hw hbl hkb.size, hkb.below hbl⟩

/-- A step of the copy is taken into its variable. -/
theorem SpSt.made {M : Nat} {A0 w3 : World} {rb ob : Nat} {a : Option Addr} {cap : Nat} {bs : List UInt8} {p p0 : Nat} {cost : Int} {v : Value} {L : List StepD} {xs : List Value} {k : Nat} {s : StepD} {aa ac : Option Addr} {ca cc : Nat} (hR : Rd w3 rb a cap bs p) (hR0 : Rd A0 rb a cap bs p0) (kb : KeptBut rb (rb + 1) A0 w3) (hob : A0.heap.size ≤ ob) (hrow : RowT w3 ob 25 2)
    (c0 : w3.cell? ⟨ob, 0, none⟩ = some (.int .i64 cost)) (c1 : w3.cell? ⟨ob, 1, none⟩ = some v) (own : w3.ownsRow A0.heap.size 50 8 v L.length xs) (pk : PackedO w3 A0.heap.size xs L) (hk : k < L.length) (hty : ∀ s ∈ L, s.TinyN M) (hs : s = L.getD k StepD.zero) (hcs : segS xs k = s.cells aa ca ac cc) :
    SpSt M A0 (w3.alloc (.cells #[.slice aa s.asks.length ca, .int .i64 s.on, .slice ac s.cases.length cc, .int .i64 s.els, .int .i64 s.fall, .bool s.fin, .bool s.bad, .string s.give] 50)) rb ob w3.heap.size a cap bs p cost v L xs k (.slice aa s.asks.length ca) (.slice ac s.cases.length cc) s := by
  have kk : Kept w3 (w3.alloc (.cells #[.slice aa s.asks.length ca, .int .i64 s.on, .slice ac s.cases.length cc, .int .i64 s.els, .int .i64 s.fall, .bool s.fin, .bool s.bad, .string s.give] 50)) := (Kept.refl _).alloc _
  have hst : s.TinyN M := hty s (by rw [hs]; simp [List.getD, hk])
  have hO := pk.each k hk
  rw [hcs, ← hs] at hO
  obtain ⟨aa', ca', ac', cc', e, g1, g2⟩ := hO
  simp only [StepD.cells, List.cons.injEq, Value.slice.injEq, true_and, and_true] at e
  obtain ⟨⟨rfl, rfl⟩, rfl, rfl⟩ := e
  refine ⟨⟨hR.kept kk, ⟨p0, hR0⟩, kb.size, kb.and_kept kk, SBox.copied w3 s aa ca ac cc, ownsRow_kept' g1 kk, ownsRow_kept' g2 kk, hst⟩, hob, hrow.kept kk, (kk.cell hrow.lt).trans c0, (kk.cell hrow.lt).trans c1, ownsRow_kept' own kk, fun e => ?_, pk.len, hk, fun i hi hn => ⟨(pk.each i hi).same (u := 71) (SameKind.of_kept kk) (by decide) (by decide), fun b hb => ?_, fun b hb => ?_⟩, hty⟩
  · have := (own.lt _ e).2; omega
  · have := (pk.apart i k hi hk hn).1 b hb
    rw [hcs] at this
    exact this
  · have := (pk.apart i k hi hk hn).2 b hb
    rw [hcs] at this
    exact this
/-- The whole copy, as it is. -/
theorem FinSt.made {M : Nat} {A0 wr : World} {rb ob : Nat} {a : Option Addr} {cap : Nat} {bs : List UInt8} {p : Nat} {cost : Int} {v : Value} {L : List StepD} {xs : List Value} (hR : Rd wr rb a cap bs p) (kb : KeptBut rb (rb + 1) A0 wr) (hrow : RowT wr ob 25 2)
    (c0 : wr.cell? ⟨ob, 0, none⟩ = some (.int .i64 cost)) (c1 : wr.cell? ⟨ob, 1, none⟩ = some v) (own : wr.ownsRow A0.heap.size 50 8 v L.length xs) (pk : PackedO wr A0.heap.size xs L) (hty : ∀ s ∈ L, s.TinyN M) : FinSt M A0 wr rb ob a cap bs p cost v L :=
  ⟨hR, kb, hrow, c0, c1, StW.of_owned own pk.packed pk.nils, hty⟩

/-- An element of a list that was written out, behind a pick. -/
theorem lit_int {w w5 : World} {rb : Nat} {t : TypeId} (cs : List Int) (k : KeptBut rb (rb + 1) (w.alloc (.cells (cs.map (Value.int .i64)).toArray t)) w5) (hrb : rb < w.heap.size) (q : Nat) (hq : q < cs.length) (hb : ∀ c ∈ cs, -1000 ≤ c ∧ c ≤ 1000) : ∃ c, w5.cell? ⟨w.heap.size, q, none⟩ = some (.int .i64 c) ∧ -1000 ≤ c ∧ c ≤ 1000 := by
  refine ⟨cs[q], ?_, hb _ (List.getElem_mem hq)⟩
  rw [k.cell (by simp) (by omega), World.cell?_alloc_mark]
  simp [hq]

theorem in64_wrap (x : Int) : In64 (IntKind.i64.wrap x) := by
  unfold In64
  simp [IntKind.wrap, IntKind.bits, IntKind.signed]
  omega

end Go.Proofs.YtlllckfifkgcnaaDoor

/-
  ELEMENTS OF LISTS THAT ARE WRITTEN OUT; small things of the draws.
-/
namespace Go.Proofs.YtlllckfifkgcnaaDoor
open Go.RowKit

theorem in64_wrap64 (x : Int) : In64 (wrap64 x) := by
  unfold In64 wrap64
  omega
theorem many_at (w : World) (s : ByteArray) (m : Int) (n : Nat) (hm : m = (n : Int)) (hn : n ≤ 1000) (hs : s.size ≤ 100) :
    Calls Tryd.prog 20 #[.string s, .int .i64 m] w fun e w' => (∃ t : ByteArray, e = .returned (.string t) ∧ t.size ≤ n * s.size) ∧ w' = w := by
  rw [hm]
  exact many_any w s n hn hs
theorem lit_int0 (w : World) (t : TypeId) (cs : List Int) (q : Nat) (hq : q < cs.length) (hb : ∀ c ∈ cs, -1000 ≤ c ∧ c ≤ 1000) : ∃ c, (w.alloc (.cells (cs.map (Value.int .i64)).toArray t)).cell? ⟨w.heap.size, q, none⟩ = some (.int .i64 c) ∧ -1000 ≤ c ∧ c ≤ 1000 := by
  refine ⟨cs[q], ?_, hb _ (List.getElem_mem hq)⟩
  rw [World.cell?_alloc_mark]
  simp [hq]
theorem at_blk {v : Value} {g H n cap : Nat} (h : v.ownBlock = some g ∨ g = H) : (Value.slice (some ⟨g, 0, none⟩) n cap).ownBlock = v.ownBlock ∨ (Value.slice (some ⟨g, 0, none⟩) n cap).ownBlock = some H := by
  rcases h with h | rfl
  · exact .inl h.symm
  · exact .inr rfl
theorem lit_str {w w5 : World} {rb : Nat} {t : TypeId} (cs : List ByteArray) (k : KeptBut rb (rb + 1) (w.alloc (.cells (cs.map Value.string).toArray t)) w5) (hrb : rb < w.heap.size) (q : Nat) (hq : q < cs.length) (hb : ∀ c ∈ cs, c.size ≤ 300) : ∃ c, w5.cell? ⟨w.heap.size, q, none⟩ = some (.string c) ∧ c.size ≤ 300 := by
  refine ⟨cs[q], ?_, hb _ (List.getElem_mem hq)⟩
  rw [k.cell (by simp) (by omega), World.cell?_alloc_mark]
  simp [hq]
theorem lit_str0 (w : World) (t : TypeId) (cs : List ByteArray) (q : Nat) (hq : q < cs.length) (hb : ∀ c ∈ cs, c.size ≤ 300) : ∃ c, (w.alloc (.cells (cs.map Value.string).toArray t)).cell? ⟨w.heap.size, q, none⟩ = some (.string c) ∧ c.size ≤ 300 := by
  refine ⟨cs[q], ?_, hb _ (List.getElem_mem hq)⟩
  rw [World.cell?_alloc_mark]
  simp [hq]
theorem lit_mem {w w5 : World} {rb : Nat} {t : TypeId} (cs : List Int) (k : KeptBut rb (rb + 1) (w.alloc (.cells (cs.map (Value.int .i64)).toArray t)) w5) (hrb : rb < w.heap.size) (q : Nat) (hq : q < cs.length) : ∃ c ∈ cs, w5.cell? ⟨w.heap.size, q, none⟩ = some (.int .i64 c) := by
  refine ⟨cs[q], List.getElem_mem hq, ?_⟩
  rw [k.cell (by simp) (by omega), World.cell?_alloc_mark]
  simp [hq]

end Go.Proofs.YtlllckfifkgcnaaDoor
