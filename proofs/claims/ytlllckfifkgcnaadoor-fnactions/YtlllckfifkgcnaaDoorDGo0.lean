import Derived.Test.YtlllckfifkgcnaaDoorDSpoil
import Derived.Test.YtlllckfifkgcnaaDoorDFin
import Derived.Test.YtlllckfifkgcnaaDoorDAns

/-
  TOWARD spec.DrawGoOn: answers that are drawn, beside an action.
-/
namespace Go.Proofs.YtlllckfifkgcnaaDoor
open Go.RowKit


theorem bodyPost_ret_cell3 {P : Program} {fn : Func} {R : Ending → World → Prop} {a : Act} {w : World} {p q r : Tmp} {ty : TypeId} {b : Nat} (cs : List Value) (d : TypeDesc) (v u : Value) (h : fn.results = #[.cell p ty, .tmp q, .tmp r])
    (hp : a.tmps.getD p undef = .pointer (some ⟨b, 0, none⟩)) (hq : a.tmps.getD q undef = v) (hr' : a.tmps.getD r undef = u) (hr : w.rangeAt b 0 cs) (hu : P.underlying ty = some d) (hd : d.isRow = true) (hi : (P.info? ty).map (·.size) = some cs.length)
    (hdef : a.defers = []) (hR : R (.returned (.tuple #[.agg cs.toArray, v, u])) w) : bodyPost P fn R .ret a w := by
  refine bodyPost_ret ?_ hdef hR
  have hp' : a.tmps[p]?.getD undef = .pointer (some ⟨b, 0, none⟩) := by simpa using hp
  have hq' : a.tmps[q]?.getD undef = v := by simpa using hq
  have hr2 : a.tmps[r]?.getD undef = u := by simpa using hr'
  simp only [results, h]
  simp [hp', hq', hr2, asAddr, run_loadVar_mid w b 0 ty cs d hr hu hd hi]

/-- What l1In gives. -/
def InSaid (n lo hi : Int) (e : Ending) : Prop := ∃ b : Bool, e = .returned (.bool b) ∧ (b = true → lo ≤ n ∧ n ≤ hi)
theorem InSaid.no {n lo hi : Int} : InSaid n lo hi (.returned (.bool false)) := ⟨false, rfl, fun h => by cases h⟩
theorem l1In_any (w : World) (n lo hi : Int) : Calls Tryd.prog 18 #[.int .i64 n, .int .i64 lo, .int .i64 hi] w fun e w' => InSaid n lo hi e ∧ w' = w := by
  by_cases h1 : lo ≤ n
  · by_cases h2 : n ≤ hi
    · go_enter Tryd.func18, Tryd.ntmps18
      go_wp2
      go_ret
      exact ⟨⟨true, rfl, fun _ => ⟨h1, h2⟩⟩, rfl⟩
    · have h2' : hi < n := by omega
      go_enter Tryd.func18, Tryd.ntmps18
      go_wp2
      go_ret
      exact ⟨InSaid.no, rfl⟩
  · have h1' : n < lo := by omega
    go_enter Tryd.func18, Tryd.ntmps18
    go_wp2
    go_ret
    exact ⟨InSaid.no, rfl⟩

/-- The action's variable beside what is written behind it. -/
theorem FinSt.beside {M : Nat} {W wr w' : World} {rb ob : Nat} {a : Option Addr} {cap : Nat} {bs : List UInt8} {p p0 : Nat} {cost : Int} {v : Value} {L : List StepD} (h : FinSt M W wr rb ob a cap bs p cost v L) (h0 : Rd W rb a cap bs p0) (k : SameKind 53 wr w') (hbl : Below W.heap.size wr w') : FinSt M W w' rb ob a cap bs p cost v L := by
  have hr := h.row.sameT k (by decide)
  exact ⟨h.rd.below h0 hbl h.kb.size, h.kb.below hbl, hr.1, (hr.2 0).trans h.c0, (hr.2 1).trans h.c1, h.stw.same k (by decide) (by decide) (by decide), h.tiny⟩
theorem FinSt.drawn {M : Nat} {W wr w' : World} {rb ob : Nat} {a : Option Addr} {cap : Nat} {bs : List UInt8} {p p' : Nat} {cost : Int} {v : Value} {L : List StepD} (h : FinSt M W wr rb ob a cap bs p cost v L) (hR : Rd w' rb a cap bs p') (k : KeptBut rb (rb + 1) wr w') : FinSt M W w' rb ob a cap bs p' cost v L := by
  have hk := k.sameKind h.rd
  have hr := h.row.sameT hk (by decide)
  exact ⟨hR, h.kb.trans k, hr.1, (hr.2 0).trans h.c0, (hr.2 1).trans h.c1, h.stw.same hk (by decide) (by decide) (by decide), h.tiny⟩
theorem FinSt.kept {M : Nat} {W wr w' : World} {rb ob : Nat} {a : Option Addr} {cap : Nat} {bs : List UInt8} {p : Nat} {cost : Int} {v : Value} {L : List StepD} (h : FinSt M W wr rb ob a cap bs p cost v L) (k : Kept wr w') : FinSt M W w' rb ob a cap bs p cost v L := h.drawn (h.rd.kept k) (.of_kept k)
/-- A new action goes into the variable. -/
theorem FinSt.put {M N : Nat} {W wr w' : World} {rb ob : Nat} {a : Option Addr} {cap : Nat} {bs : List UInt8} {p p' p0 : Nat} {cost cost' : Int} {v v' : Value} {L L' : List StepD} (h : FinSt M W wr rb ob a cap bs p cost v L) (h0 : Rd W rb a cap bs p0) (hob : W.heap.size ≤ ob) (hR : Rd w' rb a cap bs p') (k : KeptBut rb (rb + 1) wr w') (hs : StW w' v' L') (ht : ∀ s ∈ L', s.TinyN N) :
    FinSt N W ((w'.setCell ⟨ob, 0, none⟩ (.int .i64 cost')).setCell ⟨ob, 1, none⟩ v') rb ob a cap bs p' cost' v' L' := by
  have h1 := h.drawn hR k
  have hr := h1.row
  have hk1 := hr.same (o := 0) (.int .i64 cost')
  have hk2 := (hr.set (o := 0) (.int .i64 cost')).same (o := 1) v'
  have hk := hk1.trans hk2
  have hbl : Below W.heap.size w' ((w'.setCell ⟨ob, 0, none⟩ (.int .i64 cost')).setCell ⟨ob, 1, none⟩ v') := ((Below.refl _ _).setCell (p := ⟨ob, 0, none⟩) hob _).setCell (p := ⟨ob, 1, none⟩) hob _
  exact ⟨h1.rd.below h0 hbl h1.kb.size, h1.kb.below hbl, (hr.set _).set _, (set_miss (by omega) _).trans (set_hit hr.row (by omega) _), set_hit (hr.set _).row (by omega) _, hs.same hk (by decide) (by decide) (by decide), ht⟩
theorem FinSt.first {M : Nat} {W wr : World} {rb : Nat} {a : Option Addr} {cap : Nat} {bs : List UInt8} {p : Nat} {cost : Int} {v : Value} {L : List StepD} (hR : Rd wr rb a cap bs p) (k : KeptBut rb (rb + 1) W wr) (hs : StW wr v L) (ht : ∀ s ∈ L, s.TinyN M) : FinSt M W (wr.alloc (.cells #[.int .i64 cost, v] 25)) rb wr.heap.size a cap bs p cost v L := by
  have kk : Kept wr (wr.alloc (.cells #[.int .i64 cost, v] 25)) := (Kept.refl _).alloc _
  exact ⟨hR.kept kk, k.and_kept kk, RowT.made wr _ _, range_new wr _ _ 0 _ rfl, range_new wr _ _ 1 _ rfl, hs.same (u := 25) (SameKind.of_kept kk) (by decide) (by decide) (by decide), ht⟩
theorem FinSt.wide {M N : Nat} {W wr : World} {rb ob : Nat} {a : Option Addr} {cap : Nat} {bs : List UInt8} {p : Nat} {cost : Int} {v : Value} {L : List StepD} (h : FinSt M W wr rb ob a cap bs p cost v L) (hn : M ≤ N) : FinSt N W wr rb ob a cap bs p cost v L :=
  ⟨h.rd, h.kb, h.row, h.c0, h.c1, h.stw, fun s hs => (h.tiny s hs).mono hn⟩

/-- Answers that grow, beside the action. -/
structure BSt (W wr : World) (rb ob : Nat) (a : Option Addr) (cap : Nat) (bs : List UInt8) (p : Nat) (cost : Int) (v : Value) (L : List StepD) (u : Value) (l : List AnswerD) : Prop where
  act : FinSt 30 W wr rb ob a cap bs p cost v L
  rd0 : ∃ p0, Rd W rb a cap bs p0
  own : wr.ownsRow W.heap.size 53 2 u l.length (dAnsCells l)
  sz : ∀ c ∈ l, c.text.size ≤ 300
section
variable {W wr w' : World} {rb ob : Nat} {a : Option Addr} {cap : Nat} {bs : List UInt8} {p p' : Nat} {cost : Int} {v : Value} {L : List StepD} {u : Value} {l : List AnswerD}
theorem BSt.drawn (h : BSt W wr rb ob a cap bs p cost v L u l) (hR : Rd w' rb a cap bs p') (k : KeptBut rb (rb + 1) wr w') : BSt W w' rb ob a cap bs p' cost v L u l :=
  ⟨h.act.drawn hR k, h.rd0, owns_kept h.own (k.sameKind h.act.rd) (by decide), h.sz⟩
theorem BSt.kept (h : BSt W wr rb ob a cap bs p cost v L u l) (k : Kept wr w') : BSt W w' rb ob a cap bs p cost v L u l := h.drawn (h.act.rd.kept k) (.of_kept k)
theorem BSt.push {w1 w2 : World} {u' : Value} {x : AnswerD} (h : BSt W wr rb ob a cap bs p cost v L u l) (k1 : Kept wr w1) (hown : w2.ownsRow W.heap.size 53 2 u' (l.length + 1) (dAnsCells l ++ x.cells)) (hg : w1.grownBy w2 u.ownBlock) (hx : x.text.size ≤ 300) : BSt W w2 rb ob a cap bs p cost v L u' (l ++ [x]) := by
  have h1 := h.kept k1
  have hbl : Below W.heap.size w1 w2 := (Below.refl _ _).grown hg h1.act.kb.size (fun k hk => (h1.own.lt k hk).1)
  obtain ⟨p0, h0⟩ := h.rd0
  refine ⟨h1.act.beside h0 (SameKind.of_grown h1.own hg) hbl, h.rd0, by rw [dAnsCells_snoc]; simpa using hown, fun y hy => ?_⟩
  simp only [List.mem_append, List.mem_singleton] at hy
  rcases hy with hy | rfl
  · exact h.sz y hy
  · exact hx
theorem BSt.made {p0 : Nat} (h0 : Rd W rb a cap bs p0) (h : FinSt 30 W wr rb ob a cap bs p cost v L) : BSt W (wr.alloc (.cells #[] 53)) rb ob a cap bs p cost v L (.slice (some ⟨wr.heap.size, 0, none⟩) 0 0) [] := by
  have kk : Kept wr (wr.alloc (.cells #[] 53)) := (Kept.refl _).alloc _
  exact ⟨h.kept kk, ⟨p0, h0⟩, owns_base (World.ownsRow_made wr #[] 0 (Nat.le_refl _) (Nat.zero_le _) rfl) h.kb.size, fun x hx => by simp at hx⟩
end
/-- Answers that can be read, beside the action. -/
structure KSt (W wr : World) (rb ob : Nat) (a : Option Addr) (cap : Nat) (bs : List UInt8) (p : Nat) (cost : Int) (v : Value) (L : List StepD) (u : Value) (l : List AnswerD) : Prop where
  act : FinSt 30 W wr rb ob a cap bs p cost v L
  ans : ∃ d c, u = .slice d l.length c ∧ TAns wr d l
  sz : ∀ c ∈ l, c.text.size ≤ 300
section
variable {W wr w' : World} {rb ob : Nat} {a : Option Addr} {cap : Nat} {bs : List UInt8} {p p' : Nat} {cost : Int} {v : Value} {L : List StepD} {u : Value} {l : List AnswerD}
theorem BSt.read (h : BSt W wr rb ob a cap bs p cost v L u l) : KSt W wr rb ob a cap bs p cost v L u l := by
  obtain ⟨d, c, e, _, hT⟩ := d_tans_of_owned h.own
  exact ⟨h.act, ⟨d, c, e, hT⟩, h.sz⟩
/-- The first one's text is written. -/
theorem BSt.first {g n c : Nat} {x : ByteArray} (h : BSt W wr rb ob a cap bs p cost v L (.slice (some ⟨g, 0, none⟩) n c) l) (hl : 0 < l.length) (hx : x.size ≤ 300) : KSt W (wr.setCell ⟨g, 1, none⟩ (.string x)) rb ob a cap bs p cost v L (.slice (some ⟨g, 0, none⟩) n c) (l.set 0 ⟨(l.getD 0 AnswerD.zero).fail, x⟩) := by
  obtain ⟨sa, c', e, hc, hT⟩ := d_tans_of_owned h.own
  simp only [Value.slice.injEq] at e
  obtain ⟨rfl, rfl, rfl⟩ := e
  rcases h.own.2 with ⟨e, _⟩ | ⟨g', cap', cur, e, hb, hg, hnc, _, hcz, _⟩
  · simp at e
  simp only [Value.slice.injEq, Option.some.injEq, Addr.mk.injEq, and_true, true_and] at e
  obtain ⟨rfl, rfl⟩ := e
  have hrow : RowT wr g 53 (c * 2) := ⟨cur, hg, hcz⟩
  have hbl : Below W.heap.size wr (wr.setCell ⟨g, 1, none⟩ (.string x)) := (Below.refl _ _).setCell hb _
  obtain ⟨p0, h0⟩ := h.rd0
  obtain ⟨cur2, hg2, _⟩ := hrow.set (o := 1) (.string x)
  refine ⟨h.act.beside h0 (hrow.same (o := 1) _) hbl, ⟨_, c, by rw [List.length_set], .inr ⟨g, cur2, _, rfl, hg2, fun i hi => ?_⟩⟩, fun y hy => ?_⟩
  · rw [List.length_set] at hi
    rcases hT with hT | ⟨b, cur3, fr, eb, hb3, hc3⟩
    · rw [hT] at hl; simp at hl
    · simp only [Option.some.injEq, Addr.mk.injEq, and_true] at eb
      subst eb
      by_cases e0 : i = 0
      · subst e0
        have e1 : (l.set 0 ⟨(l.getD 0 AnswerD.zero).fail, x⟩).getD 0 AnswerD.zero = ⟨(l.getD 0 AnswerD.zero).fail, x⟩ := by simp [List.getD, hl]
        rw [e1]
        intro j y hy
        match j, hy with
        | 0, hy =>
          simp only [AnswerD.cells, List.getElem?_cons_zero, Option.some.injEq] at hy
          subst hy
          rw [set_miss (by omega)]
          exact hc3 0 hl 0 _ rfl
        | 1, hy =>
          simp only [AnswerD.cells, List.getElem?_cons_succ, List.getElem?_cons_zero, Option.some.injEq] at hy
          subst hy
          exact set_hit hrow.row (by omega) _
        | j + 2, hy => simp [AnswerD.cells] at hy
      · have e1 : (l.set 0 ⟨(l.getD 0 AnswerD.zero).fail, x⟩).getD i AnswerD.zero = l.getD i AnswerD.zero := by simp [List.getD, Ne.symm e0]
        rw [e1]
        intro j y hy
        rw [set_miss (by omega)]
        exact hc3 i hi j y hy
  · rcases List.mem_or_eq_of_mem_set hy with h1 | rfl
    · exact h.sz y h1
    · exact hx
end

/-- What DrawGoOn gives. -/
def DrewGo (w w' : World) (e : Ending) : Prop :=
  ∃ (cost at' : Int) (sa d : Option Addr) (sc dc : Nat) (L : List StepD) (ans : List AnswerD), e = .returned (.tuple #[.agg #[.int .i64 cost, .slice sa L.length sc], .int .i64 at', .slice d ans.length dc]) ∧ L.length ≤ 21 ∧ (∀ s ∈ L, s.TinyN 30) ∧ ans.length ≤ 100 ∧ (∀ c ∈ ans, c.text.size ≤ 300) ∧ Steps w' sa L ∧ Answers w' d ans ∧ Kept w w'

/-- The end: the action goes into the result's variable. -/
theorem KSt.ends {w W wr : World} {rb ob : Nat} {a : Option Addr} {cap : Nat} {bs : List UInt8} {p : Nat} {cost at' : Int} {sa d : Option Addr} {sc n m dc : Nat} {L : List StepD} {l : List AnswerD} {e : Ending} (h : KSt W wr rb ob a cap bs p cost (.slice sa n sc) L (.slice d m dc) l) (k0 : Kept w W) (hrb : w.heap.size ≤ rb) {qb : Nat} (hr : RowT wr qb 25 2) (hq : w.heap.size ≤ qb)
    (he : e = .returned (.tuple #[.agg #[.int .i64 cost, .slice sa n sc], .int .i64 at', .slice d m dc])) (hL : L.length ≤ 21) (hl : l.length ≤ 100) : DrewGo w ((wr.setCell ⟨qb, 0, none⟩ (.int .i64 cost)).setCell ⟨qb, 1, none⟩ (.slice sa n sc)) e := by
  have hk1 := hr.same (o := 0) (.int .i64 cost)
  have hk2 := (hr.set (o := 0) (.int .i64 cost)).same (o := 1) (.slice sa n sc)
  have hk := hk1.trans hk2
  have hbl : Below w.heap.size wr ((wr.setCell ⟨qb, 0, none⟩ (.int .i64 cost)).setCell ⟨qb, 1, none⟩ (.slice sa n sc)) := ((Below.refl _ _).setCell (p := ⟨qb, 0, none⟩) hq _).setCell (p := ⟨qb, 1, none⟩) hq _
  obtain ⟨d', c', ed, hT⟩ := h.ans
  simp only [Value.slice.injEq] at ed
  obtain ⟨rfl, rfl, rfl⟩ := ed
  obtain ⟨sa', sc', es, hsc, hS⟩ := (h.act.stw.same hk (by decide) (by decide) (by decide)).steps
  simp only [Value.slice.injEq] at es
  obtain ⟨rfl, rfl, rfl⟩ := es
  have kw := kept_of_but k0 hrb h.act.kb
  exact ⟨cost, at', sa, d, sc, dc, L, l, he, hL, h.act.tiny, hl, h.sz, hS, (hT.same hk (by decide)).answers, ⟨hbl.os.trans kw.os, hbl.tape.trans kw.tape, hbl.output.trans kw.output, Nat.le_trans kw.size hbl.size, fun i hi => (hbl.block i hi).trans (kw.block i hi)⟩⟩

end Go.Proofs.YtlllckfifkgcnaaDoor
