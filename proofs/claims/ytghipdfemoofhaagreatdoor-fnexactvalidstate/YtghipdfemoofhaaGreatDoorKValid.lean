import Derived.WalkKit
import Derived.Deep.Draws
import Derived.Deep.MidRow
import Derived.Deep.OwnRows

namespace Go.Proofs.YtghipdfemoofhaaGreatDoor
open Go.RowKit

theorem hide {p : Prop} (h : p) : Hid p := h
theorem unhide {p : Prop} (h : Hid p) : p := h

structure CaseD where
  text : ByteArray
  goto : Int

structure StepD where
  asks : List ByteArray
  on : Int
  cases : List CaseD
  els : Int
  fall : Int
  fin : Bool
  bad : Bool
  give : ByteArray

structure ActionD where
  cost : Int
  steps : List StepD

def CaseD.zero : CaseD := ⟨ByteArray.empty, 0⟩
def StepD.zero : StepD := ⟨[], 0, [], 0, 0, false, false, ByteArray.empty⟩

def In64 (n : Int) : Prop := -9223372036854775808 ≤ n ∧ n ≤ 9223372036854775807

def Strs (w : World) (a : Option Addr) (l : List ByteArray) : Prop :=
  ∀ i, i < l.length → ∃ b o, a = some ⟨b, o, none⟩ ∧ b < w.heap.size ∧ w.cell? ⟨b, o + i, none⟩ = some (.string (l.getD i ByteArray.empty))

def Kept (w w' : World) : Prop := Below w.heap.size w w'

theorem Kept.refl (w : World) : Kept w w := Below.refl _ _

theorem Kept.trans {a b c : World} (h : Kept a b) (k : Kept b c) : Kept a c :=
  Below.trans h (Below.mono k h.size)

theorem Kept.drewN {a b : World} (h : Kept a b) (n : Nat) : Kept a (b.drewN n) := ⟨h.os, h.tape, h.output, h.size, h.block⟩

theorem Kept.drew {a b : World} (h : Kept a b) : Kept a b.drew := Below.drew h
theorem Kept.alloc {a b : World} (h : Kept a b) (o : Obj) : Kept a (b.alloc o) := Below.alloc h h.size o
theorem Kept.setCell {a b : World} (h : Kept a b) {p : Addr} (hp : a.heap.size ≤ p.block) (v : Value) : Kept a (b.setCell p v) := Below.setCell h hp v
theorem Kept.setCells {a : World} {g : Nat} (hg : a.heap.size ≤ g) : ∀ (vs : List Value) (o : Nat) {b : World}, Kept a b → Kept a (b.setCells g o vs)
  | [], _, _, h => h
  | v :: r, o, _, h => by
    rw [World.setCells]
    exact Kept.setCells hg r (o + 1) (Kept.setCell h hg v)

theorem Kept.cell {w w' : World} (h : Kept w w') {b o : Nat} (hb : b < w.heap.size) : w'.cell? ⟨b, o, none⟩ = w.cell? ⟨b, o, none⟩ :=
  Below.cell h (p := ⟨b, o, none⟩) hb

theorem Kept.rules {W w1 : World} (hb : Kept W w1) : (∀ b o, b < W.heap.size → w1.cell? ⟨b, o, none⟩ = W.cell? ⟨b, o, none⟩) ∧ (∀ b o, b < W.heap.size → w1.frozen? ⟨b, o, none⟩ = W.frozen? ⟨b, o, none⟩) :=
  ⟨fun b o h => Below.cell hb (p := ⟨b, o, none⟩) h, fun b o h => Below.frozen hb (p := ⟨b, o, none⟩) h⟩

theorem Kept.size {w w' : World} (h : Kept w w') : w.heap.size ≤ w'.heap.size := Below.size h

theorem Strs.kept {w w' : World} {a : Option Addr} {l : List ByteArray} (h : Strs w a l) (k : Kept w w') : Strs w' a l := by
  intro i hi
  obtain ⟨b, o, ha, hb, hc⟩ := h i hi
  exact ⟨b, o, ha, Nat.lt_of_lt_of_le hb k.size, by rw [k.cell hb, hc]⟩

theorem Kept.range {w w' : World} (h : Kept w w') {b o : Nat} {cs : List Value} (hb : b < w.heap.size) (hr : w.rangeAt b o cs) : w'.rangeAt b o cs :=
  fun j v hv => by rw [h.cell hb]; exact hr j v hv

theorem size_setCell (w : World) (p : Addr) (v : Value) : (w.setCell p v).heap.size = w.heap.size := by simp [World.setCell]

theorem Strs.setCell {w : World} {b o : Nat} {l : List ByteArray} (h : Strs w (some ⟨b, o, none⟩) l) {p : Addr} (hp : p.block ≠ b) (v : Value) : Strs (w.setCell p v) (some ⟨b, o, none⟩) l := by
  intro i hi
  obtain ⟨b', o', e, hb, hc⟩ := h i hi
  simp only [Option.some.injEq, Addr.mk.injEq, and_true] at e
  obtain ⟨rfl, rfl⟩ := e
  exact ⟨_, _, rfl, by rw [size_setCell]; exact hb, by rw [World.cell?_setCell_other _ _ _ _ (fun e => hp (by rw [e]))]; exact hc⟩

def Row (w : World) (b n : Nat) : Prop := ∃ t f, w.rowIs b t n f
theorem Row.lt {w : World} {b n : Nat} (h : Row w b n) : b < w.heap.size := let ⟨_, _, h⟩ := h; h.lt
theorem Row.there {w : World} {b n : Nat} (h : Row w b n) {o m : Nat} (hm : o + m ≤ n) : w.there b o m := by
  obtain ⟨t, f, h⟩ := h
  intro j hj
  exact ⟨by rw [h.cell (by omega)]; rfl, h.frozen _⟩
theorem Row.kept {w w' : World} {b n : Nat} (h : Row w b n) (k : Kept w w') : Row w' b n := by
  have hl := h.lt
  obtain ⟨t, f, h⟩ := h
  exact ⟨t, f, h.of_block (k.block b hl)⟩
theorem Row.set {w : World} {b n : Nat} (h : Row w b n) (p : Addr) (hp : p.spot = none) (v : Value) : Row (w.setCell p v) b n := by
  obtain ⟨t, f, h⟩ := h
  by_cases e : b = p.block
  · subst e
    obtain ⟨pb, po, ps⟩ := p
    subst hp
    exact ⟨t, _, h.set po v⟩
  · exact ⟨t, f, h.setOther e v⟩
theorem Row.setCells {b n g : Nat} : ∀ (vs : List Value) (o : Nat) {w : World}, Row w b n → Row (w.setCells g o vs) b n
  | [], _, _, h => h
  | v :: r, o, _, h => by
    rw [World.setCells]
    exact Row.setCells r (o + 1) (h.set ⟨g, o, none⟩ rfl v)
theorem Row.made (w : World) (c : Array Value) (t : TypeId) : Row (w.alloc (.cells c t)) w.heap.size c.size :=
  ⟨t, fun i => c.getD i undef, World.rowIs_alloc w c t _ (fun i hi => by simp [Array.getD, hi])⟩

theorem Row.alloc {w : World} {b n : Nat} (h : Row w b n) (o : Obj) : Row (w.alloc o) b n := by
  obtain ⟨t, f, h⟩ := h
  exact ⟨t, f, h.alloc o⟩

theorem bodyPost_ret_cell {P : Program} {fn : Func} {R : Ending → World → Prop} {a : Act} {w : World} {p : Tmp} {ty : TypeId} {b : Nat} (cs : List Value) (d : TypeDesc) (h : fn.results = #[.cell p ty])
    (hp : a.tmps.getD p undef = .pointer (some ⟨b, 0, none⟩)) (hr : w.rangeAt b 0 cs) (hu : P.underlying ty = some d) (hd : d.isRow = true) (hi : (P.info? ty).map (·.size) = some cs.length)
    (hdef : a.defers = []) (hR : R (.returned (.agg cs.toArray)) w) : bodyPost P fn R .ret a w := by
  refine bodyPost_ret ?_ hdef hR
  have hp' : a.tmps[p]?.getD undef = .pointer (some ⟨b, 0, none⟩) := by simpa using hp
  simp only [results, h]
  simp [hp', asAddr, run_loadVar_mid w b 0 ty cs d hr hu hd hi]

theorem run_make_many {P : Program} (t e : TypeId) (z : Value) (size bytes : Nat) (ht : P.underlying t = some (.slice e)) (hinfo : (P.info? e).map (fun i => (i.zero, i.size, i.bytes)) = some (some z, size, bytes))
    (kl kc : IntKind) (n : Nat) (hbytes : bytes * n ≤ 281474976710656) (h63 : n ≤ 9223372036854775807) (w : World) :
    (Instr.makeSlice t (.int kl (n : Int)) (.int kc (n : Int))).run P w = .ok (.slice (some ⟨w.heap.size, 0, none⟩) n n) (w.alloc (.cells (madeCells z.cells (n * size)) e)) := by
  obtain ⟨i, hi, hzz⟩ := Option.map_eq_some_iff.1 hinfo
  simp only [Prod.mk.injEq] at hzz
  obtain ⟨hz, hs, hb⟩ := hzz
  have hb' : (i.bytes : Int) * (n : Int) ≤ 281474976710656 := by
    have h : ((i.bytes * n : Nat) : Int) ≤ 281474976710656 := by rw [hb]; omega
    rwa [Int.natCast_mul] at h
  have hr := run_make (P := P) w t e i z ht hi hz kl kc n n (by omega) (Int.le_refl _) hb' (by omega)
  simp only [Int.toNat_natCast, hs] at hr
  exact hr

def CaseD.cells (c : CaseD) : List Value := [.string c.text, .int .i64 c.goto]

theorem CaseD.one (c : CaseD) : (#[.string c.text, .int .i64 c.goto] : Array Value).all (·.oneCell') = true :=
  all_oneCell_toArray (cs := [.string c.text, .int .i64 c.goto]) (by simp [Value.oneCell'])

def Cases (w : World) (a : Option Addr) (l : List CaseD) : Prop :=
  ∀ i, i < l.length → ∃ b o, a = some ⟨b, o, none⟩ ∧ b < w.heap.size ∧ w.rangeAt b (o + i * 2) (l.getD i CaseD.zero).cells

theorem Cases.kept {w w' : World} {a : Option Addr} {l : List CaseD} (h : Cases w a l) (k : Kept w w') : Cases w' a l := by
  intro i hi
  obtain ⟨b, o, ha, hb, hc⟩ := h i hi
  exact ⟨b, o, ha, Nat.lt_of_lt_of_le hb k.size, k.range hb hc⟩

theorem Cases.setCell {w : World} {b o : Nat} {l : List CaseD} (h : Cases w (some ⟨b, o, none⟩) l) {p : Addr} (hp : p.block ≠ b) (v : Value) : Cases (w.setCell p v) (some ⟨b, o, none⟩) l := by
  intro i hi
  obtain ⟨b', o', e, hb, hc⟩ := h i hi
  simp only [Option.some.injEq, Addr.mk.injEq, and_true] at e
  obtain ⟨rfl, rfl⟩ := e
  exact ⟨_, _, rfl, by rw [size_setCell]; exact hb, fun j u hu => by rw [World.cell?_setCell_other _ _ _ _ (fun e => hp (by rw [e]))]; exact hc j u hu⟩

theorem Strs.setCells {b o : Nat} {l : List ByteArray} {g : Nat} (hg : g ≠ b) : ∀ (vs : List Value) (k : Nat) {w : World}, Strs w (some ⟨b, o, none⟩) l → Strs (w.setCells g k vs) (some ⟨b, o, none⟩) l
  | [], _, _, h => h
  | v :: r, k, _, h => by
    rw [World.setCells]
    exact Strs.setCells hg r (k + 1) (h.setCell (p := ⟨g, k, none⟩) hg v)
theorem Cases.setCells {b o : Nat} {l : List CaseD} {g : Nat} (hg : g ≠ b) : ∀ (vs : List Value) (k : Nat) {w : World}, Cases w (some ⟨b, o, none⟩) l → Cases (w.setCells g k vs) (some ⟨b, o, none⟩) l
  | [], _, _, h => h
  | v :: r, k, _, h => by
    rw [World.setCells]
    exact Cases.setCells hg r (k + 1) (h.setCell (p := ⟨g, k, none⟩) hg v)

def StepD.cells (s : StepD) (aa : Option Addr) (ca : Nat) (ac : Option Addr) (cc : Nat) : List Value :=
  [.slice aa s.asks.length ca, .int .i64 s.on, .slice ac s.cases.length cc, .int .i64 s.els, .int .i64 s.fall, .bool s.fin, .bool s.bad, .string s.give]

theorem StepD.one (s : StepD) (aa : Option Addr) (ca : Nat) (ac : Option Addr) (cc : Nat) : (s.cells aa ca ac cc).toArray.all (·.oneCell') = true :=
  all_oneCell_toArray (by simp [StepD.cells, Value.oneCell'])

def StepIs (w : World) (cs : List Value) (s : StepD) : Prop :=
  ∃ aa ca ac cc, cs = s.cells aa ca ac cc ∧ Strs w aa s.asks ∧ Cases w ac s.cases ∧ s.asks.length ≤ ca

theorem StepIs.kept {w w' : World} {cs : List Value} {s : StepD} (h : StepIs w cs s) (k : Kept w w') : StepIs w' cs s := by
  obtain ⟨aa, ca, ac, cc, e, h1, h2, h3⟩ := h
  exact ⟨aa, ca, ac, cc, e, h1.kept k, h2.kept k, h3⟩

def Steps (w : World) (a : Option Addr) (l : List StepD) : Prop :=
  ∀ i, i < l.length → ∃ b o cs, a = some ⟨b, o, none⟩ ∧ b < w.heap.size ∧ w.rangeAt b (o + i * 8) cs ∧ StepIs w cs (l.getD i StepD.zero)

theorem Steps.kept {w w' : World} {a : Option Addr} {l : List StepD} (h : Steps w a l) (k : Kept w w') : Steps w' a l := by
  intro i hi
  obtain ⟨b, o, cs, ha, hb, hc, hs⟩ := h i hi
  exact ⟨b, o, cs, ha, Nat.lt_of_lt_of_le hb k.size, k.range hb hc, hs.kept k⟩

structure StepD.Fits (s : StepD) : Prop where
  asks : s.asks.length ≤ maxLen
  askEach : ∀ x ∈ s.asks, x.size ≤ maxLen
  on : In64 s.on
  cases : s.cases.length ≤ maxLen
  caseEach : ∀ c ∈ s.cases, c.text.size ≤ maxLen ∧ In64 c.goto
  els : In64 s.els
  fall : In64 s.fall
  give : s.give.size ≤ maxLen

def szL (n : Nat) (left : Int) : Int := if (n : Int) ≤ left then left - n else -1
theorem szL_pos {n : Nat} {left : Int} (h : (n : Int) ≤ left) : szL n left = left - n := by simp [szL, h]
theorem szL_neg {n : Nat} {left : Int} (h : left < (n : Int)) : szL n left = -1 := by simp [szL]; omega
theorem ret_int {k : IntKind} {a b : Int} (h : a = b) : Ending.returned (.int k a) = .returned (.int k b) := by rw [h]
def sumTo {α : Type} (f : α → Nat) (l : List α) (k : Nat) : Nat := ((l.take k).map f).sum
theorem sumTo_zero {α : Type} (f : α → Nat) (l : List α) : sumTo f l 0 = 0 := by simp [sumTo]
theorem sumTo_succ {α : Type} (f : α → Nat) (l : List α) (d : α) (k : Nat) (h : k < l.length) : sumTo f l (k + 1) = sumTo f l k + f (l.getD k d) := by
  unfold sumTo
  rw [List.take_succ_eq_append_getElem h, List.map_append, List.sum_append]
  simp [List.getD, h]
theorem sumTo_all {α : Type} (f : α → Nat) (l : List α) : sumTo f l l.length = (l.map f).sum := by simp [sumTo]
theorem sumTo_le {α : Type} (f : α → Nat) (l : List α) (k : Nat) : sumTo f l k ≤ (l.map f).sum := by
  have e : (l.map f).sum = ((l.take k).map f).sum + ((l.drop k).map f).sum := by rw [← List.sum_append, ← List.map_append, List.take_append_drop]
  unfold sumTo
  omega

end Go.Proofs.YtghipdfemoofhaaGreatDoor

namespace Go.Proofs.YtghipdfemoofhaaGreatDoor

section
variable {α ι : Type} (ready : α → ι → Prop) (step : α → ι → α)

inductive Leads : α → α → Nat → Prop
  | here (s : α) : Leads s s 0
  | step (s t : α) (i : ι) (k : Nat) (h : ready s i) (r : Leads (step s i) t k) : Leads s t (k + 1)

def Commutes : Prop := ∀ s i j, i ≠ j → ready s i → ready s j → ready (step s i) j ∧ step (step s i) j = step (step s j) i
def AtEnd (s : α) : Prop := ∀ i, ¬ ready s i

variable {ready step}

theorem Leads.trans {s t u : α} {k l : Nat} (h : Leads ready step s t k) (g : Leads ready step t u l) : Leads ready step s u (k + l) := by
  induction h with
  | here s => simpa using g
  | step s t i k h _ ih => rw [show k + 1 + l = k + l + 1 by omega]; exact .step s u i _ h (ih g)
theorem Leads.one {s : α} {i : ι} (h : ready s i) : Leads ready step s (step s i) 1 := .step s _ i 0 h (.here _)
theorem Leads.snoc {s t : α} {k : Nat} (h : Leads ready step s t k) {i : ι} (hi : ready t i) : Leads ready step s (step t i) (k + 1) := h.trans (.one hi)

theorem Leads.first (hc : Commutes ready step) : ∀ {k : Nat} {s t : α}, Leads ready step s t k → AtEnd ready t → ∀ {i : ι}, ready s i → ∃ m, k = m + 1 ∧ Leads ready step (step s i) t m := by
  intro k
  induction k with
  | zero =>
    intro s t h he i hi
    cases h
    exact absurd hi (he i)
  | succ k ih =>
    intro s t h he i hi
    cases h with
    | step _ _ j _ hj hr =>
      by_cases e : j = i
      · subst e
        exact ⟨k, rfl, hr⟩
      · obtain ⟨h1, h2⟩ := hc s i j (Ne.symm e) hi hj
        obtain ⟨h3, _⟩ := hc s j i e hj hi
        obtain ⟨m, hm, hl⟩ := ih hr he h3
        refine ⟨k, rfl, ?_⟩
        rw [hm]
        refine .step _ _ j _ h1 ?_
        rw [h2]
        exact hl

theorem Leads.unique (hc : Commutes ready step) : ∀ {k l : Nat} {s t u : α}, Leads ready step s t k → AtEnd ready t → Leads ready step s u l → AtEnd ready u → t = u := by
  intro k
  induction k with
  | zero =>
    intro l s t u h ht g hu
    cases h
    cases g with
    | here => rfl
    | step _ _ j _ hj _ => exact absurd hj (ht j)
  | succ k ih =>
    intro l s t u h ht g hu
    cases h with
    | step _ _ j _ hj hr =>
      obtain ⟨m, _, hl⟩ := g.first hc hu hj
      exact ih hr ht hl hu

theorem Leads.keeps {P : α → Prop} (hp : ∀ s i, P s → ready s i → P (step s i)) {s t : α} {k : Nat} (h : Leads ready step s t k) (h0 : P s) : P t := by
  induction h with
  | here s => exact h0
  | step s t i k h _ ih => exact ih (hp s i h0 h)

theorem Leads.wide {ready' : α → ι → Prop} (hw : ∀ s i, ready s i → ready' s i) {s t : α} {k : Nat} (h : Leads ready step s t k) : Leads ready' step s t k := by
  induction h with
  | here s => exact .here s
  | step s t i k h _ ih => exact .step s t i k (hw s i h) ih

end
end Go.Proofs.YtghipdfemoofhaaGreatDoor

namespace Go.Proofs.YtghipdfemoofhaaGreatDoor
open Go.RowKit

structure AnswerD where
  fail : Bool
  text : ByteArray

def AnswerD.zero : AnswerD := ⟨false, ByteArray.empty⟩

def AnswerD.cells (c : AnswerD) : List Value := [.bool c.fail, .string c.text]

theorem AnswerD.one (c : AnswerD) : (#[.bool c.fail, .string c.text] : Array Value).all (·.oneCell') = true :=
  all_oneCell_toArray (cs := [.bool c.fail, .string c.text]) (by simp [Value.oneCell'])

def Answers (w : World) (a : Option Addr) (l : List AnswerD) : Prop :=
  ∀ i, i < l.length → ∃ b o, a = some ⟨b, o, none⟩ ∧ b < w.heap.size ∧ w.rangeAt b (o + i * 2) (l.getD i AnswerD.zero).cells

theorem Answers.kept {w w' : World} {a : Option Addr} {l : List AnswerD} (h : Answers w a l) (k : Kept w w') : Answers w' a l := by
  intro i hi
  obtain ⟨b, o, ha, hb, hc⟩ := h i hi
  exact ⟨b, o, ha, Nat.lt_of_lt_of_le hb k.size, k.range hb hc⟩

theorem Answers.setCell {w : World} {b o : Nat} {l : List AnswerD} (h : Answers w (some ⟨b, o, none⟩) l) {p : Addr} (hp : p.block ≠ b) (v : Value) : Answers (w.setCell p v) (some ⟨b, o, none⟩) l := by
  intro i hi
  obtain ⟨b', o', e, hb, hc⟩ := h i hi
  simp only [Option.some.injEq, Addr.mk.injEq, and_true] at e
  obtain ⟨rfl, rfl⟩ := e
  exact ⟨_, _, rfl, by rw [size_setCell]; exact hb, fun j u hu => by rw [World.cell?_setCell_other _ _ _ _ (fun e => hp (by rw [e]))]; exact hc j u hu⟩

theorem Answers.setCells {b o : Nat} {l : List AnswerD} {g : Nat} (hg : g ≠ b) : ∀ (vs : List Value) (k : Nat) {w : World}, Answers w (some ⟨b, o, none⟩) l → Answers (w.setCells g k vs) (some ⟨b, o, none⟩) l
  | [], _, _, h => h
  | v :: r, k, _, h => by
    rw [World.setCells]
    exact Answers.setCells hg r (k + 1) (h.setCell (p := ⟨g, k, none⟩) hg v)

end Go.Proofs.YtghipdfemoofhaaGreatDoor

namespace Go.Proofs.YtghipdfemoofhaaGreatDoor
open Go.RowKit

def Says (e : Ending) (p : Prop) : Prop := ∃ r, e = .returned (.bool r) ∧ (r = true ↔ p)
theorem Says.yes {p : Prop} (h : p) : Says (.returned (.bool true)) p := ⟨true, rfl, by simp [h]⟩
theorem Says.no {p : Prop} (h : ¬ p) : Says (.returned (.bool false)) p := ⟨false, rfl, by simp [h]⟩
theorem Says.cases {e : Ending} {p : Prop} (h : Says e p) : (e = .returned (.bool true) ∧ p) ∨ (e = .returned (.bool false) ∧ ¬ p) := by
  obtain ⟨r, rfl, hr⟩ := h
  cases r
  · right; exact ⟨rfl, fun hp => by simpa using hr.2 hp⟩
  · left; exact ⟨rfl, hr.1 rfl⟩
theorem Says.dec (p : Prop) [Decidable p] : Says (.returned (.bool (decide p))) p := ⟨decide p, rfl, by simp⟩
theorem Says.congr {e : Ending} {p q : Prop} (h : Says e p) (hpq : p ↔ q) : Says e q := by
  obtain ⟨r, rfl, hr⟩ := h
  exact ⟨r, rfl, hr.trans hpq⟩

theorem bytes_eq {s t : ByteArray} : (t.toList == s.toList) = true ↔ t = s := by
  rw [ByteArray.toList_eq, ByteArray.toList_eq]
  constructor
  · intro h
    cases s; cases t
    simp at h
    simp [h]
  · rintro rfl
    simp
theorem bytes_ne {s t : ByteArray} (h : (t.toList == s.toList) = false) : t ≠ s := fun e => by rw [bytes_eq.2 e] at h; cases h

theorem empty_iff (s : ByteArray) : s.toList = [] ↔ s.size = 0 := by
  rw [ByteArray.toList_eq, ← List.length_eq_zero_iff, Array.length_toList]
  exact Iff.rfl

def GoodByte (c : UInt8) : Prop := 33 ≤ (c.toNat : Int) ∧ (c.toNat : Int) ≤ 126 ∧ (c.toNat : Int) ≠ 44

def NameOk (s : ByteArray) : Prop := 1 ≤ s.size ∧ s.size ≤ 20 ∧ (s.toList == [45]) = false ∧ ∀ i (h : i < s.size), GoodByte s[i]

def NamesOk (l : List ByteArray) : Prop := ∀ i, i < l.length → NameOk (l.getD i ByteArray.empty) ∧ ∀ j, j < i → l.getD j ByteArray.empty ≠ l.getD i ByteArray.empty

def CaseOk (n : Int) (c : CaseD) : Prop := c.text.size ≤ 200 ∧ 0 ≤ c.goto ∧ c.goto < n

def EndOk (s : StepD) : Prop := s.asks.length = 0 ∧ s.on = 0 ∧ s.cases.length = 0 ∧ s.els = 0 ∧ s.fall = 0 ∧ s.give.size ≤ 30

def FrontOk (s : StepD) (n : Int) : Prop :=
  s.bad = false ∧ s.give.size = 0 ∧ s.asks.length ≤ 5 ∧ NamesOk s.asks ∧ s.cases.length ≤ 5 ∧ (0 ≤ s.els ∧ s.els < n) ∧ (-1 ≤ s.fall ∧ s.fall < n) ∧ (s.on = 0 ∨ (0 ≤ s.on ∧ s.on < s.asks.length))

def CaseOkAt (s : StepD) (n : Int) (i : Nat) : Prop := CaseOk n (s.cases.getD i CaseD.zero)

def CasesOk (s : StepD) (n : Int) : Prop := ∀ i, i < s.cases.length → CaseOkAt s n i

def AskOk (s : StepD) (n : Int) : Prop := FrontOk s n ∧ CasesOk s n

def StepOk (s : StepD) (n : Int) : Prop := (s.fin = true → EndOk s) ∧ (s.fin = false → AskOk s n)

def ActionOk (a : ActionD) : Prop := (1 ≤ a.cost ∧ a.cost ≤ 20) ∧ (1 ≤ a.steps.length ∧ a.steps.length ≤ 20) ∧ ∀ i, i < a.steps.length → StepOk (a.steps.getD i StepD.zero) a.steps.length

end Go.Proofs.YtghipdfemoofhaaGreatDoor
