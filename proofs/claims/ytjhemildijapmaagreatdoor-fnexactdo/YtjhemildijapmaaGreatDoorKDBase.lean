import Derived.WalkKit
import Derived.Deep.Draws
import Derived.Deep.MidRow
import Derived.Deep.OwnRows
import Derived.OwnWalk
namespace Go.Proofs.YtjhemildijapmaaGreatDoor
open Go.RowKit
theorem hide {p : Prop} (h : p) : Hid p := h
theorem unhide {p : Prop} (h : Hid p) : p := h
structure CaseD where
  text : ByteArray
  goto : Int
structure StepD where
  asks : List ByteArray
  on : Int
  cases : List CaseD
  els : Int
  fall : Int
  fin : Bool
  bad : Bool
  give : ByteArray
structure ActionD where
  cost : Int
  steps : List StepD
def CaseD.zero : CaseD := ⟨ByteArray.empty, 0⟩
def StepD.zero : StepD := ⟨[], 0, [], 0, 0, false, false, ByteArray.empty⟩
def In64 (n : Int) : Prop := -9223372036854775808 ≤ n ∧ n ≤ 9223372036854775807
def Strs (w : World) (a : Option Addr) (l : List ByteArray) : Prop :=
  ∀ i, i < l.length → ∃ b o, a = some ⟨b, o, none⟩ ∧ b < w.heap.size ∧ w.cell? ⟨b, o + i, none⟩ = some (.string (l.getD i ByteArray.empty))
def Kept (w w' : World) : Prop := Below w.heap.size w w'
theorem Kept.refl (w : World) : Kept w w := Below.refl _ _
theorem Kept.trans {a b c : World} (h : Kept a b) (k : Kept b c) : Kept a c :=
  Below.trans h (Below.mono k h.size)
theorem Kept.drewN {a b : World} (h : Kept a b) (n : Nat) : Kept a (b.drewN n) := ⟨h.os, h.tape, h.output, h.size, h.block⟩
theorem Kept.drew {a b : World} (h : Kept a b) : Kept a b.drew := Below.drew h
theorem Kept.alloc {a b : World} (h : Kept a b) (o : Obj) : Kept a (b.alloc o) := Below.alloc h h.size o
theorem Kept.setCell {a b : World} (h : Kept a b) {p : Addr} (hp : a.heap.size ≤ p.block) (v : Value) : Kept a (b.setCell p v) := Below.setCell h hp v
theorem Kept.setCells {a : World} {g : Nat} (hg : a.heap.size ≤ g) : ∀ (vs : List Value) (o : Nat) {b : World}, Kept a b → Kept a (b.setCells g o vs)
  | [], _, _, h => h
  | v :: r, o, _, h => by
    rw [World.setCells]
    exact Kept.setCells hg r (o + 1) (Kept.setCell h hg v)
theorem Kept.cell {w w' : World} (h : Kept w w') {b o : Nat} (hb : b < w.heap.size) : w'.cell? ⟨b, o, none⟩ = w.cell? ⟨b, o, none⟩ :=
  Below.cell h (p := ⟨b, o, none⟩) hb
theorem Kept.rules {W w1 : World} (hb : Kept W w1) : (∀ b o, b < W.heap.size → w1.cell? ⟨b, o, none⟩ = W.cell? ⟨b, o, none⟩) ∧ (∀ b o, b < W.heap.size → w1.frozen? ⟨b, o, none⟩ = W.frozen? ⟨b, o, none⟩) :=
  ⟨fun b o h => Below.cell hb (p := ⟨b, o, none⟩) h, fun b o h => Below.frozen hb (p := ⟨b, o, none⟩) h⟩
theorem Kept.size {w w' : World} (h : Kept w w') : w.heap.size ≤ w'.heap.size := Below.size h
theorem Strs.kept {w w' : World} {a : Option Addr} {l : List ByteArray} (h : Strs w a l) (k : Kept w w') : Strs w' a l := by
  intro i hi
  obtain ⟨b, o, ha, hb, hc⟩ := h i hi
  exact ⟨b, o, ha, Nat.lt_of_lt_of_le hb k.size, by rw [k.cell hb, hc]⟩
theorem Kept.range {w w' : World} (h : Kept w w') {b o : Nat} {cs : List Value} (hb : b < w.heap.size) (hr : w.rangeAt b o cs) : w'.rangeAt b o cs :=
  fun j v hv => by rw [h.cell hb]; exact hr j v hv
theorem size_setCell (w : World) (p : Addr) (v : Value) : (w.setCell p v).heap.size = w.heap.size := by simp [World.setCell]
theorem Strs.setCell {w : World} {b o : Nat} {l : List ByteArray} (h : Strs w (some ⟨b, o, none⟩) l) {p : Addr} (hp : p.block ≠ b) (v : Value) : Strs (w.setCell p v) (some ⟨b, o, none⟩) l := by
  intro i hi
  obtain ⟨b', o', e, hb, hc⟩ := h i hi
  simp only [Option.some.injEq, Addr.mk.injEq, and_true] at e
  obtain ⟨rfl, rfl⟩ := e
  exact ⟨_, _, rfl, by rw [size_setCell]; exact hb, by rw [World.cell?_setCell_other _ _ _ _ (fun e => hp (by rw [e]))]; exact hc⟩
def Row (w : World) (b n : Nat) : Prop := ∃ t f, w.rowIs b t n f
theorem Row.lt {w : World} {b n : Nat} (h : Row w b n) : b < w.heap.size := let ⟨_, _, h⟩ := h; h.lt
theorem Row.there {w : World} {b n : Nat} (h : Row w b n) {o m : Nat} (hm : o + m ≤ n) : w.there b o m := by
  obtain ⟨t, f, h⟩ := h
  intro j hj
  exact ⟨by rw [h.cell (by omega)]; rfl, h.frozen _⟩
theorem Row.kept {w w' : World} {b n : Nat} (h : Row w b n) (k : Kept w w') : Row w' b n := by
  have hl := h.lt
  obtain ⟨t, f, h⟩ := h
  exact ⟨t, f, h.of_block (k.block b hl)⟩
theorem Row.set {w : World} {b n : Nat} (h : Row w b n) (p : Addr) (hp : p.spot = none) (v : Value) : Row (w.setCell p v) b n := by
  obtain ⟨t, f, h⟩ := h
  by_cases e : b = p.block
  · subst e
    obtain ⟨pb, po, ps⟩ := p
    subst hp
    exact ⟨t, _, h.set po v⟩
  · exact ⟨t, f, h.setOther e v⟩
theorem Row.setCells {b n g : Nat} : ∀ (vs : List Value) (o : Nat) {w : World}, Row w b n → Row (w.setCells g o vs) b n
  | [], _, _, h => h
  | v :: r, o, _, h => by
    rw [World.setCells]
    exact Row.setCells r (o + 1) (h.set ⟨g, o, none⟩ rfl v)
theorem Row.made (w : World) (c : Array Value) (t : TypeId) : Row (w.alloc (.cells c t)) w.heap.size c.size :=
  ⟨t, fun i => c.getD i undef, World.rowIs_alloc w c t _ (fun i hi => by simp [Array.getD, hi])⟩
theorem Row.alloc {w : World} {b n : Nat} (h : Row w b n) (o : Obj) : Row (w.alloc o) b n := by
  obtain ⟨t, f, h⟩ := h
  exact ⟨t, f, h.alloc o⟩
theorem bodyPost_ret_cell {P : Program} {fn : Func} {R : Ending → World → Prop} {a : Act} {w : World} {p : Tmp} {ty : TypeId} {b : Nat} (cs : List Value) (d : TypeDesc) (h : fn.results = #[.cell p ty])
    (hp : a.tmps.getD p undef = .pointer (some ⟨b, 0, none⟩)) (hr : w.rangeAt b 0 cs) (hu : P.underlying ty = some d) (hd : d.isRow = true) (hi : (P.info? ty).map (·.size) = some cs.length)
    (hdef : a.defers = []) (hR : R (.returned (.agg cs.toArray)) w) : bodyPost P fn R .ret a w := by
  refine bodyPost_ret ?_ hdef hR
  have hp' : a.tmps[p]?.getD undef = .pointer (some ⟨b, 0, none⟩) := by simpa using hp
  simp only [results, h]
  simp [hp', asAddr, run_loadVar_mid w b 0 ty cs d hr hu hd hi]
theorem run_make_many {P : Program} (t e : TypeId) (z : Value) (size bytes : Nat) (ht : P.underlying t = some (.slice e)) (hinfo : (P.info? e).map (fun i => (i.zero, i.size, i.bytes)) = some (some z, size, bytes))
    (kl kc : IntKind) (n : Nat) (hbytes : bytes * n ≤ 281474976710656) (h63 : n ≤ 9223372036854775807) (w : World) :
    (Instr.makeSlice t (.int kl (n : Int)) (.int kc (n : Int))).run P w = .ok (.slice (some ⟨w.heap.size, 0, none⟩) n n) (w.alloc (.cells (madeCells z.cells (n * size)) e)) := by
  obtain ⟨i, hi, hzz⟩ := Option.map_eq_some_iff.1 hinfo
  simp only [Prod.mk.injEq] at hzz
  obtain ⟨hz, hs, hb⟩ := hzz
  have hb' : (i.bytes : Int) * (n : Int) ≤ 281474976710656 := by
    have h : ((i.bytes * n : Nat) : Int) ≤ 281474976710656 := by rw [hb]; omega
    rwa [Int.natCast_mul] at h
  have hr := run_make (P := P) w t e i z ht hi hz kl kc n n (by omega) (Int.le_refl _) hb' (by omega)
  simp only [Int.toNat_natCast, hs] at hr
  exact hr
def CaseD.cells (c : CaseD) : List Value := [.string c.text, .int .i64 c.goto]
theorem CaseD.one (c : CaseD) : (#[.string c.text, .int .i64 c.goto] : Array Value).all (·.oneCell') = true :=
  all_oneCell_toArray (cs := [.string c.text, .int .i64 c.goto]) (by simp [Value.oneCell'])
def Cases (w : World) (a : Option Addr) (l : List CaseD) : Prop :=
  ∀ i, i < l.length → ∃ b o, a = some ⟨b, o, none⟩ ∧ b < w.heap.size ∧ w.rangeAt b (o + i * 2) (l.getD i CaseD.zero).cells
theorem Cases.kept {w w' : World} {a : Option Addr} {l : List CaseD} (h : Cases w a l) (k : Kept w w') : Cases w' a l := by
  intro i hi
  obtain ⟨b, o, ha, hb, hc⟩ := h i hi
  exact ⟨b, o, ha, Nat.lt_of_lt_of_le hb k.size, k.range hb hc⟩
theorem Cases.setCell {w : World} {b o : Nat} {l : List CaseD} (h : Cases w (some ⟨b, o, none⟩) l) {p : Addr} (hp : p.block ≠ b) (v : Value) : Cases (w.setCell p v) (some ⟨b, o, none⟩) l := by
  intro i hi
  obtain ⟨b', o', e, hb, hc⟩ := h i hi
  simp only [Option.some.injEq, Addr.mk.injEq, and_true] at e
  obtain ⟨rfl, rfl⟩ := e
  exact ⟨_, _, rfl, by rw [size_setCell]; exact hb, fun j u hu => by rw [World.cell?_setCell_other _ _ _ _ (fun e => hp (by rw [e]))]; exact hc j u hu⟩
theorem Strs.setCells {b o : Nat} {l : List ByteArray} {g : Nat} (hg : g ≠ b) : ∀ (vs : List Value) (k : Nat) {w : World}, Strs w (some ⟨b, o, none⟩) l → Strs (w.setCells g k vs) (some ⟨b, o, none⟩) l
  | [], _, _, h => h
  | v :: r, k, _, h => by
    rw [World.setCells]
    exact Strs.setCells hg r (k + 1) (h.setCell (p := ⟨g, k, none⟩) hg v)
theorem Cases.setCells {b o : Nat} {l : List CaseD} {g : Nat} (hg : g ≠ b) : ∀ (vs : List Value) (k : Nat) {w : World}, Cases w (some ⟨b, o, none⟩) l → Cases (w.setCells g k vs) (some ⟨b, o, none⟩) l
  | [], _, _, h => h
  | v :: r, k, _, h => by
    rw [World.setCells]
    exact Cases.setCells hg r (k + 1) (h.setCell (p := ⟨g, k, none⟩) hg v)
def StepD.cells (s : StepD) (aa : Option Addr) (ca : Nat) (ac : Option Addr) (cc : Nat) : List Value :=
  [.slice aa s.asks.length ca, .int .i64 s.on, .slice ac s.cases.length cc, .int .i64 s.els, .int .i64 s.fall, .bool s.fin, .bool s.bad, .string s.give]
theorem StepD.one (s : StepD) (aa : Option Addr) (ca : Nat) (ac : Option Addr) (cc : Nat) : (s.cells aa ca ac cc).toArray.all (·.oneCell') = true :=
  all_oneCell_toArray (by simp [StepD.cells, Value.oneCell'])
def StepIs (w : World) (cs : List Value) (s : StepD) : Prop :=
  ∃ aa ca ac cc, cs = s.cells aa ca ac cc ∧ Strs w aa s.asks ∧ Cases w ac s.cases ∧ s.asks.length ≤ ca
theorem StepIs.kept {w w' : World} {cs : List Value} {s : StepD} (h : StepIs w cs s) (k : Kept w w') : StepIs w' cs s := by
  obtain ⟨aa, ca, ac, cc, e, h1, h2, h3⟩ := h
  exact ⟨aa, ca, ac, cc, e, h1.kept k, h2.kept k, h3⟩
def Steps (w : World) (a : Option Addr) (l : List StepD) : Prop :=
  ∀ i, i < l.length → ∃ b o cs, a = some ⟨b, o, none⟩ ∧ b < w.heap.size ∧ w.rangeAt b (o + i * 8) cs ∧ StepIs w cs (l.getD i StepD.zero)
theorem Steps.kept {w w' : World} {a : Option Addr} {l : List StepD} (h : Steps w a l) (k : Kept w w') : Steps w' a l := by
  intro i hi
  obtain ⟨b, o, cs, ha, hb, hc, hs⟩ := h i hi
  exact ⟨b, o, cs, ha, Nat.lt_of_lt_of_le hb k.size, k.range hb hc, hs.kept k⟩
structure StepD.Fits (s : StepD) : Prop where
  asks : s.asks.length ≤ maxLen
  askEach : ∀ x ∈ s.asks, x.size ≤ maxLen
  on : In64 s.on
  cases : s.cases.length ≤ maxLen
  caseEach : ∀ c ∈ s.cases, c.text.size ≤ maxLen ∧ In64 c.goto
  els : In64 s.els
  fall : In64 s.fall
  give : s.give.size ≤ maxLen
def szL (n : Nat) (left : Int) : Int := if (n : Int) ≤ left then left - n else -1
theorem szL_pos {n : Nat} {left : Int} (h : (n : Int) ≤ left) : szL n left = left - n := by simp [szL, h]
theorem szL_neg {n : Nat} {left : Int} (h : left < (n : Int)) : szL n left = -1 := by simp [szL]; omega
theorem ret_int {k : IntKind} {a b : Int} (h : a = b) : Ending.returned (.int k a) = .returned (.int k b) := by rw [h]
def sumTo {α : Type} (f : α → Nat) (l : List α) (k : Nat) : Nat := ((l.take k).map f).sum
theorem sumTo_zero {α : Type} (f : α → Nat) (l : List α) : sumTo f l 0 = 0 := by simp [sumTo]
theorem sumTo_succ {α : Type} (f : α → Nat) (l : List α) (d : α) (k : Nat) (h : k < l.length) : sumTo f l (k + 1) = sumTo f l k + f (l.getD k d) := by
  unfold sumTo
  rw [List.take_succ_eq_append_getElem h, List.map_append, List.sum_append]
  simp [List.getD, h]
theorem sumTo_all {α : Type} (f : α → Nat) (l : List α) : sumTo f l l.length = (l.map f).sum := by simp [sumTo]
theorem sumTo_le {α : Type} (f : α → Nat) (l : List α) (k : Nat) : sumTo f l k ≤ (l.map f).sum := by
  have e : (l.map f).sum = ((l.take k).map f).sum + ((l.drop k).map f).sum := by rw [← List.sum_append, ← List.map_append, List.take_append_drop]
  unfold sumTo
  omega
end Go.Proofs.YtjhemildijapmaaGreatDoor
namespace Go.Proofs.YtjhemildijapmaaGreatDoor
section
variable {α ι : Type} (ready : α → ι → Prop) (step : α → ι → α)
inductive Leads : α → α → Nat → Prop
  | here (s : α) : Leads s s 0
  | step (s t : α) (i : ι) (k : Nat) (h : ready s i) (r : Leads (step s i) t k) : Leads s t (k + 1)
def Commutes : Prop := ∀ s i j, i ≠ j → ready s i → ready s j → ready (step s i) j ∧ step (step s i) j = step (step s j) i
def AtEnd (s : α) : Prop := ∀ i, ¬ ready s i
variable {ready step}
theorem Leads.trans {s t u : α} {k l : Nat} (h : Leads ready step s t k) (g : Leads ready step t u l) : Leads ready step s u (k + l) := by
  induction h with
  | here s => simpa using g
  | step s t i k h _ ih => rw [show k + 1 + l = k + l + 1 by omega]; exact .step s u i _ h (ih g)
theorem Leads.one {s : α} {i : ι} (h : ready s i) : Leads ready step s (step s i) 1 := .step s _ i 0 h (.here _)
theorem Leads.snoc {s t : α} {k : Nat} (h : Leads ready step s t k) {i : ι} (hi : ready t i) : Leads ready step s (step t i) (k + 1) := h.trans (.one hi)
theorem Leads.first (hc : Commutes ready step) : ∀ {k : Nat} {s t : α}, Leads ready step s t k → AtEnd ready t → ∀ {i : ι}, ready s i → ∃ m, k = m + 1 ∧ Leads ready step (step s i) t m := by
  intro k
  induction k with
  | zero =>
    intro s t h he i hi
    cases h
    exact absurd hi (he i)
  | succ k ih =>
    intro s t h he i hi
    cases h with
    | step _ _ j _ hj hr =>
      by_cases e : j = i
      · subst e
        exact ⟨k, rfl, hr⟩
      · obtain ⟨h1, h2⟩ := hc s i j (Ne.symm e) hi hj
        obtain ⟨h3, _⟩ := hc s j i e hj hi
        obtain ⟨m, hm, hl⟩ := ih hr he h3
        refine ⟨k, rfl, ?_⟩
        rw [hm]
        refine .step _ _ j _ h1 ?_
        rw [h2]
        exact hl
theorem Leads.unique (hc : Commutes ready step) : ∀ {k l : Nat} {s t u : α}, Leads ready step s t k → AtEnd ready t → Leads ready step s u l → AtEnd ready u → t = u := by
  intro k
  induction k with
  | zero =>
    intro l s t u h ht g hu
    cases h
    cases g with
    | here => rfl
    | step _ _ j _ hj _ => exact absurd hj (ht j)
  | succ k ih =>
    intro l s t u h ht g hu
    cases h with
    | step _ _ j _ hj hr =>
      obtain ⟨m, _, hl⟩ := g.first hc hu hj
      exact ih hr ht hl hu
theorem Leads.keeps {P : α → Prop} (hp : ∀ s i, P s → ready s i → P (step s i)) {s t : α} {k : Nat} (h : Leads ready step s t k) (h0 : P s) : P t := by
  induction h with
  | here s => exact h0
  | step s t i k h _ ih => exact ih (hp s i h0 h)
theorem Leads.wide {ready' : α → ι → Prop} (hw : ∀ s i, ready s i → ready' s i) {s t : α} {k : Nat} (h : Leads ready step s t k) : Leads ready' step s t k := by
  induction h with
  | here s => exact .here s
  | step s t i k h _ ih => exact .step s t i k (hw s i h) ih
end
end Go.Proofs.YtjhemildijapmaaGreatDoor
namespace Go.Proofs.YtjhemildijapmaaGreatDoor
open Go.RowKit
structure AnswerD where
  fail : Bool
  text : ByteArray
def AnswerD.zero : AnswerD := ⟨false, ByteArray.empty⟩
def AnswerD.cells (c : AnswerD) : List Value := [.bool c.fail, .string c.text]
theorem AnswerD.one (c : AnswerD) : (#[.bool c.fail, .string c.text] : Array Value).all (·.oneCell') = true :=
  all_oneCell_toArray (cs := [.bool c.fail, .string c.text]) (by simp [Value.oneCell'])
def Answers (w : World) (a : Option Addr) (l : List AnswerD) : Prop :=
  ∀ i, i < l.length → ∃ b o, a = some ⟨b, o, none⟩ ∧ b < w.heap.size ∧ w.rangeAt b (o + i * 2) (l.getD i AnswerD.zero).cells
theorem Answers.kept {w w' : World} {a : Option Addr} {l : List AnswerD} (h : Answers w a l) (k : Kept w w') : Answers w' a l := by
  intro i hi
  obtain ⟨b, o, ha, hb, hc⟩ := h i hi
  exact ⟨b, o, ha, Nat.lt_of_lt_of_le hb k.size, k.range hb hc⟩
theorem Answers.setCell {w : World} {b o : Nat} {l : List AnswerD} (h : Answers w (some ⟨b, o, none⟩) l) {p : Addr} (hp : p.block ≠ b) (v : Value) : Answers (w.setCell p v) (some ⟨b, o, none⟩) l := by
  intro i hi
  obtain ⟨b', o', e, hb, hc⟩ := h i hi
  simp only [Option.some.injEq, Addr.mk.injEq, and_true] at e
  obtain ⟨rfl, rfl⟩ := e
  exact ⟨_, _, rfl, by rw [size_setCell]; exact hb, fun j u hu => by rw [World.cell?_setCell_other _ _ _ _ (fun e => hp (by rw [e]))]; exact hc j u hu⟩
theorem Answers.setCells {b o : Nat} {l : List AnswerD} {g : Nat} (hg : g ≠ b) : ∀ (vs : List Value) (k : Nat) {w : World}, Answers w (some ⟨b, o, none⟩) l → Answers (w.setCells g k vs) (some ⟨b, o, none⟩) l
  | [], _, _, h => h
  | v :: r, k, _, h => by
    rw [World.setCells]
    exact Answers.setCells hg r (k + 1) (h.setCell (p := ⟨g, k, none⟩) hg v)
def Says (e : Ending) (p : Prop) : Prop := ∃ r, e = .returned (.bool r) ∧ (r = true ↔ p)
theorem Says.yes {p : Prop} (h : p) : Says (.returned (.bool true)) p := ⟨true, rfl, by simp [h]⟩
theorem Says.no {p : Prop} (h : ¬ p) : Says (.returned (.bool false)) p := ⟨false, rfl, by simp [h]⟩
theorem Says.cases {e : Ending} {p : Prop} (h : Says e p) : (e = .returned (.bool true) ∧ p) ∨ (e = .returned (.bool false) ∧ ¬ p) := by
  obtain ⟨r, rfl, hr⟩ := h
  cases r
  · right; exact ⟨rfl, fun hp => by simpa using hr.2 hp⟩
  · left; exact ⟨rfl, hr.1 rfl⟩
theorem Says.dec (p : Prop) [Decidable p] : Says (.returned (.bool (decide p))) p := ⟨decide p, rfl, by simp⟩
theorem Says.congr {e : Ending} {p q : Prop} (h : Says e p) (hpq : p ↔ q) : Says e q := by
  obtain ⟨r, rfl, hr⟩ := h
  exact ⟨r, rfl, hr.trans hpq⟩
theorem bytes_eq {s t : ByteArray} : (t.toList == s.toList) = true ↔ t = s := by
  rw [ByteArray.toList_eq, ByteArray.toList_eq]
  constructor
  · intro h
    cases s; cases t
    simp at h
    simp [h]
  · rintro rfl
    simp
theorem bytes_ne {s t : ByteArray} (h : (t.toList == s.toList) = false) : t ≠ s := fun e => by rw [bytes_eq.2 e] at h; cases h
theorem empty_iff (s : ByteArray) : s.toList = [] ↔ s.size = 0 := by
  rw [ByteArray.toList_eq, ← List.length_eq_zero_iff, Array.length_toList]
  exact Iff.rfl
def GoodByte (c : UInt8) : Prop := 33 ≤ (c.toNat : Int) ∧ (c.toNat : Int) ≤ 126 ∧ (c.toNat : Int) ≠ 44
def NameOk (s : ByteArray) : Prop := 1 ≤ s.size ∧ s.size ≤ 20 ∧ (s.toList == [45]) = false ∧ ∀ i (h : i < s.size), GoodByte s[i]
def NamesOk (l : List ByteArray) : Prop := ∀ i, i < l.length → NameOk (l.getD i ByteArray.empty) ∧ ∀ j, j < i → l.getD j ByteArray.empty ≠ l.getD i ByteArray.empty
def CaseOk (n : Int) (c : CaseD) : Prop := c.text.size ≤ 200 ∧ 0 ≤ c.goto ∧ c.goto < n
def EndOk (s : StepD) : Prop := s.asks.length = 0 ∧ s.on = 0 ∧ s.cases.length = 0 ∧ s.els = 0 ∧ s.fall = 0 ∧ s.give.size ≤ 30
def FrontOk (s : StepD) (n : Int) : Prop :=
  s.bad = false ∧ s.give.size = 0 ∧ s.asks.length ≤ 5 ∧ NamesOk s.asks ∧ s.cases.length ≤ 5 ∧ (0 ≤ s.els ∧ s.els < n) ∧ (-1 ≤ s.fall ∧ s.fall < n) ∧ (s.on = 0 ∨ (0 ≤ s.on ∧ s.on < s.asks.length))
def CaseOkAt (s : StepD) (n : Int) (i : Nat) : Prop := CaseOk n (s.cases.getD i CaseD.zero)
def CasesOk (s : StepD) (n : Int) : Prop := ∀ i, i < s.cases.length → CaseOkAt s n i
def AskOk (s : StepD) (n : Int) : Prop := FrontOk s n ∧ CasesOk s n
def StepOk (s : StepD) (n : Int) : Prop := (s.fin = true → EndOk s) ∧ (s.fin = false → AskOk s n)
def ActionOk (a : ActionD) : Prop := (1 ≤ a.cost ∧ a.cost ≤ 20) ∧ (1 ≤ a.steps.length ∧ a.steps.length ≤ 20) ∧ ∀ i, i < a.steps.length → StepOk (a.steps.getD i StepD.zero) a.steps.length
structure KeptBut (lo hi : Nat) (w w' : World) : Prop where
  os : w'.os = w.os
  tape : w'.tape = w.tape
  output : w'.output = w.output
  size : w.heap.size ≤ w'.heap.size
  block : ∀ k, k < w.heap.size → (k < lo ∨ hi ≤ k) → w'.heap[k]? = w.heap[k]?
theorem KeptBut.of_kept {lo hi : Nat} {w w' : World} (h : Kept w w') : KeptBut lo hi w w' := ⟨h.os, h.tape, h.output, h.size, fun k hk _ => h.block k hk⟩
theorem KeptBut.refl (lo hi : Nat) (w : World) : KeptBut lo hi w w := .of_kept (Kept.refl w)
theorem KeptBut.trans {lo hi : Nat} {a b c : World} (h : KeptBut lo hi a b) (k : KeptBut lo hi b c) : KeptBut lo hi a c :=
  ⟨k.os.trans h.os, k.tape.trans h.tape, k.output.trans h.output, Nat.le_trans h.size k.size, fun i hi' ho => (k.block i (Nat.lt_of_lt_of_le hi' h.size) ho).trans (h.block i hi' ho)⟩
theorem KeptBut.mono {lo hi lo' hi' : Nat} {a b : World} (h : KeptBut lo hi a b) (h1 : lo' ≤ lo) (h2 : hi ≤ hi') : KeptBut lo' hi' a b :=
  ⟨h.os, h.tape, h.output, h.size, fun k hk ho => h.block k hk (by omega)⟩
theorem KeptBut.drew {lo hi : Nat} {a b : World} (h : KeptBut lo hi a b) : KeptBut lo hi a b.drew := ⟨h.os, h.tape, h.output, h.size, h.block⟩
theorem KeptBut.drewN {lo hi : Nat} {a b : World} (h : KeptBut lo hi a b) (n : Nat) : KeptBut lo hi a (b.drewN n) := ⟨h.os, h.tape, h.output, h.size, h.block⟩
theorem KeptBut.alloc {lo hi : Nat} {a b : World} (h : KeptBut lo hi a b) (o : Obj) : KeptBut lo hi a (b.alloc o) := h.trans (.of_kept ((Kept.refl b).alloc o))
theorem KeptBut.setCell {lo hi : Nat} {a b : World} (h : KeptBut lo hi a b) {p : Addr} (h1 : lo ≤ p.block) (h2 : p.block < hi) (v : Value) : KeptBut lo hi a (b.setCell p v) :=
  ⟨h.os, h.tape, h.output, by rw [size_setCell]; exact h.size, fun k hk ho => by rw [Below.heap_setCell _ _ _ _ (by omega)]; exact h.block k hk ho⟩
theorem KeptBut.kept {lo hi : Nat} {w a b : World} (h : KeptBut lo hi a b) (hk : Kept w a) (hlo : w.heap.size ≤ lo) : Kept w b :=
  ⟨h.os.trans hk.os, h.tape.trans hk.tape, h.output.trans hk.output, Nat.le_trans hk.size h.size, fun k hk' => (h.block k (Nat.lt_of_lt_of_le hk' hk.size) (by omega)).trans (hk.block k hk')⟩
def Same (lo hi : Nat) (w w' : World) : Prop := ∀ b, lo ≤ b → b < hi → b < w.heap.size → w'.heap[b]? = w.heap[b]?
theorem Same.mono {lo hi lo' hi' : Nat} {w w' : World} (h : Same lo hi w w') (h1 : lo ≤ lo') (h2 : hi' ≤ hi) : Same lo' hi' w w' := fun b hb hb' hs => h b (by omega) (by omega) hs
theorem Kept.same {w w' : World} (h : Kept w w') (lo hi : Nat) : Same lo hi w w' := fun b _ _ hs => h.block b hs
theorem KeptBut.same {lo hi : Nat} {w w' : World} (h : KeptBut lo hi w w') {l2 h2 : Nat} (hd : h2 ≤ lo ∨ hi ≤ l2) : Same l2 h2 w w' := fun b _ _ hs => h.block b hs (by omega)
theorem Same.setCell {lo hi : Nat} (w : World) {p : Addr} (hp : p.block < lo ∨ hi ≤ p.block) (v : Value) : Same lo hi w (w.setCell p v) := fun b _ _ _ => Below.heap_setCell _ _ _ _ (by omega)
theorem Same.cell {lo hi : Nat} {w w' : World} (h : Same lo hi w w') {b o : Nat} (h1 : lo ≤ b) (h2 : b < hi) (h3 : b < w.heap.size) : w'.cell? ⟨b, o, none⟩ = w.cell? ⟨b, o, none⟩ := World.cell?_of_block (w := w) (h b h1 h2 h3)
theorem Same.row {lo hi : Nat} {w w' : World} (h : Same lo hi w w') {b n : Nat} (h1 : lo ≤ b) (h2 : b < hi) (hr : Row w b n) : Row w' b n := by
  have hl := hr.lt
  obtain ⟨t, f, hr⟩ := hr
  exact ⟨t, f, hr.of_block (h b h1 h2 hl)⟩
theorem Same.range {lo hi : Nat} {w w' : World} (h : Same lo hi w w') {b o : Nat} {cs : List Value} (h1 : lo ≤ b) (h2 : b < hi) (h3 : b < w.heap.size) (hr : w.rangeAt b o cs) : w'.rangeAt b o cs :=
  fun j v hv => by rw [h.cell h1 h2 h3]; exact hr j v hv
def StrsIn (w : World) (lo hi : Nat) (a : Option Addr) (l : List ByteArray) : Prop :=
  l = [] ∨ ∃ b, a = some ⟨b, 0, none⟩ ∧ lo ≤ b ∧ b < hi ∧ Row w b l.length ∧ ∀ i, i < l.length → w.cell? ⟨b, i, none⟩ = some (.string (l.getD i ByteArray.empty))
theorem StrsIn.same {w w' : World} {lo hi : Nat} {a : Option Addr} {l : List ByteArray} (h : StrsIn w lo hi a l) (k : Same lo hi w w') : StrsIn w' lo hi a l := by
  rcases h with h | ⟨b, ha, h1, h2, hr, hc⟩
  · exact .inl h
  · exact .inr ⟨b, ha, h1, h2, k.row h1 h2 hr, fun i hi => by rw [k.cell h1 h2 hr.lt]; exact hc i hi⟩
theorem StrsIn.mono {w : World} {lo hi lo' hi' : Nat} {a : Option Addr} {l : List ByteArray} (h : StrsIn w lo hi a l) (h1 : lo' ≤ lo) (h2 : hi ≤ hi') : StrsIn w lo' hi' a l := by
  rcases h with h | ⟨b, ha, g1, g2, hr, hc⟩
  · exact .inl h
  · exact .inr ⟨b, ha, by omega, by omega, hr, hc⟩
theorem StrsIn.strs {w : World} {lo hi : Nat} {a : Option Addr} {l : List ByteArray} (h : StrsIn w lo hi a l) : Strs w a l := by
  rcases h with rfl | ⟨b, ha, h1, h2, hr, hc⟩
  · intro i hi
    simp at hi
  · intro i hi
    exact ⟨b, 0, ha, hr.lt, by rw [Nat.zero_add]; exact hc i hi⟩
def CasesIn (w : World) (lo hi : Nat) (a : Option Addr) (l : List CaseD) : Prop :=
  l = [] ∨ ∃ b, a = some ⟨b, 0, none⟩ ∧ lo ≤ b ∧ b < hi ∧ Row w b (l.length * 2) ∧ ∀ i, i < l.length → w.rangeAt b (i * 2) (l.getD i CaseD.zero).cells
theorem CasesIn.same {w w' : World} {lo hi : Nat} {a : Option Addr} {l : List CaseD} (h : CasesIn w lo hi a l) (k : Same lo hi w w') : CasesIn w' lo hi a l := by
  rcases h with h | ⟨b, ha, h1, h2, hr, hc⟩
  · exact .inl h
  · exact .inr ⟨b, ha, h1, h2, k.row h1 h2 hr, fun i hi => k.range h1 h2 hr.lt (hc i hi)⟩
theorem CasesIn.mono {w : World} {lo hi lo' hi' : Nat} {a : Option Addr} {l : List CaseD} (h : CasesIn w lo hi a l) (h1 : lo' ≤ lo) (h2 : hi ≤ hi') : CasesIn w lo' hi' a l := by
  rcases h with h | ⟨b, ha, g1, g2, hr, hc⟩
  · exact .inl h
  · exact .inr ⟨b, ha, by omega, by omega, hr, hc⟩
theorem CasesIn.cases {w : World} {lo hi : Nat} {a : Option Addr} {l : List CaseD} (h : CasesIn w lo hi a l) : Cases w a l := by
  rcases h with rfl | ⟨b, ha, h1, h2, hr, hc⟩
  · intro i hi
    simp at hi
  · intro i hi
    exact ⟨b, 0, ha, hr.lt, by rw [Nat.zero_add]; exact hc i hi⟩
def StepIn (w : World) (B j lo hi : Nat) (s : StepD) : Prop :=
  ∃ aa ca ac cc mid, lo ≤ mid ∧ mid ≤ hi ∧ w.rangeAt B (j * 8) (s.cells aa ca ac cc) ∧ StrsIn w lo mid aa s.asks ∧ CasesIn w mid hi ac s.cases ∧ s.asks.length ≤ ca
theorem StepIn.same {w w' : World} {B j lo hi : Nat} {s : StepD} (h : StepIn w B j lo hi s) (k : Same lo hi w w') (hB : w'.rangeAt B (j * 8) = w.rangeAt B (j * 8)) : StepIn w' B j lo hi s := by
  obtain ⟨aa, ca, ac, cc, mid, h1, h2, h3, h4, h5, h6⟩ := h
  exact ⟨aa, ca, ac, cc, mid, h1, h2, by rw [hB]; exact h3, h4.same (k.mono (Nat.le_refl _) h2), h5.same (k.mono h1 (Nat.le_refl _)), h6⟩
def StepsIn (w : World) (lo hi : Nat) (a : Option Addr) (l : List StepD) : Prop :=
  l = [] ∨ ∃ (b : Nat) (c : Nat → Nat), a = some ⟨b, 0, none⟩ ∧ lo ≤ b ∧ b < c 0 ∧ c l.length ≤ hi ∧ Row w b (l.length * 8) ∧ (∀ i j, i ≤ j → c i ≤ c j) ∧ ∀ i, i < l.length → StepIn w b i (c i) (c (i + 1)) (l.getD i StepD.zero)
theorem rangeAt_of_block {w w' : World} {b : Nat} (h : w'.heap[b]? = w.heap[b]?) (o : Nat) : w'.rangeAt b o = w.rangeAt b o := by
  funext cs
  unfold World.rangeAt
  have hc : ∀ j, w'.cell? ⟨b, j, none⟩ = w.cell? ⟨b, j, none⟩ := fun j => World.cell?_of_block (w := w) h
  simp only [hc]
theorem StepsIn.same {w w' : World} {lo hi : Nat} {a : Option Addr} {l : List StepD} (h : StepsIn w lo hi a l) (k : Same lo hi w w') : StepsIn w' lo hi a l := by
  rcases h with h | ⟨b, c, ha, h1, h2, h3, hr, hm, hc⟩
  · exact .inl h
  · have hbh : b < hi := Nat.lt_of_lt_of_le h2 (Nat.le_trans (hm 0 _ (Nat.zero_le _)) h3)
    refine .inr ⟨b, c, ha, h1, h2, h3, k.row h1 hbh hr, hm, fun i hi' => (hc i hi').same (k.mono ?_ ?_) (rangeAt_of_block (k b h1 hbh hr.lt) _)⟩
    · have := hm 0 i (Nat.zero_le _); omega
    · have := hm (i + 1) l.length (by omega); omega
theorem StepsIn.mono {w : World} {lo hi lo' hi' : Nat} {a : Option Addr} {l : List StepD} (h : StepsIn w lo hi a l) (h1 : lo' ≤ lo) (h2 : hi ≤ hi') : StepsIn w lo' hi' a l := by
  rcases h with h | ⟨b, c, ha, g1, g2, g3, hr, hm, hc⟩
  · exact .inl h
  · exact .inr ⟨b, c, ha, by omega, g2, by omega, hr, hm, hc⟩
theorem StepsIn.steps {w : World} {lo hi : Nat} {a : Option Addr} {l : List StepD} (h : StepsIn w lo hi a l) : Steps w a l := by
  rcases h with rfl | ⟨b, c, ha, h1, h2, h3, hr, hm, hc⟩
  · intro i hi
    simp at hi
  · intro i hi
    obtain ⟨aa, ca, ac, cc, mid, g1, g2, g3, g4, g5, g6⟩ := hc i hi
    exact ⟨b, 0, _, ha, hr.lt, by rw [Nat.zero_add]; exact g3, aa, ca, ac, cc, rfl, g4.strs, g5.cases, g6⟩
theorem Row.at {w : World} {b n i : Nat} (h : Row w b n) (hi : i < n) : (∃ v, w.cell? ⟨b, i, none⟩ = some v) ∧ w.frozen? ⟨b, i, none⟩ = false := by
  obtain ⟨t, f, h⟩ := h
  exact ⟨⟨_, h.cell hi⟩, h.frozen i⟩
theorem set_hit {w : World} {b n o : Nat} (h : Row w b n) (ho : o < n) (v : Value) : (w.setCell ⟨b, o, none⟩ v).cell? ⟨b, o, none⟩ = some v := by
  obtain ⟨⟨old, hc⟩, _⟩ := h.at ho
  exact World.cell?_setCell_same _ _ _ hc
theorem set_miss {w : World} {b o p : Nat} (hn : o ≠ p) (v : Value) : (w.setCell ⟨b, o, none⟩ v).cell? ⟨b, p, none⟩ = w.cell? ⟨b, p, none⟩ :=
  World.cell?_setCell_other _ _ _ _ (by simp <;> omega)
theorem ownsRow_kept' {w w' : World} {base size : Nat} {e : TypeId} {v : Value} {n : Nat} {xs : List Value} (h : w.ownsRow base e size v n xs) (k : Kept w w') : w'.ownsRow base e size v n xs :=
  h.kept (row := none) ⟨k.os, k.tape, k.output, k.size, fun i hi _ => k.block i hi⟩ (by cases v.ownBlock <;> simp)
theorem owns_set {w : World} {base size : Nat} {e : TypeId} {v : Value} {n : Nat} {xs : List Value} (h : w.ownsRow base e size v n xs) {p : Addr} (hp : p.block < base) (u : Value) : (w.setCell p u).ownsRow base e size v n xs := by
  refine ⟨h.1, ?_⟩
  rcases h.2 with h2 | ⟨g, cap, cur, rfl, hb, hg, rest⟩
  · exact .inl h2
  · exact .inr ⟨g, cap, cur, rfl, hb, by rw [Below.heap_setCell _ _ _ _ (by omega)]; exact hg, rest⟩
theorem kept_of_grown {w0 w w' : World} {v : Value} {base : Nat} {e : TypeId} {n : Nat} {xs : List Value} {size : Nat} (k : Kept w0 w) (hb : w0.heap.size ≤ base) (h : w.ownsRow base e size v n xs) (g : w.grownBy w' v.ownBlock) : Kept w0 w' :=
  Below.grown k g k.size (fun b hb' => Nat.le_trans hb (h.lt b hb').1)
theorem owns_base {w : World} {base base' size : Nat} {e : TypeId} {v : Value} {n : Nat} {xs : List Value} (h : w.ownsRow base e size v n xs) (hb : base' ≤ base) : w.ownsRow base' e size v n xs := by
  refine ⟨h.1, ?_⟩
  rcases h.2 with h2 | ⟨g, cap, cur, rfl, hb', rest⟩
  · exact .inl h2
  · exact .inr ⟨g, cap, cur, rfl, Nat.le_trans hb hb', rest⟩
theorem KeptBut.of_grown {W w2 : World} {g : Nat} (h : W.grownBy w2 (some g)) : KeptBut g (g + 1) W w2 :=
  ⟨h.os, h.tape, h.output, h.size, fun k hk ho => h.block k hk (by simp; omega)⟩
def SameKind (t : TypeId) (w w' : World) : Prop := ∀ (b : Nat) (cur : Array Value) (u : TypeId) (fr : Nat × Nat), u ≠ t → w.heap[b]? = some (Obj.cells cur u fr) → w'.heap[b]? = some (Obj.cells cur u fr)
theorem heap_lt {w : World} {b : Nat} {o : Obj} (h : w.heap[b]? = some o) : b < w.heap.size := (Array.getElem?_eq_some_iff.1 h).1
theorem SameKind.refl (t : TypeId) (w : World) : SameKind t w w := fun _ _ _ _ _ h => h
theorem SameKind.trans {t : TypeId} {a b c : World} (h : SameKind t a b) (k : SameKind t b c) : SameKind t a c := fun x cur u fr hu hb => k x cur u fr hu (h x cur u fr hu hb)
theorem SameKind.of_kept {t : TypeId} {w w' : World} (h : Kept w w') : SameKind t w w' := fun b cur u fr _ hb => by rw [h.block b (heap_lt hb)]; exact hb
theorem SameKind.of_grown {t : TypeId} {w w' : World} {v : Value} {base n size : Nat} {xs : List Value} (h : w.ownsRow base t size v n xs) (g : w.grownBy w' v.ownBlock) : SameKind t w w' := by
  intro b cur u fr hu hb
  rw [g.block b (heap_lt hb) ?_]
  · exact hb
  · intro e
    rcases h.2 with ⟨rfl, _⟩ | ⟨g', cap, cur', rfl, _, hg', _⟩
    · simp [Value.ownBlock] at e
    · simp only [Value.ownBlock, Option.some.injEq] at e
      subst e
      rw [hb] at hg'
      simp only [Option.some.injEq, Obj.cells.injEq] at hg'
      exact hu hg'.2.1
theorem SameKind.setCell {t : TypeId} {w : World} {p : Addr} {cur : Array Value} {fr : Nat × Nat} (h : w.heap[p.block]? = some (Obj.cells cur t fr)) (v : Value) : SameKind t w (w.setCell p v) := by
  intro b cur' u fr' hu hb
  rw [Below.heap_setCell _ _ _ _ ?_]
  · exact hb
  · intro e
    rw [e, h] at hb
    simp only [Option.some.injEq, Obj.cells.injEq] at hb
    exact hu hb.2.1.symm
def RowT (w : World) (b : Nat) (t : TypeId) (n : Nat) : Prop := ∃ cur : Array Value, w.heap[b]? = some (Obj.cells cur t (0, 0)) ∧ cur.size = n
theorem RowT.row {w : World} {b n : Nat} {t : TypeId} (h : RowT w b t n) : Row w b n := by
  obtain ⟨cur, h1, h2⟩ := h
  exact ⟨t, fun i => cur.getD i undef, cur, h1, h2, fun i hi => by simp [Array.getD, h2, hi]⟩
theorem RowT.made (w : World) (c : Array Value) (t : TypeId) : RowT (w.alloc (.cells c t)) w.heap.size t c.size := ⟨c, heap_alloc_new w _, rfl⟩
theorem RowT.block {w w' : World} {b n : Nat} {t : TypeId} (h : RowT w b t n) (k : w'.heap[b]? = w.heap[b]?) : RowT w' b t n := by
  obtain ⟨cur, h1, h2⟩ := h
  exact ⟨cur, k.trans h1, h2⟩
theorem RowT.lt {w : World} {b n : Nat} {t : TypeId} (h : RowT w b t n) : b < w.heap.size := let ⟨_, h1, _⟩ := h; heap_lt h1
theorem RowT.kept {w w' : World} {b n : Nat} {t : TypeId} (h : RowT w b t n) (k : Kept w w') : RowT w' b t n := h.block (k.block b h.lt)
theorem RowT.set {w : World} {b n o : Nat} {t : TypeId} (h : RowT w b t n) (v : Value) : RowT (w.setCell ⟨b, o, none⟩ v) b t n := by
  obtain ⟨cur, h1, h2⟩ := h
  obtain ⟨t', f', c', g1, g2, _⟩ := (RowT.row ⟨cur, h1, h2⟩).set ⟨b, o, none⟩ rfl v
  have : t' = t := by
    simp only [World.setCell] at g1
    simp [Array.getElem?_modify, h1] at g1
    exact g1.2.symm
  subst this
  exact ⟨c', g1, g2⟩
theorem RowT.same {w : World} {b n o : Nat} {t : TypeId} (h : RowT w b t n) (v : Value) : SameKind t w (w.setCell ⟨b, o, none⟩ v) := by
  obtain ⟨cur, h1, _⟩ := h
  exact SameKind.setCell (p := ⟨b, o, none⟩) h1 v
def TStrs (w : World) (t : TypeId) (a : Option Addr) (l : List ByteArray) : Prop :=
  l = [] ∨ ∃ b cur fr, a = some ⟨b, 0, none⟩ ∧ w.heap[b]? = some (Obj.cells cur t fr) ∧ ∀ i, i < l.length → w.cell? ⟨b, i, none⟩ = some (.string (l.getD i ByteArray.empty))
def TCases (w : World) (t : TypeId) (a : Option Addr) (l : List CaseD) : Prop :=
  l = [] ∨ ∃ b cur fr, a = some ⟨b, 0, none⟩ ∧ w.heap[b]? = some (Obj.cells cur t fr) ∧ ∀ i, i < l.length → w.rangeAt b (i * 2) (l.getD i CaseD.zero).cells
theorem TStrs.same {w w' : World} {t u : TypeId} {a : Option Addr} {l : List ByteArray} (h : TStrs w t a l) (k : SameKind u w w') (hu : t ≠ u) : TStrs w' t a l := by
  rcases h with h | ⟨b, cur, fr, ha, hb, hc⟩
  · exact .inl h
  · have hb' := k b cur t fr hu hb
    exact .inr ⟨b, cur, fr, ha, hb', fun i hi => by rw [World.cell?_of_block (w := w) (hb'.trans hb.symm)]; exact hc i hi⟩
theorem TStrs.strs {w : World} {t : TypeId} {a : Option Addr} {l : List ByteArray} (h : TStrs w t a l) : Strs w a l := by
  rcases h with rfl | ⟨b, cur, fr, ha, hb, hc⟩
  · intro i hi; simp at hi
  · exact fun i hi => ⟨b, 0, ha, heap_lt hb, by rw [Nat.zero_add]; exact hc i hi⟩
theorem TCases.same {w w' : World} {t u : TypeId} {a : Option Addr} {l : List CaseD} (h : TCases w t a l) (k : SameKind u w w') (hu : t ≠ u) : TCases w' t a l := by
  rcases h with h | ⟨b, cur, fr, ha, hb, hc⟩
  · exact .inl h
  · have hb' := k b cur t fr hu hb
    exact .inr ⟨b, cur, fr, ha, hb', fun i hi j v hv => by rw [World.cell?_of_block (w := w) (hb'.trans hb.symm)]; exact hc i hi j v hv⟩
theorem TCases.cases {w : World} {t : TypeId} {a : Option Addr} {l : List CaseD} (h : TCases w t a l) : Cases w a l := by
  rcases h with rfl | ⟨b, cur, fr, ha, hb, hc⟩
  · intro i hi; simp at hi
  · exact fun i hi => ⟨b, 0, ha, heap_lt hb, by rw [Nat.zero_add]; exact hc i hi⟩
def TStep (w : World) (ts tc : TypeId) (cs : List Value) (s : StepD) : Prop := ∃ aa ca ac cc, cs = s.cells aa ca ac cc ∧ TStrs w ts aa s.asks ∧ TCases w tc ac s.cases ∧ s.asks.length ≤ ca
theorem TStep.same {w w' : World} {ts tc u : TypeId} {cs : List Value} {s : StepD} (h : TStep w ts tc cs s) (k : SameKind u w w') (h1 : ts ≠ u) (h2 : tc ≠ u) : TStep w' ts tc cs s := by
  obtain ⟨aa, ca, ac, cc, e, g1, g2, g3⟩ := h
  exact ⟨aa, ca, ac, cc, e, g1.same k h1, g2.same k h2, g3⟩
def PackedS (w : World) (ts tc : TypeId) (xs : List Value) (l : List StepD) : Prop :=
  xs.length = l.length * 8 ∧ ∀ i, i < l.length → TStep w ts tc ((xs.drop (i * 8)).take 8) (l.getD i StepD.zero)
theorem PackedS.nil (w : World) (ts tc : TypeId) : PackedS w ts tc [] [] := ⟨rfl, fun i hi => by simp at hi⟩
theorem PackedS.same {w w' : World} {ts tc u : TypeId} {xs : List Value} {l : List StepD} (h : PackedS w ts tc xs l) (k : SameKind u w w') (h1 : ts ≠ u) (h2 : tc ≠ u) : PackedS w' ts tc xs l :=
  ⟨h.1, fun i hi => (h.2 i hi).same k h1 h2⟩
theorem PackedS.snoc {w : World} {ts tc : TypeId} {xs cs : List Value} {l : List StepD} {k : Nat} (hk : k < l.length) (h : PackedS w ts tc xs (l.take k)) (hc : TStep w ts tc cs (l.getD k StepD.zero)) : PackedS w ts tc (xs ++ cs) (l.take (k + 1)) := by
  have hcl : cs.length = 8 := by obtain ⟨_, _, _, _, rfl, _⟩ := hc; rfl
  have hl : (l.take k).length = k := by rw [List.length_take]; omega
  have hxl : xs.length = k * 8 := by rw [h.1, hl]
  refine ⟨by rw [List.length_append, List.length_take, hxl, hcl, Nat.min_eq_left (by omega)]; omega, fun i hi => ?_⟩
  rw [List.length_take] at hi
  by_cases e : i < k
  · have e1 : (l.take (k + 1)).getD i StepD.zero = (l.take k).getD i StepD.zero := by simp [List.getD, e, (by omega : i < k + 1)]
    have e2 : ((xs ++ cs).drop (i * 8)).take 8 = (xs.drop (i * 8)).take 8 := by
      rw [List.drop_append_of_le_length (by omega), List.take_append_of_le_length (by rw [List.length_drop]; omega)]
    rw [e1, e2]
    exact h.2 i (by rw [hl]; exact e)
  · obtain rfl : i = k := by omega
    have e1 : (l.take (i + 1)).getD i StepD.zero = l.getD i StepD.zero := by simp [List.getD]
    have e2 : ((xs ++ cs).drop (i * 8)).take 8 = cs := by
      rw [← hxl, List.drop_left, List.take_of_length_le (by omega)]
    rw [e1, e2]
    exact hc
def TSteps (w : World) (t ts tc : TypeId) (v : Value) (l : List StepD) : Prop := ∃ base xs, w.ownsRow base t 8 v l.length xs ∧ PackedS w ts tc xs l
theorem owns_kept {w w' : World} {base size : Nat} {e : TypeId} {v : Value} {n : Nat} {xs : List Value} (h : w.ownsRow base e size v n xs) {u : TypeId} (k : SameKind u w w') (hu : e ≠ u) : w'.ownsRow base e size v n xs := by
  refine ⟨h.1, ?_⟩
  rcases h.2 with h2 | ⟨g, cap, cur, rfl, hb, hg, rest⟩
  · exact .inl h2
  · exact .inr ⟨g, cap, cur, rfl, hb, k g cur e _ hu hg, rest⟩
theorem TSteps.same {w w' : World} {t ts tc u : TypeId} {v : Value} {l : List StepD} (h : TSteps w t ts tc v l) (k : SameKind u w w') (h0 : t ≠ u) (h1 : ts ≠ u) (h2 : tc ≠ u) : TSteps w' t ts tc v l := by
  obtain ⟨base, xs, g1, g2⟩ := h
  exact ⟨base, xs, owns_kept g1 k h0, g2.same k h1 h2⟩
theorem TSteps.steps {w : World} {t ts tc : TypeId} {v : Value} {l : List StepD} (h : TSteps w t ts tc v l) : ∃ a cap, v = .slice a l.length cap ∧ Steps w a l := by
  obtain ⟨base, xs, g1, g2⟩ := h
  rcases g1.2 with ⟨rfl, h0⟩ | ⟨g, cap, cur, rfl, hb, hg, hnc, _, _, _⟩
  · exact ⟨none, 0, by rw [h0], fun i hi => by omega⟩
  · refine ⟨_, cap, rfl, fun i hi => ?_⟩
    obtain ⟨aa, ca, ac, cc, e, s1, s2, s3⟩ := g2.2 i hi
    refine ⟨g, 0, _, rfl, heap_lt hg, fun j u hu => ?_, aa, ca, ac, cc, rfl, s1.strs, s2.cases, s3⟩
    rw [← e] at hu
    have hj : j < 8 := by have := (List.getElem?_eq_some_iff.1 hu).1; rw [List.length_take] at this; omega
    rw [List.getElem?_take, if_pos hj, List.getElem?_drop] at hu
    have := g1.cells (g := g) rfl _ _ hu
    rw [Addr.add_mid] at this
    rw [Nat.zero_add] at this ⊢
    exact this
theorem own_slice {w : World} {base size : Nat} {e : TypeId} {v : Value} {n : Nat} {xs : List Value} (h : w.ownsRow base e size v n xs) : ∃ a cap, v = .slice a n cap := by
  rcases h.2 with ⟨rfl, rfl⟩ | ⟨g, cap, cur, rfl, _⟩
  · exact ⟨none, 0, rfl⟩
  · exact ⟨_, cap, rfl⟩
theorem range_new (w : World) (c : Array Value) (t : TypeId) : (w.alloc (.cells c t)).rangeAt w.heap.size 0 c.toList := fun j v hv => by
  rw [Nat.zero_add, World.cell?_alloc_mark]
  simpa using hv
theorem KeptBut.below {lo hi : Nat} {w wr w6 : World} (h : KeptBut lo hi w wr) (b : Below w.heap.size wr w6) : KeptBut lo hi w w6 :=
  ⟨b.os.trans h.os, b.tape.trans h.tape, b.output.trans h.output, Nat.le_trans h.size b.size, fun k hk ho => (b.block k hk).trans (h.block k hk ho)⟩
end Go.Proofs.YtjhemildijapmaaGreatDoor
