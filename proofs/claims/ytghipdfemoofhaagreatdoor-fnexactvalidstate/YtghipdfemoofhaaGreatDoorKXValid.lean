import Derived.Test.YtghipdfemoofhaaGreatDoorKVAppr
import Derived.Test.YtghipdfemoofhaaGreatDoorKXCopy
import Derived.Maps.Own
import Derived.Maps.OwnSet
import Derived.Maps.Views
import Derived.Test.YtghipdfemoofhaaGreatDoorKXSame3
import Derived.Deep.QuietTactic
import Derived.BigQuiet

namespace Go.Proofs.YtghipdfemoofhaaGreatDoor
open Go.RowKit

structure But (S : Nat → Prop) (w w' : World) : Prop where
  os : w'.os = w.os
  tape : w'.tape = w.tape
  output : w'.output = w.output
  size : w.heap.size ≤ w'.heap.size
  block : ∀ b, b < w.heap.size → ¬ S b → w'.heap[b]? = w.heap[b]?
section
variable {S : Nat → Prop} {w w' w'' wz : World}
theorem But.of_kept (h : Kept w w') : But S w w' := ⟨h.os, h.tape, h.output, h.size, fun b hb _ => h.block b hb⟩
theorem But.of_grown {row : Option Nat} (h : w.grownBy w' row) (hs : ∀ b, row = some b → S b) : But S w w' := ⟨h.os, h.tape, h.output, h.size, fun b hb hn => h.block b hb (fun e => hn (hs b e.symm))⟩
theorem But.trans (h : But S w w') (k : But S w' w'') : But S w w'' := ⟨k.os.trans h.os, k.tape.trans h.tape, k.output.trans h.output, Nat.le_trans h.size k.size, fun b hb hn => (k.block b (Nat.lt_of_lt_of_le hb h.size) hn).trans (h.block b hb hn)⟩
theorem But.set (h : But S w w') {p : Addr} (hs : S p.block) (v : Value) : But S w (w'.setCell p v) := ⟨h.os, h.tape, h.output, by rw [size_setCell]; exact h.size, fun b hb hn => by rw [Below.heap_setCell _ _ _ _ (fun e => hn (by rw [e]; exact hs))]; exact h.block b hb hn⟩
theorem But.mono {S' : Nat → Prop} (h : But S w w') (hs : ∀ b, b < w.heap.size → S b → S' b) : But S' w w' := ⟨h.os, h.tape, h.output, h.size, fun b hb hn => h.block b hb (fun e => hn (hs b hb e))⟩
theorem But.kept (h : But S w w') (k : Kept wz w) (hs : ∀ b, S b → wz.heap.size ≤ b) : Kept wz w' :=
  ⟨h.os.trans k.os, h.tape.trans k.tape, h.output.trans k.output, Nat.le_trans k.size h.size, fun b hb => (h.block b (Nat.lt_of_lt_of_le hb k.size) (fun e => by have := hs b e; omega)).trans (k.block b hb)⟩
theorem But.cell (h : But S w w') {b o : Nat} (hb : b < w.heap.size) (hn : ¬ S b) : w'.cell? ⟨b, o, none⟩ = w.cell? ⟨b, o, none⟩ := World.cell?_of_block (w := w) (h.block b hb hn)
theorem But.row (h : But S w w') {b n : Nat} {t : TypeId} (hr : RowT w b t n) (hn : ¬ S b) : RowT w' b t n := hr.block (h.block b hr.lt hn)
theorem But.range (h : But S w w') {b o n : Nat} {t : TypeId} (hr : RowT w b t n) (hn : ¬ S b) {cs : List Value} (hc : w.rangeAt b o cs) : w'.rangeAt b o cs := fun j v hv => (h.cell hr.lt hn).trans (hc j v hv)
theorem But.owns (h : But S w w') {base size n : Nat} {e : TypeId} {v : Value} {xs : List Value} (ho : w.ownsRow base e size v n xs) (hn : ∀ b, v.ownBlock = some b → ¬ S b) : w'.ownsRow base e size v n xs := by
  refine ⟨ho.1, ?_⟩
  rcases ho.2 with h2 | ⟨g, cap, cur, rfl, hb, hg, rest⟩
  · exact .inl h2
  · exact .inr ⟨g, cap, cur, rfl, hb, by rw [h.block g (heap_lt hg) (hn g rfl)]; exact hg, rest⟩
end

def TypeAt (w : World) (b : Nat) (t : TypeId) : Prop := ∃ cur fr, w.heap[b]? = some (Obj.cells cur t fr)
theorem RowT.type {w : World} {b n : Nat} {t : TypeId} (h : RowT w b t n) : TypeAt w b t := let ⟨cur, h1, _⟩ := h; ⟨cur, _, h1⟩
theorem owns_type {w : World} {base size n : Nat} {e : TypeId} {v : Value} {xs : List Value} (h : w.ownsRow base e size v n xs) {b : Nat} (hb : v.ownBlock = some b) : TypeAt w b e := by
  rcases h.2 with ⟨rfl, _⟩ | ⟨g, cap, cur, rfl, _, hg, _⟩
  · cases hb
  · simp only [Value.ownBlock, Option.some.injEq] at hb
    subst hb
    exact ⟨cur, _, hg⟩
theorem type_ne {w : World} {b c : Nat} {t u : TypeId} (h : TypeAt w b t) (k : TypeAt w c u) (hn : t ≠ u) : b ≠ c := by
  rintro rfl
  obtain ⟨c1, f1, h1⟩ := h
  obtain ⟨c2, f2, h2⟩ := k
  rw [h1] at h2
  simp only [Option.some.injEq, Obj.cells.injEq] at h2
  exact hn h2.2.1

structure TaskM where
  tb : Nat
  r : RunX
  cost : Int
  steps : List StepD
  sa : Option Addr
  sc : Nat
  op : Nat
  tv : Value
  qv : Value
  qs : List Value
  bl : ByteArray
def TaskM.cells (t : TaskM) : List Value := [.string t.r.name, .bool t.r.over, .bool t.r.fail, .string t.r.text, .int .i64 t.r.at', .int .i64 t.r.visits, t.tv, .int .i64 t.cost, .slice t.sa t.steps.length t.sc, .int .i64 (t.op : Int), t.qv, .string t.bl]
def TaskM.ptr (t : TaskM) : Value := .pointer (some ⟨t.tb, 0, none⟩)
def TaskM.own (t : TaskM) : List Nat := t.tv.ownBlock.toList ++ t.qv.ownBlock.toList
def ptrB (b : Nat) : Value := .pointer (some ⟨b, 0, none⟩)
structure TaskAt (base : Nat) (w : World) (t : TaskM) : Prop where
  row : RowT w t.tb 77 12
  rng : w.rangeAt t.tb 0 t.cells
  txt : w.ownsRow base 9 1 t.tv t.r.texts.length (t.r.texts.map Value.string)
  ask : w.ownsRow base 9 1 t.qv t.qs.length t.qs
  low : base ≤ t.tb
theorem TaskAt.own_type {base : Nat} {w : World} {t : TaskM} (h : TaskAt base w t) {x : Nat} (hx : x ∈ t.own) : TypeAt w x 9 ∧ base ≤ x ∧ x < w.heap.size := by
  unfold TaskM.own at hx
  rcases List.mem_append.1 hx with hx | hx
  · have e := Option.mem_toList.1 hx
    exact ⟨owns_type h.txt e, h.txt.lt x e⟩
  · have e := Option.mem_toList.1 hx
    exact ⟨owns_type h.ask e, h.ask.lt x e⟩
theorem TaskAt.but {base : Nat} {S : Nat → Prop} {w w' : World} {t : TaskM} (h : TaskAt base w t) (k : But S w w') (h1 : ¬ S t.tb) (h2 : ∀ x ∈ t.own, ¬ S x) : TaskAt base w' t :=
  ⟨k.row h.row h1, k.range h.row h1 h.rng, k.owns h.txt (fun b hb => h2 b (List.mem_append.2 (.inl (Option.mem_toList.2 hb)))), k.owns h.ask (fun b hb => h2 b (List.mem_append.2 (.inr (Option.mem_toList.2 hb)))), h.low⟩

def asIs (v : Value) : Option (DataW Value × List MemPlace) := some (.held v, [])
def keyLit (s : ByteArray) : Lit := .string s.data.toList
def runsOf (ts : List TaskM) : List RunX := ts.map (·.r)

structure Ghost where
  wo : World
  K : Nat → Prop
  ps : List (Nat × ByteArray)
def Ghost.no (w : World) : Ghost := ⟨w, fun _ => False, []⟩
structure Fen (G : Ghost) (w : World) (bb mb : Nat) (ts : List TaskM) (f : ByteArray → Value) : Prop where
  size : G.wo.heap.size ≤ w.heap.size
  lt : ∀ k, G.K k → k < G.wo.heap.size
  same : ∀ k, G.K k → w.heap[k]? = G.wo.heap[k]?
  nb : ¬ G.K bb
  nm : ¬ G.K mb
  nt : ∀ t ∈ ts, ¬ G.K t.tb ∧ ∀ x ∈ t.own, ¬ G.K x
  nf : ∀ s x, (f s).ownBlock = some x → ¬ G.K x
  has : ∀ p ∈ G.ps, ∃ t ∈ ts, t.tb = p.1 ∧ t.r.name = p.2
theorem Fen.but {G : Ghost} {S : Nat → Prop} {w w' : World} {bb mb : Nat} {ts : List TaskM} {f : ByteArray → Value} (h : Fen G w bb mb ts f) (k : But S w w') (hS : ∀ b, S b → ¬ G.K b) : Fen G w' bb mb ts f :=
  ⟨Nat.le_trans h.size k.size, h.lt, fun b hb => (k.block b (Nat.lt_of_lt_of_le (h.lt b hb) h.size) (fun e => hS b e hb)).trans (h.same b hb), h.nb, h.nm, h.nt, h.nf, h.has⟩
theorem Fen.far {G : Ghost} {w : World} {bb mb : Nat} {ts : List TaskM} {f : ByteArray → Value} (h : Fen G w bb mb ts f) {x : Nat} (hx : w.heap.size ≤ x) : ¬ G.K x := fun hk => by
  have h1 := h.lt x hk
  have h2 := h.size
  omega
theorem Fen.no {w w' : World} {bb mb : Nat} {ts : List TaskM} {f : ByteArray → Value} (h : w.heap.size ≤ w'.heap.size) : Fen (Ghost.no w) w' bb mb ts f :=
  ⟨h, fun _ e => e.elim, fun _ e => e.elim, id, id, fun _ _ => ⟨id, fun _ _ => id⟩, fun _ _ _ => id, fun _ h => (by cases h)⟩

structure BM (G : Ghost) (webl : List NodeD) (wz w : World) (bb : Nat) (a : Option Addr) (cap : Nat) (rd : Option Addr) (rn rc : Nat) (mb mx : Nat) (ts : List TaskM) (d : Option Addr) (dc : Nat) (f : ByteArray → Value) (ws : ByteArray → List Nat) : Prop where
  kw : Kept wz w
  row : RowT w bb 133 6
  c0 : w.cell? ⟨bb, 0, none⟩ = some (.slice a webl.length cap)
  c1 : w.cell? ⟨bb, 1, none⟩ = some (.func (.func 147) #[] #[])
  c2 : w.cell? ⟨bb, 2, none⟩ = some (.slice rd rn rc)
  c3 : w.cell? ⟨bb, 3, none⟩ = some (.slice d ts.length dc)
  c4 : w.cell? ⟨bb, 4, none⟩ = some (.func (.func 107) #[] #[])
  c5 : w.cell? ⟨bb, 5, none⟩ = some (.map (some mb))
  low : wz.heap.size ≤ bb
  items : w.ownsRow wz.heap.size 70 1 (.slice d ts.length dc) ts.length (ts.map TaskM.ptr)
  task : ∀ t ∈ ts, TaskAt wz.heap.size w t
  act : ∀ t ∈ ts, actsOf webl t.r.name = some ⟨t.cost, t.steps⟩ ∧ Steps wz t.sa t.steps
  asc : AscX (runsOf ts)
  tbs : (ts.map (·.tb)).Nodup
  sep : ts.Pairwise fun t u => ∀ x ∈ t.own, x ∉ u.own
  sep2 : ∀ t ∈ ts, t.own.Nodup
  map : ∃ N D, N ≤ mx ∧ w.ownsMap Tryz.prog 9 asIs mb N D ∧ ∀ s : ByteArray, s.size ≤ maxLen → D.atKey (keyLit s) (.held (.slice none 0 0)) = .held (f s)
  mlow : wz.heap.size ≤ mb
  wrow : ∀ s, w.ownsRow wz.heap.size 70 1 (f s) (ws s).length ((ws s).map ptrB)
  wsep : ∀ s s', s ≠ s' → ∀ x, (f s).ownBlock = some x → (f s').ownBlock ≠ some x
  isep : ∀ s x, (f s).ownBlock = some x → (Value.slice d ts.length dc).ownBlock ≠ some x
  qb : ∀ t ∈ ts, t.qs.length ≤ 5 * mx
  oth : Fen G w bb mb ts f

theorem map_but {S : Nat → Prop} {w w' : World} {mb N : Nat} {D : DataW Value} (h : w.ownsMap Tryz.prog 9 asIs mb N D) (k : But S w w') (hn : ¬ S mb) : w'.ownsMap Tryz.prog 9 asIs mb N D := by
  obtain ⟨es, clock, hb, F, hs, hD⟩ := h
  exact ⟨es, clock, by rw [k.block mb (heap_lt hb) hn]; exact hb, F, hs, hD⟩
theorem map_ne {w : World} {mb N b : Nat} {D : DataW Value} {t : TypeId} (h : w.ownsMap Tryz.prog 9 asIs mb N D) (k : TypeAt w b t) : b ≠ mb := by
  rintro rfl
  obtain ⟨es, clock, hb, _⟩ := h
  obtain ⟨cur, fr, hc⟩ := k
  rw [hb] at hc
  cases hc

section
variable {G : Ghost} {webl : List NodeD} {wz w w' : World} {bb : Nat} {a : Option Addr} {cap : Nat} {rd : Option Addr} {rn rc : Nat} {mb mx : Nat} {ts : List TaskM} {d : Option Addr} {dc : Nat} {f : ByteArray → Value} {ws : ByteArray → List Nat}
theorem BM.but {S : Nat → Prop} (h : BM G webl wz w bb a cap rd rn rc mb mx ts d dc f ws) (k : But S w w') (hs : ∀ b, S b → wz.heap.size ≤ b) (h1 : ¬ S bb) (h2 : ¬ S mb) (h3 : ∀ b, (Value.slice d ts.length dc).ownBlock = some b → ¬ S b) (h4 : ∀ s b, (f s).ownBlock = some b → ¬ S b) (h5 : ∀ t ∈ ts, ¬ S t.tb ∧ ∀ x ∈ t.own, ¬ S x) (h6 : ∀ b, S b → ¬ G.K b) : BM G webl wz w' bb a cap rd rn rc mb mx ts d dc f ws := by
  have hb := h.row.lt
  refine ⟨k.kept h.kw hs, k.row h.row h1, (k.cell hb h1).trans h.c0, (k.cell hb h1).trans h.c1, (k.cell hb h1).trans h.c2, (k.cell hb h1).trans h.c3, (k.cell hb h1).trans h.c4, (k.cell hb h1).trans h.c5, h.low, k.owns h.items h3, fun t ht => (h.task t ht).but k (h5 t ht).1 (h5 t ht).2, h.act, h.asc, h.tbs, h.sep, h.sep2, ?_, h.mlow, fun s => k.owns (h.wrow s) (h4 s), h.wsep, h.isep, h.qb, h.oth.but k h6⟩
  obtain ⟨N, D, hN, hM, hf⟩ := h.map
  exact ⟨N, D, hN, map_but hM k h2, hf⟩
theorem BM.kept (h : BM G webl wz w bb a cap rd rn rc mb mx ts d dc f ws) (k : Kept w w') : BM G webl wz w' bb a cap rd rn rc mb mx ts d dc f ws :=
  h.but (S := fun _ => False) (But.of_kept k) (fun _ h => h.elim) id id (fun _ _ => id) (fun _ _ _ => id) (fun _ _ => ⟨id, fun _ _ => id⟩) (fun _ h => h.elim)

theorem BM.more {mx' : Nat} (h : BM G webl wz w bb a cap rd rn rc mb mx ts d dc f ws) (hm : mx ≤ mx') : BM G webl wz w bb a cap rd rn rc mb mx' ts d dc f ws :=
  ⟨h.kw, h.row, h.c0, h.c1, h.c2, h.c3, h.c4, h.c5, h.low, h.items, h.task, h.act, h.asc, h.tbs, h.sep, h.sep2, (by obtain ⟨N, D, h1, h2⟩ := h.map; exact ⟨N, D, Nat.le_trans h1 hm, h2⟩), h.mlow, h.wrow, h.wsep, h.isep, fun t ht => Nat.le_trans (h.qb t ht) (Nat.mul_le_mul_left 5 hm), h.oth⟩
theorem getElem_mem' {α : Type} {l : List α} {i : Nat} (h : i < l.length) : l[i] ∈ l := List.getElem_mem h
theorem runs_set {t' : TaskM} {i : Nat} (_hi : i < ts.length) : runsOf (ts.set i t') = (runsOf ts).set i t'.r := by simp [runsOf, List.map_set]
theorem asc_set {l : List RunX} {i : Nat} {r' : RunX} (h : AscX l) (hi : i < l.length) (hn : r'.name = l[i].name) : AscX (l.set i r') := by
  unfold AscX at h ⊢
  rw [List.pairwise_iff_getElem] at h ⊢
  intro p q hp hq hpq
  rw [List.length_set] at hp hq
  rw [List.getElem_set, List.getElem_set]
  have := h p q hp hq hpq
  split <;> split
  · omega
  · rename_i e _; subst e; rw [hn]; exact this
  · rename_i _ e; subst e; rw [hn]; exact this
  · exact this
theorem BM.turn {S : Nat → Prop} (h : BM G webl wz w bb a cap rd rn rc mb mx ts d dc f ws) {i : Nat} (hi : i < ts.length) (k : But S w w') (hS : ∀ b, S b → b = ts[i].tb ∨ b ∈ ts[i].own) {t' : TaskM} (ht : TaskAt wz.heap.size w' t') (e1 : t'.tb = ts[i].tb) (e2 : t'.r.name = ts[i].r.name) (e3 : t'.cost = ts[i].cost) (e4 : t'.steps = ts[i].steps) (e5 : t'.sa = ts[i].sa) (ho : ∀ x ∈ t'.own, x ∈ ts[i].own ∨ w.heap.size ≤ x) (hn : t'.own.Nodup) (hqb : t'.qs.length ≤ 5 * mx) : BM G webl wz w' bb a cap rd rn rc mb mx (ts.set i t') d dc f ws := by
  have hb := h.row.lt
  have hti := h.task ts[i] (getElem_mem' hi)
  have hl : (ts.set i t').length = ts.length := List.length_set ..
  have nS : ∀ {b : Nat} {u : TypeId}, TypeAt w b u → u ≠ 77 → u ≠ 9 → ¬ S b := fun hu h1 h2 hs => by
    rcases hS _ hs with e | e
    · exact type_ne hu hti.row.type h1 e
    · exact type_ne hu (hti.own_type e).1 h2 rfl
  have hm := h.map
  obtain ⟨N, D, hN, hM, hf⟩ := hm
  have sMb : ¬ S mb := fun hs => by
    rcases hS _ hs with e | e
    · exact map_ne hM hti.row.type e.symm
    · exact map_ne hM (hti.own_type e).1 rfl
  have sBb : ¬ S bb := nS h.row.type (by decide) (by decide)
  have other : ∀ (j : Nat) (hj : j < ts.length), j ≠ i → ¬ S ts[j].tb ∧ ∀ x ∈ ts[j].own, ¬ S x := fun j hj hji => by
    have htj := h.task ts[j] (getElem_mem' hj)
    refine ⟨fun hs => ?_, fun x hx hs => ?_⟩
    · rcases hS _ hs with e | e
      · have hnd := List.pairwise_iff_getElem.1 h.tbs
        rcases Nat.lt_or_gt_of_ne hji with hlt | hlt
        · have := hnd j i (by simpa using hj) (by simpa using hi) hlt
          simp at this
          exact this e
        · have := hnd i j (by simpa using hi) (by simpa using hj) hlt
          simp at this
          exact this e.symm
      · exact type_ne htj.row.type (hti.own_type e).1 (by decide) rfl
    · rcases hS _ hs with e | e
      · exact type_ne (htj.own_type hx).1 hti.row.type (by decide) e
      · have hsp := List.pairwise_iff_getElem.1 h.sep
        rcases Nat.lt_or_gt_of_ne hji with hlt | hlt
        · exact hsp j i hj hi hlt x hx e
        · exact hsp i j hi hj hlt x e hx
  have mem : ∀ u ∈ ts.set i t', u = t' ∨ ∃ (j : Nat) (hj : j < ts.length), j ≠ i ∧ u = ts[j] := fun u hu => by
    obtain ⟨j, hj, rfl⟩ := List.getElem_of_mem hu
    rw [hl] at hj
    rw [List.getElem_set]
    split
    · exact .inl rfl
    · rename_i e; exact .inr ⟨j, hj, Ne.symm e, rfl⟩
  have hsz : ∀ b, S b → wz.heap.size ≤ b := fun b hs => by
    rcases hS b hs with e | e
    · rw [e]; exact hti.low
    · exact (hti.own_type e).2.1
  have hKS : ∀ b, S b → ¬ G.K b := fun b hs => by
    rcases hS b hs with e | e
    · rw [e]; exact (h.oth.nt _ (getElem_mem' hi)).1
    · exact (h.oth.nt _ (getElem_mem' hi)).2 b e
  have hfen : Fen G w' bb mb (ts.set i t') f := by
    have h0 := h.oth.but k hKS
    refine ⟨h0.size, h0.lt, h0.same, h0.nb, h0.nm, fun u hu => ?_, h0.nf, fun p hp => ?_⟩
    rotate_left
    · obtain ⟨u, hu, g1, g2⟩ := h.oth.has p hp
      obtain ⟨j, hj, rfl⟩ := List.getElem_of_mem hu
      by_cases e : j = i
      · subst e
        exact ⟨t', List.mem_set hj _, by rw [e1]; exact g1, by rw [e2]; exact g2⟩
      · refine ⟨ts[j], ?_, g1, g2⟩
        have e3 : (ts.set i t')[j]'(by rw [hl]; exact hj) = ts[j] := by rw [List.getElem_set, if_neg (Ne.symm e)]
        rw [← e3]
        exact List.getElem_mem _
    rcases mem u hu with rfl | ⟨j, hj, hji, rfl⟩
    · refine ⟨by rw [e1]; exact (h.oth.nt _ (getElem_mem' hi)).1, fun x hx => ?_⟩
      rcases ho x hx with g | g
      · exact (h.oth.nt _ (getElem_mem' hi)).2 x g
      · exact h.oth.far g
    · exact h.oth.nt _ (getElem_mem' hj)
  refine ⟨k.kept h.kw hsz, k.row h.row sBb, (k.cell hb sBb).trans h.c0, (k.cell hb sBb).trans h.c1, (k.cell hb sBb).trans h.c2, by rw [hl]; exact (k.cell hb sBb).trans h.c3, (k.cell hb sBb).trans h.c4, (k.cell hb sBb).trans h.c5, h.low, ?_, ?_, ?_, ?_, ?_, ?_, ?_, ⟨N, D, hN, map_but hM k sMb, hf⟩, h.mlow, fun s => k.owns (h.wrow s) (fun b e => nS (owns_type (h.wrow s) e) (by decide) (by decide)), h.wsep, by rw [hl]; exact h.isep, fun u hu => by rcases mem u hu with rfl | ⟨j, hj, hji, rfl⟩; exact hqb; exact h.qb _ (getElem_mem' hj), hfen⟩
  · have e : (ts.set i t').map TaskM.ptr = ts.map TaskM.ptr := by
      rw [List.map_set]
      have e0 : t'.ptr = (ts.map TaskM.ptr)[i]'(by simpa using hi) := by simp [TaskM.ptr, e1]
      rw [e0, List.set_getElem_self]
    rw [hl, e]
    exact k.owns h.items (fun b e => nS (owns_type h.items e) (by decide) (by decide))
  · intro u hu
    rcases mem u hu with rfl | ⟨j, hj, hji, rfl⟩
    · exact ht
    · exact (h.task _ (getElem_mem' hj)).but k (other j hj hji).1 (other j hj hji).2
  · intro u hu
    rcases mem u hu with rfl | ⟨j, hj, hji, rfl⟩
    · rw [e2, e3, e4, e5]; exact h.act _ (getElem_mem' hi)
    · exact h.act _ (getElem_mem' hj)
  · rw [runs_set hi]
    exact asc_set h.asc (by simpa [runsOf] using hi) (by simp [runsOf, e2])
  · have e : (ts.set i t').map (·.tb) = ts.map (·.tb) := by
      rw [List.map_set]
      have e0 : t'.tb = (ts.map (·.tb))[i]'(by simpa using hi) := by simp [e1]
      rw [e0, List.set_getElem_self]
    rw [e]
    exact h.tbs
  · rw [List.pairwise_iff_getElem]
    have hsp := List.pairwise_iff_getElem.1 h.sep
    intro p q hp hq hpq x hx
    rw [hl] at hp hq
    rw [List.getElem_set] at hx ⊢
    split at hx
    · rename_i e
      subst e
      rw [if_neg (by omega)]
      rcases ho x hx with g | g
      · exact hsp i q hi hq hpq x g
      · intro g2
        have := ((h.task _ (getElem_mem' hq)).own_type g2).2.2
        omega
    · split
      · rename_i e
        subst e
        intro g
        rcases ho x g with g | g
        · exact hsp p i hp hi hpq x hx g
        · have := ((h.task _ (getElem_mem' hp)).own_type hx).2.2
          omega
      · exact hsp p q hp hq hpq x hx
  · intro u hu
    rcases mem u hu with rfl | ⟨j, hj, hji, rfl⟩
    · exact hn
    · exact h.sep2 _ (getElem_mem' hj)
end

def BlOk (W : Acts) (r : RunX) (bl : ByteArray) : Prop :=
  (bl = ⟨#[]⟩ ∧ (r.over = true → r.fail = true → r.text = spentB ∨ ∃ A, W r.name = some A ∧ (stepOf A r.at').fin = true)) ∨
  (r.over = true ∧ r.fail = true ∧ (∃ A, W r.name = some A ∧ (stepOf A r.at').fin = false ∧ bl ∈ (stepOf A r.at').asks) ∧ r.text = (⟨#[98, 101, 108, 111, 119, 32]⟩ : ByteArray) ++ bl)
theorem BlOk.open {W : Acts} {r : RunX} {bl : ByteArray} (h : BlOk W r bl) (ho : r.over = false) : bl = ⟨#[]⟩ := by
  rcases h with h | ⟨h, _⟩
  · exact h.1
  · rw [ho] at h; cases h
theorem BlOk.still {W : Acts} {r : RunX} {bl : ByteArray} (hb : bl = ⟨#[]⟩) (ho : r.over = false) : BlOk W r bl := .inl ⟨hb, fun h => by rw [ho] at h; cases h⟩
def QsOk (W : Acts) (σ : Env) (r : RunX) (qs : List Value) : Prop := ∃ L, Traj W σ r L ∧ qs = L.map Value.string
theorem QsOk.mono {W : Acts} {σ : Env} {m : ByteArray} {r : RunX} {qs : List Value} (h : QsOk W σ r qs) (hr : ReadyX W σ m) : QsOk W (doX W σ m) r qs := by
  obtain ⟨L, h1, h2⟩ := h
  exact ⟨L, h1.mono hr, h2⟩
theorem QsOk.unit {W : Acts} {σ : Env} {r : RunX} {qs : List Value} (h : QsOk W σ r qs) (hc : CanGo W σ r) : QsOk W σ (nextOf W σ r).1 (qs ++ (nextOf W σ r).2.map Value.string) := by
  obtain ⟨L, h1, h2⟩ := h
  exact ⟨_, h1.unit hc, by rw [h2, List.map_append]⟩
theorem QsOk.still {W : Acts} {σ : Env} {r : RunX} {qs : List Value} (hq : qs = []) (hr : r = RunX.fresh r.name) : QsOk W σ r qs := ⟨[], by rw [hr]; exact Traj.start _, hq⟩
def TaskM.bq (t : TaskM) : ByteArray × List Value := (t.bl, t.qs)
structure BS (webl : List NodeD) (ts : List TaskM) (ws : ByteArray → List Nat) : Prop where
  good : GoodL webl (runsOf ts)
  op : ∀ t ∈ ts, t.op = (pend (actsOf webl) (envOf (runsOf ts)) t.r).length
  wt : ∀ s, ∀ t ∈ ts, (t.tb ∈ ws s ↔ s ∈ pend (actsOf webl) (envOf (runsOf ts)) t.r)
  wn : ∀ s, (ws s).Nodup
  ww : ∀ s b, b ∈ ws s → ∃ t ∈ ts, t.tb = b
  bl : ∀ t ∈ ts, BlOk (actsOf webl) t.r t.bl
  qs : ∀ t ∈ ts, QsOk (actsOf webl) (envOf (runsOf ts)) t.r t.qs

end Go.Proofs.YtghipdfemoofhaaGreatDoor

namespace Go.Proofs.YtghipdfemoofhaaGreatDoor
open Go.RowKit

theorem web_len {webl : List NodeD} (h : WebCode webl 0) : webl.length ≤ 60 := by
  rcases h with ⟨_, h⟩ | ⟨_, _, h⟩ | ⟨_, _, _, h⟩ | ⟨_, _, _, _, h⟩ | ⟨h, _⟩
  · cases h
  · cases h
  · cases h
  · cases h
  · omega
theorem web_node {webl : List NodeD} (h : WebCode webl 0) {k : Nat} (hk : k < webl.length) : NameOk (webl.getD k NodeD.zero).name ∧ ActionOk ⟨(webl.getD k NodeD.zero).cost, (webl.getD k NodeD.zero).steps⟩ := by
  rcases h with ⟨_, h⟩ | ⟨_, _, h⟩ | ⟨_, _, _, h⟩ | ⟨_, _, _, _, h⟩ | ⟨_, h1, _, h2, _⟩
  · cases h
  · cases h
  · cases h
  · cases h
  · refine ⟨Classical.byContradiction fun hc => h1 ⟨k, hk, hc⟩, Classical.byContradiction fun hc => h2 ⟨k, hk, hc⟩⟩
theorem web_acts {webl : List NodeD} (h : WebCode webl 0) : ActsOk (actsOf webl) := fun n A hA => by
  obtain ⟨k, h1, h2, _, rfl⟩ := acts_first hA
  obtain ⟨g1, g2⟩ := web_node h h1
  rw [h2] at g1
  exact ⟨g2, g1⟩
theorem web_small {webl : List NodeD} (h : WebCode webl 0) : SmallAsks webl := fun y hy s hs => by
  obtain ⟨k, hk, rfl⟩ := List.getElem_of_mem hy
  have h1 := (web_node h hk).2
  simp only [List.getD, List.getElem?_eq_getElem hk, Option.getD_some] at h1
  obtain ⟨i, hi, rfl⟩ := List.getElem_of_mem hs
  have h2 := asks_ok (i := (i : Int)) h1 (by omega) (by show (i : Int) < ((webl[k].steps.length : Nat) : Int); omega)
  have e : stepOf ⟨webl[k].cost, webl[k].steps⟩ (i : Int) = webl[k].steps[i] := by simp [stepOf, List.getD, hi]
  rw [e] at h2
  exact ⟨by omega, fun x hx => by have := (h2.2 x hx).2.1; omega⟩

structure XVar (wr : World) (xb : Nat) (roots : List ByteArray) (L : List RunX) (ra : Option Addr) (rc : Nat) (d : Option Addr) (dc : Nat) : Prop where
  row : RowT wr xb 38 2
  c0 : wr.cell? ⟨xb, 0, none⟩ = some (.slice ra roots.length rc)
  c1 : wr.cell? ⟨xb, 1, none⟩ = some (.slice d L.length dc)
  rts : Strs wr ra roots
  rns : RunsX wr d L
theorem XVar.kept {w w' : World} {xb rc dc : Nat} {roots : List ByteArray} {L : List RunX} {ra d : Option Addr} (h : XVar w xb roots L ra rc d dc) (k : Kept w w') : XVar w' xb roots L ra rc d dc :=
  ⟨h.row.kept k, (k.cell h.row.lt).trans h.c0, (k.cell h.row.lt).trans h.c1, h.rts.kept k, h.rns.kept k⟩
theorem XVar.made {w : World} {rc dc : Nat} {roots : List ByteArray} {L : List RunX} {ra d : Option Addr} (hT : Strs w ra roots) (hS : RunsX w d L) : XVar (w.alloc (.cells #[.slice ra roots.length rc, .slice d L.length dc] 38)) w.heap.size roots L ra rc d dc :=
  ⟨RowT.made w _ _, range_new w #[.slice ra roots.length rc, .slice d L.length dc] 38 0 _ rfl, range_new w #[.slice ra roots.length rc, .slice d L.length dc] 38 1 _ rfl, hT.kept ((Kept.refl _).alloc _), hS.kept ((Kept.refl _).alloc _)⟩
theorem XVar.laid {W w' : World} {rc dc xb : Nat} {roots : List ByteArray} {L : List RunX} {ra d : Option Addr} {xs : List Value} (hx : xb < W.heap.size) (hr : RowT w' xb 38 2) (hT : w'.ownsRow W.heap.size 9 1 (.slice ra roots.length rc) roots.length (roots.map Value.string)) (hO : w'.ownsRow W.heap.size 72 7 (.slice d L.length dc) L.length xs) (hP : PackedX w' (fun b => W.heap.size ≤ b) xs L) : XVar (w'.setCells xb 0 [.slice ra roots.length rc, .slice d L.length dc]) xb roots L ra rc d dc := by
  have hR := World.rangeAt_setCells_same w' xb 0 [.slice ra roots.length rc, .slice d L.length dc] (hr.row.there (o := 0) (m := 2) (Nat.le_refl _))
  refine ⟨RowT.sets _ _ hr, hR 0 _ rfl, hR 1 _ rfl, ?_, ?_⟩
  · have h1 := owns_set (owns_set hT (p := ⟨xb, 0, none⟩) hx (.slice ra roots.length rc)) (p := ⟨xb, 1, none⟩) hx (.slice d L.length dc)
    obtain ⟨a9, c9, e9, h9⟩ := owned_strs h1
    simp only [Value.slice.injEq, true_and] at e9
    rw [← e9.1] at h9
    exact h9
  · have h1 := owns_set (owns_set hO (p := ⟨xb, 0, none⟩) hx (.slice ra roots.length rc)) (p := ⟨xb, 1, none⟩) hx (.slice d L.length dc)
    have h2 := (hP.set (c := xb) (p := 0) (fun b h => by omega) (.slice ra roots.length rc)).set (c := xb) (p := 1) (fun b h => by omega) (.slice d L.length dc)
    obtain ⟨_, a9, c9, e9, h9⟩ := PackedX.runs h1 h2 (Kept.refl _)
    simp only [Value.slice.injEq, true_and] at e9
    rw [← e9.1] at h9
    exact h9.runs
theorem StrsB.but {w w' : World} {xb : Nat} {a : Option Addr} {l : List ByteArray} (h : StrsB w xb a l) (k : KeptBut xb (xb + 1) w w') : StrsB w' xb a l := fun i hi => by
  obtain ⟨b, o, e, hb, h1, hc⟩ := h i hi
  exact ⟨b, o, e, Nat.lt_of_lt_of_le hb k.size, h1, by rw [World.cell?_of_block (w := w) (k.block b hb (by omega))]; exact hc⟩
theorem StrsB.strs {w : World} {xb : Nat} {a : Option Addr} {l : List ByteArray} (h : StrsB w xb a l) : Strs w a l := fun i hi => by
  obtain ⟨b, o, e, hb, _, hc⟩ := h i hi
  exact ⟨b, o, e, hb, hc⟩
theorem StrsB.owned {w : World} {base xb : Nat} {t : TypeId} {a : Option Addr} {c : Nat} {l : List ByteArray} (h : w.ownsRow base t 1 (.slice a l.length c) l.length (l.map Value.string)) (hx : xb < base) : StrsB w xb a l := by
  rcases h.2 with ⟨e, h0⟩ | ⟨g, cap, cur, e, hb, hg, hnc, _, _, _⟩
  · intro i hi; rw [h0] at hi; exact absurd hi (Nat.not_lt_zero _)
  · intro i hi
    simp only [Value.slice.injEq] at e
    obtain ⟨rfl, _, rfl⟩ := e
    refine ⟨g, 0, rfl, heap_lt hg, by omega, ?_⟩
    have := h.cells (g := g) rfl i (.string (l.getD i ByteArray.empty)) (by simp [List.getD, hi])
    rw [Addr.add_mid] at this
    exact this
theorem KeptBut.sets {lo hi : Nat} {a : World} {g : Nat} (h1 : lo ≤ g) (h2 : g < hi) : ∀ (vs : List Value) (o : Nat) {u : World}, KeptBut lo hi a u → KeptBut lo hi a (u.setCells g o vs)
  | [], _, _, h => h
  | v :: r, o, _, h => by rw [World.setCells]; exact KeptBut.sets h1 h2 r (o + 1) (h.setCell (p := ⟨g, o, none⟩) h1 h2 v)

def ValidX (webl : List NodeD) (roots : List ByteArray) (sl : List RunX) : Prop := WebCode webl 0 ∧ RootsOk roots ∧ sl.length ≤ webl.length ∧ GoalX webl roots sl

structure OutV (webl : List NodeD) (roots : List ByteArray) (sl : List RunX) (L : List RunX) (bb : Bool) (gg : Nat) : Prop where
  good : GoodL webl L
  led : ∃ k, Leads (Behind (W := actsOf webl) behindS (envOf sl)) (doX (actsOf webl)) (envOf (startL webl roots)) (envOf L) k
  fin : bb = false → AtEnd (Behind (W := actsOf webl) behindS (envOf sl)) (envOf L)
  pot : gg = 2 * potL webl L + (if bb = true then 1 else 0)
theorem OutV.begin {webl : List NodeD} (hw : WebCode webl 0) (roots : List ByteArray) (sl : List RunX) : OutV webl roots sl (startL webl roots) true (2 * potL webl (startL webl roots) + 1) :=
  ⟨startL_good (web_acts hw) roots, ⟨0, .here _⟩, fun h => (by cases h), rfl⟩
theorem OutV.next {webl : List NodeD} {roots : List ByteArray} {sl L0 L : List RunX} {ns : List ByteArray} {b : Bool} {gg : Nat} (h0 : OutV webl roots sl L0 true gg) (hn : ReadyL (actsOf webl) (envOf L0) L0 ns) (h : RoundX webl (envOf sl) (envOf (startL webl roots)) ns L0 L ns.length b) : OutV webl roots sl L b (2 * potL webl L + (if b = true then 1 else 0)) ∧ 2 * potL webl L + (if b = true then 1 else 0) < gg := by
  refine ⟨⟨h.good, h.led, fun hb => ?_, rfl⟩, ?_⟩
  · subst hb
    exact (h.atEnd h0.good hn).2
  · rw [h0.pot]
    cases b with
    | true => have := h.yes rfl; simp only [if_true]; omega
    | false => rw [(h.no rfl).1]; simp

theorem not_behind_none {webl : List NodeD} {G σ : Env} {n : ByteArray} (h : G n = none) : ¬ Behind (W := actsOf webl) behindS G σ n := fun hb => by
  obtain ⟨_, g, _, hg, _⟩ := hb.2
  rw [h] at hg
  cases hg
theorem not_behind {webl : List NodeD} {G σ : Env} {n : ByteArray} {r g : RunX} (hr : σ n = some r) (hg : G n = some g) (h : ¬ behindS r g) : ¬ Behind (W := actsOf webl) behindS G σ n := fun hb => by
  obtain ⟨r', g', hr', hg', hp⟩ := hb.2
  rw [hr] at hr'
  rw [hg] at hg'
  cases hr'
  cases hg'
  exact h hp

end Go.Proofs.YtghipdfemoofhaaGreatDoor

namespace Go.Proofs.YtghipdfemoofhaaGreatDoor
open Go.RowKit

theorem place_at {l : List RunX} {n : ByteArray} {r : RunX} {j : Nat} {q : Int} (ha : AscX l) (hj : j < l.length) (hje : l.getD j RunX.zero = r) (hr : envOf l n = some r) (h : PlaceX l n q) : q = (j : Int) := by
  rcases h with ⟨k, hk, e1, h1, h2⟩ | ⟨_, h1⟩
  · rw [e1]
    have e2 : l.getD k RunX.zero = l.getD j RunX.zero := by rw [hr] at h1; rw [← Option.some.inj h1, hje]
    simp only [List.getD, List.getElem?_eq_getElem hj, List.getElem?_eq_getElem hk, Option.getD_some] at e2
    have e3 := congrArg RunX.name e2
    have hasc := List.pairwise_iff_getElem.1 ha
    rcases Nat.lt_trichotomy k j with h | h | h
    · exact absurd e3 (lessX_ne (hasc k j hk hj h))
    · rw [h]
    · exact absurd e3.symm (lessX_ne (hasc j k hj hk h))
  · rw [hr] at h1; cases h1

set_option maxRecDepth 100000 in
set_option maxHeartbeats 12800000 in
theorem validState_any (w : World) (a : Option Addr) (cap : Nat) (webl : List NodeD) (ra : Option Addr) (rc : Nat) (roots : List ByteArray) (d : Option Addr) (dc : Nat) (sl : List RunX) (hwl : webl.length ≤ 1048576) (hft : ∀ y ∈ webl, y.Fits) (hrl : roots.length ≤ 1048576) (hrs : ∀ s ∈ roots, s.size ≤ maxLen) (hsl : sl.length ≤ 1048576) (hst : ∀ x ∈ sl, x.texts.length ≤ 1048576)
    (hN : Nodes w a webl) (hS : RunsX w d sl) (hR : Strs w ra roots) :
    Calls Tryz.prog 25 #[.agg #[.slice a webl.length cap], .agg #[.slice ra roots.length rc, .slice d sl.length dc]] w fun e w' => SaidB e (ValidX webl roots sl) ∧ Kept w w' := by
  obtain ⟨WB, hWB⟩ : ∃ WB, WB = (w.alloc (.cells #[.slice a webl.length cap] 34)).alloc (.cells #[.slice ra roots.length rc, .slice d sl.length dc] 38) := ⟨_, rfl⟩
  have kB : Kept w WB := by rw [hWB]; exact ((Kept.refl _).alloc _).alloc _
  have hBs : WB.heap.size = w.heap.size + 2 := by rw [hWB]; simp
  have b0 : WB.cell? ⟨w.heap.size, 0, none⟩ = some (.slice a webl.length cap) := by rw [hWB, Kept.cell (w := w.alloc (.cells #[.slice a webl.length cap] 34)) ((Kept.refl _).alloc _) (by simp)]; exact range_new w _ _ 0 _ rfl
  have s0 : WB.cell? ⟨w.heap.size + 1, 0, none⟩ = some (.slice ra roots.length rc) := by have := range_new (w.alloc (.cells #[.slice a webl.length cap] 34)) #[.slice ra roots.length rc, .slice d sl.length dc] 38 0 _ rfl; rw [World.size_alloc] at this; rw [hWB]; exact this
  have s1 : WB.cell? ⟨w.heap.size + 1, 1, none⟩ = some (.slice d sl.length dc) := by have := range_new (w.alloc (.cells #[.slice a webl.length cap] 34)) #[.slice ra roots.length rc, .slice d sl.length dc] 38 1 _ rfl; rw [World.size_alloc] at this; rw [hWB]; exact this
  have z0 : w.heap.size < WB.heap.size := by omega
  have z1 : w.heap.size + 1 < WB.heap.size := by omega
  have HC : Hid (∀ w', Kept WB w' → w'.cell? ⟨w.heap.size, 0, none⟩ = some (.slice a webl.length cap) ∧ w'.cell? ⟨w.heap.size + 1, 0, none⟩ = some (.slice ra roots.length rc) ∧ w'.cell? ⟨w.heap.size + 1, 1, none⟩ = some (.slice d sl.length dc) ∧ w.heap.size < w'.heap.size ∧ w.heap.size + 1 < w'.heap.size) := fun w' K => ⟨(K.cell z0).trans b0, (K.cell z1).trans s0, (K.cell z1).trans s1, Nat.lt_of_lt_of_le z0 K.size, Nat.lt_of_lt_of_le z1 K.size⟩
  have HKB := hide kB
  clear kB hBs b0 s0 s1
  go_enter Tryz.func25, Tryz.ntmps25
  go_upto_region 1 with fail
  rw [← hWB]
  clear hWB
  obtain ⟨b0, s0, s1, _, _⟩ := HC.out _ (Kept.refl _)
  go_wp2_with fail
  refine (specCheckWeb_any _ a cap webl (by unfold maxLen; omega) hft (hN.kept HKB.out)).mono ?_
  rintro e w1 ⟨⟨c, rfl, hc⟩, k1⟩
  clear b0 s0 s1 z0 z1
  obtain ⟨b0, s0, s1, z0, z1⟩ := HC.out _ k1
  by_cases hc0 : c = 0
  rotate_left
  · have hcb : (c != 0) = true := by simpa using hc0
    have HCn : Hid (¬ WebCode webl 0) := fun h => hc0 (hc.unique h)
    clear hc0 hc
    go_wp2_with fail
    go_ret
    exact ⟨⟨false, rfl, by simp only [Bool.false_eq_true, false_iff]; exact fun h => HCn.out h.1⟩, HKB.out.trans k1⟩
  subst hc0
  have HW := hide hc
  clear hc
  go_wp2_with fail
  refine (l3RootsOk_any _ ra rc roots (by unfold maxLen; omega) hrs (hR.kept (HKB.out.trans k1))).mono ?_
  rintro e w2 ⟨hsay, k2⟩
  have K2 := k1.trans k2
  clear b0 s0 s1 z0 z1
  obtain ⟨b0, s0, s1, z0, z1⟩ := HC.out _ K2
  rcases hsay.cases with ⟨rfl, hyes⟩ | ⟨rfl, hno⟩
  rotate_left
  · have HNo := hide hno
    clear hno hsay
    go_wp2_with fail
    go_ret
    exact ⟨⟨false, rfl, by simp only [Bool.false_eq_true, false_iff]; exact fun h => HNo.out h.2.1⟩, HKB.out.trans K2⟩
  have HY := hide hyes
  clear hyes hsay
  by_cases hle : sl.length ≤ webl.length
  rotate_left
  · have hgt : (webl.length : Int) < (sl.length : Int) := by omega
    go_wp2_with fail
    go_ret
    exact ⟨⟨false, rfl, by simp only [Bool.false_eq_true, false_iff]; exact fun h => hle h.2.2.1⟩, HKB.out.trans K2⟩
  have hgt : ¬ (webl.length : Int) < (sl.length : Int) := by omega
  obtain ⟨rb, ro, rfl, _, _⟩ := hR 0 (by have := HY.out.1; omega)
  have hwl6 := web_len HW.out
  have hrl1 := HY.out.2.1
  go_wp2_with fail
  refine (startX_any w2 a cap webl rb ro rc roots (by omega) hft HW.out HY.out hrs (hN.kept (HKB.out.trans K2)) (hR.kept (HKB.out.trans K2))).mono ?_
  rintro e w3 ⟨xa, xc, xd, xe, xs, rfl, hT3, hO3, hP3, k3⟩
  have K3 := K2.trans k3
  have HX3 : Hid (Strs w3 xa roots ∧ RunsX w3 xd (startL webl roots)) := by
    obtain ⟨a9, c9, e9, h9⟩ := owned_strs hT3
    simp only [Value.slice.injEq, true_and] at e9
    rw [← e9.1] at h9
    obtain ⟨_, a8, c8, e8, h8⟩ := PackedX.runs hO3 hP3 (Kept.refl _)
    simp only [Value.slice.injEq, true_and] at e8
    rw [← e8.1] at h8
    exact ⟨h9, h8.runs⟩
  clear hT3 hO3 hP3 k3
  obtain ⟨xb, hxb⟩ : ∃ xb, xb = w3.heap.size := ⟨_, rfl⟩
  have hxz : w3.heap.size ≤ xb := by omega
  have HXb := hide hxb
  clear b0 s0 s1 z0 z1
  go_upto_region 4 with fail
  rw [← hxb]
  clear hxb
  go_wp2
  go_loopg [6] (2 * potL webl (startL webl roots) + 1) (fun gg x6 wr => ∃ (L : List RunX) (bb : Bool) (xa : Option Addr) (xc : Nat) (xd : Option Addr) (xe : Nat), x6 = .bool bb ∧ Kept w3 wr ∧ XVar wr xb roots L xa xc xd xe ∧ Hid (OutV webl roots sl L bb gg))
  case atStart => exact ⟨startL webl roots, true, xa, xc, xd, xe, rfl, (Kept.refl _).alloc _, by rw [HXb.out]; exact XVar.made HX3.out.1 HX3.out.2, hide (OutV.begin HW.out roots sl)⟩
  case round =>
    clear HX3 HXb
    obtain ⟨L, bb, xa, xc, xd, xe, rfl, Kr, hX, HV⟩ := hrel
    obtain ⟨wO, rfl⟩ : ∃ wO, wO = wr := ⟨_, rfl⟩
    obtain ⟨gO, rfl⟩ : ∃ gO, gO = gk := ⟨_, rfl⟩
    have hLl : L.length ≤ 60 := by have := HV.out.good.len; omega
    obtain ⟨b0, s0, s1, z0, z1⟩ := HC.out _ (K3.trans Kr)
    have m0 := hX.c0
    have m1 := hX.c1
    have mz := hX.row.lt
    have HX := hide hX
    clear hX
    cases bb
    · go_wp2_with fail
      refine (same_any wO xa (some ⟨rb, ro, none⟩) xd d xc rc xe dc roots roots L sl hrl hrl (by omega) hsl (fun x hx => by have h1 := (HV.out.good.good x hx).tl; have h2 := (HV.out.good.good x hx).hi; omega) hst HX.out.rts (hR.kept (HKB.out.trans (K3.trans Kr))) HX.out.rns (hS.kept (HKB.out.trans (K3.trans Kr)))).mono ?_
      rintro e w5 ⟨⟨b5, rfl, h5⟩, k5⟩
      have H5 := hide h5
      clear h5
      go_wp2_with fail
      go_ret
      refine ⟨⟨b5, rfl, ?_⟩, HKB.out.trans ((K3.trans Kr).trans k5)⟩
      rw [H5.out]
      obtain ⟨kk, hl⟩ := HV.out.led
      have h := goalX_iff HV.out.good hl (HV.out.fin rfl)
      exact ⟨fun ⟨_, e⟩ => ⟨HW.out, HY.out, hle, h.1 e⟩, fun ⟨_, _, _, g⟩ => ⟨by trivial, h.2 g⟩⟩
    · go_wp2_with fail
      refine (ready_any wO a cap webl xa roots.length xc xd xe L (by omega) (by omega) (web_small HW.out) (fun r hr _ _ => (HV.out.good.good r hr).act) (hN.kept (HKB.out.trans (K3.trans Kr))) HX.out.rns).mono ?_
      rintro e w6 ⟨⟨da, lc, ns, rfl, hRL, hOw⟩, k6⟩
      have HRL := hide hRL
      have HB6 := hide (StrsB.owned (xb := xb) hOw mz)
      have hnl : ns.length ≤ 60 := by have := hRL.len; omega
      have HX6 := hide (HX.out.kept k6)
      have K6 := Kr.trans k6
      clear hRL hOw b0 s0 s1 z0 z1 m0 m1 mz HX k6
      obtain ⟨L0, hL0⟩ : ∃ L0, L0 = L := ⟨_, rfl⟩
      have HN6 : Hid (RoundX webl (envOf sl) (envOf (startL webl roots)) ns L0 L 0 false) := by rw [hL0]; exact RoundX.start HV.out.good HV.out.led HRL.out
      rw [← hL0] at HV HRL
      clear hL0 hLl
      go_wp2
      go_loopg [6, 8] ns.length (fun gg x6 x8 wr => ∃ (i : Nat) (b : Bool) (L : List RunX) (xa : Option Addr) (xc : Nat) (xd : Option Addr) (xe : Nat), x6 = .bool b ∧ x8 = .int .i64 (i : Int) ∧ i + gg = ns.length ∧ KeptBut xb (xb + 1) w6 wr ∧ XVar wr xb roots L xa xc xd xe ∧ Hid (RoundX webl (envOf sl) (envOf (startL webl roots)) ns L0 L i b))
      case atStart => exact ⟨0, false, L, xa, xc, xd, xe, rfl, rfl, by omega, KeptBut.refl _ _ _, HX6.out, HN6⟩
      case round =>
        clear HX6 HN6
        obtain ⟨i, b, L, xa, xc, xd, xe, rfl, rfl, hig, KB, hX, HV2⟩ := hrel
        obtain ⟨wI, rfl⟩ : ∃ wI, wI = wr := ⟨_, rfl⟩
        have hLl : L.length ≤ 60 := by have := HV2.out.good.len; omega
        have Kr2 : Kept w3 wI := KB.kept K6 hxz
        by_cases hlt : (i : Int) < (ns.length : Int)
        rotate_left
        · obtain rfl : i = ns.length := by omega
          obtain ⟨h1, h2⟩ := HV.out.next HRL.out HV2.out
          have HV3 := hide h1
          clear h1
          go_wp2_with fail
          go_roundg (2 * potL webl L + (if b = true then 1 else 0))
          case measure => exact h2
          case rel => exact ⟨L, b, xa, xc, xd, xe, rfl, Kr2, hX, HV3⟩
        have hil : i < ns.length := by omega
        obtain ⟨n, hn⟩ : ∃ n, n = ns.getD i ByteArray.empty := ⟨_, rfl⟩
        obtain ⟨lb, lo, rfl, hlb, hlx, hlc⟩ := HB6.out.but KB i hil
        rw [← hn] at hlc
        obtain ⟨pb, po, rfl, _, _⟩ := hX.rts 0 (by have := HY.out.1; omega)
        have hrd := HV2.out.rest i (Nat.le_refl _) hil
        rw [← hn] at hrd
        obtain ⟨r, hr, hcg⟩ := hrd
        obtain ⟨j, hj, hje⟩ : ∃ j, j < L.length ∧ L.getD j RunX.zero = r := by
          obtain ⟨k, h1, h2⟩ := List.getElem_of_mem (env_mem hr).1
          exact ⟨k, h1, by simp only [List.getD, List.getElem?_eq_getElem h1, Option.getD_some, h2]⟩
        obtain ⟨fb, fo, ta, tc, rfl, hfb, hcs, hTx, hXn⟩ := hX.rns j hj
        rw [hje] at hcs hTx
        have HEr := hide hr
        have HCg := hide hcg
        have HN := hide hn
        have HJe := hide hje
        have m0 := hX.c0
        have m1 := hX.c1
        have mz := hX.row.lt
        have HX := hide hX
        have t0 : wI.cell? ⟨fb, fo + j * 7, none⟩ = some (.string r.name) := hcs 0 _ rfl
        have t1 : wI.cell? ⟨fb, fo + j * 7 + 1, none⟩ = some (.bool r.over) := hcs 1 _ rfl
        have t2 : wI.cell? ⟨fb, fo + j * 7 + 2, none⟩ = some (.bool r.fail) := hcs 2 _ rfl
        have t3 : wI.cell? ⟨fb, fo + j * 7 + 3, none⟩ = some (.string r.text) := hcs 3 _ rfl
        have t4 : wI.cell? ⟨fb, fo + j * 7 + 4, none⟩ = some (.int .i64 r.at') := hcs 4 _ rfl
        have t5 : wI.cell? ⟨fb, fo + j * 7 + 5, none⟩ = some (.int .i64 r.visits) := hcs 5 _ rfl
        have t6 : wI.cell? ⟨fb, fo + j * 7 + 6, none⟩ = some (.slice ta r.texts.length tc) := hcs 6 _ rfl
        have HS11 : Hid (∀ w', Kept wI w' → w'.cell? ⟨w.heap.size + 1, 0, none⟩ = some (.slice (some ⟨rb, ro, none⟩) roots.length rc) ∧ w'.cell? ⟨w.heap.size + 1, 1, none⟩ = some (.slice d sl.length dc) ∧ w'.cell? ⟨lb, lo + i, none⟩ = some (.string n)) := fun w' K => ⟨(HC.out _ (K3.trans (Kr2.trans K))).2.1, (HC.out _ (K3.trans (Kr2.trans K))).2.2.1, (K.cell hlb).trans hlc⟩
        have HS12 : Hid (∀ w', Kept wI w' → w'.cell? ⟨xb, 0, none⟩ = some (.slice (some ⟨pb, po, none⟩) roots.length xc) ∧ w'.cell? ⟨xb, 1, none⟩ = some (.slice (some ⟨fb, fo, none⟩) L.length xe) ∧ w'.cell? ⟨lb, lo + i, none⟩ = some (.string n) ∧ w'.cell? ⟨fb, fo + j * 7, none⟩ = some (.string r.name) ∧ w'.cell? ⟨fb, fo + j * 7 + 1, none⟩ = some (.bool r.over) ∧ w'.cell? ⟨fb, fo + j * 7 + 2, none⟩ = some (.bool r.fail) ∧ w'.cell? ⟨fb, fo + j * 7 + 3, none⟩ = some (.string r.text) ∧ w'.cell? ⟨fb, fo + j * 7 + 4, none⟩ = some (.int .i64 r.at') ∧ w'.cell? ⟨fb, fo + j * 7 + 5, none⟩ = some (.int .i64 r.visits) ∧ w'.cell? ⟨fb, fo + j * 7 + 6, none⟩ = some (.slice ta r.texts.length tc)) := fun w' K => ⟨(K.cell mz).trans m0, (K.cell mz).trans m1, (K.cell hlb).trans hlc, (K.cell hfb).trans t0, (K.cell hfb).trans t1, (K.cell hfb).trans t2, (K.cell hfb).trans t3, (K.cell hfb).trans t4, (K.cell hfb).trans t5, (K.cell hfb).trans t6⟩
        have HS14 : Hid (∀ w', Kept wI w' → w'.cell? ⟨w.heap.size, 0, none⟩ = some (.slice a webl.length cap) ∧ w'.cell? ⟨xb, 0, none⟩ = some (.slice (some ⟨pb, po, none⟩) roots.length xc) ∧ w'.cell? ⟨xb, 1, none⟩ = some (.slice (some ⟨fb, fo, none⟩) L.length xe) ∧ w'.cell? ⟨lb, lo + i, none⟩ = some (.string n)) := fun w' K => ⟨(HC.out _ (K3.trans (Kr2.trans K))).1, (K.cell mz).trans m0, (K.cell mz).trans m1, (K.cell hlb).trans hlc⟩
        clear hr hcg hn hje hX hcs hTx hXn t0 t1 t2 t3 t4 t5 t6 m0 m1 hlc
        have i0 : (i : Int) < (ns.length : Int) := hlt
        go_upto_region 11 with fail
        refine UpTo.region (by kernel_rfl) (fun w' => w'.cell? ⟨w.heap.size + 1, 0, none⟩ = some (.slice (some ⟨rb, ro, none⟩) roots.length rc) ∧ w'.cell? ⟨w.heap.size + 1, 1, none⟩ = some (.slice d sl.length dc) ∧ w'.cell? ⟨lb, lo + i, none⟩ = some (.string n)) 6 (HS11.out _ ((Kept.refl wI).drew)) (fun hHeld => ?_)
        have KD : Kept wI wI.drew := (Kept.refl wI).drew
        generalize hwd : wI.drew = wd at hHeld KD ⊢
        clear hwd
        refine UpTo.take 0 [5, 6] (v := ?_) (by (simp only [List.getElem?_toArray, List.getElem?_cons_zero]; rfl)) (by kernel_rfl) (by kernel_rfl) (by kernel_rfl) (by kernel_rfl) (by exact fun _ _ _ h => h) (Or.inl ⟨by rfl, ?_⟩) hHeld ?_
        rotate_left
        · intro u hu
          try dsimp only at hu
          go_simp
          try with_reducible rfl
        try simp only [Act.put, List.setIfInBounds_toArray, List.set_cons_zero, List.set_cons_succ]
        refine UpTo.take 1 [3, 4, 5, 6] (v := ?_) (by (simp only [List.getElem?_toArray, List.getElem?_cons_succ, List.getElem?_cons_zero]; rfl)) (by kernel_rfl) (by kernel_rfl) (by kernel_rfl) (by kernel_rfl) (by exact fun _ _ _ h => h) (Or.inl ⟨by rfl, ?_⟩) hHeld ?_
        rotate_left
        · intro u hu
          try dsimp only at hu
          go_simp
          try with_reducible rfl
        try simp only [Act.put, List.setIfInBounds_toArray, List.set_cons_zero, List.set_cons_succ]
        refine UpTo.take 2 [3, 4, 5, 6] (v := ?_) (by (simp only [List.getElem?_toArray, List.getElem?_cons_succ, List.getElem?_cons_zero]; rfl)) (by kernel_rfl) (by kernel_rfl) (by kernel_rfl) (by kernel_rfl) (by exact fun _ _ _ h => h) (Or.inl ⟨by rfl, ?_⟩) hHeld ?_
        rotate_left
        · intro u hu
          try dsimp only at hu
          go_simp
          try with_reducible rfl
        try simp only [Act.put, List.setIfInBounds_toArray, List.set_cons_zero, List.set_cons_succ]
        refine UpTo.take 3 [4, 5, 6] (v := ?_) (by (simp only [List.getElem?_toArray, List.getElem?_cons_succ, List.getElem?_cons_zero]; rfl)) (by kernel_rfl) (by kernel_rfl) (by kernel_rfl) (by kernel_rfl) (by exact fun _ _ _ h => h) (Or.inl ⟨by rfl, ?_⟩) hHeld ?_
        rotate_left
        · intro u hu
          try dsimp only at hu
          go_simp
          try with_reducible rfl
        try simp only [Act.put, List.setIfInBounds_toArray, List.set_cons_zero, List.set_cons_succ]
        refine UpTo.take 4 [5, 6] (v := ?_) (by (simp only [List.getElem?_toArray, List.getElem?_cons_succ, List.getElem?_cons_zero]; rfl)) (by kernel_rfl) (by kernel_rfl) (by kernel_rfl) (by kernel_rfl) (by exact fun _ _ _ h => h) (Or.inl ⟨by rfl, ?_⟩) hHeld ?_
        rotate_left
        · intro u hu
          try dsimp only at hu
          go_simp
          try with_reducible rfl
        try simp only [Act.put, List.setIfInBounds_toArray, List.set_cons_zero, List.set_cons_succ]
        refine UpTo.next 5 (by kernel_rfl) (by (simp only [List.getElem?_toArray, List.getElem?_cons_succ, List.getElem?_cons_zero]; rfl)) (fun K hK => ?_)
        rw [if_pos (by rfl)]
        go_simp
        go_at_call 63
        refine (l4At_place wd (some ⟨rb, ro, none⟩) roots.length rc d dc sl n hsl (hS.kept (HKB.out.trans (K3.trans (Kr2.trans KD))))).mono ?_
        rintro e w7 ⟨⟨q7, rfl, hq7⟩, k7⟩
        have K7 := KD.trans k7
        have HQ7 := hide hq7
        refine hK.out _ _ (fun _ => HS11.out _ K7) ?_
        clear hK K hHeld hq7
        try simp only [Act.put, List.setIfInBounds_toArray, List.set_cons_zero, List.set_cons_succ]
        refine UpTo.next 6 (by kernel_rfl) (by (simp only [List.getElem?_toArray, List.getElem?_cons_succ, List.getElem?_cons_zero]; rfl)) (fun K hK => ?_)
        go_simp
        refine hK.out _ _ (fun h => absurd rfl h) ?_
        clear hK K
        try simp only [Act.put, List.setIfInBounds_toArray, List.set_cons_zero, List.set_cons_succ]
        refine UpTo.done (by kernel_rfl) ?_
        clear KD k7
        go_upto_region 12 with fail
        go_cut [10] from 49 to 58 (fun s10 wx => ∃ gb, s10 = .pointer (some ⟨gb, 0, none⟩) ∧ Kept w7 wx ∧ RBox wx gb r ta tc)
        case first =>
          refine UpTo.region (by kernel_rfl) (fun w' => w'.cell? ⟨xb, 0, none⟩ = some (.slice (some ⟨pb, po, none⟩) roots.length xc) ∧ w'.cell? ⟨xb, 1, none⟩ = some (.slice (some ⟨fb, fo, none⟩) L.length xe) ∧ w'.cell? ⟨lb, lo + i, none⟩ = some (.string n) ∧ w'.cell? ⟨fb, fo + j * 7, none⟩ = some (.string r.name) ∧ w'.cell? ⟨fb, fo + j * 7 + 1, none⟩ = some (.bool r.over) ∧ w'.cell? ⟨fb, fo + j * 7 + 2, none⟩ = some (.bool r.fail) ∧ w'.cell? ⟨fb, fo + j * 7 + 3, none⟩ = some (.string r.text) ∧ w'.cell? ⟨fb, fo + j * 7 + 4, none⟩ = some (.int .i64 r.at') ∧ w'.cell? ⟨fb, fo + j * 7 + 5, none⟩ = some (.int .i64 r.visits) ∧ w'.cell? ⟨fb, fo + j * 7 + 6, none⟩ = some (.slice ta r.texts.length tc)) 11 (HS12.out _ (K7.drew)) (fun hHeld => ?_)
          have KD : Kept w7 w7.drew := (Kept.refl w7).drew
          generalize hwd : w7.drew = wd at hHeld KD ⊢
          clear hwd
          refine UpTo.take 0 [1, 8, 9, 11] (v := ?_) (by (simp only [List.getElem?_toArray, List.getElem?_cons_zero]; rfl)) (by kernel_rfl) (by kernel_rfl) (by kernel_rfl) (by kernel_rfl) (by exact fun _ _ _ h => h) (Or.inl ⟨by rfl, ?_⟩) hHeld ?_
          rotate_left
          · intro u hu
            try dsimp only at hu
            go_simp
            try with_reducible rfl
          try simp only [Act.put, List.setIfInBounds_toArray, List.set_cons_zero, List.set_cons_succ]
          refine UpTo.take 1 [8, 9, 11] (v := ?_) (by (simp only [List.getElem?_toArray, List.getElem?_cons_succ, List.getElem?_cons_zero]; rfl)) (by kernel_rfl) (by kernel_rfl) (by kernel_rfl) (by kernel_rfl) (by exact fun _ _ _ h => h) (Or.inl ⟨by rfl, ?_⟩) hHeld ?_
          rotate_left
          · intro u hu
            try dsimp only at hu
            go_simp
            try with_reducible rfl
          try simp only [Act.put, List.setIfInBounds_toArray, List.set_cons_zero, List.set_cons_succ]
          refine UpTo.take 2 [7, 8, 9, 11] (v := ?_) (by (simp only [List.getElem?_toArray, List.getElem?_cons_succ, List.getElem?_cons_zero]; rfl)) (by kernel_rfl) (by kernel_rfl) (by kernel_rfl) (by kernel_rfl) (by exact fun _ _ _ h => h) (Or.inl ⟨by rfl, ?_⟩) hHeld ?_
          rotate_left
          · intro u hu
            try dsimp only at hu
            go_simp
            try with_reducible rfl
          try simp only [Act.put, List.setIfInBounds_toArray, List.set_cons_zero, List.set_cons_succ]
          refine UpTo.take 3 [5, 6, 7, 8, 9, 11] (v := ?_) (by (simp only [List.getElem?_toArray, List.getElem?_cons_succ, List.getElem?_cons_zero]; rfl)) (by kernel_rfl) (by kernel_rfl) (by kernel_rfl) (by kernel_rfl) (by exact fun _ _ _ h => h) (Or.inl ⟨by rfl, ?_⟩) hHeld ?_
          rotate_left
          · intro u hu
            try dsimp only at hu
            go_simp
            try with_reducible rfl
          try simp only [Act.put, List.setIfInBounds_toArray, List.set_cons_zero, List.set_cons_succ]
          refine UpTo.take 4 [5, 6, 7, 8, 9, 11] (v := ?_) (by (simp only [List.getElem?_toArray, List.getElem?_cons_succ, List.getElem?_cons_zero]; rfl)) (by kernel_rfl) (by kernel_rfl) (by kernel_rfl) (by kernel_rfl) (by exact fun _ _ _ h => h) (Or.inl ⟨by rfl, ?_⟩) hHeld ?_
          rotate_left
          · intro u hu
            try dsimp only at hu
            go_simp
            try with_reducible rfl
          try simp only [Act.put, List.setIfInBounds_toArray, List.set_cons_zero, List.set_cons_succ]
          refine UpTo.take 5 [6, 7, 8, 9, 11] (v := ?_) (by (simp only [List.getElem?_toArray, List.getElem?_cons_succ, List.getElem?_cons_zero]; rfl)) (by kernel_rfl) (by kernel_rfl) (by kernel_rfl) (by kernel_rfl) (by exact fun _ _ _ h => h) (Or.inl ⟨by rfl, ?_⟩) hHeld ?_
          rotate_left
          · intro u hu
            try dsimp only at hu
            go_simp
            try with_reducible rfl
          try simp only [Act.put, List.setIfInBounds_toArray, List.set_cons_zero, List.set_cons_succ]
          refine UpTo.take 6 [7, 8, 9, 11] (v := ?_) (by (simp only [List.getElem?_toArray, List.getElem?_cons_succ, List.getElem?_cons_zero]; rfl)) (by kernel_rfl) (by kernel_rfl) (by kernel_rfl) (by kernel_rfl) (by exact fun _ _ _ h => h) (Or.inl ⟨by rfl, ?_⟩) hHeld ?_
          rotate_left
          · intro u hu
            try dsimp only at hu
            go_simp
            try with_reducible rfl
          try simp only [Act.put, List.setIfInBounds_toArray, List.set_cons_zero, List.set_cons_succ]
          refine UpTo.two 7 10 (by kernel_rfl) (by (simp only [List.getElem?_toArray, List.getElem?_cons_succ, List.getElem?_cons_zero]; rfl)) (by (simp only [List.getElem?_toArray, List.getElem?_cons_succ, List.getElem?_cons_zero]; rfl)) (fun K hK => ?_) (fun K hK => ?_)
          · rw [if_pos (by rfl)]
            go_simp
            go_at_call 63
            refine (l4At_place wd (some ⟨pb, po, none⟩) roots.length xc (some ⟨fb, fo, none⟩) xe L n (by omega) (HX.out.rns.kept (K7.trans KD))).mono ?_
            rintro e w8 ⟨⟨q8, rfl, hq8⟩, k8⟩
            obtain rfl := place_at HV2.out.good.asc hj HJe.out HEr.out hq8
            have hjl : (j : Int) < (L.length : Int) := by omega
            have K8 := (K7.trans KD).trans k8
            refine hK.out _ _ (fun _ => HS12.out _ K8) ?_
            clear hK K hHeld hq8
            have hHeld := HS12.out _ K8
            try simp only [Act.put, List.setIfInBounds_toArray, List.set_cons_zero, List.set_cons_succ]
            refine UpTo.take 8 [9, 11] (v := ?_) (by (simp only [List.getElem?_toArray, List.getElem?_cons_succ, List.getElem?_cons_zero]; rfl)) (by kernel_rfl) (by kernel_rfl) (by kernel_rfl) (by kernel_rfl) (by exact fun _ _ _ h => h) (Or.inl ⟨by rfl, ?_⟩) hHeld ?_
            rotate_left
            · intro u hu
              try dsimp only at hu
              go_simp
              try with_reducible rfl
            try simp only [Act.put, List.setIfInBounds_toArray, List.set_cons_zero, List.set_cons_succ]
            refine UpTo.take 9 [11] (v := ?_) (by (simp only [List.getElem?_toArray, List.getElem?_cons_succ, List.getElem?_cons_zero]; rfl)) (by kernel_rfl) (by kernel_rfl) (by kernel_rfl) (by kernel_rfl) (by exact fun _ _ _ h => h) (Or.inl ⟨by rfl, ?_⟩) hHeld ?_
            rotate_left
            · intro u hu
              try dsimp only at hu
              go_simp
              try with_reducible rfl
            try simp only [Act.put, List.setIfInBounds_toArray, List.set_cons_zero, List.set_cons_succ]
            refine UpTo.next 10 (by kernel_rfl) (by (simp only [List.getElem?_toArray, List.getElem?_cons_succ, List.getElem?_cons_zero]; rfl)) (fun K hK => ?_)
            go_simp
            have K9 : Kept w8 (w8.alloc (.cells #[.string ⟨#[]⟩, .bool false, .bool false, .string ⟨#[]⟩, .int .i64 0, .int .i64 0, .slice none 0 0] 72)) := (Kept.refl _).alloc _
            have hRw : RowT (w8.alloc (.cells #[.string ⟨#[]⟩, .bool false, .bool false, .string ⟨#[]⟩, .int .i64 0, .int .i64 0, .slice none 0 0] 72)) w8.heap.size 72 7 := RowT.made w8 _ _
            have KE := (KD.trans k8).trans K9
            have nz := (KD.trans k8).size
            obtain ⟨gb, hgb⟩ : ∃ gb, gb = w8.heap.size := ⟨_, rfl⟩
            refine hK.out _ _ (fun _ => HS12.out _ (K7.trans KE)) ?_
            clear hK K
            rw [← hgb] at hRw nz ⊢
            generalize hwe : w8.alloc (.cells #[.string ⟨#[]⟩, .bool false, .bool false, .string ⟨#[]⟩, .int .i64 0, .int .i64 0, .slice none 0 0] 72) = wE at hRw KE ⊢
            clear hwe K9 hgb
            try simp only [Act.put, List.setIfInBounds_toArray, List.set_cons_zero, List.set_cons_succ]
            obtain ⟨⟨_, v0⟩, f0⟩ := hRw.row.at (i := 0) (by omega)
            obtain ⟨⟨_, v1⟩, f1⟩ := hRw.row.at (i := 1) (by omega)
            obtain ⟨⟨_, v2⟩, f2⟩ := hRw.row.at (i := 2) (by omega)
            obtain ⟨⟨_, v3⟩, f3⟩ := hRw.row.at (i := 3) (by omega)
            obtain ⟨⟨_, v4⟩, f4⟩ := hRw.row.at (i := 4) (by omega)
            obtain ⟨⟨_, v5⟩, f5⟩ := hRw.row.at (i := 5) (by omega)
            obtain ⟨⟨_, v6⟩, f6⟩ := hRw.row.at (i := 6) (by omega)
            have vz := hRw.lt
            refine UpTo.next 11 (by kernel_rfl) (by (simp only [List.getElem?_toArray, List.getElem?_cons_succ, List.getElem?_cons_zero]; rfl)) (fun K hK => ?_)
            go_simp
            refine hK.out _ _ (fun h => absurd rfl h) ?_
            clear hK K
            try simp only [Act.put, List.setIfInBounds_toArray, List.set_cons_zero, List.set_cons_succ]
            refine UpTo.done (by kernel_rfl) ?_
            go_wp2_with fail
            go_meet
            exact ⟨gb, rfl, kept_sets (g := gb) nz [.string r.name, .bool r.over, .bool r.fail, .string r.text, .int .i64 r.at', .int .i64 r.visits, .slice ta r.texts.length tc] 0 KE, RBox.laid hRw⟩
          · rw [if_pos (by rfl)]
            go_simp
            have K9 : Kept wd (wd.alloc (.cells #[.string ⟨#[]⟩, .bool false, .bool false, .string ⟨#[]⟩, .int .i64 0, .int .i64 0, .slice none 0 0] 72)) := (Kept.refl _).alloc _
            have hRw0 : RowT (wd.alloc (.cells #[.string ⟨#[]⟩, .bool false, .bool false, .string ⟨#[]⟩, .int .i64 0, .int .i64 0, .slice none 0 0] 72)) wd.heap.size 72 7 := RowT.made wd _ _
            have KF := KD.trans K9
            have nz := KD.size
            obtain ⟨gb, hgb⟩ : ∃ gb, gb = wd.heap.size := ⟨_, rfl⟩
            refine hK.out _ _ (fun _ => HS12.out _ (K7.trans KF)) ?_
            clear hK K
            rw [← hgb] at hRw0 nz ⊢
            generalize hwe : wd.alloc (.cells #[.string ⟨#[]⟩, .bool false, .bool false, .string ⟨#[]⟩, .int .i64 0, .int .i64 0, .slice none 0 0] 72) = wF at hRw0 KF ⊢
            clear hwe K9 hgb
            try simp only [Act.put, List.setIfInBounds_toArray, List.set_cons_zero, List.set_cons_succ]
            refine UpTo.next 7 (by kernel_rfl) (by (simp only [List.getElem?_toArray, List.getElem?_cons_succ, List.getElem?_cons_zero]; rfl)) (fun K hK => ?_)
            rw [if_pos (by rfl)]
            go_simp
            go_at_call 63
            refine (l4At_place wF (some ⟨pb, po, none⟩) roots.length xc (some ⟨fb, fo, none⟩) xe L n (by omega) (HX.out.rns.kept (K7.trans KF))).mono ?_
            rintro e w8 ⟨⟨q8, rfl, hq8⟩, k8⟩
            obtain rfl := place_at HV2.out.good.asc hj HJe.out HEr.out hq8
            have hjl : (j : Int) < (L.length : Int) := by omega
            have K8 := (K7.trans KF).trans k8
            refine hK.out _ _ (fun _ => HS12.out _ K8) ?_
            clear hK K hHeld hq8
            have hHeld := HS12.out _ K8
            try simp only [Act.put, List.setIfInBounds_toArray, List.set_cons_zero, List.set_cons_succ]
            refine UpTo.take 8 [9, 11] (v := ?_) (by (simp only [List.getElem?_toArray, List.getElem?_cons_succ, List.getElem?_cons_zero]; rfl)) (by kernel_rfl) (by kernel_rfl) (by kernel_rfl) (by kernel_rfl) (by exact fun _ _ _ h => h) (Or.inl ⟨by rfl, ?_⟩) hHeld ?_
            rotate_left
            · intro u hu
              try dsimp only at hu
              go_simp
              try with_reducible rfl
            try simp only [Act.put, List.setIfInBounds_toArray, List.set_cons_zero, List.set_cons_succ]
            refine UpTo.take 9 [11] (v := ?_) (by (simp only [List.getElem?_toArray, List.getElem?_cons_succ, List.getElem?_cons_zero]; rfl)) (by kernel_rfl) (by kernel_rfl) (by kernel_rfl) (by kernel_rfl) (by exact fun _ _ _ h => h) (Or.inl ⟨by rfl, ?_⟩) hHeld ?_
            rotate_left
            · intro u hu
              try dsimp only at hu
              go_simp
              try with_reducible rfl
            try simp only [Act.put, List.setIfInBounds_toArray, List.set_cons_zero, List.set_cons_succ]
            have hRw := hRw0.kept k8
            have KE := KF.trans k8
            obtain ⟨⟨_, v0⟩, f0⟩ := hRw.row.at (i := 0) (by omega)
            obtain ⟨⟨_, v1⟩, f1⟩ := hRw.row.at (i := 1) (by omega)
            obtain ⟨⟨_, v2⟩, f2⟩ := hRw.row.at (i := 2) (by omega)
            obtain ⟨⟨_, v3⟩, f3⟩ := hRw.row.at (i := 3) (by omega)
            obtain ⟨⟨_, v4⟩, f4⟩ := hRw.row.at (i := 4) (by omega)
            obtain ⟨⟨_, v5⟩, f5⟩ := hRw.row.at (i := 5) (by omega)
            obtain ⟨⟨_, v6⟩, f6⟩ := hRw.row.at (i := 6) (by omega)
            have vz := hRw.lt
            refine UpTo.next 11 (by kernel_rfl) (by (simp only [List.getElem?_toArray, List.getElem?_cons_succ, List.getElem?_cons_zero]; rfl)) (fun K hK => ?_)
            go_simp
            refine hK.out _ _ (fun h => absurd rfl h) ?_
            clear hK K
            try simp only [Act.put, List.setIfInBounds_toArray, List.set_cons_zero, List.set_cons_succ]
            refine UpTo.done (by kernel_rfl) ?_
            go_wp2_with fail
            go_meet
            exact ⟨gb, rfl, kept_sets (g := gb) nz [.string r.name, .bool r.over, .bool r.fail, .string r.text, .int .i64 r.at', .int .i64 r.visits, .slice ta r.texts.length tc] 0 KE, RBox.laid hRw⟩
        case rest =>
          obtain ⟨gb, rfl, k8, hbx⟩ := hcut
          obtain ⟨w8, rfl⟩ : ∃ w8, w8 = wc := ⟨_, rfl⟩
          have K8 := K7.trans k8
          obtain ⟨_, _, _, _, _, g5, _⟩ := hbx.all
          have gz := hbx.row.lt
          obtain ⟨_, s1, _⟩ := HS11.out _ K8
          have z1 := (HC.out _ (K3.trans (Kr2.trans K8))).2.2.2.2
          have HSk : Hid (¬ Behind (W := actsOf webl) behindS (envOf sl) (envOf L) n → RoundX webl (envOf sl) (envOf (startL webl roots)) ns L0 L (i + 1) b) := fun h => HV2.out.skip (by rw [← HN.out]; exact h)
          clear hbx k8
          go_upto_region 13 with fail
          rcases HQ7.out with ⟨q, hq, rfl, hge, _⟩ | ⟨rfl, hge⟩
          rotate_left
          · have HGe := hide hge
            clear hge
            go_quiet (fail)
            go_wp2_with fail
            go_roundg (gk - 1)
            case measure => omega
            case rel => exact ⟨i + 1, b, L, _, xc, _, xe, rfl, by go_num, by omega, (KB.trans (KeptBut.of_kept K8)).drewN nq, HX.out.kept (K8.drewN nq), hide (HSk.out (not_behind_none HGe.out))⟩
          obtain ⟨g, hg⟩ : ∃ g, g = sl.getD q RunX.zero := ⟨_, rfl⟩
          rw [← hg] at hge
          have HGe := hide hge
          obtain ⟨hb, ho, ua, uc, rfl, hhb, hcs, _, _⟩ := hS q hq
          rw [← hg] at hcs
          have KW := HKB.out.trans (K3.trans (Kr2.trans K8))
          have u1 := (KW.cell hhb).trans (hcs 1 _ rfl)
          have u5 := (KW.cell hhb).trans (hcs 5 _ rfl)
          have uz := Nat.lt_of_lt_of_le hhb KW.size
          have q0 : ¬ (q : Int) < 0 := by omega
          have ql : (q : Int) < (sl.length : Int) := by omega
          clear hge hcs hg
          by_cases h1 : g.visits < r.visits
          · go_quiet (fail)
            go_wp2_with fail
            go_roundg (gk - 1)
            case measure => omega
            case rel => exact ⟨i + 1, b, L, _, xc, _, xe, rfl, by go_num, by omega, (KB.trans (KeptBut.of_kept K8)).drewN nq, HX.out.kept (K8.drewN nq), hide (HSk.out (not_behind HEr.out HGe.out (by rintro (h | ⟨h, _⟩) <;> omega)))⟩
          by_cases h2 : r.visits = g.visits
          · have h2b : (r.visits == g.visits) = true := by simp [h2]
            have H2 := hide h2
            clear h2
            cases hov : g.over
            · rw [hov] at u1
              go_quiet (fail)
              go_wp2_with fail
              go_roundg (gk - 1)
              case measure => omega
              case rel => exact ⟨i + 1, b, L, _, xc, _, xe, rfl, by go_num, by omega, (KB.trans (KeptBut.of_kept K8)).drewN nq, HX.out.kept (K8.drewN nq), hide (HSk.out (not_behind HEr.out HGe.out (by have := H2.out; rintro (h | ⟨_, h, _⟩); omega; rw [hov] at h; cases h)))⟩
            · rw [hov] at u1
              by_cases h3 : r.visits < 20
              · go_quiet (fail)
                go_wp2_with fail
                go_roundg (gk - 1)
                case measure => omega
                case rel => exact ⟨i + 1, b, L, _, xc, _, xe, rfl, by go_num, by omega, (KB.trans (KeptBut.of_kept K8)).drewN nq, HX.out.kept (K8.drewN nq), hide (HSk.out (not_behind HEr.out HGe.out (by have := H2.out; rintro (h | ⟨_, _, h⟩) <;> omega)))⟩
              · have HBe : Hid (Behind (W := actsOf webl) behindS (envOf sl) (envOf L) n) := ⟨⟨r, HEr.out, HCg.out⟩, r, g, HEr.out, HGe.out, .inr ⟨H2.out, hov, by omega⟩⟩
                go_quiet (fail)
                have K9 := K8.drewN nq
                generalize hw9 : w8.drewN nq = w9 at K9 ⊢
                clear hw9
                go_upto_region 14 with fail
                refine UpTo.region (by kernel_rfl) (fun w' => w'.cell? ⟨w.heap.size, 0, none⟩ = some (.slice a webl.length cap) ∧ w'.cell? ⟨xb, 0, none⟩ = some (.slice (some ⟨pb, po, none⟩) roots.length xc) ∧ w'.cell? ⟨xb, 1, none⟩ = some (.slice (some ⟨fb, fo, none⟩) L.length xe) ∧ w'.cell? ⟨lb, lo + i, none⟩ = some (.string n)) 7 (HS14.out _ (K9.drew)) (fun hHeld => ?_)
                have KD : Kept w9 w9.drew := (Kept.refl w9).drew
                generalize hwd : w9.drew = wd at hHeld KD ⊢
                clear hwd
                refine UpTo.take 0 [6, 7] (v := ?_) (by (simp only [List.getElem?_toArray, List.getElem?_cons_zero]; rfl)) (by kernel_rfl) (by kernel_rfl) (by kernel_rfl) (by kernel_rfl) (by exact fun _ _ _ h => h) (Or.inl ⟨by rfl, ?_⟩) hHeld ?_
                rotate_left
                · intro u hu
                  try dsimp only at hu
                  go_simp
                  try with_reducible rfl
                try simp only [Act.put, List.setIfInBounds_toArray, List.set_cons_zero, List.set_cons_succ]
                refine UpTo.take 1 [6, 7] (v := ?_) (by (simp only [List.getElem?_toArray, List.getElem?_cons_succ, List.getElem?_cons_zero]; rfl)) (by kernel_rfl) (by kernel_rfl) (by kernel_rfl) (by kernel_rfl) (by exact fun _ _ _ h => h) (Or.inl ⟨by rfl, ?_⟩) hHeld ?_
                rotate_left
                · intro u hu
                  try dsimp only at hu
                  go_simp
                  try with_reducible rfl
                try simp only [Act.put, List.setIfInBounds_toArray, List.set_cons_zero, List.set_cons_succ]
                refine UpTo.take 2 [4, 5, 6, 7] (v := ?_) (by (simp only [List.getElem?_toArray, List.getElem?_cons_succ, List.getElem?_cons_zero]; rfl)) (by kernel_rfl) (by kernel_rfl) (by kernel_rfl) (by kernel_rfl) (by exact fun _ _ _ h => h) (Or.inl ⟨by rfl, ?_⟩) hHeld ?_
                rotate_left
                · intro u hu
                  try dsimp only at hu
                  go_simp
                  try with_reducible rfl
                try simp only [Act.put, List.setIfInBounds_toArray, List.set_cons_zero, List.set_cons_succ]
                refine UpTo.take 3 [4, 5, 6, 7] (v := ?_) (by (simp only [List.getElem?_toArray, List.getElem?_cons_succ, List.getElem?_cons_zero]; rfl)) (by kernel_rfl) (by kernel_rfl) (by kernel_rfl) (by kernel_rfl) (by exact fun _ _ _ h => h) (Or.inl ⟨by rfl, ?_⟩) hHeld ?_
                rotate_left
                · intro u hu
                  try dsimp only at hu
                  go_simp
                  try with_reducible rfl
                try simp only [Act.put, List.setIfInBounds_toArray, List.set_cons_zero, List.set_cons_succ]
                refine UpTo.take 4 [5, 6, 7] (v := ?_) (by (simp only [List.getElem?_toArray, List.getElem?_cons_succ, List.getElem?_cons_zero]; rfl)) (by kernel_rfl) (by kernel_rfl) (by kernel_rfl) (by kernel_rfl) (by exact fun _ _ _ h => h) (Or.inl ⟨by rfl, ?_⟩) hHeld ?_
                rotate_left
                · intro u hu
                  try dsimp only at hu
                  go_simp
                  try with_reducible rfl
                try simp only [Act.put, List.setIfInBounds_toArray, List.set_cons_zero, List.set_cons_succ]
                refine UpTo.take 5 [6, 7] (v := ?_) (by (simp only [List.getElem?_toArray, List.getElem?_cons_succ, List.getElem?_cons_zero]; rfl)) (by kernel_rfl) (by kernel_rfl) (by kernel_rfl) (by kernel_rfl) (by exact fun _ _ _ h => h) (Or.inl ⟨by rfl, ?_⟩) hHeld ?_
                rotate_left
                · intro u hu
                  try dsimp only at hu
                  go_simp
                  try with_reducible rfl
                try simp only [Act.put, List.setIfInBounds_toArray, List.set_cons_zero, List.set_cons_succ]
                refine UpTo.next 6 (by kernel_rfl) (by (simp only [List.getElem?_toArray, List.getElem?_cons_succ, List.getElem?_cons_zero]; rfl)) (fun K hK => ?_)
                rw [if_pos (by rfl)]
                go_simp
                go_at_call 56
                have KX := K9.trans KD
                refine (doX_any wd a cap webl pb po xc roots (some ⟨fb, fo, none⟩) xe L n r (by omega) (by omega) (web_small HW.out) (web_acts HW.out) hft hrl1 HV2.out.good HEr.out HCg.out (hN.kept (HKB.out.trans (K3.trans (Kr2.trans KX)))) (HX.out.rns.kept KX) (HX.out.rts.kept KX)).mono ?_
                rintro e wA ⟨xa2, xc2, xd2, xe2, xs2, rfl, hTA, hOA, hPA, kA⟩
                have KA := KX.trans kA
                have zA := KX.size
                have HLa := hide (XVar.laid (by omega) (HX.out.row.kept KA) hTA hOA hPA)
                have HDd : Hid (RoundX webl (envOf sl) (envOf (startL webl roots)) ns L0 (doL (actsOf webl) L r) (i + 1) true) := HV2.out.did (web_acts HW.out) (HRL.out.nodup HV.out.good.asc) hil (by rw [← HN.out]; exact HBe.out) (by rw [← HN.out]; exact HEr.out)
                clear hTA hOA hPA kA
                obtain ⟨T, hTT⟩ : ∃ T, T = doL (actsOf webl) L r := ⟨_, rfl⟩
                rw [← hTT] at HLa HDd ⊢
                clear hTT
                have hRA := HX.out.row.kept KA
                obtain ⟨⟨_, x0⟩, f0⟩ := hRA.row.at (i := 0) (by omega)
                obtain ⟨⟨_, x1⟩, f1⟩ := hRA.row.at (i := 1) (by omega)
                have xzA := hRA.lt
                clear hRA
                refine hK.out _ _ (fun _ => HS14.out _ KA) ?_
                clear hK K hHeld
                try simp only [Act.put, List.setIfInBounds_toArray, List.set_cons_zero, List.set_cons_succ]
                refine UpTo.next 7 (by kernel_rfl) (by (simp only [List.getElem?_toArray, List.getElem?_cons_succ, List.getElem?_cons_zero]; rfl)) (fun K hK => ?_)
                go_simp
                refine hK.out _ _ (fun h => absurd rfl h) ?_
                clear hK K
                try simp only [Act.put, List.setIfInBounds_toArray, List.set_cons_zero, List.set_cons_succ]
                refine UpTo.done (by kernel_rfl) ?_
                go_wp2_with fail
                go_roundg (gk - 1)
                case measure => omega
                case rel => exact ⟨i + 1, true, T, xa2, xc2, xd2, xe2, rfl, by go_num, by omega, KeptBut.sets (Nat.le_refl _) (Nat.lt_succ_self _) [.slice xa2 roots.length xc2, .slice xd2 T.length xe2] 0 (KB.trans (KeptBut.of_kept KA)), HLa.out, HDd⟩
          · have h2b : (r.visits == g.visits) = false := by simpa using h2
            have h1' : r.visits < g.visits := by omega
            clear h2
            have HBe : Hid (Behind (W := actsOf webl) behindS (envOf sl) (envOf L) n) := ⟨⟨r, HEr.out, HCg.out⟩, r, g, HEr.out, HGe.out, .inl h1'⟩
            go_quiet (fail)
            have K9 := K8.drewN nq
            generalize hw9 : w8.drewN nq = w9 at K9 ⊢
            clear hw9
            go_upto_region 14 with fail
            refine UpTo.region (by kernel_rfl) (fun w' => w'.cell? ⟨w.heap.size, 0, none⟩ = some (.slice a webl.length cap) ∧ w'.cell? ⟨xb, 0, none⟩ = some (.slice (some ⟨pb, po, none⟩) roots.length xc) ∧ w'.cell? ⟨xb, 1, none⟩ = some (.slice (some ⟨fb, fo, none⟩) L.length xe) ∧ w'.cell? ⟨lb, lo + i, none⟩ = some (.string n)) 7 (HS14.out _ (K9.drew)) (fun hHeld => ?_)
            have KD : Kept w9 w9.drew := (Kept.refl w9).drew
            generalize hwd : w9.drew = wd at hHeld KD ⊢
            clear hwd
            refine UpTo.take 0 [6, 7] (v := ?_) (by (simp only [List.getElem?_toArray, List.getElem?_cons_zero]; rfl)) (by kernel_rfl) (by kernel_rfl) (by kernel_rfl) (by kernel_rfl) (by exact fun _ _ _ h => h) (Or.inl ⟨by rfl, ?_⟩) hHeld ?_
            rotate_left
            · intro u hu
              try dsimp only at hu
              go_simp
              try with_reducible rfl
            try simp only [Act.put, List.setIfInBounds_toArray, List.set_cons_zero, List.set_cons_succ]
            refine UpTo.take 1 [6, 7] (v := ?_) (by (simp only [List.getElem?_toArray, List.getElem?_cons_succ, List.getElem?_cons_zero]; rfl)) (by kernel_rfl) (by kernel_rfl) (by kernel_rfl) (by kernel_rfl) (by exact fun _ _ _ h => h) (Or.inl ⟨by rfl, ?_⟩) hHeld ?_
            rotate_left
            · intro u hu
              try dsimp only at hu
              go_simp
              try with_reducible rfl
            try simp only [Act.put, List.setIfInBounds_toArray, List.set_cons_zero, List.set_cons_succ]
            refine UpTo.take 2 [4, 5, 6, 7] (v := ?_) (by (simp only [List.getElem?_toArray, List.getElem?_cons_succ, List.getElem?_cons_zero]; rfl)) (by kernel_rfl) (by kernel_rfl) (by kernel_rfl) (by kernel_rfl) (by exact fun _ _ _ h => h) (Or.inl ⟨by rfl, ?_⟩) hHeld ?_
            rotate_left
            · intro u hu
              try dsimp only at hu
              go_simp
              try with_reducible rfl
            try simp only [Act.put, List.setIfInBounds_toArray, List.set_cons_zero, List.set_cons_succ]
            refine UpTo.take 3 [4, 5, 6, 7] (v := ?_) (by (simp only [List.getElem?_toArray, List.getElem?_cons_succ, List.getElem?_cons_zero]; rfl)) (by kernel_rfl) (by kernel_rfl) (by kernel_rfl) (by kernel_rfl) (by exact fun _ _ _ h => h) (Or.inl ⟨by rfl, ?_⟩) hHeld ?_
            rotate_left
            · intro u hu
              try dsimp only at hu
              go_simp
              try with_reducible rfl
            try simp only [Act.put, List.setIfInBounds_toArray, List.set_cons_zero, List.set_cons_succ]
            refine UpTo.take 4 [5, 6, 7] (v := ?_) (by (simp only [List.getElem?_toArray, List.getElem?_cons_succ, List.getElem?_cons_zero]; rfl)) (by kernel_rfl) (by kernel_rfl) (by kernel_rfl) (by kernel_rfl) (by exact fun _ _ _ h => h) (Or.inl ⟨by rfl, ?_⟩) hHeld ?_
            rotate_left
            · intro u hu
              try dsimp only at hu
              go_simp
              try with_reducible rfl
            try simp only [Act.put, List.setIfInBounds_toArray, List.set_cons_zero, List.set_cons_succ]
            refine UpTo.take 5 [6, 7] (v := ?_) (by (simp only [List.getElem?_toArray, List.getElem?_cons_succ, List.getElem?_cons_zero]; rfl)) (by kernel_rfl) (by kernel_rfl) (by kernel_rfl) (by kernel_rfl) (by exact fun _ _ _ h => h) (Or.inl ⟨by rfl, ?_⟩) hHeld ?_
            rotate_left
            · intro u hu
              try dsimp only at hu
              go_simp
              try with_reducible rfl
            try simp only [Act.put, List.setIfInBounds_toArray, List.set_cons_zero, List.set_cons_succ]
            refine UpTo.next 6 (by kernel_rfl) (by (simp only [List.getElem?_toArray, List.getElem?_cons_succ, List.getElem?_cons_zero]; rfl)) (fun K hK => ?_)
            rw [if_pos (by rfl)]
            go_simp
            go_at_call 56
            have KX := K9.trans KD
            refine (doX_any wd a cap webl pb po xc roots (some ⟨fb, fo, none⟩) xe L n r (by omega) (by omega) (web_small HW.out) (web_acts HW.out) hft hrl1 HV2.out.good HEr.out HCg.out (hN.kept (HKB.out.trans (K3.trans (Kr2.trans KX)))) (HX.out.rns.kept KX) (HX.out.rts.kept KX)).mono ?_
            rintro e wA ⟨xa2, xc2, xd2, xe2, xs2, rfl, hTA, hOA, hPA, kA⟩
            have KA := KX.trans kA
            have zA := KX.size
            have HLa := hide (XVar.laid (by omega) (HX.out.row.kept KA) hTA hOA hPA)
            have HDd : Hid (RoundX webl (envOf sl) (envOf (startL webl roots)) ns L0 (doL (actsOf webl) L r) (i + 1) true) := HV2.out.did (web_acts HW.out) (HRL.out.nodup HV.out.good.asc) hil (by rw [← HN.out]; exact HBe.out) (by rw [← HN.out]; exact HEr.out)
            clear hTA hOA hPA kA
            obtain ⟨T, hTT⟩ : ∃ T, T = doL (actsOf webl) L r := ⟨_, rfl⟩
            rw [← hTT] at HLa HDd ⊢
            clear hTT
            have hRA := HX.out.row.kept KA
            obtain ⟨⟨_, x0⟩, f0⟩ := hRA.row.at (i := 0) (by omega)
            obtain ⟨⟨_, x1⟩, f1⟩ := hRA.row.at (i := 1) (by omega)
            have xzA := hRA.lt
            clear hRA
            refine hK.out _ _ (fun _ => HS14.out _ KA) ?_
            clear hK K hHeld
            try simp only [Act.put, List.setIfInBounds_toArray, List.set_cons_zero, List.set_cons_succ]
            refine UpTo.next 7 (by kernel_rfl) (by (simp only [List.getElem?_toArray, List.getElem?_cons_succ, List.getElem?_cons_zero]; rfl)) (fun K hK => ?_)
            go_simp
            refine hK.out _ _ (fun h => absurd rfl h) ?_
            clear hK K
            try simp only [Act.put, List.setIfInBounds_toArray, List.set_cons_zero, List.set_cons_succ]
            refine UpTo.done (by kernel_rfl) ?_
            go_wp2_with fail
            go_roundg (gk - 1)
            case measure => omega
            case rel => exact ⟨i + 1, true, T, xa2, xc2, xd2, xe2, rfl, by go_num, by omega, KeptBut.sets (Nat.le_refl _) (Nat.lt_succ_self _) [.slice xa2 roots.length xc2, .slice xd2 T.length xe2] 0 (KB.trans (KeptBut.of_kept KA)), HLa.out, HDd⟩

end Go.Proofs.YtghipdfemoofhaaGreatDoor
