import Derived.Test.YtghipdfemoofhaaGreatDoorKXGood
import Derived.Test.YtghipdfemoofhaaGreatDoorKVAppr
import Derived.Test.YtghipdfemoofhaaGreatDoorKVBench

namespace Go.Proofs.YtghipdfemoofhaaGreatDoor
open Go.RowKit

theorem Tryz.xSizeRun : (Tryz.prog.info? 72).map (·.size) = some 7 := by kernel_rfl

theorem range_set {w : World} {b o n : Nat} {cs : List Value} (h : w.rangeAt b 0 cs) (hr : Row w b n) (ho : o < n) (v : Value) : (w.setCell ⟨b, o, none⟩ v).rangeAt b 0 (cs.set o v) := by
  intro j u hu
  rw [Nat.zero_add]
  rw [List.getElem?_set] at hu
  by_cases e : o = j
  · subst e
    rw [if_pos rfl] at hu
    by_cases hl : o < cs.length
    · rw [if_pos hl] at hu
      cases hu
      exact set_hit hr ho _
    · rw [if_neg hl] at hu
      cases hu
  · rw [if_neg e] at hu
    rw [set_miss e]
    have := h j u hu
    rw [Nat.zero_add] at this
    exact this

structure RBox (w : World) (b : Nat) (r : RunX) (xa : Option Addr) (xc : Nat) : Prop where
  row : RowT w b 72 7
  rng : w.rangeAt b 0 (r.cells xa xc)
theorem RBox.all {w : World} {b : Nat} {r : RunX} {xa : Option Addr} {xc : Nat} (h : RBox w b r xa xc) : w.cell? ⟨b, 0, none⟩ = some (.string r.name) ∧ w.cell? ⟨b, 1, none⟩ = some (.bool r.over) ∧ w.cell? ⟨b, 2, none⟩ = some (.bool r.fail) ∧ w.cell? ⟨b, 3, none⟩ = some (.string r.text) ∧ w.cell? ⟨b, 4, none⟩ = some (.int .i64 r.at') ∧ w.cell? ⟨b, 5, none⟩ = some (.int .i64 r.visits) ∧ w.cell? ⟨b, 6, none⟩ = some (.slice xa r.texts.length xc) := by
  have hc : ∀ j v, (r.cells xa xc)[j]? = some v → w.cell? ⟨b, j, none⟩ = some v := fun j v hv => by have := h.rng j v hv; rw [Nat.zero_add] at this; exact this
  exact ⟨hc 0 _ rfl, hc 1 _ rfl, hc 2 _ rfl, hc 3 _ rfl, hc 4 _ rfl, hc 5 _ rfl, hc 6 _ rfl⟩
theorem RBox.kept {w w' : World} {b : Nat} {r : RunX} {xa : Option Addr} {xc : Nat} (h : RBox w b r xa xc) (k : Kept w w') : RBox w' b r xa xc := ⟨h.row.kept k, k.range h.row.lt h.rng⟩
theorem RBox.put {w : World} {b : Nat} {r r' : RunX} {xa xa' : Option Addr} {xc xc' o : Nat} {v : Value} (h : RBox w b r xa xc) (ho : o < 7) (e : r'.cells xa' xc' = (r.cells xa xc).set o v) : RBox (w.setCell ⟨b, o, none⟩ v) b r' xa' xc' := ⟨h.row.set _, by rw [e]; exact range_set h.rng h.row.row ho v⟩

def StrsA (n0 : Nat) (w : World) (c : Nat) (a : Option Addr) (l : List ByteArray) : Prop := ∀ i, i < l.length → ∃ b o, a = some ⟨b, o, none⟩ ∧ b < w.heap.size ∧ (b < n0 ∨ c + 2 ≤ b) ∧ w.cell? ⟨b, o + i, none⟩ = some (.string (l.getD i ByteArray.empty))
theorem StrsA.strs {n0 : Nat} {w : World} {c : Nat} {a : Option Addr} {l : List ByteArray} (h : StrsA n0 w c a l) : Strs w a l := fun i hi => by
  obtain ⟨b, o, e, hb, _, hc⟩ := h i hi
  exact ⟨b, o, e, hb, hc⟩
theorem StrsA.kept {n0 : Nat} {w w' : World} {c : Nat} {a : Option Addr} {l : List ByteArray} (h : StrsA n0 w c a l) (k : Kept w w') : StrsA n0 w' c a l := fun i hi => by
  obtain ⟨b, o, e, hb, h1, hc⟩ := h i hi
  exact ⟨b, o, e, Nat.lt_of_lt_of_le hb k.size, h1, (k.cell hb).trans hc⟩
theorem StrsA.set {n0 : Nat} {w : World} {c p : Nat} (hn : n0 ≤ c) {a : Option Addr} {l : List ByteArray} (h : StrsA n0 w c a l) (v : Value) : StrsA n0 (w.setCell ⟨c, p, none⟩ v) c a l := fun i hi => by
  obtain ⟨b, o, e, hb, h1, hc⟩ := h i hi
  exact ⟨b, o, e, by rw [size_setCell]; exact hb, h1, by rw [cell_set_ne (by omega)]; exact hc⟩
theorem StrsA.set1 {n0 : Nat} {w : World} {c p : Nat} (hn : n0 ≤ c) {a : Option Addr} {l : List ByteArray} (h : StrsA n0 w c a l) (v : Value) : StrsA n0 (w.setCell ⟨c + 1, p, none⟩ v) c a l := fun i hi => by
  obtain ⟨b, o, e, hb, h1, hc⟩ := h i hi
  exact ⟨b, o, e, by rw [size_setCell]; exact hb, h1, by rw [cell_set_ne (by omega)]; exact hc⟩
theorem StrsA.sets {n0 c : Nat} (hn : n0 ≤ c) {a : Option Addr} {l : List ByteArray} : ∀ (vs : List Value) (p : Nat) {w : World}, StrsA n0 w c a l → StrsA n0 (w.setCells (c + 1) p vs) c a l
  | [], _, _, h => h
  | v :: r, p, _, h => by rw [World.setCells]; exact StrsA.sets hn r (p + 1) (h.set1 hn v)
theorem StrsA.old {n0 : Nat} {w w' : World} {c : Nat} {a : Option Addr} {l : List ByteArray} (h : Strs w a l) (k : Kept w w') (hc : w.heap.size ≤ n0) : StrsA n0 w' c a l := fun i hi => by
  obtain ⟨b, o, e, hb, hcc⟩ := h i hi
  exact ⟨b, o, e, Nat.lt_of_lt_of_le hb k.size, by omega, (k.cell hb).trans hcc⟩
theorem StrsA.owned {n0 : Nat} {w : World} {base c : Nat} {t : TypeId} {v : Value} {n : Nat} {l : List ByteArray} (h : w.ownsRow base t 1 v n (l.map Value.string)) (hc : c + 2 ≤ base) : ∃ a cap, v = .slice a l.length cap ∧ StrsA n0 w c a l ∧ (a = none → cap = 0) := by
  have hn : n = l.length := by have := h.1; simp at this; omega
  subst hn
  rcases h.2 with ⟨rfl, h0⟩ | ⟨g, cap, cur, rfl, hb, hg, hnc, _, _, _⟩
  · exact ⟨none, 0, by rw [h0], (fun i hi => by omega), fun _ => rfl⟩
  · refine ⟨_, cap, rfl, (fun i hi => ⟨g, 0, rfl, heap_lt hg, by omega, ?_⟩), fun e => by cases e⟩
    have := h.cells (g := g) rfl i (.string (l.getD i ByteArray.empty)) (by simp [List.getD, hi])
    rw [Addr.add_mid] at this
    exact this

structure NSt (n0 : Nat) (w wr : World) (ab : Nat) (cost : Int) (sa : Option Addr) (sn sc : Nat) (r : RunX) (xa : Option Addr) (xc : Nat) : Prop where
  kw : Kept w wr
  box : RBox wr (w.heap.size + 2) r xa xc
  res : RowT wr (w.heap.size + 2 + 1) 72 7
  a0 : wr.cell? ⟨ab, 0, none⟩ = some (.int .i64 cost)
  a1 : wr.cell? ⟨ab, 1, none⟩ = some (.slice sa sn sc)
  abl : w.heap.size + 4 ≤ ab
  abz : ab < wr.heap.size
  low : n0 ≤ w.heap.size
  txt : StrsA n0 wr (w.heap.size + 2) xa r.texts
  nil : xa = none → xc = 0
section
variable {n0 : Nat} {w wr w' : World} {ab : Nat} {cost : Int} {sa : Option Addr} {sn sc : Nat} {r r' : RunX} {xa xa' : Option Addr} {xc xc' : Nat}
theorem NSt.kept (h : NSt n0 w wr ab cost sa sn sc r xa xc) (k : Kept wr w') : NSt n0 w w' ab cost sa sn sc r xa xc :=
  ⟨h.kw.trans k, h.box.kept k, h.res.kept k, (k.cell h.abz).trans h.a0, (k.cell h.abz).trans h.a1, h.abl, Nat.lt_of_lt_of_le h.abz k.size, h.low, h.txt.kept k, h.nil⟩
theorem NSt.putT (h : NSt n0 w wr ab cost sa sn sc r xa xc) {o : Nat} {v : Value} (ho : o < 7) (e : r'.cells xa' xc' = (r.cells xa xc).set o v) (ht : StrsA n0 wr (w.heap.size + 2) xa' r'.texts) (hn : xa' = none → xc' = 0) : NSt n0 w (wr.setCell ⟨w.heap.size + 2, o, none⟩ v) ab cost sa sn sc r' xa' xc' := by
  have hne : ab ≠ w.heap.size + 2 := by have := h.abl; omega
  have hne2 : w.heap.size + 2 + 1 ≠ w.heap.size + 2 := by omega
  exact ⟨Below.setCell h.kw (p := ⟨w.heap.size + 2, o, none⟩) (by show w.heap.size ≤ w.heap.size + 2; omega) v, h.box.put ho e, h.res.block (Below.heap_setCell _ _ _ _ hne2), by rw [cell_set_ne hne]; exact h.a0, by rw [cell_set_ne hne]; exact h.a1, h.abl, by rw [size_setCell]; exact h.abz, h.low, ht.set (by have := h.low; omega) v, hn⟩
theorem NSt.put (h : NSt n0 w wr ab cost sa sn sc r xa xc) {o : Nat} {v : Value} (ho : o < 7) (e : r'.cells xa xc = (r.cells xa xc).set o v) (ht : r'.texts = r.texts) : NSt n0 w (wr.setCell ⟨w.heap.size + 2, o, none⟩ v) ab cost sa sn sc r' xa xc :=
  h.putT ho e (by rw [ht]; exact h.txt) h.nil
end

theorem NSt.made {n0 : Nat} {w WB wE : World} {ab : Nat} {cost : Int} {sa : Option Addr} {sn sc : Nat} {r : RunX} {xa : Option Addr} {xc : Nat} (kB : Kept w WB) (hBs : WB.heap.size = w.heap.size + 4) (K : Kept WB wE) (hbox : RBox WB (w.heap.size + 2) r xa xc) (hres : RowT WB (w.heap.size + 2 + 1) 72 7) (hn0 : n0 ≤ w.heap.size) (ht : StrsA n0 WB (w.heap.size + 2) xa r.texts) (hx : xa = none → xc = 0) (hab : WB.heap.size ≤ ab) (hrow : RowT wE ab 75 2) :
    Kept WB ((wE.setCell ⟨ab, 0, none⟩ (.int .i64 cost)).setCell ⟨ab, 1, none⟩ (.slice sa sn sc)) ∧ NSt n0 w ((wE.setCell ⟨ab, 0, none⟩ (.int .i64 cost)).setCell ⟨ab, 1, none⟩ (.slice sa sn sc)) ab cost sa sn sc r xa xc := by
  have K' : Kept WB ((wE.setCell ⟨ab, 0, none⟩ (.int .i64 cost)).setCell ⟨ab, 1, none⟩ (.slice sa sn sc)) := Below.setCell (Below.setCell K (p := ⟨ab, 0, none⟩) hab _) (p := ⟨ab, 1, none⟩) hab _
  refine ⟨K', kB.trans K', hbox.kept K', hres.kept K', (set_miss (by omega) _).trans (set_hit hrow.row (by omega) _), set_hit (hrow.set _).row (by omega) _, by omega, ?_, hn0, ht.kept K', hx⟩
  rw [size_setCell, size_setCell]
  exact hrow.lt

def NextSaid (n0 c : Nat) (W : Acts) (σ : Env) (r : RunX) (w' : World) (e : Ending) : Prop :=
  ∃ (xa' : Option Addr) (xc' : Nat) (ka : Option Addr) (kc : Nat), e = .returned (.tuple #[.agg ((nextOf W σ r).1.cells xa' xc').toArray, .slice ka (nextOf W σ r).2.length kc]) ∧ StrsA n0 w' c xa' (nextOf W σ r).1.texts ∧ (xa' = none → xc' = 0) ∧ StrsA n0 w' c ka (nextOf W σ r).2

theorem kept_sets {w : World} {g : Nat} (hg : w.heap.size ≤ g) : ∀ (vs : List Value) (o : Nat) {u : World}, Kept w u → Kept w (u.setCells g o vs)
  | [], _, _, h => h
  | v :: r, o, _, h => by rw [World.setCells]; exact kept_sets hg r (o + 1) (Below.setCell h (p := ⟨g, o, none⟩) hg v)
theorem NSt.ends {n0 : Nat} {W : Acts} {σ : Env} {w wr : World} {ab : Nat} {cost : Int} {sa : Option Addr} {sn sc : Nat} {r r' : RunX} {xa : Option Addr} {xc : Nat} {asks : List ByteArray} {ka : Option Addr} {kn kc : Nat} {e : Ending} (h : NSt n0 w wr ab cost sa sn sc r' xa xc) (hx : nextOf W σ r = (r', asks)) (hk : StrsA n0 wr (w.heap.size + 2) ka asks) (hkn : kn = asks.length)
    (he : e = .returned (.tuple #[.agg (r'.cells xa xc).toArray, .slice ka kn kc])) : NextSaid n0 (w.heap.size + 2) W σ r (wr.setCells (w.heap.size + 2 + 1) 0 (r'.cells xa xc)) e ∧ Kept w (wr.setCells (w.heap.size + 2 + 1) 0 (r'.cells xa xc)) := by
  refine ⟨⟨xa, xc, ka, kc, ?_, ?_, h.nil, ?_⟩, kept_sets (by omega) _ _ h.kw⟩
  · rw [hx, he, hkn]
  · rw [hx]; exact h.txt.sets (by have := h.low; omega) _ _
  · rw [hx]; exact hk.sets (by have := h.low; omega) _ _

end Go.Proofs.YtghipdfemoofhaaGreatDoor

namespace Go.Proofs.YtghipdfemoofhaaGreatDoor
open Go.RowKit

theorem Tryz.xInfoRun : (Tryz.prog.info? 72).map (fun i => (i.zero, i.size, i.bytes)) = some (some (.agg #[.string ⟨#[]⟩, .bool false, .bool false, .string ⟨#[]⟩, .int .i64 0, .int .i64 0, .slice none 0 0]), 7, 80) := by kernel_rfl

def RunsXP (w : World) (P : Nat → Prop) (a : Option Addr) (l : List RunX) : Prop :=
  ∀ i, i < l.length → ∃ b o xa xc, a = some ⟨b, o, none⟩ ∧ b < w.heap.size ∧ w.rangeAt b (o + i * 7) ((l.getD i RunX.zero).cells xa xc) ∧ Strs w xa (l.getD i RunX.zero).texts ∧ (xa = none → xc = 0) ∧ (∀ ad : Addr, xa = some ad → P ad.block)
theorem RunsXP.kept {w w' : World} {P : Nat → Prop} {a : Option Addr} {l : List RunX} (h : RunsXP w P a l) (k : Kept w w') : RunsXP w' P a l := by
  intro i hi
  obtain ⟨b, o, xa, xc, e, hb, hr, hs, hx⟩ := h i hi
  exact ⟨b, o, xa, xc, e, Nat.lt_of_lt_of_le hb k.size, k.range hb hr, hs.kept k, hx⟩
theorem RunsXP.runs {w : World} {P : Nat → Prop} {a : Option Addr} {l : List RunX} (h : RunsXP w P a l) : RunsX w a l := by
  intro i hi
  obtain ⟨b, o, xa, xc, e, hb, hr, hs, hx, _⟩ := h i hi
  exact ⟨b, o, xa, xc, e, hb, hr, hs, hx⟩
theorem RunsX.all {w : World} {a : Option Addr} {l : List RunX} (h : RunsX w a l) : RunsXP w (fun _ => True) a l := by
  intro i hi
  obtain ⟨b, o, xa, xc, e, hb, hr, hs, hx⟩ := h i hi
  exact ⟨b, o, xa, xc, e, hb, hr, hs, hx, fun _ _ => trivial⟩

def PackedX (w : World) (P : Nat → Prop) (xs : List Value) (l : List RunX) : Prop := xs.length = l.length * 7 ∧ ∀ i, i < l.length → ∃ xa xc, (xs.drop (i * 7)).take 7 = (l.getD i RunX.zero).cells xa xc ∧ Strs w xa (l.getD i RunX.zero).texts ∧ (xa = none → xc = 0) ∧ (∀ ad : Addr, xa = some ad → P ad.block)
theorem PackedX.nil (w : World) (P : Nat → Prop) : PackedX w P [] [] := ⟨rfl, fun i hi => by simp at hi⟩
theorem PackedX.kept {w w' : World} {P : Nat → Prop} {xs : List Value} {l : List RunX} (h : PackedX w P xs l) (k : Kept w w') : PackedX w' P xs l := ⟨h.1, fun i hi => by obtain ⟨xa, xc, e, hs, hx⟩ := h.2 i hi; exact ⟨xa, xc, e, hs.kept k, hx⟩⟩
theorem PackedX.snoc {w : World} {P : Nat → Prop} {xs : List Value} {l : List RunX} {r : RunX} {xa : Option Addr} {xc : Nat} (h : PackedX w P xs l) (hs : Strs w xa r.texts) (hx : xa = none → xc = 0) (hp : ∀ ad : Addr, xa = some ad → P ad.block) : PackedX w P (xs ++ r.cells xa xc) (l ++ [r]) := by
  refine ⟨by simp [h.1, RunX.cells]; omega, fun i hi => ?_⟩
  rw [List.length_append] at hi
  simp only [List.length_cons, List.length_nil] at hi
  by_cases e : i < l.length
  · have e1 : (l ++ [r]).getD i RunX.zero = l.getD i RunX.zero := by simp [List.getD, List.getElem?_append_left e]
    have e2 : ((xs ++ r.cells xa xc).drop (i * 7)).take 7 = (xs.drop (i * 7)).take 7 := by
      rw [List.drop_append_of_le_length (by rw [h.1]; omega), List.take_append_of_le_length (by rw [List.length_drop, h.1]; omega)]
    rw [e1, e2]
    exact h.2 i e
  · obtain rfl : i = l.length := by omega
    have e1 : (l ++ [r]).getD l.length RunX.zero = r := by simp [List.getD]
    have e2 : ((xs ++ r.cells xa xc).drop (l.length * 7)).take 7 = r.cells xa xc := by
      rw [← h.1, List.drop_left]
      rfl
    rw [e1, e2]
    exact ⟨xa, xc, rfl, hs, hx, hp⟩
theorem PackedX.runs {w w' : World} {P : Nat → Prop} {base n : Nat} {v : Value} {xs : List Value} {l : List RunX} (hO : w'.ownsRow base 72 7 v n xs) (h : PackedX w P xs l) (k : Kept w w') : n = l.length ∧ ∃ a cap, v = .slice a l.length cap ∧ RunsXP w' P a l := by
  have hn : n = l.length := by have q1 := hO.1; have q2 := h.1; omega
  subst hn
  refine ⟨rfl, ?_⟩
  rcases hO.2 with ⟨rfl, h0⟩ | ⟨g, cap, cur, rfl, hb, hg, hnc, _, _, _⟩
  · exact ⟨none, 0, by rw [h0], fun i hi => by omega⟩
  · refine ⟨_, cap, rfl, fun i hi => ?_⟩
    obtain ⟨xa, xc, e, hs, hx⟩ := h.2 i hi
    refine ⟨g, 0, xa, xc, rfl, heap_lt hg, (fun j u hu => ?_), hs.kept k, hx⟩
    have hj : j < 7 := by have := (List.getElem?_eq_some_iff.1 hu).1; simpa [RunX.cells] using this
    have hx' : ((xs.drop (i * 7)).take 7)[j]? = some u := by rw [e]; exact hu
    rw [List.getElem?_take, if_pos hj, List.getElem?_drop] at hx'
    have := hO.cells (g := g) rfl _ _ hx'
    rw [Addr.add_mid] at this
    rw [Nat.zero_add] at this ⊢
    exact this

theorem owned_set {w : World} {base c p : Nat} {t : TypeId} {v u : Value} {n : Nat} {l : List ByteArray} (h : w.ownsRow base t 1 v n (l.map Value.string)) (hc : c < base) : ∃ a cap, v = .slice a l.length cap ∧ Strs (w.setCell ⟨c, p, none⟩ u) a l ∧ (a = none → cap = 0) ∧ (∀ ad : Addr, a = some ad → base ≤ ad.block) := by
  have hn : n = l.length := by have := h.1; simp at this; omega
  subst hn
  rcases h.2 with ⟨rfl, h0⟩ | ⟨g, cap, cur, rfl, hb, hg, hnc, _, _, _⟩
  · exact ⟨none, 0, by rw [h0], (fun i hi => by omega), (fun _ => rfl), fun ad e => by cases e⟩
  · refine ⟨_, cap, rfl, (fun i hi => ⟨g, 0, rfl, by rw [size_setCell]; exact heap_lt hg, ?_⟩), (fun e => by cases e), fun ad e => by cases e; exact hb⟩
    have := h.cells (g := g) rfl i (.string (l.getD i ByteArray.empty)) (by simp [List.getD, hi])
    rw [Addr.add_mid] at this
    rw [cell_set_ne (by omega)]
    exact this

def PutSt (w2 wr : World) (P : Nat → Prop) (out : Value) (p : List RunX × Bool) : Prop := ∃ xs, wr.ownsRow w2.heap.size 72 7 out p.1.length xs ∧ PackedX w2 P xs p.1 ∧ Kept w2 wr
def RunsO (w w' : World) (P : Nat → Prop) (v : Value) (l : List RunX) : Prop := ∃ w2 xs, Kept w w2 ∧ Kept w2 w' ∧ w'.ownsRow w2.heap.size 72 7 v l.length xs ∧ PackedX w2 P xs l
theorem RunsO.runs {w w' : World} {P : Nat → Prop} {v : Value} {l : List RunX} (h : RunsO w w' P v l) : ∃ a cap, v = .slice a l.length cap ∧ RunsXP w' P a l := by
  obtain ⟨w2, xs, _, k, hO, hP⟩ := h
  exact (hP.runs hO k).2

end Go.Proofs.YtghipdfemoofhaaGreatDoor

namespace Go.Proofs.YtghipdfemoofhaaGreatDoor
open Go.RowKit

structure KnX (wz wr : World) (kb : Nat) (a : Option Addr) (n cap : Nat) (R : List RunX) (d : Option Addr) (dc : Nat) (xs : List Value) : Prop where
  kw : Kept wz wr
  known : KnownX wr kb a n cap d R.length dc
  own : wr.ownsRow wz.heap.size 72 7 (.slice d R.length dc) R.length xs
  pack : PackedX wz (fun _ => True) xs R

theorem KnX.kept {wz wr w' : World} {kb n cap dc : Nat} {a d : Option Addr} {R : List RunX} {xs : List Value} (h : KnX wz wr kb a n cap R d dc xs) (k : Kept wr w') : KnX wz w' kb a n cap R d dc xs :=
  ⟨h.kw.trans k, h.known.kept k, ownsRow_kept' h.own k, h.pack⟩
theorem KnX.runs {wz wr : World} {kb n cap dc : Nat} {a d : Option Addr} {R : List RunX} {xs : List Value} (h : KnX wz wr kb a n cap R d dc xs) : RunsX wr d R := by
  obtain ⟨_, a9, c9, ev, h9⟩ := PackedX.runs h.own h.pack h.kw
  simp only [Value.slice.injEq, true_and] at ev
  rw [ev.1]
  exact h9.runs
theorem own_ne {w : World} {kb base n : Nat} {v : Value} {xs : List Value} (hr : RowT w kb 145 2) (h : w.ownsRow base 72 7 v n xs) : some kb ≠ v.ownBlock := by
  rcases h.2 with ⟨rfl, _⟩ | ⟨g, cap, cur, rfl, _, hg, _⟩
  · intro e; cases e
  · intro e
    simp only [Value.ownBlock, Option.some.injEq] at e
    subst e
    obtain ⟨c2, h2, _⟩ := hr
    rw [hg] at h2
    simp only [Option.some.injEq, Obj.cells.injEq] at h2
    exact absurd h2.2.1 (by decide)
theorem KnX.block {wz wr W w6 : World} {kb n cap dc : Nat} {a d : Option Addr} {R : List RunX} {xs : List Value} (h : KnX wz wr kb a n cap R d dc xs) (KW : Kept wr W) (hgr : W.grownBy w6 (Value.slice d R.length dc).ownBlock) : w6.heap[kb]? = W.heap[kb]? :=
  hgr.block kb (h.known.kept KW).row.lt (own_ne (h.known.kept KW).row (ownsRow_kept' h.own KW))
theorem KnX.grown {wz wr W w6 : World} {kb n cap dc : Nat} {a d : Option Addr} {R : List RunX} {xs : List Value} (h : KnX wz wr kb a n cap R d dc xs) (KW : Kept wr W) (hgr : W.grownBy w6 (Value.slice d R.length dc).ownBlock) : Kept wz w6 ∧ KnownX w6 kb a n cap d R.length dc := by
  have hb := h.block KW hgr
  have hk := h.known.kept KW
  exact ⟨kept_of_grown (h.kw.trans KW) (Nat.le_refl _) (ownsRow_kept' h.own KW) hgr, hk.row.block hb, (World.cell?_of_block (w := W) hb).trans hk.web, (World.cell?_of_block (w := W) hb).trans hk.runs⟩
theorem owns_set2 {w : World} {base size : Nat} {e : TypeId} {v : Value} {n : Nat} {xs : List Value} (h : w.ownsRow base e size v n xs) {kb o : Nat} (hp : some kb ≠ v.ownBlock) (u : Value) : (w.setCell ⟨kb, o, none⟩ u).ownsRow base e size v n xs := by
  refine ⟨h.1, ?_⟩
  rcases h.2 with h2 | ⟨g, cap, cur, rfl, hb, hg, rest⟩
  · exact .inl h2
  · refine .inr ⟨g, cap, cur, rfl, hb, ?_, rest⟩
    rw [Below.heap_setCell _ _ _ _ (fun e => hp (by simp [Value.ownBlock, e]))]
    exact hg
theorem KnX.next {wz wr W w6 : World} {kb n cap dc cv6 : Nat} {a d av6 : Option Addr} {R : List RunX} {xs : List Value} {y : RunX} {xa : Option Addr} {xc : Nat} (h : KnX wz wr kb a n cap R d dc xs) (hk : wz.heap.size ≤ kb) (KW : Kept wr W) (hgr : W.grownBy w6 (Value.slice d R.length dc).ownBlock)
    (hO6 : w6.ownsRow wz.heap.size 72 7 (.slice av6 (R.length + 1) cv6) (R.length + 1) (xs ++ y.cells xa xc)) (hs : Strs wz xa y.texts) (hx : xa = none → xc = 0) :
    KnX wz (w6.setCell ⟨kb, 1, none⟩ (.slice av6 (R.length + 1) cv6)) kb a n cap (R ++ [y]) av6 cv6 (xs ++ y.cells xa xc) := by
  obtain ⟨k6, hK6⟩ := h.grown KW hgr
  have hl : (R ++ [y]).length = R.length + 1 := by simp
  refine ⟨Below.setCell k6 (p := ⟨kb, 1, none⟩) hk _, ⟨hK6.row.set _, ?_, ?_⟩, ?_, h.pack.snoc hs hx (fun _ _ => trivial)⟩
  · rw [set_miss (by omega)]
    exact hK6.web
  · rw [hl]; exact set_hit hK6.row.row (by omega) _
  · rw [hl]; exact owns_set2 hO6 (own_ne hK6.row hO6) _

theorem wantL_snoc (W : Acts) : ∀ (bs : List ByteArray) (l : List RunX) (n : ByteArray), wantL W l (bs ++ [n]) = if (W n).isSome = true ∧ (envOf (wantL W l bs) n).isNone = true then wantL W l bs ++ [RunX.fresh n] else wantL W l bs
  | [], _l, _n => rfl
  | _b :: bs, _l, n => wantL_snoc W bs _ n
theorem wantL_succ (W : Acts) (l : List RunX) {bs : List ByteArray} {k : Nat} (h : k < bs.length) : wantL W l (bs.take (k + 1)) = if (W (bs.getD k ByteArray.empty)).isSome = true ∧ (envOf (wantL W l (bs.take k)) (bs.getD k ByteArray.empty)).isNone = true then wantL W l (bs.take k) ++ [RunX.fresh (bs.getD k ByteArray.empty)] else wantL W l (bs.take k) := by
  rw [List.take_succ_eq_append_getElem h, wantL_snoc]
  simp [List.getD, h]
theorem wantL_len (W : Acts) : ∀ (bs : List ByteArray) (l : List RunX), (wantL W l bs).length ≤ l.length + bs.length
  | [], l => by simp [wantL]
  | b :: bs, l => by
    have h := wantL_len W bs (if (W b).isSome = true ∧ (envOf l b).isNone = true then l ++ [RunX.fresh b] else l)
    show (wantL W (if (W b).isSome = true ∧ (envOf l b).isNone = true then l ++ [RunX.fresh b] else l) bs).length ≤ _
    split at h <;> rename_i hc
    · rw [if_pos hc]; simp at h ⊢; omega
    · rw [if_neg hc]; simp at h ⊢; omega

theorem l2At_inX (w : World) (a : Option Addr) (cap : Nat) (l : List NodeD) (key : ByteArray) (hl : l.length ≤ 1048576) (hS : Nodes w a l) (h : (actsOf l key).isSome = true) :
    Calls Tryz.prog 67 #[.agg #[.slice a l.length cap], .string key] w fun e w' => (∃ r : Nat, e = .returned (.int .i64 (r : Int))) ∧ Kept w w' := by
  refine (l2At_place w a cap l key hl hS).mono ?_
  rintro e w' ⟨⟨r, rfl, hr⟩, k⟩
  rcases hr with ⟨i, _, rfl, _⟩ | ⟨_, hn⟩
  · exact ⟨⟨i, rfl⟩, k⟩
  · rw [hn] at h; cases h
theorem l2At_noX (w : World) (a : Option Addr) (cap : Nat) (l : List NodeD) (key : ByteArray) (hl : l.length ≤ 1048576) (hS : Nodes w a l) (h : ¬ (actsOf l key).isSome = true) :
    Calls Tryz.prog 67 #[.agg #[.slice a l.length cap], .string key] w fun e w' => e = .returned (.int .i64 (-1)) ∧ Kept w w' := by
  refine (l2At_place w a cap l key hl hS).mono ?_
  rintro e w' ⟨⟨r, rfl, hr⟩, k⟩
  rcases hr with ⟨i, _, rfl, hn, _⟩ | ⟨rfl, hn⟩
  · rw [hn] at h; exact absurd rfl h
  · exact ⟨rfl, k⟩
theorem find_noX (w : World) (kb : Nat) (a : Option Addr) (n cap : Nat) (d : Option Addr) (dc : Nat) (l : List RunX) (key : ByteArray) (hl : l.length ≤ 1048576) (hK : KnownX w kb a n cap d l.length dc) (hS : RunsX w d l) (h : (envOf l key).isNone = true) :
    Calls Tryz.prog 128 #[.pointer (some ⟨kb, 0, none⟩), .string key] w fun e w' => (∃ r : Int, e = .returned (.int .i64 r) ∧ r < 0) ∧ w' = w := by
  refine (findX w kb a n cap d dc l key hl hK hS).mono ?_
  rintro e w' ⟨⟨r, rfl, hr⟩, k⟩
  rcases hr with ⟨i, _, rfl, hn, _⟩ | ⟨rfl, _⟩
  · rw [hn] at h; cases h
  · exact ⟨⟨-1, rfl, by omega⟩, k⟩
theorem find_inX (w : World) (kb : Nat) (a : Option Addr) (n cap : Nat) (d : Option Addr) (dc : Nat) (l : List RunX) (key : ByteArray) (hl : l.length ≤ 1048576) (hK : KnownX w kb a n cap d l.length dc) (hS : RunsX w d l) (h : ¬ (envOf l key).isNone = true) :
    Calls Tryz.prog 128 #[.pointer (some ⟨kb, 0, none⟩), .string key] w fun e w' => (∃ r : Nat, e = .returned (.int .i64 (r : Int))) ∧ w' = w := by
  refine (findX w kb a n cap d dc l key hl hK hS).mono ?_
  rintro e w' ⟨⟨r, rfl, hr⟩, k⟩
  rcases hr with ⟨i, _, rfl, _⟩ | ⟨_, hn⟩
  · exact ⟨⟨i, rfl⟩, k⟩
  · rw [hn] at h; exact absurd rfl h

end Go.Proofs.YtghipdfemoofhaaGreatDoor
