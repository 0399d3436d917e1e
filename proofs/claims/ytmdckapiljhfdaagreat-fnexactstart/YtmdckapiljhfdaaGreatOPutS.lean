import Derived.Test.YtmdckapiljhfdaaGreatODrop2
import Derived.Test.YtmdckapiljhfdaaGreatOSpec2
import Derived.Deep.RegionLaw
import Derived.Deep.CutRange
import Derived.Deep.QuietTactic
import Derived.BigQuiet

/-
  A NODE IS PUT INTO A LIST: plain lists, nothing of the dump.
-/
namespace Go.Proofs.YtmdckapiljhfdaaGreat
open Go.RowKit

def lessN (key : List UInt8) (d : NodeD) : Bool := Op.bytesLess d.name.toList key
def moreN (key : List UInt8) (d : NodeD) : Bool := Op.bytesLess key d.name.toList

/-- The list with a node: those ahead of it, it, those behind it. -/
def putIn (l : List NodeD) (d : NodeD) : List NodeD := l.filter (lessN d.name.toList) ++ d :: l.filter (moreN d.name.toList)

theorem less_asymm {x y : List UInt8} (h : Op.bytesLess x y = true) : Op.bytesLess y x = false := by
  cases h' : Op.bytesLess y x
  · rfl
  · have := less_trans _ _ _ h h'
    rw [less_irrefl] at this
    cases this

theorem nameAt_get {l : List NodeD} {j : Nat} (h : j < l.length) : nameAt l j = l[j].name.toList := by unfold nameAt; simp [List.getD, h]

theorem Place.less {l : List NodeD} {key : List UInt8} {p : Nat} (h : Place l key p) : l.filter (lessN key) = l.take p := by
  have h1 : (l.take p).filter (lessN key) = l.take p := List.filter_eq_self.2 fun d hd => by
    obtain ⟨i, hi, rfl⟩ := List.getElem_of_mem hd
    rw [List.length_take] at hi
    rw [List.getElem_take]
    have := h.before i (by omega)
    rw [nameAt_get (by omega)] at this
    exact this
  have h2 : (l.drop p).filter (lessN key) = [] := List.filter_eq_nil_iff.2 fun d hd => by
    obtain ⟨i, hi, rfl⟩ := List.getElem_of_mem hd
    rw [List.length_drop] at hi
    rw [List.getElem_drop]
    have := h.behind (p + i) (by omega) (by omega)
    rw [nameAt_get (by omega)] at this
    simp [lessN, this]
  conv => lhs; rw [← List.take_append_drop p l]
  rw [List.filter_append, h1, h2, List.append_nil]

theorem Place.ahead {l : List NodeD} {key : List UInt8} {p : Nat} (h : Place l key p) : (l.take p).filter (moreN key) = [] := List.filter_eq_nil_iff.2 fun d hd => by
  obtain ⟨i, hi, rfl⟩ := List.getElem_of_mem hd
  rw [List.length_take] at hi
  rw [List.getElem_take]
  have := h.before i (by omega)
  rw [nameAt_get (by omega)] at this
  simp [moreN, less_asymm this]

theorem Place.more {l : List NodeD} {key : List UInt8} {p : Nat} (_ : Rises l) (h : Place l key p) (hno : ∀ j, j < l.length → nameAt l j ≠ key) : l.filter (moreN key) = l.drop p := by
  have h2 : (l.drop p).filter (moreN key) = l.drop p := List.filter_eq_self.2 fun d hd => by
    obtain ⟨i, hi, rfl⟩ := List.getElem_of_mem hd
    rw [List.length_drop] at hi
    rw [List.getElem_drop]
    have h3 := h.behind (p + i) (by omega) (by omega)
    have h4 := hno (p + i) (by omega)
    rw [nameAt_get (by omega)] at h3 h4
    exact less_total _ _ h3 h4
  conv => lhs; rw [← List.take_append_drop p l]
  rw [List.filter_append, h.ahead, h2, List.nil_append]

theorem Place.more_at {l : List NodeD} {key : List UInt8} {p : Nat} (hr : Rises l) (h : Place l key p) (hp : p < l.length) (e : nameAt l p = key) : l.filter (moreN key) = l.drop (p + 1) := by
  have h2 : (l.drop (p + 1)).filter (moreN key) = l.drop (p + 1) := List.filter_eq_self.2 fun d hd => by
    obtain ⟨i, hi, rfl⟩ := List.getElem_of_mem hd
    rw [List.length_drop] at hi
    rw [List.getElem_drop]
    have h3 := hr p (p + 1 + i) (by omega) (by omega)
    rw [e, nameAt_get (by omega)] at h3
    exact h3
  have h3 : l.drop p = l[p] :: l.drop (p + 1) := List.drop_eq_getElem_cons hp
  have h4 : moreN key l[p] = false := by
    rw [nameAt_get hp] at e
    simp [moreN, e, less_irrefl]
  conv => lhs; rw [← List.take_append_drop p l]
  rw [List.filter_append, h.ahead, h3, List.filter_cons_of_neg (by rw [h4]; simp), h2, List.nil_append]

theorem place_of {l : List NodeD} (key : List UInt8) (hr : Rises l) : ∃ p, Place l key p := by
  have : ∀ n, n ≤ l.length → ∃ p, p ≤ n ∧ (∀ j, j < p → Op.bytesLess (nameAt l j) key = true) ∧ ∀ j, p ≤ j → j < n → Op.bytesLess (nameAt l j) key = false := by
    intro n
    induction n with
    | zero => exact fun _ => ⟨0, Nat.le_refl _, fun j hj => absurd hj (Nat.not_lt_zero _), fun j _ hj => absurd hj (Nat.not_lt_zero _)⟩
    | succ n ih =>
      intro hn
      obtain ⟨p, hp, hb, hh⟩ := ih (by omega)
      by_cases e : p = n
      · subst e
        cases hq : Op.bytesLess (nameAt l p) key
        · refine ⟨p, by omega, hb, fun j h1 h2 => ?_⟩
          obtain rfl : j = p := by omega
          exact hq
        · refine ⟨p + 1, Nat.le_refl _, fun j hj => ?_, fun j h1 h2 => by omega⟩
          by_cases e : j = p
          · rw [e]; exact hq
          · exact hb j (by omega)
      · refine ⟨p, by omega, hb, fun j h1 h2 => ?_⟩
        by_cases e2 : j = n
        · subst e2
          cases hq : Op.bytesLess (nameAt l j) key
          · rfl
          · have h3 := hr p j (by omega) (by omega)
            have h4 := hh p (Nat.le_refl _) (by omega)
            rw [less_trans _ _ _ h3 hq] at h4
            cases h4
        · exact hh j h1 (by omega)
  obtain ⟨p, h1, h2, h3⟩ := this l.length (Nat.le_refl _)
  exact ⟨p, h1, h2, h3⟩

/-- All others: those ahead, those behind. -/
theorem filter_other {l : List NodeD} (key : List UInt8) (hr : Rises l) : l.filter (otherN key) = l.filter (lessN key) ++ l.filter (moreN key) := by
  obtain ⟨p, hp⟩ := place_of key hr
  by_cases h : p < l.length ∧ nameAt l p = key
  · rw [filter_cut hr h.1 h.2, hp.less, hp.more_at hr h.1 h.2]
    rfl
  · have hno : ∀ j, j < l.length → nameAt l j ≠ key := fun j hj e => by
      have := hp.only hr hj e
      subst this
      exact h ⟨hj, e⟩
    rw [hp.less, hp.more hr hno, List.take_append_drop]
    refine List.filter_eq_self.2 fun d hd => ?_
    obtain ⟨i, hi, rfl⟩ := List.getElem_of_mem hd
    have := hno i hi
    rw [nameAt_get hi] at this
    simpa [otherN] using this

theorem putIn_free {l : List NodeD} {d : NodeD} {p : Nat} (hr : Rises l) (h : Place l d.name.toList p) (hno : ¬ (p < l.length ∧ nameAt l p = d.name.toList)) : putIn l d = l.take p ++ d :: l.drop p := by
  have hno' : ∀ j, j < l.length → nameAt l j ≠ d.name.toList := fun j hj e => by
    have := h.only hr hj e
    subst this
    exact hno ⟨hj, e⟩
  unfold putIn
  rw [h.less, h.more hr hno']
theorem putIn_there {l : List NodeD} {d : NodeD} {p : Nat} (hr : Rises l) (h : Place l d.name.toList p) (hp : p < l.length) (e : nameAt l p = d.name.toList) : putIn l d = l.take p ++ d :: l.drop (p + 1) := by
  unfold putIn
  rw [h.less, h.more_at hr hp e]

/-- How many stand ahead. -/
def aheadN (l : List NodeD) (d : NodeD) : Nat := (l.filter (lessN d.name.toList)).length

theorem putIn_length {l : List NodeD} {d : NodeD} (hr : Rises l) : (putIn l d).length = (l.filter (otherN d.name.toList)).length + 1 := by
  rw [filter_other _ hr]
  simp [putIn]
  omega
theorem aheadN_le {l : List NodeD} {d : NodeD} (hr : Rises l) : aheadN l d ≤ (l.filter (otherN d.name.toList)).length := by
  rw [filter_other _ hr]
  simp [aheadN]
theorem putIn_at (l : List NodeD) (d : NodeD) : (putIn l d).getD (aheadN l d) NodeD.zero = d := by simp [putIn, aheadN, List.getD]
theorem putIn_len_le (l : List NodeD) (d : NodeD) (hr : Rises l) : (putIn l d).length ≤ l.length + 1 := by
  rw [putIn_length hr]
  have := List.length_filter_le (otherN d.name.toList) l
  omega
theorem putIn_mem {l : List NodeD} {d x : NodeD} (h : x ∈ putIn l d) : x = d ∨ x ∈ l := by
  simp only [putIn, List.mem_append, List.mem_cons, List.mem_filter] at h
  rcases h with h | h | h
  · exact .inr h.1
  · exact .inl h
  · exact .inr h.1
theorem putIn_sum (l : List NodeD) (d : NodeD) (hr : Rises l) (f : NodeD → Nat) : ((putIn l d).map f).sum ≤ (l.map f).sum + f d := by
  have h1 : ((l.filter (otherN d.name.toList)).map f).sum ≤ (l.map f).sum := by
    generalize otherN d.name.toList = g
    clear hr
    induction l with
    | nil => simp
    | cons x r ih =>
      rw [List.filter_cons]
      split
      · simp only [List.map_cons, List.sum_cons]; omega
      · simp only [List.map_cons, List.sum_cons]; omega
  rw [filter_other _ hr, List.map_append, List.sum_append] at h1
  simp only [putIn, List.map_append, List.map_cons, List.sum_append, List.sum_cons]
  omega

theorem take_snoc {l : List NodeD} {m : Nat} (h : m < l.length) : l.take (m + 1) = l.take m ++ [l.getD m NodeD.zero] := by
  rw [List.take_succ_eq_append_getElem h]
  simp [List.getD, h]

/-- What PutNode gives: a code, and the nodes. -/
def PutR (l : List NodeD) (d : NodeD) (c : Int) (r : List NodeD) : Prop :=
  (¬ WebCode l 0 ∧ c = 1 ∧ r = []) ∨ (WebCode l 0 ∧ (¬ NameOk d.name ∨ ¬ ActionOk ⟨d.cost, d.steps⟩) ∧ c = 2 ∧ r = []) ∨ (WebCode l 0 ∧ NameOk d.name ∧ ActionOk ⟨d.cost, d.steps⟩ ∧ 60 < (putIn l d).length ∧ c = 3 ∧ r = []) ∨
  (WebCode l 0 ∧ NameOk d.name ∧ ActionOk ⟨d.cost, d.steps⟩ ∧ (putIn l d).length ≤ 60 ∧ c = 0 ∧ r = putIn l d)

theorem PutR.unique {l : List NodeD} {d : NodeD} {c c' : Int} {r r' : List NodeD} (h : PutR l d c r) (h' : PutR l d c' r') : c = c' ∧ r = r' := by
  rcases h with ⟨h1, rfl, rfl⟩ | ⟨h1, h2, rfl, rfl⟩ | ⟨h1, h2, h3, h4, rfl, rfl⟩ | ⟨h1, h2, h3, h4, rfl, rfl⟩ <;>
    rcases h' with ⟨g1, rfl, rfl⟩ | ⟨g1, g2, rfl, rfl⟩ | ⟨g1, g2, g3, g4, rfl, rfl⟩ | ⟨g1, g2, g3, g4, rfl, rfl⟩
  · exact ⟨rfl, rfl⟩
  · exact absurd g1 h1
  · exact absurd g1 h1
  · exact absurd g1 h1
  · exact absurd h1 g1
  · exact ⟨rfl, rfl⟩
  · rcases h2 with h2 | h2
    · exact absurd g2 h2
    · exact absurd g3 h2
  · rcases h2 with h2 | h2
    · exact absurd g2 h2
    · exact absurd g3 h2
  · exact absurd h1 g1
  · rcases g2 with g2 | g2
    · exact absurd h2 g2
    · exact absurd h3 g2
  · exact ⟨rfl, rfl⟩
  · omega
  · exact absurd h1 g1
  · rcases g2 with g2 | g2
    · exact absurd h2 g2
    · exact absurd h3 g2
  · omega
  · exact ⟨rfl, rfl⟩
theorem PutR.mem {l r : List NodeD} {d : NodeD} {c : Int} (h : PutR l d c r) {x : NodeD} (hx : x ∈ r) : x = d ∨ x ∈ l := by
  rcases h with ⟨_, _, rfl⟩ | ⟨_, _, _, rfl⟩ | ⟨_, _, _, _, _, rfl⟩ | ⟨_, _, _, _, _, rfl⟩
  · cases hx
  · cases hx
  · cases hx
  · exact putIn_mem hx
theorem PutR.sum {l r : List NodeD} {d : NodeD} {c : Int} (h : PutR l d c r) (f : NodeD → Nat) : (r.map f).sum ≤ (l.map f).sum + f d := by
  rcases h with ⟨_, _, rfl⟩ | ⟨_, _, _, rfl⟩ | ⟨_, _, _, _, _, rfl⟩ | ⟨h, _, _, _, _, rfl⟩
  · simp
  · simp
  · simp
  · exact putIn_sum l d (rises_of_code h) f
theorem PutR.len {l r : List NodeD} {d : NodeD} {c : Int} (h : PutR l d c r) : r.length ≤ 60 := by
  rcases h with ⟨_, _, rfl⟩ | ⟨_, _, _, rfl⟩ | ⟨_, _, _, _, _, rfl⟩ | ⟨h, _, _, h2, _, rfl⟩
  · simp
  · simp
  · simp
  · exact h2

end Go.Proofs.YtmdckapiljhfdaaGreat

/-
  A ROW OF THREE CELLS, made and kept.
-/
namespace Go.Proofs.YtmdckapiljhfdaaGreat
open Go.RowKit

theorem boxCells3 {w wi : World} {x y z : Value} {t : TypeId} (K : Kept (w.alloc (.cells #[x, y, z] t)) wi) : wi.cell? ⟨w.heap.size, 0, none⟩ = some x ∧ wi.cell? ⟨w.heap.size, 1, none⟩ = some y ∧ wi.cell? ⟨w.heap.size, 2, none⟩ = some z := by
  refine ⟨?_, ?_, ?_⟩
  · rw [K.cell (by simp)]; simp
  · rw [K.cell (by simp)]; simp
  · rw [K.cell (by simp)]; simp

theorem Kept.un {X w' : World} (k : Kept X.drew w') : Kept X w' := Kept.trans ((Kept.refl _).drew) k
theorem rowAlloc {X w' : World} {c : Array Value} {t : TypeId} (k : Kept (X.alloc (.cells c t)) w') : RowT w' X.heap.size t c.size := (RowT.made X c t).kept k
theorem rowDrawn {X w' : World} {c : Array Value} {t : TypeId} (k : Kept (X.alloc (.cells c t)).drew w') : RowT w' X.heap.size t c.size := rowAlloc k.un
theorem RowT.keptUn {w w' : World} {b n : Nat} {t : TypeId} (h : RowT w b t n) (k : Kept w.drew w') : RowT w' b t n := h.kept k.un

end Go.Proofs.YtmdckapiljhfdaaGreat

/-
  THE WALK over spec.PutNode.
-/
namespace Go.Proofs.YtmdckapiljhfdaaGreat
open Go.RowKit

/-- What the specification's walk ends with. -/
def PutEndS (l : List NodeD) (d : NodeD) (w w' : World) (e : Ending) : Prop :=
  ∃ a cap c r xs base, e = .returned (.tuple #[.agg #[.slice a r.length cap], .int .i64 c]) ∧ PutR l d c r ∧ w.heap.size ≤ base ∧ w'.ownsRow base 72 3 (.slice a r.length cap) r.length xs ∧ PackedN w' xs r ∧ Kept w w'
theorem PutEndS.none {l : List NodeD} {d : NodeD} {w w' : World} {e : Ending} (c : Int) (he : e = .returned (.tuple #[.agg #[.slice none 0 0], .int .i64 c])) (h : PutR l d c []) (k : Kept w w') : PutEndS l d w w' e := ⟨Option.none, 0, c, [], [], _, he, h, Nat.le_refl _, World.ownsRow_nil _ _ _ _, PackedN.nil _, k⟩

/-- A store into a row of one kind leaves all of other kinds alone. -/
theorem SameKind.of_but {t : TypeId} {w w' : World} {b n : Nat} (h : KeptBut b (b + 1) w w') (hr : RowT w b t n) : SameKind t w w' := by
  intro x cur u fr hu hx
  rw [h.block x (heap_lt hx) ?_]
  · exact hx
  · obtain ⟨c, hc, _⟩ := hr
    by_cases e : x = b
    · subst e
      rw [hx] at hc
      simp only [Option.some.injEq, Obj.cells.injEq] at hc
      exact absurd hc.2.1 hu
    · omega

/-- The others, and the list with the node, element by element. -/
theorem other_get2 {l : List NodeD} {d : NodeD} (hr : Rises l) (k : Nat) (hk : k < (l.filter (otherN d.name.toList)).length) :
    (k < aheadN l d → Op.bytesLess ((l.filter (otherN d.name.toList)).getD k NodeD.zero).name.toList d.name.toList = true ∧ (putIn l d).getD k NodeD.zero = (l.filter (otherN d.name.toList)).getD k NodeD.zero) ∧
    (aheadN l d ≤ k → (Op.bytesLess ((l.filter (otherN d.name.toList)).getD k NodeD.zero).name.toList d.name.toList = false ∧ (((l.filter (otherN d.name.toList)).getD k NodeD.zero).name.toList == d.name.toList) = false) ∧ (putIn l d).getD (k + 1) NodeD.zero = (l.filter (otherN d.name.toList)).getD k NodeD.zero) := by
  rw [filter_other _ hr] at hk ⊢
  unfold putIn aheadN
  rw [List.length_append] at hk
  constructor
  · intro h
    have e1 : (l.filter (lessN d.name.toList) ++ l.filter (moreN d.name.toList)).getD k NodeD.zero = (l.filter (lessN d.name.toList))[k] := by simp [List.getD, List.getElem?_append_left h, h]
    rw [e1]
    refine ⟨?_, by simp [List.getD, List.getElem?_append_left h, h]⟩
    have := List.getElem_mem h
    exact (List.mem_filter.1 this).2
  · intro h
    have hlt : k - (l.filter (lessN d.name.toList)).length < (l.filter (moreN d.name.toList)).length := by omega
    have e1 : (l.filter (lessN d.name.toList) ++ l.filter (moreN d.name.toList)).getD k NodeD.zero = (l.filter (moreN d.name.toList))[k - (l.filter (lessN d.name.toList)).length] := by simp [List.getD, List.getElem?_append_right h, hlt]
    rw [e1]
    have hm : Op.bytesLess d.name.toList (l.filter (moreN d.name.toList))[k - (l.filter (lessN d.name.toList)).length].name.toList = true := (List.mem_filter.1 (List.getElem_mem hlt)).2
    refine ⟨⟨less_asymm hm, ?_⟩, ?_⟩
    · rw [beq_eq_false_iff_ne]
      intro e
      rw [e, less_irrefl] at hm
      cases hm
    have e2 : k + 1 - (l.filter (lessN d.name.toList)).length = (k - (l.filter (lessN d.name.toList)).length) + 1 := by omega
    simp [List.getD, List.getElem?_append_right (show (l.filter (lessN d.name.toList)).length ≤ k + 1 by omega), e2, hlt]

/-- The others. -/
def others (l : List NodeD) (d : NodeD) : List NodeD := l.filter (otherN d.name.toList)

/-- Element k of packed nodes. -/
theorem PackedN.at {w : World} {base : Nat} {ao : Option Addr} {n co : Nat} {xs : List Value} {l : List NodeD} (hO : w.ownsRow base 72 3 (.slice ao n co) n xs) (h : PackedN w xs l) {k : Nat} (hk : k < l.length) :
    ∃ g cur fr a c, ao = some ⟨g, 0, none⟩ ∧ w.heap[g]? = some (Obj.cells cur 72 fr) ∧ w.cell? ⟨g, k * 3, none⟩ = some (.string (l.getD k NodeD.zero).name) ∧ w.cell? ⟨g, k * 3 + 1, none⟩ = some (.int .i64 (l.getD k NodeD.zero).cost) ∧
      w.cell? ⟨g, k * 3 + 2, none⟩ = some (.slice a (l.getD k NodeD.zero).steps.length c) ∧ TSteps w 108 9 122 (.slice a (l.getD k NodeD.zero).steps.length c) (l.getD k NodeD.zero).steps := by
  have hn : n = l.length := by have q1 := hO.1; have q2 := h.1; omega
  rcases hO.2 with ⟨_, h0⟩ | ⟨g, cap, cur, e, hb, hg, hnc, _, _, _⟩
  · omega
  · simp only [Value.slice.injEq] at e
    obtain ⟨rfl, _, rfl⟩ := e
    obtain ⟨v, e, hT⟩ := h.2 k hk
    obtain ⟨a, c, rfl, _⟩ := hT.steps
    have hc : ∀ j u, ((xs.drop (k * 3)).take 3)[j]? = some u → j < 3 → w.cell? ⟨g, k * 3 + j, none⟩ = some u := fun j u hu hj => by
      rw [List.getElem?_take, if_pos hj, List.getElem?_drop] at hu
      have := hO.cells (g := g) rfl _ _ hu
      rw [Addr.add_mid, Nat.zero_add] at this
      exact this
    rw [e] at hc
    exact ⟨g, cur, _, a, c, rfl, hg, hc 0 _ rfl (by decide), hc 1 _ rfl (by decide), hc 2 _ rfl (by decide), hT⟩


/-- The list that is being built, in a variable of its own. -/
structure PutSt (wc wr : World) (outb : Nat) (T : List NodeD) (m : Nat) (av : Option Addr) (cv : Nat) (xs : List Value) : Prop where
  kb : KeptBut outb (outb + 1) wc wr
  row : RowT wr outb 34 1
  cell : wr.cell? ⟨outb, 0, none⟩ = some (.slice av m cv)
  own : wr.ownsRow wc.heap.size 72 3 (.slice av m cv) m xs
  pack : PackedN wc xs (T.take m)

theorem PutSt.grown {wc wr W w6 : World} {outb m cv : Nat} {av : Option Addr} {xs : List Value} {T : List NodeD} (h : PutSt wc wr outb T m av cv xs) (KW : Kept wr W) (hgr : W.grownBy w6 (Value.slice av m cv).ownBlock) : Below wc.heap.size wr w6 :=
  have hz := h.kb.size
  have hW := KW.size
  (Below.mono KW (by omega)).trans (Below.grown (Below.refl _ _) hgr (by omega) (fun g hg => ((ownsRow_kept' h.own KW).lt g hg).1))

theorem PutSt.next {wc wr W w6 : World} {outb m cv cv6 : Nat} {av av6 : Option Addr} {xs : List Value} {T : List NodeD} {x : NodeD} {a2 : Option Addr} {ca2 : Nat} (h : PutSt wc wr outb T m av cv xs) (hol : outb < wc.heap.size) (KW : Kept wr W) (hgr : W.grownBy w6 (Value.slice av m cv).ownBlock)
    (hO6 : w6.ownsRow wc.heap.size 72 3 (.slice av6 (m + 1) cv6) (m + 1) (xs ++ [.string x.name, .int .i64 x.cost, .slice a2 x.steps.length ca2])) (hm : m < T.length) (hx : T.getD m NodeD.zero = x) (hTx : TSteps wc 108 9 122 (.slice a2 x.steps.length ca2) x.steps) :
    PutSt wc (w6.setCell ⟨outb, 0, none⟩ (.slice av6 (m + 1) cv6)) outb T (m + 1) av6 cv6 (xs ++ [.string x.name, .int .i64 x.cost, .slice a2 x.steps.length ca2]) := by
  have bl := h.grown KW hgr
  have hr6 : RowT w6 outb 34 1 := h.row.block (bl.block outb hol)
  refine ⟨(h.kb.below bl).setCell (Nat.le_refl _) (Nat.lt_succ_self _) _, hr6.set _, set_hit hr6.row (by omega) _, owns_set hO6 hol _, ?_⟩
  rw [take_snoc hm, hx]
  exact h.pack.snoc hTx

theorem PutSt.drewN {wc wr : World} {outb m cv : Nat} {av : Option Addr} {xs : List Value} {T : List NodeD} (h : PutSt wc wr outb T m av cv xs) (n : Nat) : PutSt wc (wr.drewN n) outb T m av cv xs :=
  ⟨⟨h.kb.os, h.kb.tape, h.kb.output, h.kb.size, h.kb.block⟩, h.row, h.cell, h.own, h.pack⟩

theorem PutSt.fin {w wc wn : World} {outb resb n cv : Nat} {av : Option Addr} {xs : List Value} {T l : List NodeD} {d : NodeD} (h : PutSt wc wn outb T n av cv xs) (hout : RowT wc outb 34 1) (hres : RowT wc resb 34 1) (hne : resb ≠ outb) (K : Kept w wc) (h1 : w.heap.size ≤ resb) (h2 : w.heap.size ≤ outb)
    (hn : T.length = n) (hT : T = putIn l d) (c1 : WebCode l 0) (c2 : NameOk d.name) (c3 : ActionOk ⟨d.cost, d.steps⟩) (c4 : n ≤ 60) :
    (wn.setCell ⟨resb, 0, none⟩ (.slice av n cv)).rangeAt resb 0 [.slice av n cv] ∧ PutEndS l d w (wn.setCell ⟨resb, 0, none⟩ (.slice av n cv)) (.returned (.tuple #[.agg #[.slice av n cv], .int .i64 0])) := by
  have hrw : RowT wn resb 34 1 := hres.block (h.kb.block resb hres.lt (by omega))
  have hO := owns_set h.own (p := ⟨resb, 0, none⟩) hres.lt (.slice av n cv)
  have hP := h.pack
  rw [List.take_of_length_le (by omega)] at hP
  have hP2 := (hP.same (SameKind.of_but h.kb hout) (by decide) (by decide) (by decide)).same (hrw.same (o := 0) (.slice av n cv)) (by decide) (by decide) (by decide)
  refine ⟨World.rangeAt_setCells_same wn resb 0 [.slice av n cv] (hrw.row.there (o := 0) (m := 1) (Nat.le_refl _)), ?_⟩
  subst hn
  exact ⟨av, cv, 0, T, xs, wc.heap.size, rfl, .inr (.inr (.inr ⟨c1, c2, c3, hT ▸ c4, rfl, hT⟩)), K.size, hO, hP2, (h.kb.kept K h2).setCell h1 _⟩

/-- What is known of the copy of the node, and that all else is as it was. -/
structure PutOne (W6 Wl : World) (d : NodeD) (oneb : Nat) (a2 : Option Addr) (ca2 : Nat) : Prop where
  kept : Kept W6 Wl
  ge : W6.heap.size ≤ oneb
  lt : oneb < Wl.heap.size
  name : Wl.cell? ⟨oneb, 0, none⟩ = some (.string d.name)
  cost : Wl.cell? ⟨oneb, 1, none⟩ = some (.int .i64 d.cost)
  steps : Wl.cell? ⟨oneb, 2, none⟩ = some (.slice a2 d.steps.length ca2)
  one : TSteps Wl 108 9 122 (.slice a2 d.steps.length ca2) d.steps
def PutCut (W6 : World) (d : NodeD) (s8 : Value) (Wl : World) : Prop := ∃ oneb a2 ca2, s8 = .pointer (some ⟨oneb, 0, none⟩) ∧ PutOne W6 Wl d oneb a2 ca2

end Go.Proofs.YtmdckapiljhfdaaGreat
