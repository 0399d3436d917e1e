import Derived.Test.YtfjbdapblmlneaaODrop2
import Derived.Test.YtfjbdapblmlneaaOSpec2
import Derived.Deep.RegionLaw
import Derived.Deep.CutRange
import Derived.Deep.QuietTactic
import Derived.BigQuiet

/-
  A NODE IS PUT INTO A LIST: plain lists, nothing of the dump.
-/
namespace Go.Proofs.Ytfjbdapblmlneaa
open Go.RowKit

def lessN (key : List UInt8) (d : NodeD) : Bool := Op.bytesLess d.name.toList key
def moreN (key : List UInt8) (d : NodeD) : Bool := Op.bytesLess key d.name.toList

/-- The list with a node: those ahead of it, it, those behind it. -/
def putIn (l : List NodeD) (d : NodeD) : List NodeD := l.filter (lessN d.name.toList) ++ d :: l.filter (moreN d.name.toList)

theorem less_asymm {x y : List UInt8} (h : Op.bytesLess x y = true) : Op.bytesLess y x = false := by
  cases h' : Op.bytesLess y x
  · rfl
  · have := less_trans _ _ _ h h'
    rw [less_irrefl] at this
    cases this

theorem nameAt_get {l : List NodeD} {j : Nat} (h : j < l.length) : nameAt l j = l[j].name.toList := by unfold nameAt; simp [List.getD, h]

theorem Place.less {l : List NodeD} {key : List UInt8} {p : Nat} (h : Place l key p) : l.filter (lessN key) = l.take p := by
  have h1 : (l.take p).filter (lessN key) = l.take p := List.filter_eq_self.2 fun d hd => by
    obtain ⟨i, hi, rfl⟩ := List.getElem_of_mem hd
    rw [List.length_take] at hi
    rw [List.getElem_take]
    have := h.before i (by omega)
    rw [nameAt_get (by omega)] at this
    exact this
  have h2 : (l.drop p).filter (lessN key) = [] := List.filter_eq_nil_iff.2 fun d hd => by
    obtain ⟨i, hi, rfl⟩ := List.getElem_of_mem hd
    rw [List.length_drop] at hi
    rw [List.getElem_drop]
    have := h.behind (p + i) (by omega) (by omega)
    rw [nameAt_get (by omega)] at this
    simp [lessN, this]
  conv => lhs; rw [← List.take_append_drop p l]
  rw [List.filter_append, h1, h2, List.append_nil]

theorem Place.ahead {l : List NodeD} {key : List UInt8} {p : Nat} (h : Place l key p) : (l.take p).filter (moreN key) = [] := List.filter_eq_nil_iff.2 fun d hd => by
  obtain ⟨i, hi, rfl⟩ := List.getElem_of_mem hd
  rw [List.length_take] at hi
  rw [List.getElem_take]
  have := h.before i (by omega)
  rw [nameAt_get (by omega)] at this
  simp [moreN, less_asymm this]

theorem Place.more {l : List NodeD} {key : List UInt8} {p : Nat} (_ : Rises l) (h : Place l key p) (hno : ∀ j, j < l.length → nameAt l j ≠ key) : l.filter (moreN key) = l.drop p := by
  have h2 : (l.drop p).filter (moreN key) = l.drop p := List.filter_eq_self.2 fun d hd => by
    obtain ⟨i, hi, rfl⟩ := List.getElem_of_mem hd
    rw [List.length_drop] at hi
    rw [List.getElem_drop]
    have h3 := h.behind (p + i) (by omega) (by omega)
    have h4 := hno (p + i) (by omega)
    rw [nameAt_get (by omega)] at h3 h4
    exact less_total _ _ h3 h4
  conv => lhs; rw [← List.take_append_drop p l]
  rw [List.filter_append, h.ahead, h2, List.nil_append]

theorem Place.more_at {l : List NodeD} {key : List UInt8} {p : Nat} (hr : Rises l) (h : Place l key p) (hp : p < l.length) (e : nameAt l p = key) : l.filter (moreN key) = l.drop (p + 1) := by
  have h2 : (l.drop (p + 1)).filter (moreN key) = l.drop (p + 1) := List.filter_eq_self.2 fun d hd => by
    obtain ⟨i, hi, rfl⟩ := List.getElem_of_mem hd
    rw [List.length_drop] at hi
    rw [List.getElem_drop]
    have h3 := hr p (p + 1 + i) (by omega) (by omega)
    rw [e, nameAt_get (by omega)] at h3
    exact h3
  have h3 : l.drop p = l[p] :: l.drop (p + 1) := List.drop_eq_getElem_cons hp
  have h4 : moreN key l[p] = false := by
    rw [nameAt_get hp] at e
    simp [moreN, e, less_irrefl]
  conv => lhs; rw [← List.take_append_drop p l]
  rw [List.filter_append, h.ahead, h3, List.filter_cons_of_neg (by rw [h4]; simp), h2, List.nil_append]

theorem place_of {l : List NodeD} (key : List UInt8) (hr : Rises l) : ∃ p, Place l key p := by
  have : ∀ n, n ≤ l.length → ∃ p, p ≤ n ∧ (∀ j, j < p → Op.bytesLess (nameAt l j) key = true) ∧ ∀ j, p ≤ j → j < n → Op.bytesLess (nameAt l j) key = false := by
    intro n
    induction n with
    | zero => exact fun _ => ⟨0, Nat.le_refl _, fun j hj => absurd hj (Nat.not_lt_zero _), fun j _ hj => absurd hj (Nat.not_lt_zero _)⟩
    | succ n ih =>
      intro hn
      obtain ⟨p, hp, hb, hh⟩ := ih (by omega)
      by_cases e : p = n
      · subst e
        cases hq : Op.bytesLess (nameAt l p) key
        · refine ⟨p, by omega, hb, fun j h1 h2 => ?_⟩
          obtain rfl : j = p := by omega
          exact hq
        · refine ⟨p + 1, Nat.le_refl _, fun j hj => ?_, fun j h1 h2 => by omega⟩
          by_cases e : j = p
          · rw [e]; exact hq
          · exact hb j (by omega)
      · refine ⟨p, by omega, hb, fun j h1 h2 => ?_⟩
        by_cases e2 : j = n
        · subst e2
          cases hq : Op.bytesLess (nameAt l j) key
          · rfl
          · have h3 := hr p j (by omega) (by omega)
            have h4 := hh p (Nat.le_refl _) (by omega)
            rw [less_trans _ _ _ h3 hq] at h4
            cases h4
        · exact hh j h1 (by omega)
  obtain ⟨p, h1, h2, h3⟩ := this l.length (Nat.le_refl _)
  exact ⟨p, h1, h2, h3⟩

/-- All others: those ahead, those behind. -/
theorem filter_other {l : List NodeD} (key : List UInt8) (hr : Rises l) : l.filter (otherN key) = l.filter (lessN key) ++ l.filter (moreN key) := by
  obtain ⟨p, hp⟩ := place_of key hr
  by_cases h : p < l.length ∧ nameAt l p = key
  · rw [filter_cut hr h.1 h.2, hp.less, hp.more_at hr h.1 h.2]
    rfl
  · have hno : ∀ j, j < l.length → nameAt l j ≠ key := fun j hj e => by
      have := hp.only hr hj e
      subst this
      exact h ⟨hj, e⟩
    rw [hp.less, hp.more hr hno, List.take_append_drop]
    refine List.filter_eq_self.2 fun d hd => ?_
    obtain ⟨i, hi, rfl⟩ := List.getElem_of_mem hd
    have := hno i hi
    rw [nameAt_get hi] at this
    simpa [otherN] using this

theorem putIn_free {l : List NodeD} {d : NodeD} {p : Nat} (hr : Rises l) (h : Place l d.name.toList p) (hno : ¬ (p < l.length ∧ nameAt l p = d.name.toList)) : putIn l d = l.take p ++ d :: l.drop p := by
  have hno' : ∀ j, j < l.length → nameAt l j ≠ d.name.toList := fun j hj e => by
    have := h.only hr hj e
    subst this
    exact hno ⟨hj, e⟩
  unfold putIn
  rw [h.less, h.more hr hno']
theorem putIn_there {l : List NodeD} {d : NodeD} {p : Nat} (hr : Rises l) (h : Place l d.name.toList p) (hp : p < l.length) (e : nameAt l p = d.name.toList) : putIn l d = l.take p ++ d :: l.drop (p + 1) := by
  unfold putIn
  rw [h.less, h.more_at hr hp e]

/-- How many stand ahead. -/
def aheadN (l : List NodeD) (d : NodeD) : Nat := (l.filter (lessN d.name.toList)).length

theorem putIn_length {l : List NodeD} {d : NodeD} (hr : Rises l) : (putIn l d).length = (l.filter (otherN d.name.toList)).length + 1 := by
  rw [filter_other _ hr]
  simp [putIn]
  omega
theorem aheadN_le {l : List NodeD} {d : NodeD} (hr : Rises l) : aheadN l d ≤ (l.filter (otherN d.name.toList)).length := by
  rw [filter_other _ hr]
  simp [aheadN]
theorem putIn_at (l : List NodeD) (d : NodeD) : (putIn l d).getD (aheadN l d) NodeD.zero = d := by simp [putIn, aheadN, List.getD]
theorem putIn_len_le (l : List NodeD) (d : NodeD) (hr : Rises l) : (putIn l d).length ≤ l.length + 1 := by
  rw [putIn_length hr]
  have := List.length_filter_le (otherN d.name.toList) l
  omega
theorem putIn_mem {l : List NodeD} {d x : NodeD} (h : x ∈ putIn l d) : x = d ∨ x ∈ l := by
  simp only [putIn, List.mem_append, List.mem_cons, List.mem_filter] at h
  rcases h with h | h | h
  · exact .inr h.1
  · exact .inl h
  · exact .inr h.1
theorem putIn_sum (l : List NodeD) (d : NodeD) (hr : Rises l) (f : NodeD → Nat) : ((putIn l d).map f).sum ≤ (l.map f).sum + f d := by
  have h1 : ((l.filter (otherN d.name.toList)).map f).sum ≤ (l.map f).sum := by
    generalize otherN d.name.toList = g
    clear hr
    induction l with
    | nil => simp
    | cons x r ih =>
      rw [List.filter_cons]
      split
      · simp only [List.map_cons, List.sum_cons]; omega
      · simp only [List.map_cons, List.sum_cons]; omega
  rw [filter_other _ hr, List.map_append, List.sum_append] at h1
  simp only [putIn, List.map_append, List.map_cons, List.sum_append, List.sum_cons]
  omega

theorem take_snoc {l : List NodeD} {m : Nat} (h : m < l.length) : l.take (m + 1) = l.take m ++ [l.getD m NodeD.zero] := by
  rw [List.take_succ_eq_append_getElem h]
  simp [List.getD, h]

/-- What PutNode gives: a code, and the nodes. -/
def PutR (l : List NodeD) (d : NodeD) (c : Int) (r : List NodeD) : Prop :=
  (¬ WebCode l 0 ∧ c = 1 ∧ r = []) ∨ (WebCode l 0 ∧ (¬ NameOk d.name ∨ ¬ ActionOk ⟨d.cost, d.steps⟩) ∧ c = 2 ∧ r = []) ∨ (WebCode l 0 ∧ NameOk d.name ∧ ActionOk ⟨d.cost, d.steps⟩ ∧ 60 < (putIn l d).length ∧ c = 3 ∧ r = []) ∨
  (WebCode l 0 ∧ NameOk d.name ∧ ActionOk ⟨d.cost, d.steps⟩ ∧ (putIn l d).length ≤ 60 ∧ c = 0 ∧ r = putIn l d)

theorem PutR.unique {l : List NodeD} {d : NodeD} {c c' : Int} {r r' : List NodeD} (h : PutR l d c r) (h' : PutR l d c' r') : c = c' ∧ r = r' := by
  rcases h with ⟨h1, rfl, rfl⟩ | ⟨h1, h2, rfl, rfl⟩ | ⟨h1, h2, h3, h4, rfl, rfl⟩ | ⟨h1, h2, h3, h4, rfl, rfl⟩ <;>
    rcases h' with ⟨g1, rfl, rfl⟩ | ⟨g1, g2, rfl, rfl⟩ | ⟨g1, g2, g3, g4, rfl, rfl⟩ | ⟨g1, g2, g3, g4, rfl, rfl⟩
  · exact ⟨rfl, rfl⟩
  · exact absurd g1 h1
  · exact absurd g1 h1
  · exact absurd g1 h1
  · exact absurd h1 g1
  · exact ⟨rfl, rfl⟩
  · rcases h2 with h2 | h2
    · exact absurd g2 h2
    · exact absurd g3 h2
  · rcases h2 with h2 | h2
    · exact absurd g2 h2
    · exact absurd g3 h2
  · exact absurd h1 g1
  · rcases g2 with g2 | g2
    · exact absurd h2 g2
    · exact absurd h3 g2
  · exact ⟨rfl, rfl⟩
  · omega
  · exact absurd h1 g1
  · rcases g2 with g2 | g2
    · exact absurd h2 g2
    · exact absurd h3 g2
  · omega
  · exact ⟨rfl, rfl⟩
theorem PutR.mem {l r : List NodeD} {d : NodeD} {c : Int} (h : PutR l d c r) {x : NodeD} (hx : x ∈ r) : x = d ∨ x ∈ l := by
  rcases h with ⟨_, _, rfl⟩ | ⟨_, _, _, rfl⟩ | ⟨_, _, _, _, _, rfl⟩ | ⟨_, _, _, _, _, rfl⟩
  · cases hx
  · cases hx
  · cases hx
  · exact putIn_mem hx
theorem PutR.sum {l r : List NodeD} {d : NodeD} {c : Int} (h : PutR l d c r) (f : NodeD → Nat) : (r.map f).sum ≤ (l.map f).sum + f d := by
  rcases h with ⟨_, _, rfl⟩ | ⟨_, _, _, rfl⟩ | ⟨_, _, _, _, _, rfl⟩ | ⟨h, _, _, _, _, rfl⟩
  · simp
  · simp
  · simp
  · exact putIn_sum l d (rises_of_code h) f
theorem PutR.len {l r : List NodeD} {d : NodeD} {c : Int} (h : PutR l d c r) : r.length ≤ 60 := by
  rcases h with ⟨_, _, rfl⟩ | ⟨_, _, _, rfl⟩ | ⟨_, _, _, _, _, rfl⟩ | ⟨h, _, _, h2, _, rfl⟩
  · simp
  · simp
  · simp
  · exact h2

end Go.Proofs.Ytfjbdapblmlneaa

/-
  A ROW OF THREE CELLS, made and kept.
-/
namespace Go.Proofs.Ytfjbdapblmlneaa
open Go.RowKit

theorem boxCells3 {w wi : World} {x y z : Value} {t : TypeId} (K : Kept (w.alloc (.cells #[x, y, z] t)) wi) : wi.cell? ⟨w.heap.size, 0, none⟩ = some x ∧ wi.cell? ⟨w.heap.size, 1, none⟩ = some y ∧ wi.cell? ⟨w.heap.size, 2, none⟩ = some z := by
  refine ⟨?_, ?_, ?_⟩
  · rw [K.cell (by simp)]; simp
  · rw [K.cell (by simp)]; simp
  · rw [K.cell (by simp)]; simp

theorem Kept.un {X w' : World} (k : Kept X.drew w') : Kept X w' := Kept.trans ((Kept.refl _).drew) k
theorem rowAlloc {X w' : World} {c : Array Value} {t : TypeId} (k : Kept (X.alloc (.cells c t)) w') : RowT w' X.heap.size t c.size := (RowT.made X c t).kept k
theorem rowDrawn {X w' : World} {c : Array Value} {t : TypeId} (k : Kept (X.alloc (.cells c t)).drew w') : RowT w' X.heap.size t c.size := rowAlloc k.un
theorem RowT.keptUn {w w' : World} {b n : Nat} {t : TypeId} (h : RowT w b t n) (k : Kept w.drew w') : RowT w' b t n := h.kept k.un

end Go.Proofs.Ytfjbdapblmlneaa

/-
  THE WALK over spec.PutNode.
-/
namespace Go.Proofs.Ytfjbdapblmlneaa
open Go.RowKit

/-- What the specification's walk ends with. -/
def PutEndS (l : List NodeD) (d : NodeD) (w w' : World) (e : Ending) : Prop :=
  ∃ a cap c r xs base, e = .returned (.tuple #[.agg #[.slice a r.length cap], .int .i64 c]) ∧ PutR l d c r ∧ w.heap.size ≤ base ∧ w'.ownsRow base 60 3 (.slice a r.length cap) r.length xs ∧ PackedN w' xs r ∧ Kept w w'
theorem PutEndS.none {l : List NodeD} {d : NodeD} {w w' : World} {e : Ending} (c : Int) (he : e = .returned (.tuple #[.agg #[.slice none 0 0], .int .i64 c])) (h : PutR l d c []) (k : Kept w w') : PutEndS l d w w' e := ⟨Option.none, 0, c, [], [], _, he, h, Nat.le_refl _, World.ownsRow_nil _ _ _ _, PackedN.nil _, k⟩

/-- A store into a row of one kind leaves all of other kinds alone. -/
theorem SameKind.of_but {t : TypeId} {w w' : World} {b n : Nat} (h : KeptBut b (b + 1) w w') (hr : RowT w b t n) : SameKind t w w' := by
  intro x cur u fr hu hx
  rw [h.block x (heap_lt hx) ?_]
  · exact hx
  · obtain ⟨c, hc, _⟩ := hr
    by_cases e : x = b
    · subst e
      rw [hx] at hc
      simp only [Option.some.injEq, Obj.cells.injEq] at hc
      exact absurd hc.2.1 hu
    · omega

/-- The others, and the list with the node, element by element. -/
theorem other_get2 {l : List NodeD} {d : NodeD} (hr : Rises l) (k : Nat) (hk : k < (l.filter (otherN d.name.toList)).length) :
    (k < aheadN l d → Op.bytesLess ((l.filter (otherN d.name.toList)).getD k NodeD.zero).name.toList d.name.toList = true ∧ (putIn l d).getD k NodeD.zero = (l.filter (otherN d.name.toList)).getD k NodeD.zero) ∧
    (aheadN l d ≤ k → (Op.bytesLess ((l.filter (otherN d.name.toList)).getD k NodeD.zero).name.toList d.name.toList = false ∧ (((l.filter (otherN d.name.toList)).getD k NodeD.zero).name.toList == d.name.toList) = false) ∧ (putIn l d).getD (k + 1) NodeD.zero = (l.filter (otherN d.name.toList)).getD k NodeD.zero) := by
  rw [filter_other _ hr] at hk ⊢
  unfold putIn aheadN
  rw [List.length_append] at hk
  constructor
  · intro h
    have e1 : (l.filter (lessN d.name.toList) ++ l.filter (moreN d.name.toList)).getD k NodeD.zero = (l.filter (lessN d.name.toList))[k] := by simp [List.getD, List.getElem?_append_left h, h]
    rw [e1]
    refine ⟨?_, by simp [List.getD, List.getElem?_append_left h, h]⟩
    have := List.getElem_mem h
    exact (List.mem_filter.1 this).2
  · intro h
    have hlt : k - (l.filter (lessN d.name.toList)).length < (l.filter (moreN d.name.toList)).length := by omega
    have e1 : (l.filter (lessN d.name.toList) ++ l.filter (moreN d.name.toList)).getD k NodeD.zero = (l.filter (moreN d.name.toList))[k - (l.filter (lessN d.name.toList)).length] := by simp [List.getD, List.getElem?_append_right h, hlt]
    rw [e1]
    have hm : Op.bytesLess d.name.toList (l.filter (moreN d.name.toList))[k - (l.filter (lessN d.name.toList)).length].name.toList = true := (List.mem_filter.1 (List.getElem_mem hlt)).2
    refine ⟨⟨less_asymm hm, ?_⟩, ?_⟩
    · rw [beq_eq_false_iff_ne]
      intro e
      rw [e, less_irrefl] at hm
      cases hm
    have e2 : k + 1 - (l.filter (lessN d.name.toList)).length = (k - (l.filter (lessN d.name.toList)).length) + 1 := by omega
    simp [List.getD, List.getElem?_append_right (show (l.filter (lessN d.name.toList)).length ≤ k + 1 by omega), e2, hlt]

/-- The others. -/
def others (l : List NodeD) (d : NodeD) : List NodeD := l.filter (otherN d.name.toList)

/-- Element k of packed nodes. -/
theorem PackedN.at {w : World} {base : Nat} {ao : Option Addr} {n co : Nat} {xs : List Value} {l : List NodeD} (hO : w.ownsRow base 60 3 (.slice ao n co) n xs) (h : PackedN w xs l) {k : Nat} (hk : k < l.length) :
    ∃ g cur fr a c, ao = some ⟨g, 0, none⟩ ∧ w.heap[g]? = some (Obj.cells cur 60 fr) ∧ w.cell? ⟨g, k * 3, none⟩ = some (.string (l.getD k NodeD.zero).name) ∧ w.cell? ⟨g, k * 3 + 1, none⟩ = some (.int .i64 (l.getD k NodeD.zero).cost) ∧
      w.cell? ⟨g, k * 3 + 2, none⟩ = some (.slice a (l.getD k NodeD.zero).steps.length c) ∧ TSteps w 74 9 86 (.slice a (l.getD k NodeD.zero).steps.length c) (l.getD k NodeD.zero).steps := by
  have hn : n = l.length := by have q1 := hO.1; have q2 := h.1; omega
  rcases hO.2 with ⟨_, h0⟩ | ⟨g, cap, cur, e, hb, hg, hnc, _, _, _⟩
  · omega
  · simp only [Value.slice.injEq] at e
    obtain ⟨rfl, _, rfl⟩ := e
    obtain ⟨v, e, hT⟩ := h.2 k hk
    obtain ⟨a, c, rfl, _⟩ := hT.steps
    have hc : ∀ j u, ((xs.drop (k * 3)).take 3)[j]? = some u → j < 3 → w.cell? ⟨g, k * 3 + j, none⟩ = some u := fun j u hu hj => by
      rw [List.getElem?_take, if_pos hj, List.getElem?_drop] at hu
      have := hO.cells (g := g) rfl _ _ hu
      rw [Addr.add_mid, Nat.zero_add] at this
      exact this
    rw [e] at hc
    exact ⟨g, cur, _, a, c, rfl, hg, hc 0 _ rfl (by decide), hc 1 _ rfl (by decide), hc 2 _ rfl (by decide), hT⟩


/-- The list that is being built, in a variable of its own. -/
structure PutSt (wc wr : World) (outb : Nat) (T : List NodeD) (m : Nat) (av : Option Addr) (cv : Nat) (xs : List Value) : Prop where
  kb : KeptBut outb (outb + 1) wc wr
  row : RowT wr outb 50 1
  cell : wr.cell? ⟨outb, 0, none⟩ = some (.slice av m cv)
  own : wr.ownsRow wc.heap.size 60 3 (.slice av m cv) m xs
  pack : PackedN wc xs (T.take m)

theorem PutSt.grown {wc wr W w6 : World} {outb m cv : Nat} {av : Option Addr} {xs : List Value} {T : List NodeD} (h : PutSt wc wr outb T m av cv xs) (KW : Kept wr W) (hgr : W.grownBy w6 (Value.slice av m cv).ownBlock) : Below wc.heap.size wr w6 :=
  have hz := h.kb.size
  have hW := KW.size
  (Below.mono KW (by omega)).trans (Below.grown (Below.refl _ _) hgr (by omega) (fun g hg => ((ownsRow_kept' h.own KW).lt g hg).1))

theorem PutSt.next {wc wr W w6 : World} {outb m cv cv6 : Nat} {av av6 : Option Addr} {xs : List Value} {T : List NodeD} {x : NodeD} {a2 : Option Addr} {ca2 : Nat} (h : PutSt wc wr outb T m av cv xs) (hol : outb < wc.heap.size) (KW : Kept wr W) (hgr : W.grownBy w6 (Value.slice av m cv).ownBlock)
    (hO6 : w6.ownsRow wc.heap.size 60 3 (.slice av6 (m + 1) cv6) (m + 1) (xs ++ [.string x.name, .int .i64 x.cost, .slice a2 x.steps.length ca2])) (hm : m < T.length) (hx : T.getD m NodeD.zero = x) (hTx : TSteps wc 74 9 86 (.slice a2 x.steps.length ca2) x.steps) :
    PutSt wc (w6.setCell ⟨outb, 0, none⟩ (.slice av6 (m + 1) cv6)) outb T (m + 1) av6 cv6 (xs ++ [.string x.name, .int .i64 x.cost, .slice a2 x.steps.length ca2]) := by
  have bl := h.grown KW hgr
  have hr6 : RowT w6 outb 50 1 := h.row.block (bl.block outb hol)
  refine ⟨(h.kb.below bl).setCell (Nat.le_refl _) (Nat.lt_succ_self _) _, hr6.set _, set_hit hr6.row (by omega) _, owns_set hO6 hol _, ?_⟩
  rw [take_snoc hm, hx]
  exact h.pack.snoc hTx

theorem PutSt.drewN {wc wr : World} {outb m cv : Nat} {av : Option Addr} {xs : List Value} {T : List NodeD} (h : PutSt wc wr outb T m av cv xs) (n : Nat) : PutSt wc (wr.drewN n) outb T m av cv xs :=
  ⟨⟨h.kb.os, h.kb.tape, h.kb.output, h.kb.size, h.kb.block⟩, h.row, h.cell, h.own, h.pack⟩

theorem PutSt.fin {w wc wn : World} {outb resb n cv : Nat} {av : Option Addr} {xs : List Value} {T l : List NodeD} {d : NodeD} (h : PutSt wc wn outb T n av cv xs) (hout : RowT wc outb 50 1) (hres : RowT wc resb 50 1) (hne : resb ≠ outb) (K : Kept w wc) (h1 : w.heap.size ≤ resb) (h2 : w.heap.size ≤ outb)
    (hn : T.length = n) (hT : T = putIn l d) (c1 : WebCode l 0) (c2 : NameOk d.name) (c3 : ActionOk ⟨d.cost, d.steps⟩) (c4 : n ≤ 60) :
    (wn.setCell ⟨resb, 0, none⟩ (.slice av n cv)).rangeAt resb 0 [.slice av n cv] ∧ PutEndS l d w (wn.setCell ⟨resb, 0, none⟩ (.slice av n cv)) (.returned (.tuple #[.agg #[.slice av n cv], .int .i64 0])) := by
  have hrw : RowT wn resb 50 1 := hres.block (h.kb.block resb hres.lt (by omega))
  have hO := owns_set h.own (p := ⟨resb, 0, none⟩) hres.lt (.slice av n cv)
  have hP := h.pack
  rw [List.take_of_length_le (by omega)] at hP
  have hP2 := (hP.same (SameKind.of_but h.kb hout) (by decide) (by decide) (by decide)).same (hrw.same (o := 0) (.slice av n cv)) (by decide) (by decide) (by decide)
  refine ⟨World.rangeAt_setCells_same wn resb 0 [.slice av n cv] (hrw.row.there (o := 0) (m := 1) (Nat.le_refl _)), ?_⟩
  subst hn
  exact ⟨av, cv, 0, T, xs, wc.heap.size, rfl, .inr (.inr (.inr ⟨c1, c2, c3, hT ▸ c4, rfl, hT⟩)), K.size, hO, hP2, (h.kb.kept K h2).setCell h1 _⟩

/-- What is known of the copy of the node, and that all else is as it was. -/
structure PutOne (W6 Wl : World) (d : NodeD) (oneb : Nat) (a2 : Option Addr) (ca2 : Nat) : Prop where
  kept : Kept W6 Wl
  ge : W6.heap.size ≤ oneb
  lt : oneb < Wl.heap.size
  name : Wl.cell? ⟨oneb, 0, none⟩ = some (.string d.name)
  cost : Wl.cell? ⟨oneb, 1, none⟩ = some (.int .i64 d.cost)
  steps : Wl.cell? ⟨oneb, 2, none⟩ = some (.slice a2 d.steps.length ca2)
  one : TSteps Wl 74 9 86 (.slice a2 d.steps.length ca2) d.steps
def PutCut (W6 : World) (d : NodeD) (s8 : Value) (Wl : World) : Prop := ∃ oneb a2 ca2, s8 = .pointer (some ⟨oneb, 0, none⟩) ∧ PutOne W6 Wl d oneb a2 ca2

set_option maxRecDepth 100000 in
set_option maxHeartbeats 3200000 in
theorem specPut_any (hW : Hid L2WSaid) (w : World) (B cap : Nat) (l : List NodeD) (d : NodeD) (bA ca : Nat) (hl : l.length ≤ 1048576) (hf : ∀ s ∈ l, s.Fits) (hs : ∀ d ∈ l, d.steps.length ≤ 1048576 ∧ ∀ s ∈ d.steps, s.asks.length ≤ 1048576 ∧ s.cases.length ≤ 1048576) (hdf : d.Fits) (hds : d.steps.length ≤ 1048576 ∧ ∀ s ∈ d.steps, s.asks.length ≤ 1048576 ∧ s.cases.length ≤ 1048576) (hS : NodesNew w B l) (hA : StepsNew w bA d.steps) :
    Calls Try.prog 25 #[.agg #[.slice (some ⟨B, 0, none⟩) l.length cap], .agg #[.string d.name, .int .i64 d.cost, .slice (some ⟨bA, 0, none⟩) d.steps.length ca]] w fun e w' => PutEndS l d w w' e := by
  have hl' : l.length ≤ maxLen := by unfold maxLen; omega
  go_enter Try.func25, Try.ntmps25
  go_wp2_with fail
  refine (specCheckWeb_any _ (some ⟨B, 0, none⟩) cap l hl' hf (hS.nodes.kept (by repeat (first | apply Kept.alloc | exact Kept.refl _)))).mono ?_
  rintro e w1 ⟨⟨c, rfl, hc⟩, k1⟩
  have K1 : Kept w w1 := Kept.trans (by repeat (first | apply Kept.alloc | exact Kept.refl _)) k1
  have z1 := k1.size
  simp only [World.size_alloc] at z1
  have q0 := boxCell (w := w) (Kept.trans (((Kept.refl _).alloc _).alloc _) k1)
  have nn := boxCells3 (w := w.alloc (.cells #[.slice (some ⟨B, 0, none⟩) l.length cap] 50)) (Kept.trans ((Kept.refl _).alloc _) k1)
  simp only [World.size_alloc] at nn
  obtain ⟨n0, n1, n2⟩ := nn
  have hrow1 : RowT w1 (w.heap.size + 2) 50 1 := RowT.kept (by have := RowT.made ((w.alloc (.cells #[.slice (some ⟨B, 0, none⟩) l.length cap] 50)).alloc (.cells #[.string d.name, .int .i64 d.cost, .slice (some ⟨bA, 0, none⟩) d.steps.length ca] 60)) #[.slice none 0 0] 50; simpa using this) k1
  obtain ⟨⟨_, x0⟩, g0⟩ := hrow1.row.at (i := 0) (by omega)
  have HR1 := hide hrow1
  have HC := hide hc
  clear hrow1 hc k1
  by_cases hc0 : c = 0
  · subst hc0
    have hw1 : w.heap.size < w1.heap.size := by omega
    have hw2 : w.heap.size + 1 < w1.heap.size := by omega
    have hw3 : w.heap.size + 2 < w1.heap.size := by omega
    go_wp2_with fail
    refine (l1NameOk_any _ d.name hdf.name).mono ?_
    rintro e w2 ⟨hsay, rfl⟩
    rcases hsay.cases with ⟨rfl, hyes⟩ | ⟨rfl, hno⟩
    · have HY := hide hyes
      clear hyes hsay
      go_wp2_with fail
      refine (specValidAction_any _ d.cost (some ⟨bA, 0, none⟩) ca d.steps hdf.steps hdf.each (hA.steps.kept K1)).mono ?_
      rintro e w3 ⟨hsay, k3⟩
      have q3 := (k3.cell (o := 0) hw1).trans q0
      have p0 := (k3.cell (o := 0) hw2).trans n0
      have p1 := (k3.cell (o := 1) hw2).trans n1
      have p2 := (k3.cell (o := 2) hw2).trans n2
      have HR3 := hide (HR1.out.kept k3)
      have K3 := K1.trans k3
      have z3 := k3.size
      obtain ⟨⟨_, y0⟩, e0⟩ := HR3.out.row.at (i := 0) (by omega)
      clear q0 n0 n1 n2 x0 g0 HR1 K1 k3
      rcases hsay.cases with ⟨rfl, hyes⟩ | ⟨rfl, hno⟩
      · have HM := hide hyes
        clear hyes hsay
        have hu1 : w.heap.size < w3.heap.size := by omega
        have hu2 : w.heap.size + 1 < w3.heap.size := by omega
        have hu3 : w.heap.size + 2 < w3.heap.size := by omega
        have hrise := hide (rises_of_code HC.out)
        go_wp2_with fail
        refine (unhide hW _ B cap l d.name hl hs (hS.kept K3)).mono ?_
        rintro e w4 ⟨a4, c4, xs4, base4, rfl, hba, hO4, hN4, k4⟩
        obtain ⟨old, hold⟩ : ∃ old, old = others l d := ⟨_, rfl⟩
        rw [show l.filter (otherN d.name.toList) = old from hold.symm] at hO4 hN4 ⊢
        have hol : old.length ≤ l.length := by rw [hold]; exact List.length_filter_le _ _
        have HOld := hide hold
        have HO4 := hide hO4
        have HN4 := hide hN4
        have K4 := K3.trans k4
        have q4 := (k4.cell (o := 0) hu1).trans q3
        have r0 := (k4.cell (o := 0) hu2).trans p0
        have r1 := (k4.cell (o := 1) hu2).trans p1
        have r2 := (k4.cell (o := 2) hu2).trans p2
        have HR4 := hide (HR3.out.kept k4)
        have z4 := k4.size
        obtain ⟨⟨_, v0⟩, u0⟩ := HR4.out.row.at (i := 0) (by omega)
        clear hold hO4 hN4 q3 p0 p1 p2 y0 e0 HR3 K3 k4
        have hz1 : w.heap.size < w4.heap.size := by omega
        have hz2 : w.heap.size + 1 < w4.heap.size := by omega
        have hz3 : w.heap.size + 2 < w4.heap.size := by omega
        by_cases hlong : 60 ≤ old.length
        · have hlong' : (60 : Int) ≤ (old.length : Int) := by omega
          go_wp2
          have hR1 := World.rangeAt_setCells_same w4 (w.heap.size + 2) 0 [.slice none 0 0] (HR4.out.row.there (o := 0) (m := 1) (Nat.le_refl _))
          have hR0 : ((w4.setCell ⟨w.heap.size + 2, 0, none⟩ (.slice none 0 0)).alloc (.cells #[.slice a4 old.length c4] 50)).rangeAt (w.heap.size + 2) 0 [.slice none 0 0] := Kept.range ((Kept.refl _).alloc _) (by rw [size_setCell]; omega) hR1
          refine bodyPost_ret_cell2 [.slice none 0 0] _ (.int .i64 3) Try.results25 rfl hR0 Try.underlying50 rfl Try.sizeWeb rfl rfl (PutEndS.none 3 rfl (.inr (.inr (.inl ⟨HC.out, HY.out, HM.out, ?_, rfl, rfl⟩))) ?_)
          · rw [putIn_length hrise.out, show l.filter (otherN d.name.toList) = old from HOld.out.symm]
            omega
          · exact (K4.setCell (by simp <;> omega) _).alloc _
        · have hlong' : ¬ (60 : Int) ≤ (old.length : Int) := by omega
          have HSO : Hid (∀ w', Kept ((w4.alloc (.cells #[.slice a4 old.length c4] 50)).alloc (.cells #[.slice none 0 0] 50)) w' → (fun w' => w'.cell? ⟨w.heap.size + 1, 0, none⟩ = some (.string d.name) ∧ w'.cell? ⟨w.heap.size + 1, 1, none⟩ = some (.int .i64 d.cost) ∧ w'.cell? ⟨w.heap.size + 1, 2, none⟩ = some (.slice (some ⟨bA, 0, none⟩) d.steps.length ca)) w') := fun w' kk => by
            have k5 : Kept w4 w' := Kept.trans (((Kept.refl _).alloc _).alloc _) kk
            exact ⟨(k5.cell hz2).trans r0, (k5.cell hz2).trans r1, (k5.cell hz2).trans r2⟩
          have KA : Kept w ((w4.alloc (.cells #[.slice a4 old.length c4] 50)).alloc (.cells #[.slice none 0 0] 50)) := (K4.alloc _).alloc _
          go_upto_region 9 with fail
          go_cut [8] from 36 to 41 (fun s8 wx => PutCut ((w4.alloc (.cells #[.slice a4 old.length c4] 50)).alloc (.cells #[.slice none 0 0] 50)) d s8 wx)
          case first =>
            go_region_held (fun w' => w'.cell? ⟨w.heap.size + 1, 0, none⟩ = some (.string d.name) ∧ w'.cell? ⟨w.heap.size + 1, 1, none⟩ = some (.int .i64 d.cost) ∧ w'.cell? ⟨w.heap.size + 1, 2, none⟩ = some (.slice (some ⟨bA, 0, none⟩) d.steps.length ca)) (exact unhide HSO _ (by repeat (first | (refine Kept.setCell ?_ (by simp <;> omega) _) | (with_reducible exact Kept.refl _) | (with_reducible assumption) | apply Kept.drew | apply Kept.alloc))) ((go_at_call 55; refine (l1Copy_lit _ d.cost bA ca d.steps hds.1 hds.2 (hA.kept (KA.trans (by repeat (first | (with_reducible exact Kept.refl _) | (with_reducible assumption) | apply Kept.drew | apply Kept.alloc))))).mono ?_; rintro e w7 ⟨a2, ca2, rfl, hT2, kk7⟩; have k7 : Kept ((w4.alloc (.cells #[.slice a4 old.length c4] 50)).alloc (.cells #[.slice none 0 0] 50)) w7 := Kept.trans (by repeat (first | (with_reducible exact Kept.refl _) | (with_reducible assumption) | apply Kept.drew | apply Kept.alloc)) kk7; have HT2 := hide hT2; clear hT2; (first | (have hrT := rowDrawn (t := 60) (c := #[.string ⟨#[]⟩, .int .i64 0, .slice none 0 0]) kk7; simp only [World.size_alloc] at hrT; have HRT := hide hrT; obtain ⟨⟨_, t0⟩, f0⟩ := hrT.row.at (i := 0) (by decide); obtain ⟨⟨_, t1⟩, f1⟩ := hrT.row.at (i := 1) (by decide); obtain ⟨⟨_, t2⟩, f2⟩ := hrT.row.at (i := 2) (by decide); clear hrT) | skip)))
            · go_wp2_with fail
              go_meet
              refine ⟨w7.heap.size, a2, ca2, rfl, k7.alloc _, k7.size, by simp, by simp, by simp, by simp, ?_⟩
              exact HT2.out.same (u := 60) (.of_kept ((Kept.refl _).alloc _)) (by decide) (by decide) (by decide)
            · go_wp2_with fail
              go_meet
              have hR := World.rangeAt_setCells_same w7 (w4.heap.size + 1 + 1) 0 [.string d.name, .int .i64 d.cost, .slice a2 d.steps.length ca2] (HRT.out.row.there (o := 0) (m := 3) (Nat.le_refl _))
              refine ⟨w4.heap.size + 1 + 1, a2, ca2, rfl, ((k7.setCell (by simp) _).setCell (by simp) _).setCell (by simp) _, by simp, by simp only [size_setCell]; exact HRT.out.lt, hR 0 _ rfl, hR 1 _ rfl, hR 2 _ rfl, ?_⟩
              exact HT2.out.same (((HRT.out.same _).trans ((HRT.out.set _).same _)).trans (((HRT.out.set _).set _).same _)) (by decide) (by decide) (by decide)
          case rest =>
            obtain ⟨oneb, a2, ca2, rfl, hOne⟩ := hcut
            have kw4 : Kept w4 wc := Kept.trans (((Kept.refl _).alloc _).alloc _) hOne.kept
            have zc := hOne.kept.size
            have zo := hOne.ge
            simp only [World.size_alloc] at zc zo
            have co := boxCell (w := w4) (Kept.trans ((Kept.refl _).alloc _) hOne.kept)
            have cu := boxCell (w := w4.alloc (.cells #[.slice a4 old.length c4] 50)) hOne.kept
            simp only [World.size_alloc] at cu
            have cn := (kw4.cell (o := 0) hz2).trans r0
            have hro := rowAlloc (X := w4.alloc (.cells #[.slice a4 old.length c4] 50)) hOne.kept
            simp only [World.size_alloc] at hro
            have HOut : Hid (RowT wc (w4.heap.size + 1) 50 1) := hro
            have HRes := hide (HR4.out.kept kw4)
            have HO5 := hide (ownsRow_kept' HO4.out kw4)
            have HN5 := hide (HN4.out.same (SameKind.of_kept (t := 60) kw4) (by decide) (by decide) (by decide))
            have HOne := hide hOne
            obtain ⟨T, hT⟩ : ∃ T, T = putIn l d := ⟨_, rfl⟩
            obtain ⟨ah, hah⟩ : ∃ ah, ah = aheadN l d := ⟨_, rfl⟩
            have hoo : l.filter (otherN d.name.toList) = old := HOld.out.symm
            have HTl : Hid (T.length = old.length + 1) := by rw [hT, ← hoo]; exact putIn_length hrise.out
            have hah2 : ah ≤ old.length := by rw [hah, ← hoo]; exact aheadN_le hrise.out
            have HAt : Hid (T.getD ah NodeD.zero = d) := by rw [hT, hah]; exact putIn_at l d
            have HGet : Hid (∀ k, k < old.length → (k < ah → Op.bytesLess (old.getD k NodeD.zero).name.toList d.name.toList = true ∧ T.getD k NodeD.zero = old.getD k NodeD.zero) ∧ (ah ≤ k → (Op.bytesLess (old.getD k NodeD.zero).name.toList d.name.toList = false ∧ ((old.getD k NodeD.zero).name.toList == d.name.toList) = false) ∧ T.getD (k + 1) NodeD.zero = old.getD k NodeD.zero)) := by
              rw [hT, hah, ← hoo]
              exact fun k hk => other_get2 hrise.out k hk
            have HT := hide hT
            clear hT hah hoo hOne hro HO4 HN4 HR4 v0 u0 q4 HSO KA
            have K5 := K4.trans kw4
            go_wp2
            go_loopw [9, 10] (fun dn i wr => ∃ (k m : Nat) (av : Option Addr) (cv : Nat) (xs : List Value), k ≤ old.length ∧ i = .int .i64 k ∧ ((dn = .bool true ∧ ah < k ∧ m = k + 1) ∨ (dn = .bool false ∧ k ≤ ah ∧ m = k)) ∧ PutSt wc wr (w4.heap.size + 1) T m av cv xs) (fun _ i _ => old.length - (intOf i).toNat)
            case atStart => exact ⟨0, 0, none, 0, [], Nat.zero_le _, rfl, .inr ⟨rfl, Nat.zero_le _, rfl⟩, KeptBut.refl _ _ _, HOut.out, cu, World.ownsRow_nil _ _ _ _, PackedN.nil _⟩
            case round =>
              obtain ⟨k, m, av, cv, xs, hk, rfl, hdn, hSt0⟩ := hrel
              have hsk := hide (SameKind.of_but hSt0.kb HOut.out)
              have zr := hSt0.kb.size
              have ks1 := hSt0.kb.same (l2 := 0) (h2 := w4.heap.size + 1) (by omega)
              have ks2 := hSt0.kb.same (l2 := w4.heap.size + 1 + 1) (h2 := wc.heap.size) (by omega)
              have eo := (ks1.cell (o := 0) (Nat.zero_le _) (by omega : w4.heap.size < w4.heap.size + 1) (by omega)).trans co
              have en := (ks1.cell (o := 0) (Nat.zero_le _) (by omega : w.heap.size + 1 < w4.heap.size + 1) (by omega)).trans cn
              have e1 := (ks2.cell (o := 0) zo HOne.out.lt HOne.out.lt).trans HOne.out.name
              have e2 := (ks2.cell (o := 1) zo HOne.out.lt HOne.out.lt).trans HOne.out.cost
              have e3 := (ks2.cell (o := 2) zo HOne.out.lt HOne.out.lt).trans HOne.out.steps
              have ol := HOne.out.lt
              have eu := hSt0.cell
              obtain ⟨⟨_, eu1⟩, eu2⟩ := hSt0.row.row.at (i := 0) (by omega)
              have HSt0 := hide hSt0
              clear hSt0 ks1 ks2 eu1
              have hb1 : w4.heap.size + 1 < wr.heap.size := by omega
              have hb0 : w4.heap.size < wr.heap.size := by omega
              have hbo : oneb < wr.heap.size := by omega
              have hbn : w.heap.size + 1 < wr.heap.size := by omega
              by_cases hlt : k < old.length
              · obtain ⟨g, cur, fr, a3, c3, rfl, hg, c0, c1, c2, hTx⟩ := PackedN.at HO5.out HN5.out hlt
                have hgr := hsk.out g cur _ fr (by decide) hg
                have hgl := heap_lt hgr
                have HG := hide (HGet.out k hlt)
                obtain ⟨x, hx⟩ : ∃ x, x = old.getD k NodeD.zero := ⟨_, rfl⟩
                rw [← hx] at c0 c1 c2 hTx HG
                have C0 := hide (And.intro c0 (And.intro c1 c2))
                have D0 : Hid (wr.cell? ⟨g, k * 3, none⟩ = some (.string x.name)) := by show _ = _; rw [World.cell?_of_block (hgr.trans hg.symm)]; exact c0
                have d0 := D0.out
                have i0 : (k : Int) < (old.length : Int) := by omega
                have HTx := hide hTx
                clear hx hTx c0 c1 c2 hgr
                rcases hdn with ⟨rfl, hka, hm⟩ | ⟨rfl, hka, hm'⟩
                · subst hm
                  have HX2 := hide (HG.out.2 (by omega)).2
                  go_wp2
                  go_quiet (fail)
                  obtain ⟨wq, hwq⟩ : ∃ wq, wq = wr.drewN nq := ⟨_, rfl⟩
                  rw [← hwq]
                  have hSt : PutSt wc wq (w4.heap.size + 1) T (k + 1) av cv xs := by rw [hwq]; exact HSt0.out.drewN nq
                  clear hwq eo en e1 e2 e3 eu eu2 d0
                  have sk2 := SameKind.of_but hSt.kb HOut.out
                  have hgq := sk2 g cur _ fr (by decide) hg
                  have ksq := hSt.kb.same (l2 := 0) (h2 := w4.heap.size + 1) (by omega)
                  have f0 := (ksq.cell (o := 0) (Nat.zero_le _) (by omega : w4.heap.size < w4.heap.size + 1) (by omega)).trans co
                  have c0 : wq.cell? ⟨g, k * 3, none⟩ = some (.string x.name) := by rw [World.cell?_of_block (hgq.trans hg.symm)]; exact C0.out.1
                  have c1 : wq.cell? ⟨g, k * 3 + 1, none⟩ = some (.int .i64 x.cost) := by rw [World.cell?_of_block (hgq.trans hg.symm)]; exact C0.out.2.1
                  have c2 : wq.cell? ⟨g, k * 3 + 2, none⟩ = some (.slice a3 x.steps.length c3) := by rw [World.cell?_of_block (hgq.trans hg.symm)]; exact C0.out.2.2
                  have f1 := hSt.cell
                  have zq := hSt.kb.size
                  have HSt := hide hSt
                  have gl := heap_lt hg
                  have hb1 : w4.heap.size + 1 < wq.heap.size := by omega
                  have hb0 : w4.heap.size < wq.heap.size := by omega
                  have hbg : g < wq.heap.size := by omega
                  have HSO : Hid (∀ w', Below wc.heap.size wq w' → (fun w' => w'.cell? ⟨w4.heap.size + 1, 0, none⟩ = some (.slice av (k + 1) cv) ∧ w'.cell? ⟨w4.heap.size, 0, none⟩ = some (.slice (some ⟨g, 0, none⟩) old.length c4) ∧ w'.cell? ⟨g, k * 3, none⟩ = some (.string x.name) ∧ w'.cell? ⟨g, k * 3 + 1, none⟩ = some (.int .i64 x.cost) ∧ w'.cell? ⟨g, k * 3 + 2, none⟩ = some (.slice a3 x.steps.length c3)) w') := fun w' bl => ⟨(Below.cell bl (p := ⟨w4.heap.size + 1, 0, none⟩) (by simp <;> omega)).trans f1, (Below.cell bl (p := ⟨w4.heap.size, 0, none⟩) (by simp <;> omega)).trans f0, (Below.cell bl (p := ⟨g, k * 3, none⟩) (by simp <;> omega)).trans c0, (Below.cell bl (p := ⟨g, k * 3 + 1, none⟩) (by simp <;> omega)).trans c1, (Below.cell bl (p := ⟨g, k * 3 + 2, none⟩) (by simp <;> omega)).trans c2⟩
                  clear hSt sk2 hgq ksq
                  obtain ⟨ino, hn0, hn1, hn2, hn3⟩ := info_parts Try.infoNode
                  go_wp2
                  refine UpTo.region (by kernel_rfl) (fun w' => w'.cell? ⟨w4.heap.size + 1, 0, none⟩ = some (.slice av (k + 1) cv) ∧ w'.cell? ⟨w4.heap.size, 0, none⟩ = some (.slice (some ⟨g, 0, none⟩) old.length c4) ∧ w'.cell? ⟨g, k * 3, none⟩ = some (.string x.name) ∧ w'.cell? ⟨g, k * 3 + 1, none⟩ = some (.int .i64 x.cost) ∧ w'.cell? ⟨g, k * 3 + 2, none⟩ = some (.slice a3 x.steps.length c3)) 10 ⟨f1, f0, c0, c1, c2⟩ (fun hHeld => ?_)
                  refine UpTo.take 0 [1, 8, 10] (v := ?_) (by (simp only [List.getElem?_toArray, List.getElem?_cons_zero]; rfl)) (by kernel_rfl) (by kernel_rfl) (by kernel_rfl) (by kernel_rfl) (by exact fun _ _ _ h => h) (Or.inl ⟨by rfl, ?_⟩) hHeld ?_
                  rotate_left
                  · intro u hu
                    try dsimp only at hu
                    go_simp
                    try with_reducible rfl
                  try simp only [Act.put, List.setIfInBounds_toArray, List.set_cons_zero, List.set_cons_succ]
                  refine UpTo.take 1 [8, 10] (v := ?_) (by (simp only [List.getElem?_toArray, List.getElem?_cons_succ, List.getElem?_cons_zero]; rfl)) (by kernel_rfl) (by kernel_rfl) (by kernel_rfl) (by kernel_rfl) (by exact fun _ _ _ h => h) (Or.inl ⟨by rfl, ?_⟩) hHeld ?_
                  rotate_left
                  · intro u hu
                    try dsimp only at hu
                    go_simp
                    try with_reducible rfl
                  try simp only [Act.put, List.setIfInBounds_toArray, List.set_cons_zero, List.set_cons_succ]
                  refine UpTo.take 2 [3, 5, 6, 7, 8, 10] (v := ?_) (by (simp only [List.getElem?_toArray, List.getElem?_cons_succ, List.getElem?_cons_zero]; rfl)) (by kernel_rfl) (by kernel_rfl) (by kernel_rfl) (by kernel_rfl) (by exact fun _ _ _ h => h) (Or.inl ⟨by rfl, ?_⟩) hHeld ?_
                  rotate_left
                  · intro u hu
                    try dsimp only at hu
                    go_simp
                    try with_reducible rfl
                  try simp only [Act.put, List.setIfInBounds_toArray, List.set_cons_zero, List.set_cons_succ]
                  refine UpTo.take 3 [5, 6, 7, 8, 10] (v := ?_) (by (simp only [List.getElem?_toArray, List.getElem?_cons_succ, List.getElem?_cons_zero]; rfl)) (by kernel_rfl) (by kernel_rfl) (by kernel_rfl) (by kernel_rfl) (by exact fun _ _ _ h => h) (Or.inl ⟨by rfl, ?_⟩) hHeld ?_
                  rotate_left
                  · intro u hu
                    try dsimp only at hu
                    go_simp
                    try with_reducible rfl
                  try simp only [Act.put, List.setIfInBounds_toArray, List.set_cons_zero, List.set_cons_succ]
                  refine UpTo.take 4 [5, 6, 7, 8, 10] (v := ?_) (by (simp only [List.getElem?_toArray, List.getElem?_cons_succ, List.getElem?_cons_zero]; rfl)) (by kernel_rfl) (by kernel_rfl) (by kernel_rfl) (by kernel_rfl) (by exact fun _ _ _ h => h) (Or.inl ⟨by rfl, ?_⟩) hHeld ?_
                  rotate_left
                  · intro u hu
                    try dsimp only at hu
                    go_simp
                    try with_reducible rfl
                  try simp only [Act.put, List.setIfInBounds_toArray, List.set_cons_zero, List.set_cons_succ]
                  refine UpTo.take 5 [6, 7, 8, 10] (v := ?_) (by (simp only [List.getElem?_toArray, List.getElem?_cons_succ, List.getElem?_cons_zero]; rfl)) (by kernel_rfl) (by kernel_rfl) (by kernel_rfl) (by kernel_rfl) (by exact fun _ _ _ h => h) (Or.inl ⟨by rfl, ?_⟩) hHeld ?_
                  rotate_left
                  · intro u hu
                    try dsimp only at hu
                    go_simp
                    try with_reducible rfl
                  try simp only [Act.put, List.setIfInBounds_toArray, List.set_cons_zero, List.set_cons_succ]
                  refine UpTo.take 6 [7, 8, 10] (v := ?_) (by (simp only [List.getElem?_toArray, List.getElem?_cons_succ, List.getElem?_cons_zero]; rfl)) (by kernel_rfl) (by kernel_rfl) (by kernel_rfl) (by kernel_rfl) (by exact fun _ _ _ h => h) (Or.inl ⟨by rfl, ?_⟩) hHeld ?_
                  rotate_left
                  · intro u hu
                    try dsimp only at hu
                    go_simp
                    try with_reducible rfl
                  try simp only [Act.put, List.setIfInBounds_toArray, List.set_cons_zero, List.set_cons_succ]
                  refine UpTo.next 7 (by kernel_rfl) (by (simp only [List.getElem?_toArray, List.getElem?_cons_succ, List.getElem?_cons_zero]; rfl)) (fun K hK => ?_)
                  go_simp
                  have KW : Kept wq (wq.alloc (.cells #[.string x.name, .int .i64 x.cost, .slice a3 x.steps.length c3] 60)).drew := ((Kept.refl _).alloc _).drew
                  refine hK.out _ _ (fun _ => HSO.out _ (Below.mono KW (by omega))) ?_
                  clear hK K hHeld
                  try simp only [Act.put, List.setIfInBounds_toArray, List.set_cons_zero, List.set_cons_succ]
                  refine UpTo.next 8 (by kernel_rfl) (by (simp only [List.getElem?_toArray, List.getElem?_cons_succ, List.getElem?_cons_zero]; rfl)) (fun K hK => ?_)
                  refine step_append_lies _ rfl (.tmp 69) (.tmp 75) 48 rfl wc.heap.size 60 ino _ 3 48 Try.underlying48 hn0 hn1 hn2 hn3 rfl (by decide) (.slice av (k + 1) cv) (k + 1) xs (by simp [Act.eval]) (ownsRow_kept' HSt.out.own KW) ⟨wq.heap.size, 0, none⟩ 1 1 [.string x.name, .int .i64 x.cost, .slice a3 x.steps.length c3] (by simp [Act.eval]) rfl (fun j u hu => by rw [Addr.add_mid]; exact range_new wq #[.string x.name, .int .i64 x.cost, .slice a3 x.steps.length c3] 60 j u (by simpa using hu)) (node_one x a3 c3) (by omega) (by unfold maxLen; omega) (by omega) (by simp; omega) _ rfl ?_
                  intro g6 cap6 w8 hown8 hgr8 hat hlt8
                  have bl8 := HSt.out.grown KW hgr8
                  have hr8 : RowT w8 (w4.heap.size + 1) 50 1 := HSt.out.row.block (bl8.block _ (by omega))
                  obtain ⟨⟨_, fo2⟩, fo1⟩ := hr8.row.at (i := 0) (by omega)
                  have HO8 := hide hown8
                  have HGr := hide hgr8
                  clear hown8 hgr8 hat hr8
                  refine hK.out _ _ (fun _ => HSO.out _ bl8) ?_
                  clear hK K
                  try simp only [Act.put, List.setIfInBounds_toArray, List.set_cons_zero, List.set_cons_succ]
                  have hHeld := HSO.out _ bl8
                  refine UpTo.take 9 [10] (v := ?_) (by (simp only [List.getElem?_toArray, List.getElem?_cons_succ, List.getElem?_cons_zero]; rfl)) (by kernel_rfl) (by kernel_rfl) (by kernel_rfl) (by kernel_rfl) (by exact fun _ _ _ h => h) (Or.inl ⟨by rfl, ?_⟩) hHeld ?_
                  rotate_left
                  · intro u hu
                    try dsimp only at hu
                    go_simp
                    try with_reducible rfl
                  try simp only [Act.put, List.setIfInBounds_toArray, List.set_cons_zero, List.set_cons_succ]
                  refine UpTo.next 10 (by kernel_rfl) (by (simp only [List.getElem?_toArray, List.getElem?_cons_succ, List.getElem?_cons_zero]; rfl)) (fun K hK => ?_)
                  go_simp
                  refine hK.out _ _ (fun h => absurd rfl h) ?_
                  clear hK K
                  try simp only [Act.put, List.setIfInBounds_toArray, List.set_cons_zero, List.set_cons_succ]
                  refine UpTo.done (by kernel_rfl) ?_
                  go_wp2
                  go_roundw
                  case rel => exact ⟨k + 1, k + 1 + 1, _, cap6, _, by omega, by go_num, .inl ⟨rfl, by omega, by omega⟩, PutSt.next HSt.out (by omega) KW HGr.out HO8.out (by have := HTl.out; omega) HX2.out HTx.out⟩
                  case measure => simp [intOf]; omega
                · have hm := hm'.symm
                  subst hm
                  by_cases hkk : k < ah
                  · have hbl := (HG.out.1 hkk).1
                    have HX2 := hide (HG.out.1 hkk).2
                    go_wp2
                    go_quiet (fail)
                    obtain ⟨wq, hwq⟩ : ∃ wq, wq = wr.drewN nq := ⟨_, rfl⟩
                    rw [← hwq]
                    have hSt : PutSt wc wq (w4.heap.size + 1) T (k) av cv xs := by rw [hwq]; exact HSt0.out.drewN nq
                    clear hwq eo en e1 e2 e3 eu eu2 d0
                    have sk2 := SameKind.of_but hSt.kb HOut.out
                    have hgq := sk2 g cur _ fr (by decide) hg
                    have ksq := hSt.kb.same (l2 := 0) (h2 := w4.heap.size + 1) (by omega)
                    have f0 := (ksq.cell (o := 0) (Nat.zero_le _) (by omega : w4.heap.size < w4.heap.size + 1) (by omega)).trans co
                    have c0 : wq.cell? ⟨g, k * 3, none⟩ = some (.string x.name) := by rw [World.cell?_of_block (hgq.trans hg.symm)]; exact C0.out.1
                    have c1 : wq.cell? ⟨g, k * 3 + 1, none⟩ = some (.int .i64 x.cost) := by rw [World.cell?_of_block (hgq.trans hg.symm)]; exact C0.out.2.1
                    have c2 : wq.cell? ⟨g, k * 3 + 2, none⟩ = some (.slice a3 x.steps.length c3) := by rw [World.cell?_of_block (hgq.trans hg.symm)]; exact C0.out.2.2
                    have f1 := hSt.cell
                    have zq := hSt.kb.size
                    have HSt := hide hSt
                    have gl := heap_lt hg
                    have hb1 : w4.heap.size + 1 < wq.heap.size := by omega
                    have hb0 : w4.heap.size < wq.heap.size := by omega
                    have hbg : g < wq.heap.size := by omega
                    have HSO : Hid (∀ w', Below wc.heap.size wq w' → (fun w' => w'.cell? ⟨w4.heap.size + 1, 0, none⟩ = some (.slice av (k) cv) ∧ w'.cell? ⟨w4.heap.size, 0, none⟩ = some (.slice (some ⟨g, 0, none⟩) old.length c4) ∧ w'.cell? ⟨g, k * 3, none⟩ = some (.string x.name) ∧ w'.cell? ⟨g, k * 3 + 1, none⟩ = some (.int .i64 x.cost) ∧ w'.cell? ⟨g, k * 3 + 2, none⟩ = some (.slice a3 x.steps.length c3)) w') := fun w' bl => ⟨(Below.cell bl (p := ⟨w4.heap.size + 1, 0, none⟩) (by simp <;> omega)).trans f1, (Below.cell bl (p := ⟨w4.heap.size, 0, none⟩) (by simp <;> omega)).trans f0, (Below.cell bl (p := ⟨g, k * 3, none⟩) (by simp <;> omega)).trans c0, (Below.cell bl (p := ⟨g, k * 3 + 1, none⟩) (by simp <;> omega)).trans c1, (Below.cell bl (p := ⟨g, k * 3 + 2, none⟩) (by simp <;> omega)).trans c2⟩
                    clear hSt sk2 hgq ksq
                    obtain ⟨ino, hn0, hn1, hn2, hn3⟩ := info_parts Try.infoNode
                    go_wp2
                    refine UpTo.region (by kernel_rfl) (fun w' => w'.cell? ⟨w4.heap.size + 1, 0, none⟩ = some (.slice av (k) cv) ∧ w'.cell? ⟨w4.heap.size, 0, none⟩ = some (.slice (some ⟨g, 0, none⟩) old.length c4) ∧ w'.cell? ⟨g, k * 3, none⟩ = some (.string x.name) ∧ w'.cell? ⟨g, k * 3 + 1, none⟩ = some (.int .i64 x.cost) ∧ w'.cell? ⟨g, k * 3 + 2, none⟩ = some (.slice a3 x.steps.length c3)) 10 ⟨f1, f0, c0, c1, c2⟩ (fun hHeld => ?_)
                    refine UpTo.take 0 [1, 8, 10] (v := ?_) (by (simp only [List.getElem?_toArray, List.getElem?_cons_zero]; rfl)) (by kernel_rfl) (by kernel_rfl) (by kernel_rfl) (by kernel_rfl) (by exact fun _ _ _ h => h) (Or.inl ⟨by rfl, ?_⟩) hHeld ?_
                    rotate_left
                    · intro u hu
                      try dsimp only at hu
                      go_simp
                      try with_reducible rfl
                    try simp only [Act.put, List.setIfInBounds_toArray, List.set_cons_zero, List.set_cons_succ]
                    refine UpTo.take 1 [8, 10] (v := ?_) (by (simp only [List.getElem?_toArray, List.getElem?_cons_succ, List.getElem?_cons_zero]; rfl)) (by kernel_rfl) (by kernel_rfl) (by kernel_rfl) (by kernel_rfl) (by exact fun _ _ _ h => h) (Or.inl ⟨by rfl, ?_⟩) hHeld ?_
                    rotate_left
                    · intro u hu
                      try dsimp only at hu
                      go_simp
                      try with_reducible rfl
                    try simp only [Act.put, List.setIfInBounds_toArray, List.set_cons_zero, List.set_cons_succ]
                    refine UpTo.take 2 [3, 5, 6, 7, 8, 10] (v := ?_) (by (simp only [List.getElem?_toArray, List.getElem?_cons_succ, List.getElem?_cons_zero]; rfl)) (by kernel_rfl) (by kernel_rfl) (by kernel_rfl) (by kernel_rfl) (by exact fun _ _ _ h => h) (Or.inl ⟨by rfl, ?_⟩) hHeld ?_
                    rotate_left
                    · intro u hu
                      try dsimp only at hu
                      go_simp
                      try with_reducible rfl
                    try simp only [Act.put, List.setIfInBounds_toArray, List.set_cons_zero, List.set_cons_succ]
                    refine UpTo.take 3 [5, 6, 7, 8, 10] (v := ?_) (by (simp only [List.getElem?_toArray, List.getElem?_cons_succ, List.getElem?_cons_zero]; rfl)) (by kernel_rfl) (by kernel_rfl) (by kernel_rfl) (by kernel_rfl) (by exact fun _ _ _ h => h) (Or.inl ⟨by rfl, ?_⟩) hHeld ?_
                    rotate_left
                    · intro u hu
                      try dsimp only at hu
                      go_simp
                      try with_reducible rfl
                    try simp only [Act.put, List.setIfInBounds_toArray, List.set_cons_zero, List.set_cons_succ]
                    refine UpTo.take 4 [5, 6, 7, 8, 10] (v := ?_) (by (simp only [List.getElem?_toArray, List.getElem?_cons_succ, List.getElem?_cons_zero]; rfl)) (by kernel_rfl) (by kernel_rfl) (by kernel_rfl) (by kernel_rfl) (by exact fun _ _ _ h => h) (Or.inl ⟨by rfl, ?_⟩) hHeld ?_
                    rotate_left
                    · intro u hu
                      try dsimp only at hu
                      go_simp
                      try with_reducible rfl
                    try simp only [Act.put, List.setIfInBounds_toArray, List.set_cons_zero, List.set_cons_succ]
                    refine UpTo.take 5 [6, 7, 8, 10] (v := ?_) (by (simp only [List.getElem?_toArray, List.getElem?_cons_succ, List.getElem?_cons_zero]; rfl)) (by kernel_rfl) (by kernel_rfl) (by kernel_rfl) (by kernel_rfl) (by exact fun _ _ _ h => h) (Or.inl ⟨by rfl, ?_⟩) hHeld ?_
                    rotate_left
                    · intro u hu
                      try dsimp only at hu
                      go_simp
                      try with_reducible rfl
                    try simp only [Act.put, List.setIfInBounds_toArray, List.set_cons_zero, List.set_cons_succ]
                    refine UpTo.take 6 [7, 8, 10] (v := ?_) (by (simp only [List.getElem?_toArray, List.getElem?_cons_succ, List.getElem?_cons_zero]; rfl)) (by kernel_rfl) (by kernel_rfl) (by kernel_rfl) (by kernel_rfl) (by exact fun _ _ _ h => h) (Or.inl ⟨by rfl, ?_⟩) hHeld ?_
                    rotate_left
                    · intro u hu
                      try dsimp only at hu
                      go_simp
                      try with_reducible rfl
                    try simp only [Act.put, List.setIfInBounds_toArray, List.set_cons_zero, List.set_cons_succ]
                    refine UpTo.next 7 (by kernel_rfl) (by (simp only [List.getElem?_toArray, List.getElem?_cons_succ, List.getElem?_cons_zero]; rfl)) (fun K hK => ?_)
                    go_simp
                    have KW : Kept wq (wq.alloc (.cells #[.string x.name, .int .i64 x.cost, .slice a3 x.steps.length c3] 60)).drew := ((Kept.refl _).alloc _).drew
                    refine hK.out _ _ (fun _ => HSO.out _ (Below.mono KW (by omega))) ?_
                    clear hK K hHeld
                    try simp only [Act.put, List.setIfInBounds_toArray, List.set_cons_zero, List.set_cons_succ]
                    refine UpTo.next 8 (by kernel_rfl) (by (simp only [List.getElem?_toArray, List.getElem?_cons_succ, List.getElem?_cons_zero]; rfl)) (fun K hK => ?_)
                    refine step_append_lies _ rfl (.tmp 69) (.tmp 75) 48 rfl wc.heap.size 60 ino _ 3 48 Try.underlying48 hn0 hn1 hn2 hn3 rfl (by decide) (.slice av (k) cv) (k) xs (by simp [Act.eval]) (ownsRow_kept' HSt.out.own KW) ⟨wq.heap.size, 0, none⟩ 1 1 [.string x.name, .int .i64 x.cost, .slice a3 x.steps.length c3] (by simp [Act.eval]) rfl (fun j u hu => by rw [Addr.add_mid]; exact range_new wq #[.string x.name, .int .i64 x.cost, .slice a3 x.steps.length c3] 60 j u (by simpa using hu)) (node_one x a3 c3) (by omega) (by unfold maxLen; omega) (by omega) (by simp; omega) _ rfl ?_
                    intro g6 cap6 w8 hown8 hgr8 hat hlt8
                    have bl8 := HSt.out.grown KW hgr8
                    have hr8 : RowT w8 (w4.heap.size + 1) 50 1 := HSt.out.row.block (bl8.block _ (by omega))
                    obtain ⟨⟨_, fo2⟩, fo1⟩ := hr8.row.at (i := 0) (by omega)
                    have HO8 := hide hown8
                    have HGr := hide hgr8
                    clear hown8 hgr8 hat hr8
                    refine hK.out _ _ (fun _ => HSO.out _ bl8) ?_
                    clear hK K
                    try simp only [Act.put, List.setIfInBounds_toArray, List.set_cons_zero, List.set_cons_succ]
                    have hHeld := HSO.out _ bl8
                    refine UpTo.take 9 [10] (v := ?_) (by (simp only [List.getElem?_toArray, List.getElem?_cons_succ, List.getElem?_cons_zero]; rfl)) (by kernel_rfl) (by kernel_rfl) (by kernel_rfl) (by kernel_rfl) (by exact fun _ _ _ h => h) (Or.inl ⟨by rfl, ?_⟩) hHeld ?_
                    rotate_left
                    · intro u hu
                      try dsimp only at hu
                      go_simp
                      try with_reducible rfl
                    try simp only [Act.put, List.setIfInBounds_toArray, List.set_cons_zero, List.set_cons_succ]
                    refine UpTo.next 10 (by kernel_rfl) (by (simp only [List.getElem?_toArray, List.getElem?_cons_succ, List.getElem?_cons_zero]; rfl)) (fun K hK => ?_)
                    go_simp
                    refine hK.out _ _ (fun h => absurd rfl h) ?_
                    clear hK K
                    try simp only [Act.put, List.setIfInBounds_toArray, List.set_cons_zero, List.set_cons_succ]
                    refine UpTo.done (by kernel_rfl) ?_
                    go_wp2
                    go_roundw
                    case rel => exact ⟨k + 1, k + 1, _, cap6, _, by omega, by go_num, .inr ⟨rfl, by omega, by omega⟩, PutSt.next HSt.out (by omega) KW HGr.out HO8.out (by have := HTl.out; omega) HX2.out HTx.out⟩
                    case measure => simp [intOf]; omega
                  · obtain ⟨hbl, hbe⟩ := (HG.out.2 (by omega)).1
                    have HX2 := hide (HG.out.2 (by omega)).2
                    go_wp2
                    go_quiet (fail)
                    obtain ⟨ino, hn0, hn1, hn2, hn3⟩ := info_parts Try.infoNode
                    go_wp2_with (at_builtin; refine wpList_append_own _ rfl (.tmp 63) (.tmp 65) 48 rfl wc.heap.size 60 ino _ 3 48 Try.underlying48 hn0 hn1 hn2 hn3 rfl (by decide) _ k xs rfl (ownsRow_kept' HSt0.out.own (by repeat (first | (with_reducible exact Kept.refl _) | apply Kept.alloc | apply Kept.drewN | apply Kept.drew))) ⟨wr.heap.size, 0, none⟩ 1 1 [.string d.name, .int .i64 d.cost, .slice a2 d.steps.length ca2] rfl rfl (fun j u hu => (by rw [Addr.add_mid]; exact range_new wr #[.string d.name, .int .i64 d.cost, .slice a2 d.steps.length ca2] 60 j u (by simpa using hu))) (node_one d a2 ca2) (by unfold maxLen; omega) (by omega) (by simp; omega) ?_; intro v6 w6 hown6 hgr6 _; obtain ⟨av6, cv6, rfl⟩ := own_slice hown6; have KW6 : Kept wr ((wr.drewN nq).alloc (.cells #[.string d.name, .int .i64 d.cost, .slice a2 d.steps.length ca2] 60)) := ((Kept.refl _).drewN nq).alloc _; have bl6 := HSt0.out.grown KW6 hgr6; have hr6 : RowT w6 (w4.heap.size + 1) 50 1 := HSt0.out.row.block (bl6.block _ (by omega)); obtain ⟨⟨_, fp2⟩, fp1⟩ := hr6.row.at (i := 0) (by omega); have HN6 := hide (PutSt.next HSt0.out (by omega) KW6 hgr6 hown6 (by have := HTl.out; omega) (by have := HAt.out; rw [show k = ah by omega]; exact this) HOne.out.one); clear hown6 hgr6 hr6)
                    obtain ⟨wq, hwq⟩ : ∃ wq, wq = w6.setCell ⟨w4.heap.size + 1, 0, none⟩ (.slice av6 (k + 1) cv6) := ⟨_, rfl⟩
                    rw [← hwq]
                    have hSt : PutSt wc wq (w4.heap.size + 1) T (k + 1) av6 cv6 (xs ++ [.string d.name, .int .i64 d.cost, .slice a2 d.steps.length ca2]) := by rw [hwq]; exact HN6.out
                    clear hwq eo en e1 e2 e3 eu eu2 d0 fp1 fp2 bl6 KW6 HN6
                    clear ino hn0 hn1 hn2 hn3
                    have sk2 := SameKind.of_but hSt.kb HOut.out
                    have hgq := sk2 g cur _ fr (by decide) hg
                    have ksq := hSt.kb.same (l2 := 0) (h2 := w4.heap.size + 1) (by omega)
                    have f0 := (ksq.cell (o := 0) (Nat.zero_le _) (by omega : w4.heap.size < w4.heap.size + 1) (by omega)).trans co
                    have c0 : wq.cell? ⟨g, k * 3, none⟩ = some (.string x.name) := by rw [World.cell?_of_block (hgq.trans hg.symm)]; exact C0.out.1
                    have c1 : wq.cell? ⟨g, k * 3 + 1, none⟩ = some (.int .i64 x.cost) := by rw [World.cell?_of_block (hgq.trans hg.symm)]; exact C0.out.2.1
                    have c2 : wq.cell? ⟨g, k * 3 + 2, none⟩ = some (.slice a3 x.steps.length c3) := by rw [World.cell?_of_block (hgq.trans hg.symm)]; exact C0.out.2.2
                    have f1 := hSt.cell
                    have zq := hSt.kb.size
                    have HSt := hide hSt
                    have gl := heap_lt hg
                    have hb1 : w4.heap.size + 1 < wq.heap.size := by omega
                    have hb0 : w4.heap.size < wq.heap.size := by omega
                    have hbg : g < wq.heap.size := by omega
                    have HSO : Hid (∀ w', Below wc.heap.size wq w' → (fun w' => w'.cell? ⟨w4.heap.size + 1, 0, none⟩ = some (.slice av6 (k + 1) cv6) ∧ w'.cell? ⟨w4.heap.size, 0, none⟩ = some (.slice (some ⟨g, 0, none⟩) old.length c4) ∧ w'.cell? ⟨g, k * 3, none⟩ = some (.string x.name) ∧ w'.cell? ⟨g, k * 3 + 1, none⟩ = some (.int .i64 x.cost) ∧ w'.cell? ⟨g, k * 3 + 2, none⟩ = some (.slice a3 x.steps.length c3)) w') := fun w' bl => ⟨(Below.cell bl (p := ⟨w4.heap.size + 1, 0, none⟩) (by simp <;> omega)).trans f1, (Below.cell bl (p := ⟨w4.heap.size, 0, none⟩) (by simp <;> omega)).trans f0, (Below.cell bl (p := ⟨g, k * 3, none⟩) (by simp <;> omega)).trans c0, (Below.cell bl (p := ⟨g, k * 3 + 1, none⟩) (by simp <;> omega)).trans c1, (Below.cell bl (p := ⟨g, k * 3 + 2, none⟩) (by simp <;> omega)).trans c2⟩
                    clear hSt sk2 hgq ksq
                    obtain ⟨ino, hn0, hn1, hn2, hn3⟩ := info_parts Try.infoNode
                    go_wp2
                    refine UpTo.region (by kernel_rfl) (fun w' => w'.cell? ⟨w4.heap.size + 1, 0, none⟩ = some (.slice av6 (k + 1) cv6) ∧ w'.cell? ⟨w4.heap.size, 0, none⟩ = some (.slice (some ⟨g, 0, none⟩) old.length c4) ∧ w'.cell? ⟨g, k * 3, none⟩ = some (.string x.name) ∧ w'.cell? ⟨g, k * 3 + 1, none⟩ = some (.int .i64 x.cost) ∧ w'.cell? ⟨g, k * 3 + 2, none⟩ = some (.slice a3 x.steps.length c3)) 10 ⟨f1, f0, c0, c1, c2⟩ (fun hHeld => ?_)
                    refine UpTo.take 0 [1, 8, 10] (v := ?_) (by (simp only [List.getElem?_toArray, List.getElem?_cons_zero]; rfl)) (by kernel_rfl) (by kernel_rfl) (by kernel_rfl) (by kernel_rfl) (by exact fun _ _ _ h => h) (Or.inl ⟨by rfl, ?_⟩) hHeld ?_
                    rotate_left
                    · intro u hu
                      try dsimp only at hu
                      go_simp
                      try with_reducible rfl
                    try simp only [Act.put, List.setIfInBounds_toArray, List.set_cons_zero, List.set_cons_succ]
                    refine UpTo.take 1 [8, 10] (v := ?_) (by (simp only [List.getElem?_toArray, List.getElem?_cons_succ, List.getElem?_cons_zero]; rfl)) (by kernel_rfl) (by kernel_rfl) (by kernel_rfl) (by kernel_rfl) (by exact fun _ _ _ h => h) (Or.inl ⟨by rfl, ?_⟩) hHeld ?_
                    rotate_left
                    · intro u hu
                      try dsimp only at hu
                      go_simp
                      try with_reducible rfl
                    try simp only [Act.put, List.setIfInBounds_toArray, List.set_cons_zero, List.set_cons_succ]
                    refine UpTo.take 2 [3, 5, 6, 7, 8, 10] (v := ?_) (by (simp only [List.getElem?_toArray, List.getElem?_cons_succ, List.getElem?_cons_zero]; rfl)) (by kernel_rfl) (by kernel_rfl) (by kernel_rfl) (by kernel_rfl) (by exact fun _ _ _ h => h) (Or.inl ⟨by rfl, ?_⟩) hHeld ?_
                    rotate_left
                    · intro u hu
                      try dsimp only at hu
                      go_simp
                      try with_reducible rfl
                    try simp only [Act.put, List.setIfInBounds_toArray, List.set_cons_zero, List.set_cons_succ]
                    refine UpTo.take 3 [5, 6, 7, 8, 10] (v := ?_) (by (simp only [List.getElem?_toArray, List.getElem?_cons_succ, List.getElem?_cons_zero]; rfl)) (by kernel_rfl) (by kernel_rfl) (by kernel_rfl) (by kernel_rfl) (by exact fun _ _ _ h => h) (Or.inl ⟨by rfl, ?_⟩) hHeld ?_
                    rotate_left
                    · intro u hu
                      try dsimp only at hu
                      go_simp
                      try with_reducible rfl
                    try simp only [Act.put, List.setIfInBounds_toArray, List.set_cons_zero, List.set_cons_succ]
                    refine UpTo.take 4 [5, 6, 7, 8, 10] (v := ?_) (by (simp only [List.getElem?_toArray, List.getElem?_cons_succ, List.getElem?_cons_zero]; rfl)) (by kernel_rfl) (by kernel_rfl) (by kernel_rfl) (by kernel_rfl) (by exact fun _ _ _ h => h) (Or.inl ⟨by rfl, ?_⟩) hHeld ?_
                    rotate_left
                    · intro u hu
                      try dsimp only at hu
                      go_simp
                      try with_reducible rfl
                    try simp only [Act.put, List.setIfInBounds_toArray, List.set_cons_zero, List.set_cons_succ]
                    refine UpTo.take 5 [6, 7, 8, 10] (v := ?_) (by (simp only [List.getElem?_toArray, List.getElem?_cons_succ, List.getElem?_cons_zero]; rfl)) (by kernel_rfl) (by kernel_rfl) (by kernel_rfl) (by kernel_rfl) (by exact fun _ _ _ h => h) (Or.inl ⟨by rfl, ?_⟩) hHeld ?_
                    rotate_left
                    · intro u hu
                      try dsimp only at hu
                      go_simp
                      try with_reducible rfl
                    try simp only [Act.put, List.setIfInBounds_toArray, List.set_cons_zero, List.set_cons_succ]
                    refine UpTo.take 6 [7, 8, 10] (v := ?_) (by (simp only [List.getElem?_toArray, List.getElem?_cons_succ, List.getElem?_cons_zero]; rfl)) (by kernel_rfl) (by kernel_rfl) (by kernel_rfl) (by kernel_rfl) (by exact fun _ _ _ h => h) (Or.inl ⟨by rfl, ?_⟩) hHeld ?_
                    rotate_left
                    · intro u hu
                      try dsimp only at hu
                      go_simp
                      try with_reducible rfl
                    try simp only [Act.put, List.setIfInBounds_toArray, List.set_cons_zero, List.set_cons_succ]
                    refine UpTo.next 7 (by kernel_rfl) (by (simp only [List.getElem?_toArray, List.getElem?_cons_succ, List.getElem?_cons_zero]; rfl)) (fun K hK => ?_)
                    go_simp
                    have KW : Kept wq (wq.alloc (.cells #[.string x.name, .int .i64 x.cost, .slice a3 x.steps.length c3] 60)).drew := ((Kept.refl _).alloc _).drew
                    refine hK.out _ _ (fun _ => HSO.out _ (Below.mono KW (by omega))) ?_
                    clear hK K hHeld
                    try simp only [Act.put, List.setIfInBounds_toArray, List.set_cons_zero, List.set_cons_succ]
                    refine UpTo.next 8 (by kernel_rfl) (by (simp only [List.getElem?_toArray, List.getElem?_cons_succ, List.getElem?_cons_zero]; rfl)) (fun K hK => ?_)
                    refine step_append_lies _ rfl (.tmp 69) (.tmp 75) 48 rfl wc.heap.size 60 ino _ 3 48 Try.underlying48 hn0 hn1 hn2 hn3 rfl (by decide) (.slice av6 (k + 1) cv6) (k + 1) (xs ++ [.string d.name, .int .i64 d.cost, .slice a2 d.steps.length ca2]) (by simp [Act.eval]) (ownsRow_kept' HSt.out.own KW) ⟨wq.heap.size, 0, none⟩ 1 1 [.string x.name, .int .i64 x.cost, .slice a3 x.steps.length c3] (by simp [Act.eval]) rfl (fun j u hu => by rw [Addr.add_mid]; exact range_new wq #[.string x.name, .int .i64 x.cost, .slice a3 x.steps.length c3] 60 j u (by simpa using hu)) (node_one x a3 c3) (by omega) (by unfold maxLen; omega) (by omega) (by simp; omega) _ rfl ?_
                    intro g6 cap6 w8 hown8 hgr8 hat hlt8
                    have bl8 := HSt.out.grown KW hgr8
                    have hr8 : RowT w8 (w4.heap.size + 1) 50 1 := HSt.out.row.block (bl8.block _ (by omega))
                    obtain ⟨⟨_, fo2⟩, fo1⟩ := hr8.row.at (i := 0) (by omega)
                    have HO8 := hide hown8
                    have HGr := hide hgr8
                    clear hown8 hgr8 hat hr8
                    refine hK.out _ _ (fun _ => HSO.out _ bl8) ?_
                    clear hK K
                    try simp only [Act.put, List.setIfInBounds_toArray, List.set_cons_zero, List.set_cons_succ]
                    have hHeld := HSO.out _ bl8
                    refine UpTo.take 9 [10] (v := ?_) (by (simp only [List.getElem?_toArray, List.getElem?_cons_succ, List.getElem?_cons_zero]; rfl)) (by kernel_rfl) (by kernel_rfl) (by kernel_rfl) (by kernel_rfl) (by exact fun _ _ _ h => h) (Or.inl ⟨by rfl, ?_⟩) hHeld ?_
                    rotate_left
                    · intro u hu
                      try dsimp only at hu
                      go_simp
                      try with_reducible rfl
                    try simp only [Act.put, List.setIfInBounds_toArray, List.set_cons_zero, List.set_cons_succ]
                    refine UpTo.next 10 (by kernel_rfl) (by (simp only [List.getElem?_toArray, List.getElem?_cons_succ, List.getElem?_cons_zero]; rfl)) (fun K hK => ?_)
                    go_simp
                    refine hK.out _ _ (fun h => absurd rfl h) ?_
                    clear hK K
                    try simp only [Act.put, List.setIfInBounds_toArray, List.set_cons_zero, List.set_cons_succ]
                    refine UpTo.done (by kernel_rfl) ?_
                    go_wp2
                    go_roundw
                    case rel => exact ⟨k + 1, k + 1 + 1, _, cap6, _, by omega, by go_num, .inl ⟨rfl, by omega, by omega⟩, PutSt.next HSt.out (by omega) KW HGr.out HO8.out (by have := HTl.out; omega) HX2.out HTx.out⟩
                    case measure => simp [intOf]; omega
              · have hkl : k = old.length := by omega
                subst hkl
                rcases hdn with ⟨rfl, hka, hm⟩ | ⟨rfl, hka, hm'⟩
                · subst hm
                  obtain ⟨hR, hEnd⟩ := HSt0.out.fin HOut.out HRes.out (by omega) K5 (by omega) (by omega) HTl.out HT.out HC.out HY.out HM.out (by omega)
                  have hRes := HRes.out.block (HSt0.out.kb.block _ (by omega) (by omega))
                  obtain ⟨⟨_, t0⟩, t1⟩ := hRes.row.at (i := 0) (by omega)
                  have HRs := hide hR
                  have HEnd := hide hEnd
                  clear hRes hR hEnd
                  go_wp2
                  exact bodyPost_ret_cell2 [.slice av (old.length + 1) cv] _ (.int .i64 0) Try.results25 rfl HRs.out Try.underlying50 rfl Try.sizeWeb rfl rfl HEnd.out
                · have hm := hm'.symm
                  subst hm
                  obtain ⟨ino, hn0, hn1, hn2, hn3⟩ := info_parts Try.infoNode
                  have hbr : w.heap.size + 2 < wr.heap.size := by omega
                  go_wp2_with (at_builtin; refine wpList_append_own _ rfl (.tmp 81) (.tmp 83) 48 rfl wc.heap.size 60 ino _ 3 48 Try.underlying48 hn0 hn1 hn2 hn3 rfl (by decide) _ old.length xs rfl (ownsRow_kept' HSt0.out.own (by repeat (first | (with_reducible exact Kept.refl _) | apply Kept.alloc | apply Kept.drewN | apply Kept.drew))) ⟨wr.heap.size, 0, none⟩ 1 1 [.string d.name, .int .i64 d.cost, .slice a2 d.steps.length ca2] rfl rfl (fun j u hu => (by rw [Addr.add_mid]; exact range_new wr #[.string d.name, .int .i64 d.cost, .slice a2 d.steps.length ca2] 60 j u (by simpa using hu))) (node_one d a2 ca2) (by unfold maxLen; omega) (by omega) (by simp; omega) ?_; intro v6 w6 hown6 hgr6 _; obtain ⟨av6, cv6, rfl⟩ := own_slice hown6; have KW6 : Kept wr (wr.alloc (.cells #[.string d.name, .int .i64 d.cost, .slice a2 d.steps.length ca2] 60)) := (Kept.refl _).alloc _; have bl6 := HSt0.out.grown KW6 hgr6; have hr6 : RowT w6 (w4.heap.size + 1) 50 1 := HSt0.out.row.block (bl6.block _ (by omega)); obtain ⟨⟨_, fp2⟩, fp1⟩ := hr6.row.at (i := 0) (by omega); have hs6 : RowT w6 (w.heap.size + 2) 50 1 := (HRes.out.block (HSt0.out.kb.block _ (by omega) (by omega))).block (bl6.block _ (by omega)); obtain ⟨⟨_, fq2⟩, fq1⟩ := hs6.row.at (i := 0) (by omega); have HN6 := hide (PutSt.next HSt0.out (by omega) KW6 hgr6 hown6 (by have := HTl.out; omega) (by have := HAt.out; rw [show old.length = ah by omega]; exact this) HOne.out.one); clear hown6 hgr6 hr6 hs6)
                  obtain ⟨hR, hEnd⟩ := HN6.out.fin HOut.out HRes.out (by omega) K5 (by omega) (by omega) HTl.out HT.out HC.out HY.out HM.out (by omega)
                  exact bodyPost_ret_cell2 [.slice av6 (old.length + 1) cv6] _ (.int .i64 0) Try.results25 rfl hR Try.underlying50 rfl Try.sizeWeb rfl rfl hEnd
      · have HM := hide hno
        clear hno hsay
        go_wp2
        have hR := World.rangeAt_setCells_same w3 (w.heap.size + 2) 0 [.slice none 0 0] (HR3.out.row.there (o := 0) (m := 1) (Nat.le_refl _))
        refine bodyPost_ret_cell2 [.slice none 0 0] _ (.int .i64 2) Try.results25 rfl hR Try.underlying50 rfl Try.sizeWeb rfl rfl (PutEndS.none 2 rfl (.inr (.inl ⟨HC.out, .inr HM.out, rfl, rfl⟩)) ?_)
        repeat (first | (refine Kept.setCell ?_ (by simp <;> omega) _) | exact K3)
    · have HY := hide hno
      clear hno hsay
      go_wp2
      have hR := World.rangeAt_setCells_same w2 (w.heap.size + 2) 0 [.slice none 0 0] (HR1.out.row.there (o := 0) (m := 1) (Nat.le_refl _))
      refine bodyPost_ret_cell2 [.slice none 0 0] _ (.int .i64 2) Try.results25 rfl hR Try.underlying50 rfl Try.sizeWeb rfl rfl (PutEndS.none 2 rfl (.inr (.inl ⟨HC.out, .inl HY.out, rfl, rfl⟩)) ?_)
      repeat (first | (refine Kept.setCell ?_ (by simp <;> omega) _) | exact K1)
  · have hcb : (c == 0) = false := by simpa using hc0
    go_wp2
    have hR := World.rangeAt_setCells_same w1 (w.heap.size + 2) 0 [.slice none 0 0] (HR1.out.row.there (o := 0) (m := 1) (Nat.le_refl _))
    refine bodyPost_ret_cell2 [.slice none 0 0] _ (.int .i64 1) Try.results25 rfl hR Try.underlying50 rfl Try.sizeWeb rfl rfl (PutEndS.none 1 rfl (.inl ⟨fun h => hc0 (HC.out.unique h), rfl, rfl⟩) ?_)
    repeat (first | (refine Kept.setCell ?_ (by simp <;> omega) _) | exact K1)

end Go.Proofs.Ytfjbdapblmlneaa
