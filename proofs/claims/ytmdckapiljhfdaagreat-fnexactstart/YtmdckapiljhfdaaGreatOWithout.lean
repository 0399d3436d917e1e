import Derived.Test.YtmdckapiljhfdaaGreatDataN
import Derived.Test.YtmdckapiljhfdaaGreatDBase
import Derived.OwnWalk
import Derived.Test.YtmdckapiljhfdaaGreatWNodes2
import Derived.Lib.AppendZeros
import Derived.Test.YtmdckapiljhfdaaGreatOCopy3
import Derived.Test.YtmdckapiljhfdaaGreatWCheck4
import Derived.Test.YtmdckapiljhfdaaGreatWCheck2
import Derived.Deep.RegionHeld

/-
  NODES, PACKED IN A ROW OF CELLS: what append takes and gives. Nothing of the dump is named here.
-/
namespace Go.Proofs.YtmdckapiljhfdaaGreat
open Go.RowKit

/-- These cells are these nodes, one behind the other. -/
def Packed (w : World) (cs : List Value) (l : List NodeD) : Prop :=
  cs.length = l.length * 3 ∧ (∀ u ∈ cs, u.oneCell' = true) ∧ ∀ i, i < l.length → ∃ a cap, Steps w a (l.getD i NodeD.zero).steps ∧ ∀ t v, ((l.getD i NodeD.zero).cells a cap)[t]? = some v → cs[i * 3 + t]? = some v

theorem Packed.nil (w : World) : Packed w [] [] := ⟨rfl, (fun u hu => by cases hu), (fun i hi => by simp at hi)⟩
theorem Packed.kept {w w' : World} {cs : List Value} {l : List NodeD} (h : Packed w cs l) (k : Kept w w') : Packed w' cs l :=
  ⟨h.1, h.2.1, fun i hi => by obtain ⟨a, cap, h1, h2⟩ := h.2.2 i hi; exact ⟨a, cap, h1.kept k, h2⟩⟩
theorem Packed.append {w : World} {c1 c2 : List Value} {l1 l2 : List NodeD} (h1 : Packed w c1 l1) (h2 : Packed w c2 l2) : Packed w (c1 ++ c2) (l1 ++ l2) := by
  refine ⟨by rw [List.length_append, List.length_append, h1.1, h2.1, Nat.add_mul], fun u hu => ?_, fun i hi => ?_⟩
  · rcases List.mem_append.1 hu with h | h
    · exact h1.2.1 u h
    · exact h2.2.1 u h
  · by_cases hlt : i < l1.length
    · have e : (l1 ++ l2).getD i NodeD.zero = l1.getD i NodeD.zero := by simp [List.getD, List.getElem?_append_left hlt]
      rw [e]
      obtain ⟨a, cap, g1, g2⟩ := h1.2.2 i hlt
      refine ⟨a, cap, g1, fun t v hv => ?_⟩
      have := g2 t v hv
      rw [List.getElem?_append_left (List.getElem?_eq_some_iff.1 this).1]
      exact this
    · have hi2 : i - l1.length < l2.length := by rw [List.length_append] at hi; omega
      have e : (l1 ++ l2).getD i NodeD.zero = l2.getD (i - l1.length) NodeD.zero := by simp [List.getD, List.getElem?_append_right (by omega : l1.length ≤ i)]
      rw [e]
      obtain ⟨a, cap, g1, g2⟩ := h2.2.2 _ hi2
      refine ⟨a, cap, g1, fun t v hv => ?_⟩
      have := g2 t v hv
      rw [List.getElem?_append_right (by rw [h1.1]; omega), h1.1]
      have e2 : i * 3 + t - l1.length * 3 = (i - l1.length) * 3 + t := by omega
      rw [e2]
      exact this

/-- The cells of nodes that lie in memory. -/
theorem packed_of_nodes {w : World} {b o : Nat} : ∀ {l : List NodeD}, Nodes w (some ⟨b, o, none⟩) l → ∃ cs, Packed w cs l ∧ ∀ j u, cs[j]? = some u → w.cell? ((⟨b, o, none⟩ : Addr).add j) = some u := by
  intro l
  induction l generalizing o with
  | nil => intro _; exact ⟨[], Packed.nil w, fun j u h => by simp at h⟩
  | cons d r ih =>
    intro h
    obtain ⟨b0, o0, cs0, e0, hb, hr, a, cap, rfl, hS⟩ := h 0 (by simp)
    simp only [Option.some.injEq, Addr.mk.injEq, and_true] at e0
    obtain ⟨rfl, rfl⟩ := e0
    obtain ⟨cs, hP, hc⟩ := ih (o := o + 3) (fun i hi => by
      obtain ⟨b1, o1, cs1, e1, hb1, hr1, hN1⟩ := h (i + 1) (by simpa using hi)
      simp only [Option.some.injEq, Addr.mk.injEq, and_true] at e1
      obtain ⟨rfl, rfl⟩ := e1
      refine ⟨b, o + 3, cs1, rfl, hb1, ?_, hN1⟩
      have e2 : o + (i + 1) * 3 = o + 3 + i * 3 := by omega
      rw [← e2]
      exact hr1)
    have hd : (d :: r).getD 0 NodeD.zero = d := rfl
    rw [hd] at hr hS
    have h1 : Packed w (d.cells a cap) [d] := by
      refine ⟨rfl, fun u hu => ?_, fun i hi => ?_⟩
      · have := NodeD.one d a cap
        rw [Array.all_eq_true_iff_forall_mem] at this
        exact this u (by simpa using hu)
      · obtain rfl : i = 0 := by simpa using hi
        exact ⟨a, cap, hS, fun t v hv => by simpa using hv⟩
    refine ⟨d.cells a cap ++ cs, h1.append hP, fun j u hu => ?_⟩
    by_cases hj : j < 3
    · rw [List.getElem?_append_left (by simpa [NodeD.cells] using hj)] at hu
      have := hr j u hu
      rw [Addr.add_mid]
      simpa using this
    · rw [List.getElem?_append_right (by simpa [NodeD.cells] using hj)] at hu
      have e3 : (d.cells a cap).length = 3 := rfl
      rw [e3] at hu
      have := hc (j - 3) u hu
      have e4 : o + 3 + (j - 3) = o + j := by omega
      rw [Addr.add_mid, e4] at this
      rw [Addr.add_mid]
      exact this

/-- Nodes in a row that the call owns. -/
theorem nodes_of_owned {w : World} {base : Nat} {e : TypeId} {v : Value} {n : Nat} {xs : List Value} {l : List NodeD} (h : w.ownsRow base e 3 v n xs) (hP : Packed w xs l) : n = l.length ∧ ∃ a cap, v = .slice a l.length cap ∧ l.length ≤ cap ∧ Nodes w a l := by
  have hn : n = l.length := by have := h.1; have := hP.1; omega
  refine ⟨hn, ?_⟩
  subst hn
  rcases h.2 with ⟨rfl, h0⟩ | ⟨g, cap, cur, rfl, hb, hg, hnc, _, _, _⟩
  · refine ⟨none, 0, by rw [h0], by omega, fun i hi => by omega⟩
  · refine ⟨_, cap, rfl, hnc, fun i hi => ?_⟩
    obtain ⟨a, c, h1, h2⟩ := hP.2.2 i hi
    have hlt : g < w.heap.size := by
      have := (Array.getElem?_eq_some_iff.1 hg).1
      exact this
    refine ⟨g, 0, _, rfl, hlt, fun t u hu => ?_, a, c, rfl, h1⟩
    have := h.cells (g := g) rfl _ _ (h2 t u hu)
    rw [Addr.add_mid] at this
    rw [Nat.zero_add] at this ⊢
    exact this




end Go.Proofs.YtmdckapiljhfdaaGreat

/-
  WALKS: slices.Grow, slices.Concat over nodes.
-/
namespace Go.Proofs.YtmdckapiljhfdaaGreat
open Go.RowKit

theorem Tryz.undInt : Tryz.prog.underlying 3 = some (.int .i64) := by kernel_rfl

/-- Slices of nodes, one behind the other in a row; what they hold is a list of nodes in w0. -/
def Rows2 (w w0 : World) (b : Nat) (LL : List (List NodeD)) (P : Nat → Nat × Nat) (C : Nat → Nat) : Prop :=
  b < w.heap.size ∧ ∀ i, i < LL.length → w.cell? ⟨b, i, none⟩ = some (.slice (some ⟨(P i).1, (P i).2, none⟩) (LL.getD i []).length (C i)) ∧ ∃ news, Packed w0 news (LL.getD i []) ∧ ∀ j u, news[j]? = some u → w.cell? ⟨(P i).1, (P i).2 + j, none⟩ = some u
theorem Rows2.kept {w w' w0 : World} {b : Nat} {LL : List (List NodeD)} {P : Nat → Nat × Nat} {C : Nat → Nat} (h : Rows2 w w0 b LL P C) (k : Kept w w') : Rows2 w' w0 b LL P C :=
  ⟨Nat.lt_of_lt_of_le h.1 k.size, fun i hi => ⟨by rw [k.cell h.1]; exact (h.2 i hi).1, let ⟨news, h1, h2⟩ := (h.2 i hi).2; ⟨news, h1, fun j u hu => by rw [k.cell (World.block_lt_of_cell? _ _ (h2 j u hu))]; exact h2 j u hu⟩⟩⟩

theorem flat_take_succ (LL : List (List NodeD)) (k : Nat) (h : k < LL.length) : (LL.take (k + 1)).flatten = (LL.take k).flatten ++ LL.getD k [] := by
  rw [List.take_succ_eq_append_getElem h, List.flatten_append]
  simp [List.getD, h]
theorem flat_len (LL : List (List NodeD)) (k : Nat) : (LL.take k).flatten.length = sumTo List.length LL k := by
  unfold sumTo
  rw [List.length_flatten]

end Go.Proofs.YtmdckapiljhfdaaGreat

/-
  WALKS over the program's copies: copyEach of nodes, webOf.
-/
namespace Go.Proofs.YtmdckapiljhfdaaGreat
open Go.RowKit

/-- That all in a node is small. -/
structure NodeD.Small (d : NodeD) : Prop where
  name : d.name.size ≤ 1048576
  steps : d.steps.length ≤ 1048576
  each : ∀ s ∈ d.steps, s.Small

end Go.Proofs.YtmdckapiljhfdaaGreat

/-
  THE ORDER OF NAMES: byte by byte. Nothing of the dump is named here.
-/
namespace Go.Proofs.YtmdckapiljhfdaaGreat
open Go.RowKit

theorem less_trans : ∀ (x y z : List UInt8), Op.bytesLess x y = true → Op.bytesLess y z = true → Op.bytesLess x z = true
  | [], [], _, h, _ => by simp [Op.bytesLess] at h
  | [], _ :: _, [], _, h => by simp [Op.bytesLess] at h
  | [], _ :: _, _ :: _, _, _ => by simp [Op.bytesLess]
  | _ :: _, [], _, h, _ => by simp [Op.bytesLess] at h
  | _ :: _, _ :: _, [], _, h => by simp [Op.bytesLess] at h
  | a :: x, b :: y, c :: z, h1, h2 => by
    have ih := less_trans x y z
    simp only [Op.bytesLess, Bool.or_eq_true, Bool.and_eq_true, decide_eq_true_eq, beq_iff_eq] at h1 h2 ⊢
    rcases h1 with h1 | ⟨rfl, h1⟩
    · rcases h2 with h2 | ⟨rfl, h2⟩
      · exact .inl (UInt8.lt_trans h1 h2)
      · exact .inl h1
    · rcases h2 with h2 | ⟨rfl, h2⟩
      · exact .inl h2
      · exact .inr ⟨rfl, ih h1 h2⟩

theorem less_irrefl : ∀ x : List UInt8, Op.bytesLess x x = false
  | [] => rfl
  | a :: x => by
    have ih := less_irrefl x
    simp [Op.bytesLess, ih]

theorem less_total : ∀ x y : List UInt8, Op.bytesLess x y = false → x ≠ y → Op.bytesLess y x = true
  | [], [], _, h => absurd rfl h
  | [], _ :: _, h, _ => by simp [Op.bytesLess] at h
  | _ :: _, [], _, _ => rfl
  | a :: x, b :: y, h, hne => by
    have ih := less_total x y
    simp only [Op.bytesLess, Bool.or_eq_false_iff, decide_eq_false_iff_not, Bool.and_eq_false_iff, beq_eq_false_iff_ne] at h
    simp only [Op.bytesLess, Bool.or_eq_true, Bool.and_eq_true, decide_eq_true_eq, beq_iff_eq]
    by_cases e : a = b
    · subst e
      right
      refine ⟨rfl, ih ?_ (fun e => hne (by rw [e]))⟩
      rcases h.2 with h2 | h2
      · exact absurd rfl h2
      · exact h2
    · left
      have h1 := h.1
      rw [UInt8.not_lt] at h1
      exact UInt8.lt_of_le_of_ne h1 (fun e' => e e'.symm)

/-- The name of node i. -/
def nameAt (l : List NodeD) (i : Nat) : List UInt8 := (l.getD i NodeD.zero).name.toList

/-- The names rise. -/
def Rises (l : List NodeD) : Prop := ∀ i j, i < j → j < l.length → Op.bytesLess (nameAt l i) (nameAt l j) = true

theorem rises_of {l : List NodeD} (h : ∀ i, i + 1 < l.length → Op.bytesLess (nameAt l i) (nameAt l (i + 1)) = true) : Rises l := by
  intro i j hij hj
  induction j with
  | zero => omega
  | succ j ih =>
    by_cases e : i = j
    · subst e; exact h i hj
    · exact less_trans _ _ _ (ih (by omega) (by omega)) (h j hj)

/-- Where a key stands or would stand. -/
structure Place (l : List NodeD) (key : List UInt8) (p : Nat) : Prop where
  le : p ≤ l.length
  before : ∀ j, j < p → Op.bytesLess (nameAt l j) key = true
  behind : ∀ j, p ≤ j → j < l.length → Op.bytesLess (nameAt l j) key = false

/-- It is there only at its place. -/
theorem Place.only {l : List NodeD} {key : List UInt8} {p j : Nat} (hr : Rises l) (h : Place l key p) (hj : j < l.length) (e : nameAt l j = key) : j = p := by
  by_cases h1 : j < p
  · have := h.before j h1
    rw [e, less_irrefl] at this
    cases this
  · by_cases h2 : p < j
    · have h3 := hr p j h2 hj
      rw [e] at h3
      have := h.behind p (Nat.le_refl _) (by omega)
      rw [h3] at this
      cases this
    · omega

end Go.Proofs.YtmdckapiljhfdaaGreat

/-
  WALKS toward find: cmp.Compare, the function literal, slices.BinarySearchFunc.
-/
namespace Go.Proofs.YtmdckapiljhfdaaGreat
open Go.RowKit

/-- What cmp.Compare answers. -/
def cmpD (x y : List UInt8) : Int := if Op.bytesLess x y = true then -1 else if x = y then 0 else 1

set_option maxHeartbeats 800000 in
theorem compare_any (w : World) (x y : ByteArray) : Calls Tryz.prog 76 #[.string x, .string y] w fun e w' => e = .returned (.int .i64 (cmpD x.toList y.toList)) ∧ w' = w := by
  cases h1 : Op.bytesLess x.toList y.toList
  · cases h2 : (x.toList == y.toList)
    · go_enter Tryz.func76, Tryz.ntmps76
      go_wp2
      go_ret
      exact ⟨ret_int (by unfold cmpD; rw [if_neg (by rw [h1]; simp), if_neg (by simpa using h2)]), rfl⟩
    · go_enter Tryz.func76, Tryz.ntmps76
      go_wp2
      go_ret
      exact ⟨ret_int (by unfold cmpD; rw [if_neg (by rw [h1]; simp), if_pos (by simpa using h2)]), rfl⟩
  · go_enter Tryz.func76, Tryz.ntmps76
    go_wp2
    go_ret
    exact ⟨ret_int (by unfold cmpD; rw [if_pos h1]), rfl⟩

/-- The function literal that find hands on: its own list lies in block g. -/
theorem findLit_any (w : World) (g : Nat) (d : NodeD) (a : Option Addr) (cap : Nat) (key : ByteArray) (hg : g < w.heap.size) (hc : w.cell? ⟨g, 1, none⟩ = some (.func (.func 62) #[] #[])) :
    Calls Tryz.prog 75 #[.agg #[.string d.name, .int .i64 d.cost, .slice a d.steps.length cap], .string key, .pointer (some ⟨g, 0, none⟩)] w fun e w' => e = .returned (.int .i64 (cmpD d.name.toList key.toList)) ∧ Kept w w' := by
  go_enter Tryz.func75, Tryz.ntmps75
  go_wp2_with fail
  refine (nodeName_any _ _ _ _ d.name rfl).mono ?_
  rintro e w1 ⟨rfl, k1⟩
  have K1 : Kept w w1 := Kept.trans (by repeat (first | apply Kept.alloc | exact Kept.refl _)) k1
  clear k1
  go_wp2_with fail
  refine (compare_any _ d.name key).mono ?_
  rintro e w2 ⟨rfl, rfl⟩
  go_wp2
  go_ret
  exact ⟨rfl, K1⟩

end Go.Proofs.YtmdckapiljhfdaaGreat

/-
  WALKS: slices.BinarySearchFunc, find.
-/
namespace Go.Proofs.YtmdckapiljhfdaaGreat
open Go.RowKit

theorem cmpD_neg {x y : List UInt8} : cmpD x y < 0 ↔ Op.bytesLess x y = true := by
  unfold cmpD
  by_cases h : Op.bytesLess x y = true
  · rw [if_pos h]; exact ⟨fun _ => h, fun _ => by omega⟩
  · rw [if_neg h]
    refine ⟨fun g => ?_, fun g => absurd g h⟩
    split at g <;> omega
theorem cmpD_zero {x y : List UInt8} : cmpD x y = 0 ↔ x = y := by
  unfold cmpD
  by_cases h : Op.bytesLess x y = true
  · rw [if_pos h]
    refine ⟨fun g => by omega, fun g => ?_⟩
    rw [g, less_irrefl] at h
    cases h
  · rw [if_neg h]
    by_cases e : x = y
    · rw [if_pos e]; exact ⟨fun _ => e, fun _ => rfl⟩
    · rw [if_neg e]; exact ⟨fun g => by omega, fun g => absurd g e⟩

/-- The place of a key, and whether it is there. -/
def Found (l : List NodeD) (key : List UInt8) (e : Ending) : Prop := ∃ (p : Nat) (f : Bool), e = .returned (.tuple #[.int .i64 p, .bool f]) ∧ Place l key p ∧ (f = true ↔ p < l.length ∧ nameAt l p = key)
theorem Found.mk {l : List NodeD} {key : List UInt8} {e : Ending} (p : Nat) (f : Bool) (h1 : e = .returned (.tuple #[.int .i64 p, .bool f])) (h2 : Place l key p) (h3 : f = true ↔ p < l.length ∧ nameAt l p = key) : Found l key e := ⟨p, f, h1, h2, h3⟩

set_option maxRecDepth 100000 in
set_option maxHeartbeats 1600000 in
theorem search_any (w : World) (g : Nat) (a : Option Addr) (cap : Nat) (l : List NodeD) (key : ByteArray) (hl : l.length ≤ 1048576) (hr : Rises l) (hg : g < w.heap.size) (hc : w.cell? ⟨g, 1, none⟩ = some (.func (.func 62) #[] #[])) (hS : Nodes w a l) :
    Calls Tryz.prog 74 #[.slice a l.length cap, .string key, .func (.func 75) #[] #[.pointer (some ⟨g, 0, none⟩)]] w
      fun e w' => Found l key.toList e ∧ Kept w w' := by
  have HRi := hide hr
  clear hr
  go_enter Tryz.func74, Tryz.ntmps74
  go_wp2
  go_loopw [9, 10] (fun x y wr => ∃ i j : Nat, x = .int .i64 i ∧ y = .int .i64 j ∧ i ≤ j ∧ j ≤ l.length ∧ (∀ t, t < i → Op.bytesLess (nameAt l t) key.toList = true) ∧ (∀ t, j ≤ t → t < l.length → Op.bytesLess (nameAt l t) key.toList = false) ∧ Kept w wr) (fun x y _ => (intOf y).toNat - (intOf x).toNat)
  case atStart => exact ⟨0, l.length, rfl, rfl, Nat.zero_le _, Nat.le_refl _, fun t ht => absurd ht (Nat.not_lt_zero _), fun t h1 h2 => by omega, Kept.refl _⟩
  case round =>
    obtain ⟨i, j, rfl, rfl, hij, hjn, hbe, hbh, hw⟩ := hrel
    have HB := hide (And.intro hbe hbh)
    clear hbe hbh
    by_cases hlt : (i : Int) < j
    · obtain ⟨h, hh⟩ : ∃ h : Nat, h = (i + j) / 2 := ⟨_, rfl⟩
      have hhlt : h < l.length := by omega
      have hhi : i ≤ h := by omega
      have hhj : h < j := by omega
      obtain ⟨b, o, cs, rfl, hb, hcs, aa, ca, rfl, hA⟩ := hS.kept hw h hhlt
      obtain ⟨d, hd⟩ : ∃ d, d = l.getD h NodeD.zero := ⟨_, rfl⟩
      rw [← hd] at hcs
      have HD := hide hd
      clear hd hA
      have c0 := hcs 0 _ rfl
      have c1 := hcs 1 _ rfl
      have c2 := hcs 2 _ rfl
      simp only [Nat.add_zero] at c0
      clear hcs
      have hmid : ((i : Int) + (j : Int)) / 2 = (h : Int) := by omega
      have HH := hide hh
      clear hh
      have hg' : g < wr.heap.size := Nat.lt_of_lt_of_le hg hw.size
      have hc' : wr.cell? ⟨g, 1, none⟩ = some (.func (.func 62) #[] #[]) := by rw [hw.cell hg]; exact hc
      go_wp2_with fail
      refine (findLit_any _ g d aa ca key hg' hc').mono ?_
      rintro e w1 ⟨rfl, k1⟩
      have hnm : nameAt l h = d.name.toList := by unfold nameAt; rw [← HD.out]
      have HC : Hid (cmpD d.name.toList key.toList < 0 ↔ Op.bytesLess (nameAt l h) key.toList = true) := by rw [hnm]; exact cmpD_neg
      clear c0 c1 c2 hnm
      generalize cmpD d.name.toList key.toList = r at *
      have hw1 := hw.trans k1
      clear hw k1
      by_cases hneg : r < 0
      · go_wp2
        go_roundw
        case rel =>
          obtain ⟨hbe, hbh⟩ := HB.out
          refine ⟨h + 1, j, by go_num, rfl, by omega, hjn, fun t ht => ?_, hbh, hw1⟩
          have hle := HC.out.1 hneg
          by_cases e : t = h
          · subst e; exact hle
          · exact less_trans _ _ _ (HRi.out t h (by omega) hhlt) hle
        case measure => simp [intOf]; omega
      · go_wp2
        go_roundw
        case rel =>
          obtain ⟨hbe, hbh⟩ := HB.out
          refine ⟨i, h, rfl, by go_num, hhi, by omega, hbe, fun t h1 h2 => ?_, hw1⟩
          have hle : Op.bytesLess (nameAt l h) key.toList = false := by
            cases hq : Op.bytesLess (nameAt l h) key.toList
            · rfl
            · have := HC.out.2 hq
              omega
          by_cases e : t = h
          · subst e; exact hle
          · cases hq : Op.bytesLess (nameAt l t) key.toList
            · rfl
            · rw [less_trans _ _ _ (HRi.out h t (by omega) h2) hq] at hle
              cases hle
        case measure => simp [intOf]; omega
    · have hij' : i = j := by omega
      subst hij'
      have HPl : Hid (Place l key.toList i) := ⟨hjn, HB.out.1, HB.out.2⟩
      clear HB
      by_cases hin : i < l.length
      · obtain ⟨b, o, cs, rfl, hb, hcs, aa, ca, rfl, hA⟩ := hS.kept hw i hin
        obtain ⟨d, hd⟩ : ∃ d, d = l.getD i NodeD.zero := ⟨_, rfl⟩
        rw [← hd] at hcs
        have HD := hide hd
        clear hd hA
        have c0 := hcs 0 _ rfl
        have c1 := hcs 1 _ rfl
        have c2 := hcs 2 _ rfl
        simp only [Nat.add_zero] at c0
        clear hcs
        have hg' : g < wr.heap.size := Nat.lt_of_lt_of_le hg hw.size
        have hc' : wr.cell? ⟨g, 1, none⟩ = some (.func (.func 62) #[] #[]) := by rw [hw.cell hg]; exact hc
        have hin' : (i : Int) < l.length := by omega
        go_wp2_with fail
        refine (findLit_any _ g d aa ca key hg' hc').mono ?_
        rintro e w1 ⟨rfl, k1⟩
        have hnm : nameAt l i = d.name.toList := by unfold nameAt; rw [← HD.out]
        have HC : Hid (cmpD d.name.toList key.toList = 0 ↔ nameAt l i = key.toList) := by rw [hnm]; exact cmpD_zero
        clear c0 c1 c2 hnm
        generalize cmpD d.name.toList key.toList = r at *
        have hw1 := hw.trans k1
        clear hw k1
        go_wp2
        go_ret2
        refine ⟨Found.mk i _ rfl HPl.out ?_, hw1⟩
        rw [← HC.out]
        simp [hin]
      · have hin' : ¬ (i : Int) < l.length := by omega
        go_wp2
        go_ret2
        exact ⟨Found.mk i false rfl HPl.out (by simp; intro h; exact absurd h hin), hw⟩

set_option maxRecDepth 100000 in
set_option maxHeartbeats 800000 in
theorem find_any (w : World) (a : Option Addr) (cap : Nat) (l : List NodeD) (key : ByteArray) (hl : l.length ≤ 1048576) (hr : Rises l) (hS : Nodes w a l) :
    Calls Tryz.prog 63 #[.agg #[.slice a l.length cap, .func (.func 62) #[] #[]], .string key] w
      fun e w' => Found l key.toList e ∧ Kept w w' := by
  have k0 : Kept w (w.alloc (.cells #[.slice a l.length cap, .func (.func 62) #[] #[]] 83)) := (Kept.refl _).alloc _
  go_enter Tryz.func63, Tryz.ntmps63
  go_wp2_with fail
  refine (search_any _ w.heap.size a cap l key hl hr (by simp) (by simp) (hS.kept k0)).mono ?_
  rintro e w1 ⟨hfo, k1⟩
  obtain ⟨p, f, rfl, hp, hf⟩ := hfo
  have HP := hide hp
  have HF := hide hf
  clear hp hf
  go_wp2
  go_ret2
  exact ⟨Found.mk p f rfl HP.out HF.out, k0.trans k1⟩

end Go.Proofs.YtmdckapiljhfdaaGreat

/-
  THE WALK over without.
-/
namespace Go.Proofs.YtmdckapiljhfdaaGreat
open Go.RowKit

/-- Two results, the first in a variable of its own: a struct. -/
theorem bodyPost_ret_cell2 {P : Program} {fn : Func} {R : Ending → World → Prop} {a : Act} {w : World} {p q : Tmp} {ty : TypeId} {b : Nat} (cs : List Value) (d : TypeDesc) (v : Value) (h : fn.results = #[.cell p ty, .tmp q])
    (hp : a.tmps.getD p undef = .pointer (some ⟨b, 0, none⟩)) (hr : w.rangeAt b 0 cs) (hu : P.underlying ty = some d) (hd : d.isRow = true) (hi : (P.info? ty).map (·.size) = some cs.length)
    (hq : a.tmps.getD q undef = v) (hdef : a.defers = []) (hR : R (.returned (.tuple #[.agg cs.toArray, v])) w) : bodyPost P fn R .ret a w := by
  refine bodyPost_ret ?_ hdef hR
  have hp' : a.tmps[p]?.getD undef = .pointer (some ⟨b, 0, none⟩) := by simpa using hp
  have hq' : a.tmps[q]?.getD undef = v := by simpa using hq
  simp only [results, h]
  simp [hp', hq', asAddr, run_loadVar_mid w b 0 ty cs d hr hu hd hi]

/-- A list without its element p. -/
def cutOut (l : List NodeD) (p : Nat) : List NodeD := l.take p ++ l.drop (p + 1)

/-- What is left of a list, and whether something was taken. -/
def Took (l : List NodeD) (key : List UInt8) (w' : World) (e : Ending) : Prop :=
  (∃ a n cap, e = .returned (.tuple #[.agg #[.slice a n cap, .func (.func 62) #[] #[]], .bool false]) ∧ ∀ j, j < l.length → nameAt l j ≠ key) ∨
  (∃ a cap p, e = .returned (.tuple #[.agg #[.slice a (cutOut l p).length cap, .func (.func 62) #[] #[]], .bool true]) ∧ p < l.length ∧ nameAt l p = key ∧ Nodes w' a (cutOut l p))

theorem Nodes.take {w : World} {b o : Nat} {l : List NodeD} (h : Nodes w (some ⟨b, o, none⟩) l) (p : Nat) : Nodes w (some ⟨b, o, none⟩) (l.take p) := by
  intro i hi
  rw [List.length_take] at hi
  obtain ⟨b0, o0, cs, e0, hb, hr, hN⟩ := h i (by omega)
  have e : (l.take p).getD i NodeD.zero = l.getD i NodeD.zero := by simp [List.getD, (by omega : i < p)]
  rw [e]
  exact ⟨b0, o0, cs, e0, hb, hr, hN⟩
theorem Nodes.drop {w : World} {b o : Nat} {l : List NodeD} (h : Nodes w (some ⟨b, o, none⟩) l) (p : Nat) : Nodes w (some ⟨b, o + p * 3, none⟩) (l.drop p) := by
  intro i hi
  rw [List.length_drop] at hi
  obtain ⟨b0, o0, cs, e0, hb, hr, hN⟩ := h (p + i) (by omega)
  simp only [Option.some.injEq, Addr.mk.injEq, and_true] at e0
  obtain ⟨rfl, rfl⟩ := e0
  have e : (l.drop p).getD i NodeD.zero = l.getD (p + i) NodeD.zero := by simp [List.getD, List.getElem?_drop]
  rw [e]
  refine ⟨b, o + p * 3, cs, rfl, hb, ?_, hN⟩
  have e2 : o + p * 3 + i * 3 = o + (p + i) * 3 := by omega
  rw [e2]
  exact hr

/-- Cells that were a list of nodes, later. -/
theorem news_of {w0 w : World} (k : Kept w0 w) {b o : Nat} {l : List NodeD} (hS : Nodes w0 (some ⟨b, o, none⟩) l) : ∃ news, Packed w0 news l ∧ ∀ j u, news[j]? = some u → w.cell? ⟨b, o + j, none⟩ = some u := by
  obtain ⟨news, h1, h2⟩ := packed_of_nodes hS
  refine ⟨news, h1, fun j u hu => ?_⟩
  have h := h2 j u hu
  rw [Addr.add_mid] at h
  rw [k.cell (World.block_lt_of_cell? _ _ h)]
  exact h

/-- The two parts of a list, as they are handed to Concat. -/
theorem rows_two {w1 w0 : World} (k0 : Kept w0 w1) {b o o2 cap c2 p : Nat} {l : List NodeD} {t : TypeId} (hS : Nodes w0 (some ⟨b, o, none⟩) l) (hp : p < l.length) (ho : l.length = p + 1 ∨ o2 = o + (p + 1) * 3) :
    Rows2 (w1.alloc (.cells #[.slice (some ⟨b, o, none⟩) p cap, .slice (some ⟨b, o2, none⟩) (l.length - (p + 1)) c2] t)).drew w0 w1.heap.size [l.take p, l.drop (p + 1)] (fun i => if i = 0 then (b, o) else (b, o2)) (fun i => if i = 0 then cap else c2) := by
  have k1 : Kept w0 (w1.alloc (.cells #[.slice (some ⟨b, o, none⟩) p cap, .slice (some ⟨b, o2, none⟩) (l.length - (p + 1)) c2] t)).drew := k0.trans ((Kept.refl _).alloc _).drew
  refine ⟨by show w1.heap.size < (w1.alloc _).heap.size; simp, fun i hi => ?_⟩
  match i, hi with
  | 0, _ =>
    refine ⟨?_, news_of k1 (hS.take p)⟩
    show (w1.alloc _).cell? _ = _
    simp [List.length_take, Nat.min_eq_left (Nat.le_of_lt hp)]
  | 1, _ =>
    refine ⟨?_, ?_⟩
    · show (w1.alloc _).cell? _ = _
      simp
    · refine news_of (o := o2) k1 ?_
      show Nodes _ (some ⟨b, o2, none⟩) (l.drop (p + 1))
      rcases ho with h | rfl
      · intro i hi
        rw [List.length_drop] at hi
        omega
      · exact hS.drop (p + 1)
  | i + 2, hi =>
    exfalso
    simp at hi
    omega

theorem cut_sum {l : List NodeD} (p : Nat) (hl : l.length ≤ 1048576) : (([l.take p, l.drop (p + 1)] : List (List NodeD)).map List.length).sum ≤ 3145728 := by
  simp [List.length_take, List.length_drop]
  omega

theorem cut_flat (l : List NodeD) (p : Nat) : ([l.take p, l.drop (p + 1)] : List (List NodeD)).flatten = cutOut l p := by simp [cutOut]

end Go.Proofs.YtmdckapiljhfdaaGreat
