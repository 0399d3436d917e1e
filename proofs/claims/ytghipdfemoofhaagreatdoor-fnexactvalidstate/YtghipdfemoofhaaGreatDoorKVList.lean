import Derived.Test.YtghipdfemoofhaaGreatDoorKFSpec2
import Derived.Test.YtghipdfemoofhaaGreatDoorKWNode
import Derived.Test.YtghipdfemoofhaaGreatDoorKWWeb
import Derived.Test.YtghipdfemoofhaaGreatDoorKWGo7

namespace Go.Proofs.YtghipdfemoofhaaGreatDoor
open Go.RowKit

theorem toList_inj {a b : ByteArray} : a.toList = b.toList ↔ a = b := by
  refine ⟨fun h => ba_ext ?_, fun h => by rw [h]⟩
  rw [ByteArray.toList_eq, ByteArray.toList_eq] at h
  exact h
theorem beq_no {a b : ByteArray} (h : (a.toList == b.toList) = false) : a ≠ b := fun e => by rw [e] at h; simp at h
theorem beq_yes {a b : ByteArray} (h : (a.toList == b.toList) = true) : a = b := toList_inj.1 (by simpa using h)

def RunX.zero : RunX := RunX.fresh ByteArray.empty
def RunX.cells (r : RunX) (xa : Option Addr) (xc : Nat) : List Value := [.string r.name, .bool r.over, .bool r.fail, .string r.text, .int .i64 r.at', .int .i64 r.visits, .slice xa r.texts.length xc]
theorem RunX.one (r : RunX) (x : Option Addr) (c : Nat) : ∀ u ∈ r.cells x c, u.oneCell' = true := by
  intro u hu
  simp only [RunX.cells, List.mem_cons, List.not_mem_nil, or_false] at hu
  rcases hu with rfl | rfl | rfl | rfl | rfl | rfl | rfl <;> rfl

def RunsX (w : World) (a : Option Addr) (l : List RunX) : Prop :=
  ∀ i, i < l.length → ∃ b o xa xc, a = some ⟨b, o, none⟩ ∧ b < w.heap.size ∧ w.rangeAt b (o + i * 7) ((l.getD i RunX.zero).cells xa xc) ∧ Strs w xa (l.getD i RunX.zero).texts ∧ (xa = none → xc = 0)
theorem RunsX.kept {w w' : World} {a : Option Addr} {l : List RunX} (h : RunsX w a l) (k : Kept w w') : RunsX w' a l := by
  intro i hi
  obtain ⟨b, o, xa, xc, e, hb, hr, hs, hx⟩ := h i hi
  exact ⟨b, o, xa, xc, e, Nat.lt_of_lt_of_le hb k.size, k.range hb hr, hs.kept k, hx⟩

def envOf (l : List RunX) : Env := fun n => l.find? fun r => decide (r.name = n)
theorem env_none {l : List RunX} {n : ByteArray} (h : ∀ j, j < l.length → (l.getD j RunX.zero).name ≠ n) : envOf l n = none := by
  unfold envOf
  rw [List.find?_eq_none]
  intro r hr
  obtain ⟨j, hj, e⟩ := List.getElem_of_mem hr
  have := h j hj
  simp only [List.getD, List.getElem?_eq_getElem hj, e, Option.getD_some] at this
  simpa using this
theorem env_at {n : ByteArray} : ∀ {l : List RunX} {k : Nat}, k < l.length → (l.getD k RunX.zero).name = n → (∀ j, j < k → (l.getD j RunX.zero).name ≠ n) → envOf l n = some (l.getD k RunX.zero)
  | [], _, hk, _, _ => absurd hk (Nat.not_lt_zero _)
  | r :: l, 0, _, h, _ => by
    have h' : r.name = n := h
    simp [envOf, List.find?, h', List.getD]
  | r :: l, k + 1, hk, h, hj => by
    have h0 : r.name ≠ n := hj 0 (by omega)
    have e : envOf (r :: l) n = envOf l n := by simp [envOf, List.find?, h0]
    rw [e, env_at (k := k) (by simpa using hk) h (fun j hj' => hj (j + 1) (by omega))]
    rfl
def PlaceX (l : List RunX) (n : ByteArray) (r : Int) : Prop := (∃ k : Nat, k < l.length ∧ r = (k : Int) ∧ envOf l n = some (l.getD k RunX.zero) ∧ (l.getD k RunX.zero).name = n) ∨ (r = -1 ∧ envOf l n = none)

def actsOf (webl : List NodeD) : Acts := fun n => (webl.find? fun d => decide (d.name = n)).map fun d => ⟨d.cost, d.steps⟩
theorem acts_none {l : List NodeD} {n : ByteArray} (h : ∀ j, j < l.length → (l.getD j NodeD.zero).name ≠ n) : actsOf l n = none := by
  unfold actsOf
  rw [Option.map_eq_none_iff, List.find?_eq_none]
  intro r hr
  obtain ⟨j, hj, e⟩ := List.getElem_of_mem hr
  have := h j hj
  simp only [List.getD, List.getElem?_eq_getElem hj, e, Option.getD_some] at this
  simpa using this
theorem acts_at {n : ByteArray} : ∀ {l : List NodeD} {k : Nat}, k < l.length → (l.getD k NodeD.zero).name = n → (∀ j, j < k → (l.getD j NodeD.zero).name ≠ n) → actsOf l n = some ⟨(l.getD k NodeD.zero).cost, (l.getD k NodeD.zero).steps⟩
  | [], _, hk, _, _ => absurd hk (Nat.not_lt_zero _)
  | r :: l, 0, _, h, _ => by
    have h' : r.name = n := h
    simp [actsOf, List.find?, h', List.getD]
  | r :: l, k + 1, hk, h, hj => by
    have h0 : r.name ≠ n := hj 0 (by omega)
    have e : actsOf (r :: l) n = actsOf l n := by simp [actsOf, List.find?, h0]
    rw [e, acts_at (k := k) (by simpa using hk) h (fun j hj' => hj (j + 1) (by omega))]
    rfl
def PlaceN (l : List NodeD) (n : ByteArray) (r : Int) : Prop := (∃ k : Nat, k < l.length ∧ r = (k : Int) ∧ actsOf l n = some ⟨(l.getD k NodeD.zero).cost, (l.getD k NodeD.zero).steps⟩ ∧ (l.getD k NodeD.zero).name = n ∧ ∀ j, j < k → (l.getD j NodeD.zero).name ≠ n) ∨ (r = -1 ∧ actsOf l n = none)

theorem acts_first {n : ByteArray} {A : ActionD} : ∀ {l : List NodeD}, actsOf l n = some A → ∃ k, k < l.length ∧ (l.getD k NodeD.zero).name = n ∧ (∀ j, j < k → (l.getD j NodeD.zero).name ≠ n) ∧ A = ⟨(l.getD k NodeD.zero).cost, (l.getD k NodeD.zero).steps⟩
  | [], h => by simp [actsOf] at h
  | d :: l, h => by
    by_cases e : d.name = n
    · refine ⟨0, by simp, e, fun j hj => absurd hj (Nat.not_lt_zero _), ?_⟩
      simp [actsOf, e] at h
      exact h.symm
    · have e2 : actsOf (d :: l) n = actsOf l n := by simp [actsOf, List.find?, e]
      rw [e2] at h
      obtain ⟨k, h1, h2, h3, h4⟩ := acts_first h
      refine ⟨k + 1, by simpa using h1, h2, fun j hj => ?_, h4⟩
      cases j with
      | zero => exact e
      | succ j => exact h3 j (by omega)
theorem first_unique {l : List NodeD} {n : ByteArray} {k k' : Nat} (h : (l.getD k NodeD.zero).name = n) (h1 : ∀ j, j < k → (l.getD j NodeD.zero).name ≠ n) (g : (l.getD k' NodeD.zero).name = n) (g1 : ∀ j, j < k' → (l.getD j NodeD.zero).name ≠ n) : k = k' := by
  rcases Nat.lt_trichotomy k k' with e | e | e
  · exact absurd h (g1 k e)
  · exact e
  · exact absurd g (h1 k' e)

def AnsSaid (webl : List NodeD) (l : List RunX) (n : ByteArray) (e : Ending) : Prop :=
  ∃ (f : Bool) (t : ByteArray) (ok : Bool), e = .returned (.tuple #[.agg #[.bool f, .string t], .bool ok]) ∧ ansOf (actsOf webl) (envOf l) n = if ok = true then some ⟨f, t⟩ else none

end Go.Proofs.YtghipdfemoofhaaGreatDoor

namespace Go.Proofs.YtghipdfemoofhaaGreatDoor
open Go.RowKit

structure RunX.Fits (r : RunX) : Prop where
  name : r.name.size ≤ maxLen
  text : r.text.size ≤ maxLen
  len : r.texts.length ≤ maxLen
  each : ∀ t ∈ r.texts, t.size ≤ maxLen

set_option maxHeartbeats 800000 in
theorem eqRunX_yes (w : World) (r : RunX) (x x' : Option Addr) (c c' : Nat) (hl : r.texts.length ≤ maxLen) (hS : Strs w x r.texts) (hS' : Strs w x' r.texts) :
    Calls Tryz.prog 85 #[.agg (r.cells x c).toArray, .agg (r.cells x' c').toArray] w fun e w' => e = .returned (.bool true) ∧ Kept w w' := by
  show Calls Tryz.prog 85 #[.agg #[.string r.name, .bool r.over, .bool r.fail, .string r.text, .int .i64 r.at', .int .i64 r.visits, .slice x r.texts.length c], .agg #[.string r.name, .bool r.over, .bool r.fail, .string r.text, .int .i64 r.at', .int .i64 r.visits, .slice x' r.texts.length c']] w _
  have k0 : Kept w ((w.alloc (.cells #[.string r.name, .bool r.over, .bool r.fail, .string r.text, .int .i64 r.at', .int .i64 r.visits, .slice x r.texts.length c] 72)).alloc (.cells #[.string r.name, .bool r.over, .bool r.fail, .string r.text, .int .i64 r.at', .int .i64 r.visits, .slice x' r.texts.length c'] 72)) := ((Kept.refl _).alloc _).alloc _
  go_enter Tryz.func85, Tryz.ntmps85
  go_wp2_with fail
  refine (eqStringS_yes _ x x' c c' r.texts hl (hS.kept (by repeat (first | exact k0 | apply Kept.drew))) (hS'.kept (by repeat (first | exact k0 | apply Kept.drew)))).mono ?_
  rintro e w1 ⟨rfl, k1⟩
  have k2 : Kept w w1 := Kept.trans (by repeat (first | exact k0 | apply Kept.drew)) k1
  go_wp2
  go_ret
  exact ⟨rfl, k2⟩

set_option maxRecDepth 100000 in
set_option maxHeartbeats 1600000 in
theorem eqRunSX_yes (w : World) (a a' : Option Addr) (cap cap' : Nat) (l : List RunX) (hl : l.length ≤ maxLen) (hs : ∀ r ∈ l, r.Fits) (hS : RunsX w a l) (hS' : RunsX w a' l) :
    Calls Tryz.prog 51 #[.slice a l.length cap, .slice a' l.length cap'] w fun e w' => e = .returned (.bool true) ∧ Kept w w' := by
  unfold maxLen at hl
  go_enter Tryz.func51, Tryz.ntmps51
  go_wp2
  go_loopw [5] (fun i wr => ∃ k : Nat, k ≤ l.length ∧ i = .int .i64 k ∧ Kept w wr) (fun i _ => l.length - (intOf i).toNat)
  case atStart => exact ⟨0, Nat.zero_le _, rfl, Kept.refl _⟩
  case round =>
    obtain ⟨k, hk, rfl, hw⟩ := hrel
    by_cases hlt : k < l.length
    · obtain ⟨b, o, x, cx, rfl, hb, hc, hx, _⟩ := hS.kept hw k hlt
      obtain ⟨b', o', x', cx', rfl, hb', hc', hx', _⟩ := hS'.kept hw k hlt
      have hsz := (hs (l.getD k RunX.zero) (by simp [List.getD, hlt])).len
      generalize l.getD k RunX.zero = s at *
      have c0 := hc 0 _ rfl
      have c1 := hc 1 _ rfl
      have c2 := hc 2 _ rfl
      have c3 := hc 3 _ rfl
      have c4 := hc 4 _ rfl
      have c5 := hc 5 _ rfl
      have c6 := hc 6 _ rfl
      have d0 := hc' 0 _ rfl
      have d1 := hc' 1 _ rfl
      have d2 := hc' 2 _ rfl
      have d3 := hc' 3 _ rfl
      have d4 := hc' 4 _ rfl
      have d5 := hc' 5 _ rfl
      have d6 := hc' 6 _ rfl
      simp only [Nat.add_zero] at c0 d0
      clear hc hc'
      go_wp2
      go_region_with (go_at_call 85; refine (eqRunX_yes _ s x x' cx cx' hsz (hx.kept (by repeat (first | apply Kept.drew | exact Kept.refl _))) (hx'.kept (by repeat (first | apply Kept.drew | exact Kept.refl _)))).mono ?_; rintro e w1 ⟨rfl, hw1⟩)
      all_goals
        go_wp2
        go_roundw
        case rel => exact ⟨k + 1, by omega, by go_num, by repeat (first | assumption | apply Kept.drew | refine Kept.trans ?_ (by assumption))⟩
        case measure => simp [intOf]; omega
    · go_wp2
      go_ret
      exact ⟨rfl, hw⟩

theorem twoCells {w w1 : World} {v0 v1 : Value} {t : TypeId} (k : Kept (w.alloc (.cells #[v0, v1] t)) w1) : w1.cell? ⟨w.heap.size, 0, none⟩ = some v0 ∧ w1.cell? ⟨w.heap.size, 1, none⟩ = some v1 := by
  have hlt : w.heap.size < (w.alloc (.cells #[v0, v1] t)).heap.size := by simp
  constructor
  · rw [k.cell hlt]; simp
  · rw [k.cell hlt]; simp

set_option maxHeartbeats 800000 in
theorem eqStateX_yes (w : World) (a a' d d' : Option Addr) (cap cap' e0 e1 : Nat) (l : List ByteArray) (r : List RunX) (hl : l.length ≤ maxLen) (hr : r.length ≤ maxLen) (hs : ∀ x ∈ r, x.Fits) (hS : Strs w a l) (hS' : Strs w a' l) (hR : RunsX w d r) (hR' : RunsX w d' r) :
    Calls Tryz.prog 17 #[.agg #[.slice a l.length cap, .slice d r.length e0], .agg #[.slice a' l.length cap', .slice d' r.length e1]] w fun e w' => e = .returned (.bool true) ∧ Kept w w' := by
  have k0 : Kept w ((w.alloc (.cells #[.slice a l.length cap, .slice d r.length e0] 38)).alloc (.cells #[.slice a' l.length cap', .slice d' r.length e1] 38)) := ((Kept.refl _).alloc _).alloc _
  go_enter Tryz.func17, Tryz.ntmps17
  go_wp2_with fail
  refine (eqStringS_yes _ a a' cap cap' l hl (hS.kept (by repeat (first | exact k0 | apply Kept.drew))) (hS'.kept (by repeat (first | exact k0 | apply Kept.drew)))).mono ?_
  rintro e w1 ⟨rfl, k1⟩
  have z1 := k1.size
  simp only [World.size_alloc] at z1
  have q0 := twoCells (w := w) (Kept.trans ((Kept.refl _).alloc _) (Kept.trans (by repeat (first | exact Kept.refl _ | apply Kept.drew)) k1))
  have q1 := twoCells (w := w.alloc (.cells #[.slice a l.length cap, .slice d r.length e0] 38)) (Kept.trans (by repeat (first | exact Kept.refl _ | apply Kept.drew)) k1)
  simp only [World.size_alloc] at q1
  have k2 : Kept w w1 := Kept.trans (by repeat (first | exact k0 | apply Kept.drew)) k1
  obtain ⟨p0, p1⟩ := q0
  obtain ⟨p2, p3⟩ := q1
  clear k0 k1
  go_wp2_with fail
  refine (eqRunSX_yes _ d d' e0 e1 r hr hs (hR.kept (by repeat (first | exact k2 | apply Kept.drew))) (hR'.kept (by repeat (first | exact k2 | apply Kept.drew)))).mono ?_
  rintro e w2 ⟨rfl, k3⟩
  have k4 : Kept w w2 := Kept.trans (by repeat (first | exact k2 | apply Kept.drew)) k3
  go_wp2
  go_ret
  exact ⟨rfl, k4⟩

def szRunD (r : RunX) : Nat := r.name.size + r.text.size + szStrs r.texts
def szRunsD (l : List RunX) : Nat := l.length + (l.map szRunD).sum
def szStateD (roots : List ByteArray) (l : List RunX) : Nat := szStrs roots + szRunsD l

set_option maxHeartbeats 1600000 in
theorem szRun_any (w : World) (r : RunX) (xa : Option Addr) (xc : Nat) (left : Int) (hf : r.Fits) (hS : Strs w xa r.texts) (h0 : 0 ≤ left) (h1 : left ≤ 1048576) :
    Calls Tryz.prog 74 #[.agg (r.cells xa xc).toArray, .int .i64 left] w fun e w' => e = .returned (.int .i64 (szL (szRunD r) left)) ∧ Kept w w' := by
  show Calls Tryz.prog 74 #[.agg #[.string r.name, .bool r.over, .bool r.fail, .string r.text, .int .i64 r.at', .int .i64 r.visits, .slice xa r.texts.length xc], .int .i64 left] w _
  have hn := hf.name
  have ht := hf.text
  unfold maxLen at hn ht
  have k0 : Kept w (w.alloc (.cells #[.string r.name, .bool r.over, .bool r.fail, .string r.text, .int .i64 r.at', .int .i64 r.visits, .slice xa r.texts.length xc] 114)) := (Kept.refl _).alloc _
  by_cases hle : (r.name.size : Int) ≤ left
  · by_cases hle1 : (r.text.size : Int) ≤ left - r.name.size
    · go_enter Tryz.func74, Tryz.ntmps74
      go_wp2_with fail
      refine (szStringS_any _ xa xc r.texts _ hf.len hf.each (hS.kept k0) (by omega) (by omega)).mono ?_
      rintro e w1 ⟨rfl, rfl⟩
      by_cases hle2 : (szStrs r.texts : Int) ≤ left - r.name.size - r.text.size
      · rw [szL_pos hle2]
        go_wp2
        go_ret
        exact ⟨ret_int (by rw [szL_pos (by unfold szRunD; omega)]; unfold szRunD; omega), k0⟩
      · rw [szL_neg (by omega)]
        go_wp2
        go_ret
        exact ⟨ret_int (szL_neg (by unfold szRunD; omega)).symm, k0⟩
    · go_enter Tryz.func74, Tryz.ntmps74
      go_wp2
      go_ret
      exact ⟨ret_int (szL_neg (by unfold szRunD; omega)).symm, k0⟩
  · go_enter Tryz.func74, Tryz.ntmps74
    go_wp2
    go_ret
    exact ⟨ret_int (szL_neg (by unfold szRunD; omega)).symm, k0⟩

set_option maxHeartbeats 1600000 in
theorem szRunS_any (w : World) (a : Option Addr) (cap : Nat) (l : List RunX) (left : Int) (hl : l.length ≤ maxLen) (hs : ∀ s ∈ l, s.Fits)
    (hS : RunsX w a l) (h0 : 0 ≤ left) (h1 : left ≤ 1048576) :
    Calls Tryz.prog 42 #[.slice a l.length cap, .int .i64 left] w fun e w' => e = .returned (.int .i64 (szL (szRunsD l) left)) ∧ Kept w w' := by
  unfold maxLen at hl
  go_enter Tryz.func42, Tryz.ntmps42
  go_wp2
  · go_ret
    exact ⟨ret_int (szL_neg (by unfold szRunsD; omega)).symm, Kept.refl _⟩
  · go_loopw [1, 5] (fun x i wr => ∃ k : Nat, k ≤ l.length ∧ i = .int .i64 k ∧ x = .int .i64 (left - l.length - sumTo szRunD l k) ∧ 0 ≤ left - l.length - sumTo szRunD l k ∧ Kept w wr) (fun _ i _ => l.length - (intOf i).toNat)
    case atStart => exact ⟨0, Nat.zero_le _, rfl, by simp [sumTo_zero], by simp [sumTo_zero]; omega, Kept.refl _⟩
    case round =>
      obtain ⟨k, hk, rfl, rfl, hge, hw⟩ := hrel
      by_cases hlt : k < l.length
      · obtain ⟨b, o, x, cx, rfl, hb, hc, hx, _⟩ := hS.kept hw k hlt
        have hsz : (l.getD k RunX.zero).Fits := hs _ (by simp [List.getD, hlt])
        have HS : Hid (sumTo szRunD l (k + 1) = sumTo szRunD l k + szRunD (l.getD k RunX.zero)) := sumTo_succ _ l _ k hlt
        have HT := sumTo_le szRunD l (k + 1)
        generalize l.getD k RunX.zero = s at *
        have c0 := hc 0 _ rfl
        have c1 := hc 1 _ rfl
        have c2 := hc 2 _ rfl
        have c3 := hc 3 _ rfl
        have c4 := hc 4 _ rfl
        have c5 := hc 5 _ rfl
        have c6 := hc 6 _ rfl
        simp only [Nat.add_zero] at c0
        clear hc
        go_wp2_with fail
        refine (szRun_any _ s x cx _ hsz hx (by omega) (by omega)).mono ?_
        rintro e w1 ⟨rfl, hw1⟩
        have hw2 := hw.trans hw1
        by_cases hle : (szRunD s : Int) ≤ left - l.length - sumTo szRunD l k
        · rw [szL_pos hle]
          clear c0 c1 c2 c3 c4 c5 c6 hx hw hw1
          go_wp2
          go_roundw
          case rel => exact ⟨k + 1, by omega, by go_num, by rw [HS.out]; go_num, by rw [HS.out]; omega, hw2⟩
          case measure => simp [intOf]; omega
        · rw [szL_neg (by omega)]
          clear c0 c1 c2 c3 c4 c5 c6 hx hw hw1
          go_wp2
          go_ret
          exact ⟨ret_int (szL_neg (by unfold szRunsD; have := HS.out; omega)).symm, hw2⟩
      · go_wp2
        go_ret
        have : k = l.length := by omega
        subst this
        rw [sumTo_all] at hge ⊢
        exact ⟨ret_int (by rw [szL_pos (by unfold szRunsD; omega)]; unfold szRunsD; omega), hw⟩

set_option maxHeartbeats 800000 in
theorem szState_any (w : World) (a d : Option Addr) (cap e0 : Nat) (roots : List ByteArray) (l : List RunX) (left : Int) (hrl : roots.length ≤ maxLen) (hrs : ∀ s ∈ roots, s.size ≤ maxLen) (hl : l.length ≤ maxLen) (hs : ∀ s ∈ l, s.Fits) (hR : Strs w a roots) (hS : RunsX w d l) (h0 : 0 ≤ left) (h1 : left ≤ 1048576) :
    Calls Tryz.prog 10 #[.agg #[.slice a roots.length cap, .slice d l.length e0], .int .i64 left] w fun e w' => e = .returned (.int .i64 (szL (szStateD roots l) left)) ∧ Kept w w' := by
  have k0 : Kept w (w.alloc (.cells #[.slice a roots.length cap, .slice d l.length e0] 28)) := (Kept.refl _).alloc _
  go_enter Tryz.func10, Tryz.ntmps10
  go_wp2_with fail
  refine (szStringS_any _ a cap roots left hrl hrs (hR.kept k0) h0 h1).mono ?_
  rintro e w1 ⟨rfl, rfl⟩
  by_cases hle : (szStrs roots : Int) ≤ left
  · rw [szL_pos hle]
    go_wp2_with fail
    refine (szRunS_any _ d e0 l _ hl hs (hS.kept k0) (by omega) (by omega)).mono ?_
    rintro e w1 ⟨rfl, k1⟩
    have k2 := k0.trans k1
    clear k0 k1
    by_cases hle2 : (szRunsD l : Int) ≤ left - szStrs roots
    · rw [szL_pos hle2]
      go_wp2
      go_ret
      exact ⟨ret_int (by rw [szL_pos (by unfold szStateD; omega)]; unfold szStateD; omega), k2⟩
    · rw [szL_neg (by omega)]
      go_wp2
      go_ret
      exact ⟨ret_int (szL_neg (by unfold szStateD; omega)).symm, k2⟩
  · rw [szL_neg (by omega)]
    go_wp2
    go_ret
    exact ⟨ret_int (szL_neg (by unfold szStateD; omega)).symm, k0⟩

end Go.Proofs.YtghipdfemoofhaaGreatDoor

namespace Go.Proofs.YtghipdfemoofhaaGreatDoor
open Go.RowKit

def RunNewX (w : World) (B j : Nat) (s : RunX) : Prop :=
  ∃ b, B < b ∧ w.rangeAt B (j * 7) (s.cells (some ⟨b, 0, none⟩) s.texts.length) ∧ Strs w (some ⟨b, 0, none⟩) s.texts
theorem RunNewX.kept {w w' : World} {B j : Nat} {s : RunX} (h : RunNewX w B j s) (k : Kept w w') (hB : B < w.heap.size) : RunNewX w' B j s := by
  obtain ⟨b, h1, h2, h3⟩ := h
  exact ⟨b, h1, k.range hB h2, h3.kept k⟩
theorem RunNewX.setCells {w : World} {B j o : Nat} {s : RunX} {vs : List Value} (h : RunNewX w B j s) (ho : j * 7 + 7 ≤ o ∨ o + vs.length ≤ j * 7) : RunNewX (w.setCells B o vs) B j s := by
  obtain ⟨b, h1, h2, h3⟩ := h
  exact ⟨b, h1, World.rangeAt_setCells_apart h2 _ _ _ (by right; simpa [RunX.cells, or_comm] using ho), Strs.setCells (by omega) _ _ h3⟩
theorem RunNewX.setCell {w : World} {B j : Nat} {s : RunX} (h : RunNewX w B j s) {p : Addr} (hp : p.block < B) (v : Value) : RunNewX (w.setCell p v) B j s := by
  obtain ⟨b, h1, h2, h3⟩ := h
  refine ⟨b, h1, fun i u hu => ?_, h3.setCell (by omega) v⟩
  rw [World.cell?_setCell_other _ _ _ _ (by intro e; have := congrArg Addr.block e; simp at this; omega)]
  exact h2 i u hu
def RunsNewX (w : World) (B : Nat) (l : List RunX) : Prop := B < w.heap.size ∧ ∀ j, j < l.length → RunNewX w B j (l.getD j RunX.zero)
theorem RunsNewX.setCell {w : World} {B : Nat} {l : List RunX} (h : RunsNewX w B l) {p : Addr} (hp : p.block < B) (v : Value) : RunsNewX (w.setCell p v) B l :=
  ⟨by rw [size_setCell]; exact h.1, fun j hj => (h.2 j hj).setCell hp v⟩
theorem RunsNewX.kept {w w' : World} {B : Nat} {l : List RunX} (h : RunsNewX w B l) (k : Kept w w') : RunsNewX w' B l :=
  ⟨Nat.lt_of_lt_of_le h.1 k.size, fun j hj => (h.2 j hj).kept k h.1⟩
theorem RunsNewX.runs {w : World} {B : Nat} {l : List RunX} (h : RunsNewX w B l) : RunsX w (some ⟨B, 0, none⟩) l := fun i hi => by
  obtain ⟨b, h1, h2, h3⟩ := h.2 i hi
  exact ⟨B, 0, some ⟨b, 0, none⟩, _, rfl, h.1, by rw [Nat.zero_add]; exact h2, h3, fun e => by cases e⟩

theorem Tryz.sizeRun7 : (Tryz.prog.info? 72).map (·.size) = some 7 := by kernel_rfl
set_option maxRecDepth 100000 in
set_option maxHeartbeats 1600000 in
theorem toRunX_any (w : World) (r : RunX) (xa : Option Addr) (xc : Nat) (hl : r.texts.length ≤ 1048576) (hS : Strs w xa r.texts) :
    Calls Tryz.prog 77 #[.agg (r.cells xa xc).toArray] w fun e w' => ∃ b, e = .returned (.agg (r.cells (some ⟨b, 0, none⟩) r.texts.length).toArray) ∧ Strs w' (some ⟨b, 0, none⟩) r.texts ∧ Kept w w' ∧ w.heap.size ≤ b := by
  show Calls Tryz.prog 77 #[.agg #[.string r.name, .bool r.over, .bool r.fail, .string r.text, .int .i64 r.at', .int .i64 r.visits, .slice xa r.texts.length xc]] w _
  go_enter Tryz.func77, Tryz.ntmps77
  go_wp2_with fail
  refine (toStringS_any _ xa xc r.texts hl (hS.kept (by repeat (first | (refine Kept.setCell ?_ (by simp <;> omega) _) | apply Kept.alloc | exact Kept.refl _)))).mono ?_
  rintro e w1 ⟨b, rfl, hN, k1, hb⟩
  obtain ⟨hc1, hf1⟩ := k1.rules
  have hz1 := k1.size
  simp only [World.size_alloc] at hb hz1
  have K1 : Kept w w1 := Kept.trans (by repeat (first | (refine Kept.setCell ?_ (by simp <;> omega) _) | apply Kept.alloc | exact Kept.refl _)) k1
  have hrow1 : Row w1 (w.heap.size + 1) 7 := Row.kept (by
    have h7 : Row ((w.alloc (.cells #[.string r.name, .bool r.over, .bool r.fail, .string r.text, .int .i64 r.at', .int .i64 r.visits, .slice xa r.texts.length xc] 114)).alloc (.cells #[.string ⟨#[]⟩, .bool false, .bool false, .string ⟨#[]⟩, .int .i64 0, .int .i64 0, .slice none 0 0] 72)) (w.heap.size + 1) 7 := by
      have := Row.made (w.alloc (.cells #[.string r.name, .bool r.over, .bool r.fail, .string r.text, .int .i64 r.at', .int .i64 r.visits, .slice xa r.texts.length xc] 114)) #[.string ⟨#[]⟩, .bool false, .bool false, .string ⟨#[]⟩, .int .i64 0, .int .i64 0, .slice none 0 0] 72
      simpa using this
    repeat (first | exact h7 | (refine Row.alloc ?_ _) | (refine Row.set ?_ _ rfl _))) k1
  have HRow := hide hrow1
  clear k1 hrow1
  have z0 : w.heap.size < w1.heap.size := by omega
  have z1 : w.heap.size + 1 < w1.heap.size := by omega
  have z2 : w.heap.size + 1 + 1 < w1.heap.size := by omega
  go_wp2
  have hX : Row (w1.setCell ⟨w.heap.size + 1 + 1, 6, none⟩ (.slice (some ⟨b, 0, none⟩) r.texts.length r.texts.length)) (w.heap.size + 1) 7 := Row.set HRow.out _ rfl _
  have hR := World.rangeAt_setCells_same _ (w.heap.size + 1) 0 (r.cells (some ⟨b, 0, none⟩) r.texts.length) (hX.there (o := 0) (m := 7) (Nat.le_refl _))
  refine bodyPost_ret_cell (r.cells (some ⟨b, 0, none⟩) r.texts.length) _ Tryz.results77 rfl hR Tryz.underlying72 rfl Tryz.sizeRun7 rfl ⟨b, rfl, ?_, ?_, by omega⟩
  · repeat (first | (refine Strs.setCell ?_ (by simp <;> omega) _) | exact hN)
  · repeat (first | (refine Kept.setCell ?_ (by simp <;> omega) _) | exact K1)

theorem Tryz.infoRun7 : (Tryz.prog.info? 72).map (fun i => (i.zero, i.size, i.bytes)) = some (some (.agg #[.string ⟨#[]⟩, .bool false, .bool false, .string ⟨#[]⟩, .int .i64 0, .int .i64 0, .slice none 0 0]), 7, 80) := by kernel_rfl
set_option maxRecDepth 100000 in
set_option maxHeartbeats 1600000 in
theorem toRunSX_any (w : World) (a : Option Addr) (cap : Nat) (l : List RunX) (hl : l.length ≤ 1048576) (hs : ∀ s ∈ l, s.texts.length ≤ 1048576) (hS : RunsX w a l) :
    Calls Tryz.prog 45 #[.slice a l.length cap] w fun e w' => ∃ b, e = .returned (.slice (some ⟨b, 0, none⟩) l.length l.length) ∧ RunsNewX w' b l ∧ Kept w w' ∧ w.heap.size ≤ b := by
  have hmk := run_make_many (P := Tryz.prog) 36 72 _ _ _ Tryz.underlying36 Tryz.infoRun7 .i64 .i64 l.length (by omega) (by omega)
  go_enter Tryz.func45, Tryz.ntmps45
  go_wp2
  clear hmk
  have hrow := Row.made w (madeCells #[.string ⟨#[]⟩, .bool false, .bool false, .string ⟨#[]⟩, .int .i64 0, .int .i64 0, .slice none 0 0] (l.length * 7)) 72
  rw [size_madeCells] at hrow
  have hkept : Kept w (w.alloc (.cells (madeCells #[.string ⟨#[]⟩, .bool false, .bool false, .string ⟨#[]⟩, .int .i64 0, .int .i64 0, .slice none 0 0] (l.length * 7)) 72)) := (Kept.refl _).alloc _
  go_loopw [4] (fun i wr => ∃ k : Nat, k ≤ l.length ∧ i = .int .i64 k ∧ Kept w wr ∧ Row wr w.heap.size (l.length * 7) ∧ ∀ j, j < k → RunNewX wr w.heap.size j (l.getD j RunX.zero)) (fun i _ => l.length - (intOf i).toNat)
  case atStart => exact ⟨0, Nat.zero_le _, rfl, hkept, hrow, fun j hj => absurd hj (Nat.not_lt_zero _)⟩
  case round =>
    obtain ⟨k, hk, rfl, hw, hr, hf⟩ := hrel
    clear hrow hkept
    by_cases hlt : k < l.length
    · obtain ⟨b, o, x, cx, rfl, hb, hc, hA, _⟩ := hS.kept hw k hlt
      have hsz := hs (l.getD k RunX.zero) (by simp [List.getD, hlt])
      have HF := hide hf
      clear hf
      generalize hs : l.getD k RunX.zero = s at *
      have HSs := hide hs
      clear hs
      have c0 := hc 0 _ rfl
      have c1 := hc 1 _ rfl
      have c2 := hc 2 _ rfl
      have c3 := hc 3 _ rfl
      have c4 := hc 4 _ rfl
      have c5 := hc 5 _ rfl
      have c6 := hc 6 _ rfl
      simp only [Nat.add_zero] at c0
      clear hc
      go_wp2_with fail
      refine (toRunX_any _ s x cx hsz hA).mono ?_
      rintro e w1 ⟨b1, rfl, g1, hw1, g3⟩
      have hrl := hr.lt
      have hw2 := hw.trans hw1
      have hr1 := hr.kept hw1
      generalize hcs : s.cells (some ⟨b1, 0, none⟩) s.texts.length = cs
      have hlen : cs.length = 7 := by rw [← hcs]; rfl
      have hone : cs.toArray.all (·.oneCell') = true := by rw [← hcs, List.all_toArray, List.all_eq_true]; exact RunX.one s _ _
      have hth : w1.there w.heap.size (k * 7) cs.toArray.size := by simpa [hlen] using hr1.there (o := k * 7) (m := 7) (by omega)
      have hsize : (Tryz.prog.info? 72).map (·.size) = some cs.toArray.size := by rw [Tryz.sizeRun7]; simp [hlen]
      have HCS := hide hcs
      have HLEN := hide hlen
      have HSZ := hide hsize
      clear hcs hlen hsize
      have HR : Hid (Row w1 w.heap.size (l.length * 7)) := hr1
      have HF1 : Hid (∀ j, j < k → RunNewX w1 w.heap.size j (l.getD j RunX.zero)) := fun j hj => (HF.out j hj).kept hw1 hr.lt
      clear HF c0 c1 c2 c3 c4 c5 c6 hw hw1 hr hr1 hA
      go_wp2_with (refine wpList_store_mid rfl 72 _ _ rfl w.heap.size (k * 7) cs.toArray rfl rfl hth (unhide HSZ) hone ?_)
      go_roundw
      case rel =>
        refine ⟨k + 1, by omega, by go_num, Kept.setCells (Nat.le_refl _) _ _ hw2, Row.setCells _ _ HR.out, fun j hj => ?_⟩
        by_cases e : j = k
        · subst e
          rw [unhide HSs]
          exact ⟨b1, by omega, by rw [HCS.out]; exact World.rangeAt_setCells_same _ _ _ _ (by simpa using hth), Strs.setCells (by omega) _ _ g1⟩
        · exact (HF1.out j (by omega)).setCells (by rw [HLEN.out]; omega)
      case measure => simp [intOf]; omega
    · go_wp2
      go_ret
      have : k = l.length := by omega
      subst this
      exact ⟨w.heap.size, rfl, ⟨hr.lt, hf⟩, hw, Nat.le_refl _⟩

theorem Tryz.sizeState2 : (Tryz.prog.info? 38).map (·.size) = some 2 := by kernel_rfl
set_option maxHeartbeats 800000 in
theorem toStateX_any (w : World) (a d : Option Addr) (cap e0 : Nat) (roots : List ByteArray) (l : List RunX) (hrl : roots.length ≤ 1048576) (hl : l.length ≤ 1048576) (hs : ∀ s ∈ l, s.texts.length ≤ 1048576) (hR : Strs w a roots) (hS : RunsX w d l) :
    Calls Tryz.prog 13 #[.agg #[.slice a roots.length cap, .slice d l.length e0]] w fun e w' => ∃ b1 b2, e = .returned (.agg #[.slice (some ⟨b1, 0, none⟩) roots.length roots.length, .slice (some ⟨b2, 0, none⟩) l.length l.length]) ∧ Strs w' (some ⟨b1, 0, none⟩) roots ∧ RunsNewX w' b2 l ∧ Kept w w' ∧ w.heap.size ≤ b1 ∧ w.heap.size ≤ b2 := by
  go_enter Tryz.func13, Tryz.ntmps13
  go_wp2_with fail
  refine (toStringS_any _ a cap roots hrl (hR.kept (by repeat (first | apply Kept.alloc | exact Kept.refl _)))).mono ?_
  rintro e w1 ⟨b1, rfl, hS1, k1, hb1⟩
  obtain ⟨hc1, hf1⟩ := k1.rules
  have hz1 := k1.size
  simp only [World.size_alloc] at hb1 hz1
  have K1 : Kept w w1 := Kept.trans (by repeat (first | apply Kept.alloc | exact Kept.refl _)) k1
  have hrow1 : Row w1 (w.heap.size + 1) 2 := Row.kept (Row.alloc (by have := Row.made (w.alloc (.cells #[.slice a roots.length cap, .slice d l.length e0] 28)) #[.slice none 0 0, .slice none 0 0] 38; simpa using this) _) k1
  clear k1
  go_wp2_with fail
  refine (toRunSX_any _ d e0 l hl hs (hS.kept (by repeat (first | (refine Kept.setCell ?_ (by simp <;> omega) _) | exact K1)))).mono ?_
  rintro e w2 ⟨b2, rfl, hS2, k2, hb2⟩
  obtain ⟨hc2, hf2⟩ := k2.rules
  have hz2 := k2.size
  simp only [size_setCell] at hb2 hz2 hc2 hf2
  have K2 : Kept w w2 := Kept.trans (by repeat (first | (refine Kept.setCell ?_ (by simp <;> omega) _) | exact K1)) k2
  have hS1' := Strs.kept (Strs.setCell hS1 (p := ⟨w.heap.size + 1 + 1, 0, none⟩) (by simp <;> omega) (.slice (some ⟨b1, 0, none⟩) roots.length roots.length)) k2
  have HRow : Hid (Row w2 (w.heap.size + 1) 2) := Row.kept (by repeat (first | refine Row.set ?_ _ rfl _ | exact hrow1)) k2
  clear k2 K1 hS1 hrow1
  have z0 : w.heap.size < w1.heap.size := by omega
  have z1 : w.heap.size + 1 < w1.heap.size := by omega
  have z2 : w.heap.size + 1 + 1 < w1.heap.size := by omega
  go_wp2
  have hX : Row (w2.setCell ⟨w.heap.size + 1 + 1, 1, none⟩ (.slice (some ⟨b2, 0, none⟩) l.length l.length)) (w.heap.size + 1) 2 := Row.set HRow.out _ rfl _
  have hR := World.rangeAt_setCells_same _ (w.heap.size + 1) 0 [.slice (some ⟨b1, 0, none⟩) roots.length roots.length, .slice (some ⟨b2, 0, none⟩) l.length l.length] (hX.there (o := 0) (m := 2) (Nat.le_refl _))
  refine bodyPost_ret_cell [.slice (some ⟨b1, 0, none⟩) roots.length roots.length, .slice (some ⟨b2, 0, none⟩) l.length l.length] _ Tryz.results13 rfl hR Tryz.underlying38 rfl Tryz.sizeState2 rfl ⟨b1, b2, rfl, ?_, ?_, ?_, by omega, by omega⟩
  · repeat (first | (refine Strs.setCell ?_ (by simp <;> omega) _) | exact hS1')
  · repeat (first | (refine RunsNewX.setCell ?_ (by simp <;> omega) _) | exact hS2)
  · repeat (first | (refine Kept.setCell ?_ (by simp <;> omega) _) | exact K2)

end Go.Proofs.YtghipdfemoofhaaGreatDoor

namespace Go.Proofs.YtghipdfemoofhaaGreatDoor

def lessX (a b : ByteArray) : Prop := Op.bytesLess a.toList b.toList = true
theorem lessX_irrefl (a : ByteArray) : ¬ lessX a a := fun h => by unfold lessX at h; rw [less_irrefl] at h; cases h
theorem lessX_trans {a b c : ByteArray} (h : lessX a b) (g : lessX b c) : lessX a c := less_trans _ _ _ h g
theorem lessX_asymm {a b : ByteArray} (h : lessX a b) : ¬ lessX b a := fun g => lessX_irrefl a (lessX_trans h g)
theorem lessX_ne {a b : ByteArray} (h : lessX a b) : a ≠ b := fun e => by rw [e] at h; exact lessX_irrefl b h

theorem lessX_total (a b : ByteArray) : lessX a b ∨ a = b ∨ lessX b a := by
  unfold lessX
  cases h : Op.bytesLess a.toList b.toList with
  | true => exact .inl rfl
  | false =>
    by_cases e : a = b
    · exact .inr (.inl e)
    · exact .inr (.inr (less_total _ _ h fun e2 => e (toList_inj.1 e2)))

def AscX (l : List RunX) : Prop := l.Pairwise fun x y => lessX x.name y.name

theorem env_mem {l : List RunX} {n : ByteArray} {r : RunX} (h : envOf l n = some r) : r ∈ l ∧ r.name = n := by
  unfold envOf at h
  exact ⟨List.mem_of_find?_eq_some h, by simpa using List.find?_some h⟩
theorem asc_env {l : List RunX} (h : AscX l) {r : RunX} (hr : r ∈ l) : envOf l r.name = some r := by
  induction l with
  | nil => cases hr
  | cons x l ih =>
    rw [AscX, List.pairwise_cons] at h
    rcases List.mem_cons.1 hr with rfl | hr
    · simp [envOf]
    · have hne : x.name ≠ r.name := lessX_ne (h.1 r hr)
      have e : envOf (x :: l) r.name = envOf l r.name := by simp [envOf, List.find?, hne]
      rw [e]
      exact ih h.2 hr
theorem asc_ext : ∀ {l l' : List RunX}, AscX l → AscX l' → (∀ r, r ∈ l ↔ r ∈ l') → l = l'
  | [], [], _, _, _ => rfl
  | [], y :: ys, _, _, h => by have := (h y).2 (by simp); cases this
  | x :: xs, [], _, _, h => by have := (h x).1 (by simp); cases this
  | x :: xs, y :: ys, hl, hl', h => by
    rw [AscX, List.pairwise_cons] at hl hl'
    have hxy : x = y := by
      rcases List.mem_cons.1 ((h x).1 (by simp)) with e | hx
      · exact e
      · rcases List.mem_cons.1 ((h y).2 (by simp)) with e | hy
        · exact e.symm
        · exact absurd (hl.1 y hy) (lessX_asymm (hl'.1 x hx))
    subst hxy
    rw [asc_ext hl.2 hl'.2 fun r => ?_]
    constructor
    · intro hr
      rcases List.mem_cons.1 ((h r).1 (List.mem_cons_of_mem _ hr)) with rfl | h1
      · exact absurd (hl.1 r hr) (lessX_irrefl _)
      · exact h1
    · intro hr
      rcases List.mem_cons.1 ((h r).2 (List.mem_cons_of_mem _ hr)) with rfl | h1
      · exact absurd (hl'.1 r hr) (lessX_irrefl _)
      · exact h1
theorem asc_eq {l l' : List RunX} (h : AscX l) (h' : AscX l') (e : envOf l = envOf l') : l = l' := by
  refine asc_ext h h' fun r => ⟨fun hr => ?_, fun hr => ?_⟩
  · have := asc_env h hr; rw [e] at this; exact (env_mem this).1
  · have := asc_env h' hr; rw [← e] at this; exact (env_mem this).1

theorem env_iff {l : List RunX} (hd : ∀ x ∈ l, ∀ y ∈ l, x.name = y.name → x = y) {n : ByteArray} {r : RunX} : envOf l n = some r ↔ r ∈ l ∧ r.name = n := by
  refine ⟨env_mem, fun ⟨hr, hn⟩ => ?_⟩
  cases h : envOf l n with
  | none =>
    unfold envOf at h
    rw [List.find?_eq_none] at h
    exact absurd (by simpa using hn) (h r hr)
  | some x =>
    obtain ⟨h1, h2⟩ := env_mem h
    rw [hd x h1 r hr (h2.trans hn.symm)]
theorem asc_diff {l : List RunX} (h : AscX l) : ∀ x ∈ l, ∀ y ∈ l, x.name = y.name → x = y := fun x hx y hy e => by
  have h1 := asc_env h hx
  have h2 := asc_env h hy
  rw [e, h2] at h1
  exact (Option.some.inj h1).symm

def insX (l : List RunX) (r : RunX) : List RunX := (l.filter fun x => Op.bytesLess x.name.toList r.name.toList) ++ r :: l.filter fun x => Op.bytesLess r.name.toList x.name.toList
theorem insX_asc {l : List RunX} {r : RunX} (h : AscX l) : AscX (insX l r) := by
  unfold insX
  rw [AscX, List.pairwise_append]
  refine ⟨h.filter _, ?_, fun x hx y hy => ?_⟩
  · rw [List.pairwise_cons]
    exact ⟨fun y hy => (List.mem_filter.1 hy).2, h.filter _⟩
  · have hx2 : lessX x.name r.name := (List.mem_filter.1 hx).2
    rcases List.mem_cons.1 hy with rfl | hy
    · exact hx2
    · exact lessX_trans hx2 (List.mem_filter.1 hy).2
theorem insX_mem {l : List RunX} {r x : RunX} : x ∈ insX l r ↔ x = r ∨ (x ∈ l ∧ x.name ≠ r.name) := by
  unfold insX
  rw [List.mem_append, List.mem_cons, List.mem_filter, List.mem_filter]
  constructor
  · rintro (⟨h1, h2⟩ | h | ⟨h1, h2⟩)
    · exact .inr ⟨h1, lessX_ne h2⟩
    · exact .inl h
    · exact .inr ⟨h1, Ne.symm (lessX_ne h2)⟩
  · rintro (h | ⟨h1, h2⟩)
    · exact .inr (.inl h)
    · rcases lessX_total x.name r.name with h3 | h3 | h3
      · exact .inl ⟨h1, h3⟩
      · exact absurd h3 h2
      · exact .inr (.inr ⟨h1, h3⟩)
theorem insX_env {l : List RunX} {r : RunX} (h : AscX l) (n : ByteArray) : envOf (insX l r) n = if n = r.name then some r else envOf l n := by
  have hd := asc_diff (insX_asc (r := r) h)
  by_cases e : n = r.name
  · rw [if_pos e]
    exact (env_iff hd).2 ⟨(insX_mem).2 (.inl rfl), e.symm⟩
  · rw [if_neg e]
    cases hn : envOf l n with
    | some x =>
      obtain ⟨h1, h2⟩ := env_mem hn
      exact (env_iff hd).2 ⟨(insX_mem).2 (.inr ⟨h1, fun e2 => e (h2.symm.trans e2)⟩), h2⟩
    | none =>
      cases hi : envOf (insX l r) n with
      | none => rfl
      | some x =>
        obtain ⟨h1, h2⟩ := env_mem hi
        rcases (insX_mem).1 h1 with rfl | ⟨h3, _⟩
        · exact absurd h2.symm e
        · have := (env_iff (asc_diff h)).2 ⟨h3, h2⟩
          rw [hn] at this
          cases this
theorem foldl_ins : ∀ (l t : List RunX), AscX t → (∀ x ∈ l, ∀ y ∈ l, x.name = y.name → x = y) → AscX (l.foldl insX t) ∧ ∀ n, envOf (l.foldl insX t) n = match envOf l n with | some r => some r | none => envOf t n
  | [], t, h, _ => ⟨h, fun n => rfl⟩
  | x :: l, t, h, hd => by
    obtain ⟨h1, h2⟩ := foldl_ins l (insX t x) (insX_asc h) (fun a ha b hb => hd a (List.mem_cons_of_mem _ ha) b (List.mem_cons_of_mem _ hb))
    refine ⟨h1, fun n => ?_⟩
    show envOf (l.foldl insX (insX t x)) n = _
    rw [h2 n]
    by_cases e : x.name = n
    · have e1 : envOf (x :: l) n = some x := by simp [envOf, e]
      rw [e1]
      cases hn : envOf l n with
      | some r =>
        obtain ⟨g1, g2⟩ := env_mem hn
        simp only
        rw [hd r (List.mem_cons_of_mem _ g1) x (by simp) (g2.trans e.symm)]
      | none =>
        simp only
        rw [insX_env h, if_pos e.symm]
    · have e1 : envOf (x :: l) n = envOf l n := by simp [envOf, List.find?, e]
      rw [e1]
      cases envOf l n with
      | some r => rfl
      | none =>
        simp only
        rw [insX_env h, if_neg (Ne.symm e)]

end Go.Proofs.YtghipdfemoofhaaGreatDoor
