import Derived.Test.YtjhemildijapmaaGreatDoorKFFmt
import Derived.Test.YtjhemildijapmaaGreatDoorKWNode
import Derived.Test.YtjhemildijapmaaGreatDoorKWGo5
namespace Go.Proofs.YtjhemildijapmaaGreatDoor
open Go.RowKit
theorem toList_inj {a b : ByteArray} : a.toList = b.toList ↔ a = b := by
  refine ⟨fun h => ba_ext ?_, fun h => by rw [h]⟩
  rw [ByteArray.toList_eq, ByteArray.toList_eq] at h
  exact h
theorem beq_no {a b : ByteArray} (h : (a.toList == b.toList) = false) : a ≠ b := fun e => by rw [e] at h; simp at h
theorem beq_yes {a b : ByteArray} (h : (a.toList == b.toList) = true) : a = b := toList_inj.1 (by simpa using h)
def RunX.zero : RunX := RunX.fresh ByteArray.empty
def RunX.cells (r : RunX) (xa : Option Addr) (xc : Nat) : List Value := [.string r.name, .bool r.over, .bool r.fail, .string r.text, .int .i64 r.at', .int .i64 r.visits, .slice xa r.texts.length xc]
theorem RunX.one (r : RunX) (x : Option Addr) (c : Nat) : ∀ u ∈ r.cells x c, u.oneCell' = true := by
  intro u hu
  simp only [RunX.cells, List.mem_cons, List.not_mem_nil, or_false] at hu
  rcases hu with rfl | rfl | rfl | rfl | rfl | rfl | rfl <;> rfl
def RunsX (w : World) (a : Option Addr) (l : List RunX) : Prop :=
  ∀ i, i < l.length → ∃ b o xa xc, a = some ⟨b, o, none⟩ ∧ b < w.heap.size ∧ w.rangeAt b (o + i * 7) ((l.getD i RunX.zero).cells xa xc) ∧ Strs w xa (l.getD i RunX.zero).texts ∧ (xa = none → xc = 0)
theorem RunsX.kept {w w' : World} {a : Option Addr} {l : List RunX} (h : RunsX w a l) (k : Kept w w') : RunsX w' a l := by
  intro i hi
  obtain ⟨b, o, xa, xc, e, hb, hr, hs, hx⟩ := h i hi
  exact ⟨b, o, xa, xc, e, Nat.lt_of_lt_of_le hb k.size, k.range hb hr, hs.kept k, hx⟩
def envOf (l : List RunX) : Env := fun n => l.find? fun r => decide (r.name = n)
theorem env_none {l : List RunX} {n : ByteArray} (h : ∀ j, j < l.length → (l.getD j RunX.zero).name ≠ n) : envOf l n = none := by
  unfold envOf
  rw [List.find?_eq_none]
  intro r hr
  obtain ⟨j, hj, e⟩ := List.getElem_of_mem hr
  have := h j hj
  simp only [List.getD, List.getElem?_eq_getElem hj, e, Option.getD_some] at this
  simpa using this
theorem env_at {n : ByteArray} : ∀ {l : List RunX} {k : Nat}, k < l.length → (l.getD k RunX.zero).name = n → (∀ j, j < k → (l.getD j RunX.zero).name ≠ n) → envOf l n = some (l.getD k RunX.zero)
  | [], _, hk, _, _ => absurd hk (Nat.not_lt_zero _)
  | r :: l, 0, _, h, _ => by
    have h' : r.name = n := h
    simp [envOf, List.find?, h', List.getD]
  | r :: l, k + 1, hk, h, hj => by
    have h0 : r.name ≠ n := hj 0 (by omega)
    have e : envOf (r :: l) n = envOf l n := by simp [envOf, List.find?, h0]
    rw [e, env_at (k := k) (by simpa using hk) h (fun j hj' => hj (j + 1) (by omega))]
    rfl
def PlaceX (l : List RunX) (n : ByteArray) (r : Int) : Prop := (∃ k : Nat, k < l.length ∧ r = (k : Int) ∧ envOf l n = some (l.getD k RunX.zero) ∧ (l.getD k RunX.zero).name = n) ∨ (r = -1 ∧ envOf l n = none)
def actsOf (webl : List NodeD) : Acts := fun n => (webl.find? fun d => decide (d.name = n)).map fun d => ⟨d.cost, d.steps⟩
theorem acts_none {l : List NodeD} {n : ByteArray} (h : ∀ j, j < l.length → (l.getD j NodeD.zero).name ≠ n) : actsOf l n = none := by
  unfold actsOf
  rw [Option.map_eq_none_iff, List.find?_eq_none]
  intro r hr
  obtain ⟨j, hj, e⟩ := List.getElem_of_mem hr
  have := h j hj
  simp only [List.getD, List.getElem?_eq_getElem hj, e, Option.getD_some] at this
  simpa using this
theorem acts_at {n : ByteArray} : ∀ {l : List NodeD} {k : Nat}, k < l.length → (l.getD k NodeD.zero).name = n → (∀ j, j < k → (l.getD j NodeD.zero).name ≠ n) → actsOf l n = some ⟨(l.getD k NodeD.zero).cost, (l.getD k NodeD.zero).steps⟩
  | [], _, hk, _, _ => absurd hk (Nat.not_lt_zero _)
  | r :: l, 0, _, h, _ => by
    have h' : r.name = n := h
    simp [actsOf, List.find?, h', List.getD]
  | r :: l, k + 1, hk, h, hj => by
    have h0 : r.name ≠ n := hj 0 (by omega)
    have e : actsOf (r :: l) n = actsOf l n := by simp [actsOf, List.find?, h0]
    rw [e, acts_at (k := k) (by simpa using hk) h (fun j hj' => hj (j + 1) (by omega))]
    rfl
def PlaceN (l : List NodeD) (n : ByteArray) (r : Int) : Prop := (∃ k : Nat, k < l.length ∧ r = (k : Int) ∧ actsOf l n = some ⟨(l.getD k NodeD.zero).cost, (l.getD k NodeD.zero).steps⟩ ∧ (l.getD k NodeD.zero).name = n ∧ ∀ j, j < k → (l.getD j NodeD.zero).name ≠ n) ∨ (r = -1 ∧ actsOf l n = none)
theorem acts_first {n : ByteArray} {A : ActionD} : ∀ {l : List NodeD}, actsOf l n = some A → ∃ k, k < l.length ∧ (l.getD k NodeD.zero).name = n ∧ (∀ j, j < k → (l.getD j NodeD.zero).name ≠ n) ∧ A = ⟨(l.getD k NodeD.zero).cost, (l.getD k NodeD.zero).steps⟩
  | [], h => by simp [actsOf] at h
  | d :: l, h => by
    by_cases e : d.name = n
    · refine ⟨0, by simp, e, fun j hj => absurd hj (Nat.not_lt_zero _), ?_⟩
      simp [actsOf, e] at h
      exact h.symm
    · have e2 : actsOf (d :: l) n = actsOf l n := by simp [actsOf, List.find?, e]
      rw [e2] at h
      obtain ⟨k, h1, h2, h3, h4⟩ := acts_first h
      refine ⟨k + 1, by simpa using h1, h2, fun j hj => ?_, h4⟩
      cases j with
      | zero => exact e
      | succ j => exact h3 j (by omega)
theorem first_unique {l : List NodeD} {n : ByteArray} {k k' : Nat} (h : (l.getD k NodeD.zero).name = n) (h1 : ∀ j, j < k → (l.getD j NodeD.zero).name ≠ n) (g : (l.getD k' NodeD.zero).name = n) (g1 : ∀ j, j < k' → (l.getD j NodeD.zero).name ≠ n) : k = k' := by
  rcases Nat.lt_trichotomy k k' with e | e | e
  · exact absurd h (g1 k e)
  · exact e
  · exact absurd g (h1 k' e)
def AnsSaid (webl : List NodeD) (l : List RunX) (n : ByteArray) (e : Ending) : Prop :=
  ∃ (f : Bool) (t : ByteArray) (ok : Bool), e = .returned (.tuple #[.agg #[.bool f, .string t], .bool ok]) ∧ ansOf (actsOf webl) (envOf l) n = if ok = true then some ⟨f, t⟩ else none
structure RunX.Fits (r : RunX) : Prop where
  name : r.name.size ≤ maxLen
  text : r.text.size ≤ maxLen
  len : r.texts.length ≤ maxLen
  each : ∀ t ∈ r.texts, t.size ≤ maxLen
set_option maxHeartbeats 800000 in
theorem eqRunX_yes (w : World) (r : RunX) (x x' : Option Addr) (c c' : Nat) (hl : r.texts.length ≤ maxLen) (hS : Strs w x r.texts) (hS' : Strs w x' r.texts) :
    Calls Tryz.prog 66 #[.agg (r.cells x c).toArray, .agg (r.cells x' c').toArray] w fun e w' => e = .returned (.bool true) ∧ Kept w w' := by
  show Calls Tryz.prog 66 #[.agg #[.string r.name, .bool r.over, .bool r.fail, .string r.text, .int .i64 r.at', .int .i64 r.visits, .slice x r.texts.length c], .agg #[.string r.name, .bool r.over, .bool r.fail, .string r.text, .int .i64 r.at', .int .i64 r.visits, .slice x' r.texts.length c']] w _
  have k0 : Kept w ((w.alloc (.cells #[.string r.name, .bool r.over, .bool r.fail, .string r.text, .int .i64 r.at', .int .i64 r.visits, .slice x r.texts.length c] 59)).alloc (.cells #[.string r.name, .bool r.over, .bool r.fail, .string r.text, .int .i64 r.at', .int .i64 r.visits, .slice x' r.texts.length c'] 59)) := ((Kept.refl _).alloc _).alloc _
  go_enter Tryz.func66, Tryz.ntmps66
  go_wp2_with fail
  refine (eqStringS_yes _ x x' c c' r.texts hl (hS.kept (by repeat (first | exact k0 | apply Kept.drew))) (hS'.kept (by repeat (first | exact k0 | apply Kept.drew)))).mono ?_
  rintro e w1 ⟨rfl, k1⟩
  have k2 : Kept w w1 := Kept.trans (by repeat (first | exact k0 | apply Kept.drew)) k1
  go_wp2
  go_ret
  exact ⟨rfl, k2⟩
set_option maxRecDepth 100000 in
set_option maxHeartbeats 1600000 in
theorem eqRunSX_yes (w : World) (a a' : Option Addr) (cap cap' : Nat) (l : List RunX) (hl : l.length ≤ maxLen) (hs : ∀ r ∈ l, r.Fits) (hS : RunsX w a l) (hS' : RunsX w a' l) :
    Calls Tryz.prog 29 #[.slice a l.length cap, .slice a' l.length cap'] w fun e w' => e = .returned (.bool true) ∧ Kept w w' := by
  unfold maxLen at hl
  go_enter Tryz.func29, Tryz.ntmps29
  go_wp2
  go_loopw [5] (fun i wr => ∃ k : Nat, k ≤ l.length ∧ i = .int .i64 k ∧ Kept w wr) (fun i _ => l.length - (intOf i).toNat)
  case atStart => exact ⟨0, Nat.zero_le _, rfl, Kept.refl _⟩
  case round =>
    obtain ⟨k, hk, rfl, hw⟩ := hrel
    by_cases hlt : k < l.length
    · obtain ⟨b, o, x, cx, rfl, hb, hc, hx, _⟩ := hS.kept hw k hlt
      obtain ⟨b', o', x', cx', rfl, hb', hc', hx', _⟩ := hS'.kept hw k hlt
      have hsz := (hs (l.getD k RunX.zero) (by simp [List.getD, hlt])).len
      generalize l.getD k RunX.zero = s at *
      have c0 := hc 0 _ rfl
      have c1 := hc 1 _ rfl
      have c2 := hc 2 _ rfl
      have c3 := hc 3 _ rfl
      have c4 := hc 4 _ rfl
      have c5 := hc 5 _ rfl
      have c6 := hc 6 _ rfl
      have d0 := hc' 0 _ rfl
      have d1 := hc' 1 _ rfl
      have d2 := hc' 2 _ rfl
      have d3 := hc' 3 _ rfl
      have d4 := hc' 4 _ rfl
      have d5 := hc' 5 _ rfl
      have d6 := hc' 6 _ rfl
      simp only [Nat.add_zero] at c0 d0
      clear hc hc'
      go_wp2
      go_region_with (go_at_call 66; refine (eqRunX_yes _ s x x' cx cx' hsz (hx.kept (by repeat (first | apply Kept.drew | exact Kept.refl _))) (hx'.kept (by repeat (first | apply Kept.drew | exact Kept.refl _)))).mono ?_; rintro e w1 ⟨rfl, hw1⟩)
      all_goals
        go_wp2
        go_roundw
        case rel => exact ⟨k + 1, by omega, by go_num, by repeat (first | assumption | apply Kept.drew | refine Kept.trans ?_ (by assumption))⟩
        case measure => simp [intOf]; omega
    · go_wp2
      go_ret
      exact ⟨rfl, hw⟩
theorem twoCells {w w1 : World} {v0 v1 : Value} {t : TypeId} (k : Kept (w.alloc (.cells #[v0, v1] t)) w1) : w1.cell? ⟨w.heap.size, 0, none⟩ = some v0 ∧ w1.cell? ⟨w.heap.size, 1, none⟩ = some v1 := by
  have hlt : w.heap.size < (w.alloc (.cells #[v0, v1] t)).heap.size := by simp
  constructor
  · rw [k.cell hlt]; simp
  · rw [k.cell hlt]; simp
set_option maxHeartbeats 800000 in
theorem eqStateX_yes (w : World) (a a' d d' : Option Addr) (cap cap' e0 e1 : Nat) (l : List ByteArray) (r : List RunX) (hl : l.length ≤ maxLen) (hr : r.length ≤ maxLen) (hs : ∀ x ∈ r, x.Fits) (hS : Strs w a l) (hS' : Strs w a' l) (hR : RunsX w d r) (hR' : RunsX w d' r) :
    Calls Tryz.prog 10 #[.agg #[.slice a l.length cap, .slice d r.length e0], .agg #[.slice a' l.length cap', .slice d' r.length e1]] w fun e w' => e = .returned (.bool true) ∧ Kept w w' := by
  have k0 : Kept w ((w.alloc (.cells #[.slice a l.length cap, .slice d r.length e0] 33)).alloc (.cells #[.slice a' l.length cap', .slice d' r.length e1] 33)) := ((Kept.refl _).alloc _).alloc _
  go_enter Tryz.func10, Tryz.ntmps10
  go_wp2_with fail
  refine (eqStringS_yes _ a a' cap cap' l hl (hS.kept (by repeat (first | exact k0 | apply Kept.drew))) (hS'.kept (by repeat (first | exact k0 | apply Kept.drew)))).mono ?_
  rintro e w1 ⟨rfl, k1⟩
  have z1 := k1.size
  simp only [World.size_alloc] at z1
  have q0 := twoCells (w := w) (Kept.trans ((Kept.refl _).alloc _) (Kept.trans (by repeat (first | exact Kept.refl _ | apply Kept.drew)) k1))
  have q1 := twoCells (w := w.alloc (.cells #[.slice a l.length cap, .slice d r.length e0] 33)) (Kept.trans (by repeat (first | exact Kept.refl _ | apply Kept.drew)) k1)
  simp only [World.size_alloc] at q1
  have k2 : Kept w w1 := Kept.trans (by repeat (first | exact k0 | apply Kept.drew)) k1
  obtain ⟨p0, p1⟩ := q0
  obtain ⟨p2, p3⟩ := q1
  clear k0 k1
  go_wp2_with fail
  refine (eqRunSX_yes _ d d' e0 e1 r hr hs (hR.kept (by repeat (first | exact k2 | apply Kept.drew))) (hR'.kept (by repeat (first | exact k2 | apply Kept.drew)))).mono ?_
  rintro e w2 ⟨rfl, k3⟩
  have k4 : Kept w w2 := Kept.trans (by repeat (first | exact k2 | apply Kept.drew)) k3
  go_wp2
  go_ret
  exact ⟨rfl, k4⟩
def szRunD (r : RunX) : Nat := r.name.size + r.text.size + szStrs r.texts
def szRunsD (l : List RunX) : Nat := l.length + (l.map szRunD).sum
def szStateD (roots : List ByteArray) (l : List RunX) : Nat := szStrs roots + szRunsD l
set_option maxHeartbeats 1600000 in
theorem szRun_any (w : World) (r : RunX) (xa : Option Addr) (xc : Nat) (left : Int) (hf : r.Fits) (hS : Strs w xa r.texts) (h0 : 0 ≤ left) (h1 : left ≤ 1048576) :
    Calls Tryz.prog 37 #[.agg (r.cells xa xc).toArray, .int .i64 left] w fun e w' => e = .returned (.int .i64 (szL (szRunD r) left)) ∧ Kept w w' := by
  show Calls Tryz.prog 37 #[.agg #[.string r.name, .bool r.over, .bool r.fail, .string r.text, .int .i64 r.at', .int .i64 r.visits, .slice xa r.texts.length xc], .int .i64 left] w _
  have hn := hf.name
  have ht := hf.text
  unfold maxLen at hn ht
  have k0 : Kept w (w.alloc (.cells #[.string r.name, .bool r.over, .bool r.fail, .string r.text, .int .i64 r.at', .int .i64 r.visits, .slice xa r.texts.length xc] 79)) := (Kept.refl _).alloc _
  by_cases hle : (r.name.size : Int) ≤ left
  · by_cases hle1 : (r.text.size : Int) ≤ left - r.name.size
    · go_enter Tryz.func37, Tryz.ntmps37
      go_wp2_with fail
      refine (szStringS_any _ xa xc r.texts _ hf.len hf.each (hS.kept k0) (by omega) (by omega)).mono ?_
      rintro e w1 ⟨rfl, rfl⟩
      by_cases hle2 : (szStrs r.texts : Int) ≤ left - r.name.size - r.text.size
      · rw [szL_pos hle2]
        go_wp2
        go_ret
        exact ⟨ret_int (by rw [szL_pos (by unfold szRunD; omega)]; unfold szRunD; omega), k0⟩
      · rw [szL_neg (by omega)]
        go_wp2
        go_ret
        exact ⟨ret_int (szL_neg (by unfold szRunD; omega)).symm, k0⟩
    · go_enter Tryz.func37, Tryz.ntmps37
      go_wp2
      go_ret
      exact ⟨ret_int (szL_neg (by unfold szRunD; omega)).symm, k0⟩
  · go_enter Tryz.func37, Tryz.ntmps37
    go_wp2
    go_ret
    exact ⟨ret_int (szL_neg (by unfold szRunD; omega)).symm, k0⟩
set_option maxHeartbeats 1600000 in
theorem szRunS_any (w : World) (a : Option Addr) (cap : Nat) (l : List RunX) (left : Int) (hl : l.length ≤ maxLen) (hs : ∀ s ∈ l, s.Fits)
    (hS : RunsX w a l) (h0 : 0 ≤ left) (h1 : left ≤ 1048576) :
    Calls Tryz.prog 17 #[.slice a l.length cap, .int .i64 left] w fun e w' => e = .returned (.int .i64 (szL (szRunsD l) left)) ∧ Kept w w' := by
  unfold maxLen at hl
  go_enter Tryz.func17, Tryz.ntmps17
  go_wp2
  · go_ret
    exact ⟨ret_int (szL_neg (by unfold szRunsD; omega)).symm, Kept.refl _⟩
  · go_loopw [1, 5] (fun x i wr => ∃ k : Nat, k ≤ l.length ∧ i = .int .i64 k ∧ x = .int .i64 (left - l.length - sumTo szRunD l k) ∧ 0 ≤ left - l.length - sumTo szRunD l k ∧ Kept w wr) (fun _ i _ => l.length - (intOf i).toNat)
    case atStart => exact ⟨0, Nat.zero_le _, rfl, by simp [sumTo_zero], by simp [sumTo_zero]; omega, Kept.refl _⟩
    case round =>
      obtain ⟨k, hk, rfl, rfl, hge, hw⟩ := hrel
      by_cases hlt : k < l.length
      · obtain ⟨b, o, x, cx, rfl, hb, hc, hx, _⟩ := hS.kept hw k hlt
        have hsz : (l.getD k RunX.zero).Fits := hs _ (by simp [List.getD, hlt])
        have HS : Hid (sumTo szRunD l (k + 1) = sumTo szRunD l k + szRunD (l.getD k RunX.zero)) := sumTo_succ _ l _ k hlt
        have HT := sumTo_le szRunD l (k + 1)
        generalize l.getD k RunX.zero = s at *
        have c0 := hc 0 _ rfl
        have c1 := hc 1 _ rfl
        have c2 := hc 2 _ rfl
        have c3 := hc 3 _ rfl
        have c4 := hc 4 _ rfl
        have c5 := hc 5 _ rfl
        have c6 := hc 6 _ rfl
        simp only [Nat.add_zero] at c0
        clear hc
        go_wp2_with fail
        refine (szRun_any _ s x cx _ hsz hx (by omega) (by omega)).mono ?_
        rintro e w1 ⟨rfl, hw1⟩
        have hw2 := hw.trans hw1
        by_cases hle : (szRunD s : Int) ≤ left - l.length - sumTo szRunD l k
        · rw [szL_pos hle]
          clear c0 c1 c2 c3 c4 c5 c6 hx hw hw1
          go_wp2
          go_roundw
          case rel => exact ⟨k + 1, by omega, by go_num, by rw [HS.out]; go_num, by rw [HS.out]; omega, hw2⟩
          case measure => simp [intOf]; omega
        · rw [szL_neg (by omega)]
          clear c0 c1 c2 c3 c4 c5 c6 hx hw hw1
          go_wp2
          go_ret
          exact ⟨ret_int (szL_neg (by unfold szRunsD; have := HS.out; omega)).symm, hw2⟩
      · go_wp2
        go_ret
        have : k = l.length := by omega
        subst this
        rw [sumTo_all] at hge ⊢
        exact ⟨ret_int (by rw [szL_pos (by unfold szRunsD; omega)]; unfold szRunsD; omega), hw⟩
set_option maxHeartbeats 800000 in
theorem szState_any (w : World) (a d : Option Addr) (cap e0 : Nat) (roots : List ByteArray) (l : List RunX) (left : Int) (hrl : roots.length ≤ maxLen) (hrs : ∀ s ∈ roots, s.size ≤ maxLen) (hl : l.length ≤ maxLen) (hs : ∀ s ∈ l, s.Fits) (hR : Strs w a roots) (hS : RunsX w d l) (h0 : 0 ≤ left) (h1 : left ≤ 1048576) :
    Calls Tryz.prog 5 #[.agg #[.slice a roots.length cap, .slice d l.length e0], .int .i64 left] w fun e w' => e = .returned (.int .i64 (szL (szStateD roots l) left)) ∧ Kept w w' := by
  have k0 : Kept w (w.alloc (.cells #[.slice a roots.length cap, .slice d l.length e0] 28)) := (Kept.refl _).alloc _
  go_enter Tryz.func5, Tryz.ntmps5
  go_wp2_with fail
  refine (szStringS_any _ a cap roots left hrl hrs (hR.kept k0) h0 h1).mono ?_
  rintro e w1 ⟨rfl, rfl⟩
  by_cases hle : (szStrs roots : Int) ≤ left
  · rw [szL_pos hle]
    go_wp2_with fail
    refine (szRunS_any _ d e0 l _ hl hs (hS.kept k0) (by omega) (by omega)).mono ?_
    rintro e w1 ⟨rfl, k1⟩
    have k2 := k0.trans k1
    clear k0 k1
    by_cases hle2 : (szRunsD l : Int) ≤ left - szStrs roots
    · rw [szL_pos hle2]
      go_wp2
      go_ret
      exact ⟨ret_int (by rw [szL_pos (by unfold szStateD; omega)]; unfold szStateD; omega), k2⟩
    · rw [szL_neg (by omega)]
      go_wp2
      go_ret
      exact ⟨ret_int (szL_neg (by unfold szStateD; omega)).symm, k2⟩
  · rw [szL_neg (by omega)]
    go_wp2
    go_ret
    exact ⟨ret_int (szL_neg (by unfold szStateD; omega)).symm, k0⟩
def RunNewX (w : World) (B j : Nat) (s : RunX) : Prop :=
  ∃ b, B < b ∧ w.rangeAt B (j * 7) (s.cells (some ⟨b, 0, none⟩) s.texts.length) ∧ Strs w (some ⟨b, 0, none⟩) s.texts
theorem RunNewX.kept {w w' : World} {B j : Nat} {s : RunX} (h : RunNewX w B j s) (k : Kept w w') (hB : B < w.heap.size) : RunNewX w' B j s := by
  obtain ⟨b, h1, h2, h3⟩ := h
  exact ⟨b, h1, k.range hB h2, h3.kept k⟩
theorem RunNewX.setCells {w : World} {B j o : Nat} {s : RunX} {vs : List Value} (h : RunNewX w B j s) (ho : j * 7 + 7 ≤ o ∨ o + vs.length ≤ j * 7) : RunNewX (w.setCells B o vs) B j s := by
  obtain ⟨b, h1, h2, h3⟩ := h
  exact ⟨b, h1, World.rangeAt_setCells_apart h2 _ _ _ (by right; simpa [RunX.cells, or_comm] using ho), Strs.setCells (by omega) _ _ h3⟩
theorem RunNewX.setCell {w : World} {B j : Nat} {s : RunX} (h : RunNewX w B j s) {p : Addr} (hp : p.block < B) (v : Value) : RunNewX (w.setCell p v) B j s := by
  obtain ⟨b, h1, h2, h3⟩ := h
  refine ⟨b, h1, fun i u hu => ?_, h3.setCell (by omega) v⟩
  rw [World.cell?_setCell_other _ _ _ _ (by intro e; have := congrArg Addr.block e; simp at this; omega)]
  exact h2 i u hu
def RunsNewX (w : World) (B : Nat) (l : List RunX) : Prop := B < w.heap.size ∧ ∀ j, j < l.length → RunNewX w B j (l.getD j RunX.zero)
theorem RunsNewX.setCell {w : World} {B : Nat} {l : List RunX} (h : RunsNewX w B l) {p : Addr} (hp : p.block < B) (v : Value) : RunsNewX (w.setCell p v) B l :=
  ⟨by rw [size_setCell]; exact h.1, fun j hj => (h.2 j hj).setCell hp v⟩
theorem RunsNewX.kept {w w' : World} {B : Nat} {l : List RunX} (h : RunsNewX w B l) (k : Kept w w') : RunsNewX w' B l :=
  ⟨Nat.lt_of_lt_of_le h.1 k.size, fun j hj => (h.2 j hj).kept k h.1⟩
theorem RunsNewX.runs {w : World} {B : Nat} {l : List RunX} (h : RunsNewX w B l) : RunsX w (some ⟨B, 0, none⟩) l := fun i hi => by
  obtain ⟨b, h1, h2, h3⟩ := h.2 i hi
  exact ⟨B, 0, some ⟨b, 0, none⟩, _, rfl, h.1, by rw [Nat.zero_add]; exact h2, h3, fun e => by cases e⟩
theorem Tryz.sizeRun7 : (Tryz.prog.info? 59).map (·.size) = some 7 := by kernel_rfl
set_option maxRecDepth 100000 in
set_option maxHeartbeats 1600000 in
theorem toRunX_any (w : World) (r : RunX) (xa : Option Addr) (xc : Nat) (hl : r.texts.length ≤ 1048576) (hS : Strs w xa r.texts) :
    Calls Tryz.prog 50 #[.agg (r.cells xa xc).toArray] w fun e w' => ∃ b, e = .returned (.agg (r.cells (some ⟨b, 0, none⟩) r.texts.length).toArray) ∧ Strs w' (some ⟨b, 0, none⟩) r.texts ∧ Kept w w' ∧ w.heap.size ≤ b := by
  show Calls Tryz.prog 50 #[.agg #[.string r.name, .bool r.over, .bool r.fail, .string r.text, .int .i64 r.at', .int .i64 r.visits, .slice xa r.texts.length xc]] w _
  go_enter Tryz.func50, Tryz.ntmps50
  go_wp2_with fail
  refine (toStringS_any _ xa xc r.texts hl (hS.kept (by repeat (first | (refine Kept.setCell ?_ (by simp <;> omega) _) | apply Kept.alloc | exact Kept.refl _)))).mono ?_
  rintro e w1 ⟨b, rfl, hN, k1, hb⟩
  obtain ⟨hc1, hf1⟩ := k1.rules
  have hz1 := k1.size
  simp only [World.size_alloc] at hb hz1
  have K1 : Kept w w1 := Kept.trans (by repeat (first | (refine Kept.setCell ?_ (by simp <;> omega) _) | apply Kept.alloc | exact Kept.refl _)) k1
  have hrow1 : Row w1 (w.heap.size + 1) 7 := Row.kept (by
    have h7 : Row ((w.alloc (.cells #[.string r.name, .bool r.over, .bool r.fail, .string r.text, .int .i64 r.at', .int .i64 r.visits, .slice xa r.texts.length xc] 79)).alloc (.cells #[.string ⟨#[]⟩, .bool false, .bool false, .string ⟨#[]⟩, .int .i64 0, .int .i64 0, .slice none 0 0] 59)) (w.heap.size + 1) 7 := by
      have := Row.made (w.alloc (.cells #[.string r.name, .bool r.over, .bool r.fail, .string r.text, .int .i64 r.at', .int .i64 r.visits, .slice xa r.texts.length xc] 79)) #[.string ⟨#[]⟩, .bool false, .bool false, .string ⟨#[]⟩, .int .i64 0, .int .i64 0, .slice none 0 0] 59
      simpa using this
    repeat (first | exact h7 | (refine Row.alloc ?_ _) | (refine Row.set ?_ _ rfl _))) k1
  have HRow := hide hrow1
  clear k1 hrow1
  have z0 : w.heap.size < w1.heap.size := by omega
  have z1 : w.heap.size + 1 < w1.heap.size := by omega
  have z2 : w.heap.size + 1 + 1 < w1.heap.size := by omega
  go_wp2
  have hX : Row (w1.setCell ⟨w.heap.size + 1 + 1, 6, none⟩ (.slice (some ⟨b, 0, none⟩) r.texts.length r.texts.length)) (w.heap.size + 1) 7 := Row.set HRow.out _ rfl _
  have hR := World.rangeAt_setCells_same _ (w.heap.size + 1) 0 (r.cells (some ⟨b, 0, none⟩) r.texts.length) (hX.there (o := 0) (m := 7) (Nat.le_refl _))
  refine bodyPost_ret_cell (r.cells (some ⟨b, 0, none⟩) r.texts.length) _ Tryz.results50 rfl hR Tryz.underlying59 rfl Tryz.sizeRun7 rfl ⟨b, rfl, ?_, ?_, by omega⟩
  · repeat (first | (refine Strs.setCell ?_ (by simp <;> omega) _) | exact hN)
  · repeat (first | (refine Kept.setCell ?_ (by simp <;> omega) _) | exact K1)
theorem Tryz.infoRun7 : (Tryz.prog.info? 59).map (fun i => (i.zero, i.size, i.bytes)) = some (some (.agg #[.string ⟨#[]⟩, .bool false, .bool false, .string ⟨#[]⟩, .int .i64 0, .int .i64 0, .slice none 0 0]), 7, 80) := by kernel_rfl
set_option maxRecDepth 100000 in
set_option maxHeartbeats 1600000 in
theorem toRunSX_any (w : World) (a : Option Addr) (cap : Nat) (l : List RunX) (hl : l.length ≤ 1048576) (hs : ∀ s ∈ l, s.texts.length ≤ 1048576) (hS : RunsX w a l) :
    Calls Tryz.prog 23 #[.slice a l.length cap] w fun e w' => ∃ b, e = .returned (.slice (some ⟨b, 0, none⟩) l.length l.length) ∧ RunsNewX w' b l ∧ Kept w w' ∧ w.heap.size ≤ b := by
  have hmk := run_make_many (P := Tryz.prog) 31 59 _ _ _ Tryz.underlying31 Tryz.infoRun7 .i64 .i64 l.length (by omega) (by omega)
  go_enter Tryz.func23, Tryz.ntmps23
  go_wp2
  clear hmk
  have hrow := Row.made w (madeCells #[.string ⟨#[]⟩, .bool false, .bool false, .string ⟨#[]⟩, .int .i64 0, .int .i64 0, .slice none 0 0] (l.length * 7)) 59
  rw [size_madeCells] at hrow
  have hkept : Kept w (w.alloc (.cells (madeCells #[.string ⟨#[]⟩, .bool false, .bool false, .string ⟨#[]⟩, .int .i64 0, .int .i64 0, .slice none 0 0] (l.length * 7)) 59)) := (Kept.refl _).alloc _
  go_loopw [4] (fun i wr => ∃ k : Nat, k ≤ l.length ∧ i = .int .i64 k ∧ Kept w wr ∧ Row wr w.heap.size (l.length * 7) ∧ ∀ j, j < k → RunNewX wr w.heap.size j (l.getD j RunX.zero)) (fun i _ => l.length - (intOf i).toNat)
  case atStart => exact ⟨0, Nat.zero_le _, rfl, hkept, hrow, fun j hj => absurd hj (Nat.not_lt_zero _)⟩
  case round =>
    obtain ⟨k, hk, rfl, hw, hr, hf⟩ := hrel
    clear hrow hkept
    by_cases hlt : k < l.length
    · obtain ⟨b, o, x, cx, rfl, hb, hc, hA, _⟩ := hS.kept hw k hlt
      have hsz := hs (l.getD k RunX.zero) (by simp [List.getD, hlt])
      have HF := hide hf
      clear hf
      generalize hs : l.getD k RunX.zero = s at *
      have HSs := hide hs
      clear hs
      have c0 := hc 0 _ rfl
      have c1 := hc 1 _ rfl
      have c2 := hc 2 _ rfl
      have c3 := hc 3 _ rfl
      have c4 := hc 4 _ rfl
      have c5 := hc 5 _ rfl
      have c6 := hc 6 _ rfl
      simp only [Nat.add_zero] at c0
      clear hc
      go_wp2_with fail
      refine (toRunX_any _ s x cx hsz hA).mono ?_
      rintro e w1 ⟨b1, rfl, g1, hw1, g3⟩
      have hrl := hr.lt
      have hw2 := hw.trans hw1
      have hr1 := hr.kept hw1
      generalize hcs : s.cells (some ⟨b1, 0, none⟩) s.texts.length = cs
      have hlen : cs.length = 7 := by rw [← hcs]; rfl
      have hone : cs.toArray.all (·.oneCell') = true := by rw [← hcs, List.all_toArray, List.all_eq_true]; exact RunX.one s _ _
      have hth : w1.there w.heap.size (k * 7) cs.toArray.size := by simpa [hlen] using hr1.there (o := k * 7) (m := 7) (by omega)
      have hsize : (Tryz.prog.info? 59).map (·.size) = some cs.toArray.size := by rw [Tryz.sizeRun7]; simp [hlen]
      have HCS := hide hcs
      have HLEN := hide hlen
      have HSZ := hide hsize
      clear hcs hlen hsize
      have HR : Hid (Row w1 w.heap.size (l.length * 7)) := hr1
      have HF1 : Hid (∀ j, j < k → RunNewX w1 w.heap.size j (l.getD j RunX.zero)) := fun j hj => (HF.out j hj).kept hw1 hr.lt
      clear HF c0 c1 c2 c3 c4 c5 c6 hw hw1 hr hr1 hA
      go_wp2_with (refine wpList_store_mid rfl 59 _ _ rfl w.heap.size (k * 7) cs.toArray rfl rfl hth (unhide HSZ) hone ?_)
      go_roundw
      case rel =>
        refine ⟨k + 1, by omega, by go_num, Kept.setCells (Nat.le_refl _) _ _ hw2, Row.setCells _ _ HR.out, fun j hj => ?_⟩
        by_cases e : j = k
        · subst e
          rw [unhide HSs]
          exact ⟨b1, by omega, by rw [HCS.out]; exact World.rangeAt_setCells_same _ _ _ _ (by simpa using hth), Strs.setCells (by omega) _ _ g1⟩
        · exact (HF1.out j (by omega)).setCells (by rw [HLEN.out]; omega)
      case measure => simp [intOf]; omega
    · go_wp2
      go_ret
      have : k = l.length := by omega
      subst this
      exact ⟨w.heap.size, rfl, ⟨hr.lt, hf⟩, hw, Nat.le_refl _⟩
theorem Tryz.sizeState2 : (Tryz.prog.info? 33).map (·.size) = some 2 := by kernel_rfl
set_option maxHeartbeats 800000 in
theorem toStateX_any (w : World) (a d : Option Addr) (cap e0 : Nat) (roots : List ByteArray) (l : List RunX) (hrl : roots.length ≤ 1048576) (hl : l.length ≤ 1048576) (hs : ∀ s ∈ l, s.texts.length ≤ 1048576) (hR : Strs w a roots) (hS : RunsX w d l) :
    Calls Tryz.prog 8 #[.agg #[.slice a roots.length cap, .slice d l.length e0]] w fun e w' => ∃ b1 b2, e = .returned (.agg #[.slice (some ⟨b1, 0, none⟩) roots.length roots.length, .slice (some ⟨b2, 0, none⟩) l.length l.length]) ∧ Strs w' (some ⟨b1, 0, none⟩) roots ∧ RunsNewX w' b2 l ∧ Kept w w' ∧ w.heap.size ≤ b1 ∧ w.heap.size ≤ b2 := by
  go_enter Tryz.func8, Tryz.ntmps8
  go_wp2_with fail
  refine (toStringS_any _ a cap roots hrl (hR.kept (by repeat (first | apply Kept.alloc | exact Kept.refl _)))).mono ?_
  rintro e w1 ⟨b1, rfl, hS1, k1, hb1⟩
  obtain ⟨hc1, hf1⟩ := k1.rules
  have hz1 := k1.size
  simp only [World.size_alloc] at hb1 hz1
  have K1 : Kept w w1 := Kept.trans (by repeat (first | apply Kept.alloc | exact Kept.refl _)) k1
  have hrow1 : Row w1 (w.heap.size + 1) 2 := Row.kept (Row.alloc (by have := Row.made (w.alloc (.cells #[.slice a roots.length cap, .slice d l.length e0] 28)) #[.slice none 0 0, .slice none 0 0] 33; simpa using this) _) k1
  clear k1
  go_wp2_with fail
  refine (toRunSX_any _ d e0 l hl hs (hS.kept (by repeat (first | (refine Kept.setCell ?_ (by simp <;> omega) _) | exact K1)))).mono ?_
  rintro e w2 ⟨b2, rfl, hS2, k2, hb2⟩
  obtain ⟨hc2, hf2⟩ := k2.rules
  have hz2 := k2.size
  simp only [size_setCell] at hb2 hz2 hc2 hf2
  have K2 : Kept w w2 := Kept.trans (by repeat (first | (refine Kept.setCell ?_ (by simp <;> omega) _) | exact K1)) k2
  have hS1' := Strs.kept (Strs.setCell hS1 (p := ⟨w.heap.size + 1 + 1, 0, none⟩) (by simp <;> omega) (.slice (some ⟨b1, 0, none⟩) roots.length roots.length)) k2
  have HRow : Hid (Row w2 (w.heap.size + 1) 2) := Row.kept (by repeat (first | refine Row.set ?_ _ rfl _ | exact hrow1)) k2
  clear k2 K1 hS1 hrow1
  have z0 : w.heap.size < w1.heap.size := by omega
  have z1 : w.heap.size + 1 < w1.heap.size := by omega
  have z2 : w.heap.size + 1 + 1 < w1.heap.size := by omega
  go_wp2
  have hX : Row (w2.setCell ⟨w.heap.size + 1 + 1, 1, none⟩ (.slice (some ⟨b2, 0, none⟩) l.length l.length)) (w.heap.size + 1) 2 := Row.set HRow.out _ rfl _
  have hR := World.rangeAt_setCells_same _ (w.heap.size + 1) 0 [.slice (some ⟨b1, 0, none⟩) roots.length roots.length, .slice (some ⟨b2, 0, none⟩) l.length l.length] (hX.there (o := 0) (m := 2) (Nat.le_refl _))
  refine bodyPost_ret_cell [.slice (some ⟨b1, 0, none⟩) roots.length roots.length, .slice (some ⟨b2, 0, none⟩) l.length l.length] _ Tryz.results8 rfl hR Tryz.underlying33 rfl Tryz.sizeState2 rfl ⟨b1, b2, rfl, ?_, ?_, ?_, by omega, by omega⟩
  · repeat (first | (refine Strs.setCell ?_ (by simp <;> omega) _) | exact hS1')
  · repeat (first | (refine RunsNewX.setCell ?_ (by simp <;> omega) _) | exact hS2)
  · repeat (first | (refine Kept.setCell ?_ (by simp <;> omega) _) | exact K2)
end Go.Proofs.YtjhemildijapmaaGreatDoor
namespace Go.Proofs.YtjhemildijapmaaGreatDoor
def lessX (a b : ByteArray) : Prop := Op.bytesLess a.toList b.toList = true
theorem lessX_irrefl (a : ByteArray) : ¬ lessX a a := fun h => by unfold lessX at h; rw [less_irrefl] at h; cases h
theorem lessX_trans {a b c : ByteArray} (h : lessX a b) (g : lessX b c) : lessX a c := less_trans _ _ _ h g
theorem lessX_asymm {a b : ByteArray} (h : lessX a b) : ¬ lessX b a := fun g => lessX_irrefl a (lessX_trans h g)
theorem lessX_ne {a b : ByteArray} (h : lessX a b) : a ≠ b := fun e => by rw [e] at h; exact lessX_irrefl b h
theorem lessX_total (a b : ByteArray) : lessX a b ∨ a = b ∨ lessX b a := by
  unfold lessX
  cases h : Op.bytesLess a.toList b.toList with
  | true => exact .inl rfl
  | false =>
    by_cases e : a = b
    · exact .inr (.inl e)
    · exact .inr (.inr (less_total _ _ h fun e2 => e (toList_inj.1 e2)))
def AscX (l : List RunX) : Prop := l.Pairwise fun x y => lessX x.name y.name
theorem env_mem {l : List RunX} {n : ByteArray} {r : RunX} (h : envOf l n = some r) : r ∈ l ∧ r.name = n := by
  unfold envOf at h
  exact ⟨List.mem_of_find?_eq_some h, by simpa using List.find?_some h⟩
theorem asc_env {l : List RunX} (h : AscX l) {r : RunX} (hr : r ∈ l) : envOf l r.name = some r := by
  induction l with
  | nil => cases hr
  | cons x l ih =>
    rw [AscX, List.pairwise_cons] at h
    rcases List.mem_cons.1 hr with rfl | hr
    · simp [envOf]
    · have hne : x.name ≠ r.name := lessX_ne (h.1 r hr)
      have e : envOf (x :: l) r.name = envOf l r.name := by simp [envOf, List.find?, hne]
      rw [e]
      exact ih h.2 hr
theorem asc_ext : ∀ {l l' : List RunX}, AscX l → AscX l' → (∀ r, r ∈ l ↔ r ∈ l') → l = l'
  | [], [], _, _, _ => rfl
  | [], y :: ys, _, _, h => by have := (h y).2 (by simp); cases this
  | x :: xs, [], _, _, h => by have := (h x).1 (by simp); cases this
  | x :: xs, y :: ys, hl, hl', h => by
    rw [AscX, List.pairwise_cons] at hl hl'
    have hxy : x = y := by
      rcases List.mem_cons.1 ((h x).1 (by simp)) with e | hx
      · exact e
      · rcases List.mem_cons.1 ((h y).2 (by simp)) with e | hy
        · exact e.symm
        · exact absurd (hl.1 y hy) (lessX_asymm (hl'.1 x hx))
    subst hxy
    rw [asc_ext hl.2 hl'.2 fun r => ?_]
    constructor
    · intro hr
      rcases List.mem_cons.1 ((h r).1 (List.mem_cons_of_mem _ hr)) with rfl | h1
      · exact absurd (hl.1 r hr) (lessX_irrefl _)
      · exact h1
    · intro hr
      rcases List.mem_cons.1 ((h r).2 (List.mem_cons_of_mem _ hr)) with rfl | h1
      · exact absurd (hl'.1 r hr) (lessX_irrefl _)
      · exact h1
theorem asc_eq {l l' : List RunX} (h : AscX l) (h' : AscX l') (e : envOf l = envOf l') : l = l' := by
  refine asc_ext h h' fun r => ⟨fun hr => ?_, fun hr => ?_⟩
  · have := asc_env h hr; rw [e] at this; exact (env_mem this).1
  · have := asc_env h' hr; rw [← e] at this; exact (env_mem this).1
theorem env_iff {l : List RunX} (hd : ∀ x ∈ l, ∀ y ∈ l, x.name = y.name → x = y) {n : ByteArray} {r : RunX} : envOf l n = some r ↔ r ∈ l ∧ r.name = n := by
  refine ⟨env_mem, fun ⟨hr, hn⟩ => ?_⟩
  cases h : envOf l n with
  | none =>
    unfold envOf at h
    rw [List.find?_eq_none] at h
    exact absurd (by simpa using hn) (h r hr)
  | some x =>
    obtain ⟨h1, h2⟩ := env_mem h
    rw [hd x h1 r hr (h2.trans hn.symm)]
theorem asc_diff {l : List RunX} (h : AscX l) : ∀ x ∈ l, ∀ y ∈ l, x.name = y.name → x = y := fun x hx y hy e => by
  have h1 := asc_env h hx
  have h2 := asc_env h hy
  rw [e, h2] at h1
  exact (Option.some.inj h1).symm
def insX (l : List RunX) (r : RunX) : List RunX := (l.filter fun x => Op.bytesLess x.name.toList r.name.toList) ++ r :: l.filter fun x => Op.bytesLess r.name.toList x.name.toList
theorem insX_asc {l : List RunX} {r : RunX} (h : AscX l) : AscX (insX l r) := by
  unfold insX
  rw [AscX, List.pairwise_append]
  refine ⟨h.filter _, ?_, fun x hx y hy => ?_⟩
  · rw [List.pairwise_cons]
    exact ⟨fun y hy => (List.mem_filter.1 hy).2, h.filter _⟩
  · have hx2 : lessX x.name r.name := (List.mem_filter.1 hx).2
    rcases List.mem_cons.1 hy with rfl | hy
    · exact hx2
    · exact lessX_trans hx2 (List.mem_filter.1 hy).2
theorem insX_mem {l : List RunX} {r x : RunX} : x ∈ insX l r ↔ x = r ∨ (x ∈ l ∧ x.name ≠ r.name) := by
  unfold insX
  rw [List.mem_append, List.mem_cons, List.mem_filter, List.mem_filter]
  constructor
  · rintro (⟨h1, h2⟩ | h | ⟨h1, h2⟩)
    · exact .inr ⟨h1, lessX_ne h2⟩
    · exact .inl h
    · exact .inr ⟨h1, Ne.symm (lessX_ne h2)⟩
  · rintro (h | ⟨h1, h2⟩)
    · exact .inr (.inl h)
    · rcases lessX_total x.name r.name with h3 | h3 | h3
      · exact .inl ⟨h1, h3⟩
      · exact absurd h3 h2
      · exact .inr (.inr ⟨h1, h3⟩)
theorem insX_env {l : List RunX} {r : RunX} (h : AscX l) (n : ByteArray) : envOf (insX l r) n = if n = r.name then some r else envOf l n := by
  have hd := asc_diff (insX_asc (r := r) h)
  by_cases e : n = r.name
  · rw [if_pos e]
    exact (env_iff hd).2 ⟨(insX_mem).2 (.inl rfl), e.symm⟩
  · rw [if_neg e]
    cases hn : envOf l n with
    | some x =>
      obtain ⟨h1, h2⟩ := env_mem hn
      exact (env_iff hd).2 ⟨(insX_mem).2 (.inr ⟨h1, fun e2 => e (h2.symm.trans e2)⟩), h2⟩
    | none =>
      cases hi : envOf (insX l r) n with
      | none => rfl
      | some x =>
        obtain ⟨h1, h2⟩ := env_mem hi
        rcases (insX_mem).1 h1 with rfl | ⟨h3, _⟩
        · exact absurd h2.symm e
        · have := (env_iff (asc_diff h)).2 ⟨h3, h2⟩
          rw [hn] at this
          cases this
theorem foldl_ins : ∀ (l t : List RunX), AscX t → (∀ x ∈ l, ∀ y ∈ l, x.name = y.name → x = y) → AscX (l.foldl insX t) ∧ ∀ n, envOf (l.foldl insX t) n = match envOf l n with | some r => some r | none => envOf t n
  | [], t, h, _ => ⟨h, fun n => rfl⟩
  | x :: l, t, h, hd => by
    obtain ⟨h1, h2⟩ := foldl_ins l (insX t x) (insX_asc h) (fun a ha b hb => hd a (List.mem_cons_of_mem _ ha) b (List.mem_cons_of_mem _ hb))
    refine ⟨h1, fun n => ?_⟩
    show envOf (l.foldl insX (insX t x)) n = _
    rw [h2 n]
    by_cases e : x.name = n
    · have e1 : envOf (x :: l) n = some x := by simp [envOf, e]
      rw [e1]
      cases hn : envOf l n with
      | some r =>
        obtain ⟨g1, g2⟩ := env_mem hn
        simp only
        rw [hd r (List.mem_cons_of_mem _ g1) x (by simp) (g2.trans e.symm)]
      | none =>
        simp only
        rw [insX_env h, if_pos e.symm]
    · have e1 : envOf (x :: l) n = envOf l n := by simp [envOf, List.find?, e]
      rw [e1]
      cases envOf l n with
      | some r => rfl
      | none =>
        simp only
        rw [insX_env h, if_neg (Ne.symm e)]
def InAct (webl : List NodeD) (r : RunX) : Prop := ∃ A, actsOf webl r.name = some A ∧ 0 ≤ r.at' ∧ r.at' < A.steps.length
def ActsOk (W : Acts) : Prop := ∀ n A, W n = some A → ActionOk A ∧ NameOk n
theorem failAt_some : ∀ {xs : List AnswerD} {k j : Nat}, failAt xs k = some j → ∃ i, j = k + i ∧ i < xs.length ∧ IsFail (xs.getD i AnswerD.zero) ∧ NoneTo xs IsFail i
  | [], _, _, h => by simp [failAt] at h
  | x :: l, k, j, h => by
    unfold failAt at h
    by_cases hx : x.fail = true
    · rw [if_pos hx] at h
      cases h
      exact ⟨0, rfl, by simp, hx, fun j hj => absurd hj (Nat.not_lt_zero _)⟩
    · rw [if_neg hx] at h
      obtain ⟨i, h1, h2, h3, h4⟩ := failAt_some h
      refine ⟨i + 1, by omega, by simpa using h2, h3, fun j hj => ?_⟩
      cases j with
      | zero => exact hx
      | succ j => exact h4 j (by omega)
theorem failAt_none : ∀ {xs : List AnswerD} {k : Nat}, failAt xs k = none → NoneTo xs IsFail xs.length
  | [], _, _ => fun j hj => absurd hj (Nat.not_lt_zero _)
  | x :: l, k, h => by
    unfold failAt at h
    by_cases hx : x.fail = true
    · rw [if_pos hx] at h
      cases h
    · rw [if_neg hx] at h
      have := failAt_none h
      intro j hj
      cases j with
      | zero => exact hx
      | succ j => exact this j (by simpa using hj)
theorem caseAt_is (t : ByteArray) (els : Int) : ∀ (l : List CaseD), (∃ i, i < l.length ∧ (l.getD i CaseD.zero).text = t ∧ (∀ j, j < i → (l.getD j CaseD.zero).text ≠ t) ∧ caseAt t els l = (l.getD i CaseD.zero).goto) ∨ ((∀ j, j < l.length → (l.getD j CaseD.zero).text ≠ t) ∧ caseAt t els l = els)
  | [] => .inr ⟨fun j hj => absurd hj (Nat.not_lt_zero _), rfl⟩
  | c :: l => by
    by_cases hc : c.text = t
    · exact .inl ⟨0, by simp, hc, fun j hj => absurd hj (Nat.not_lt_zero _), by simp [caseAt, hc, List.getD]⟩
    · have e : caseAt t els (c :: l) = caseAt t els l := by simp [caseAt, hc]
      rw [e]
      rcases caseAt_is t els l with ⟨i, h1, h2, h3, h4⟩ | ⟨h1, h2⟩
      · refine .inl ⟨i + 1, by simpa using h1, h2, fun j hj => ?_, h4⟩
        cases j with
        | zero => exact hc
        | succ j => exact h3 j (by omega)
      · refine .inr ⟨fun j hj => ?_, h2⟩
        cases j with
        | zero => exact hc
        | succ j => exact h1 j (by simpa using hj)
theorem goOnF_followed {s : StepD} {xs : List AnswerD} (h : AnsOk s xs) : Followed s xs (goOnF s xs) := by
  refine .inr ⟨h, ?_⟩
  unfold goOnF
  cases hf : failAt xs 0 with
  | some j =>
    obtain ⟨i, h1, h2, h3, h4⟩ := failAt_some hf
    have : j = i := by omega
    subst this
    refine .inl ⟨j, h2, h3, h4, ?_⟩
    by_cases hfa : s.fall = -1
    · exact .inl ⟨hfa, by simp [hfa]⟩
    · exact .inr ⟨hfa, by simp [hfa]⟩
  | none =>
    refine .inr ⟨failAt_none hf, _, ?_, rfl⟩
    by_cases h0 : xs.length = 0
    · rw [if_pos h0]
      exact .inl ⟨h0, rfl⟩
    · rw [if_neg h0]
      refine .inr ⟨h0, ?_⟩
      rcases caseAt_is (textAt xs s.on) s.els s.cases with ⟨i, g1, g2, g3, g4⟩ | ⟨g1, g2⟩
      · exact .inl ⟨i, g1, g2, g3, g4⟩
      · exact .inr ⟨g1, g2⟩
theorem WentOn.goodX {cost : Int} {l : List StepD} {at' : Int} {ans : List AnswerD} {g : GoneD} (h : WentOn cost l at' ans g) : (g.code = 0 → g.over = false → 0 ≤ g.at' ∧ g.at' < l.length) ∧ (g.over = true → 7 ≤ g.text.size) := by
  rcases h with ⟨_, rfl⟩ | ⟨⟨hA, ⟨h1, h2⟩, hf⟩, h⟩
  · exact ⟨fun e => by simp [GoneD.none] at e, fun e => by simp [GoneD.none] at e⟩
  · have hat : at'.toNat < l.length := by omega
    have hs : StepOk (stepAt l at') l.length := hA.2.2 at'.toNat hat
    obtain ⟨⟨_, _, _, hn, _, he, hfall, _⟩, hc⟩ := hs.2 hf
    rcases h with ⟨_, rfl⟩ | ⟨hAns, ⟨i, hi, _, _, ⟨_, rfl⟩ | ⟨hne, rfl⟩⟩ | ⟨_, r, hr, rfl⟩⟩
    · exact ⟨fun e => by simp [GoneD.none] at e, fun e => by simp [GoneD.none] at e⟩
    · refine ⟨fun _ e => by simp at e, fun _ => ?_⟩
      have := (hn i (by rw [← hAns.1]; exact hi)).1.1
      show 7 ≤ (belowOf (stepAt l at') i).size
      unfold belowOf
      rw [ByteArray.size_append]
      show 7 ≤ 6 + _
      omega
    · exact ⟨fun _ _ => ⟨by show 0 ≤ (stepAt l at').fall; omega, hfall.2⟩, fun e => by simp at e⟩
    · refine ⟨fun _ _ => ?_, fun e => by simp at e⟩
      show 0 ≤ r ∧ r < l.length
      rcases hr with ⟨_, rfl⟩ | ⟨_, ⟨j, hj, _, _, rfl⟩ | ⟨_, rfl⟩⟩
      · exact he
      · exact (hc j hj).2
      · exact he
theorem goOnF_code (s : StepD) (xs : List AnswerD) : (goOnF s xs).code = 0 := by
  unfold goOnF
  split
  · split <;> rfl
  · rfl
structure RunX.Good (webl : List NodeD) (r : RunX) : Prop where
  act : InAct webl r
  lo : 0 ≤ r.visits
  hi : r.visits ≤ 20
  tl : (r.texts.length : Int) ≤ 5 * r.visits
  ts : ∀ t ∈ r.texts, t.size ≤ 200
  tx : r.text.size ≤ 200
  stp : ∀ A, actsOf webl r.name = some A → r.over = false → r.visits ≠ 0 → (stepOf A r.at').fin = false
def GoodEnv (webl : List NodeD) (σ : Env) : Prop := ∀ n r, σ n = some r → r.name = n ∧ r.Good webl
theorem noOf_size {n : ByteArray} (h : n.size ≤ 20) : (noOf n).size ≤ 200 := by
  unfold noOf
  rw [ByteArray.size_append]
  show 3 + n.size ≤ 200
  omega
theorem ansOf_size {webl : List NodeD} {σ : Env} {n : ByteArray} {x : AnswerD} (hg : GoodEnv webl σ) (hn : n.size ≤ 20) (h : ansOf (actsOf webl) σ n = some x) : x.text.size ≤ 200 := by
  unfold ansOf at h
  split at h
  · simp only [Option.some.injEq] at h
    subst h
    exact noOf_size hn
  · split at h
    · rename_i r hr
      split at h
      · simp only [Option.some.injEq] at h
        subst h
        exact (hg n r hr).2.tx
      · cases h
    · cases h
theorem answersOf_each {W : Acts} {σ : Env} {p : AnswerD → Prop} : ∀ {l : List ByteArray} {xs : List AnswerD}, (∀ n ∈ l, ∀ x, ansOf W σ n = some x → p x) → answersOf W σ l = some xs → xs.length = l.length ∧ ∀ x ∈ xs, p x
  | [], xs, _, h => by
    simp only [answersOf, Option.some.injEq] at h
    subst h
    exact ⟨rfl, fun x hx => by cases hx⟩
  | a :: l, xs, hp, h => by
    unfold answersOf at h
    cases ha : ansOf W σ a with
    | none => simp [ha] at h
    | some x =>
      cases hl : answersOf W σ l with
      | none => simp [ha, hl] at h
      | some ys =>
        simp only [ha, hl, Option.some.injEq] at h
        subst h
        obtain ⟨h1, h2⟩ := answersOf_each (p := p) (fun n hn => hp n (List.mem_cons_of_mem _ hn)) hl
        refine ⟨by simp [h1], fun y hy => ?_⟩
        rcases List.mem_cons.1 hy with rfl | hy
        · exact hp a (by simp) y ha
        · exact h2 y hy
theorem answers_ok {webl : List NodeD} {σ : Env} {s : StepD} {xs : List AnswerD} (hg : GoodEnv webl σ) (hn : ∀ n ∈ s.asks, n.size ≤ 20) (h : answersOf (actsOf webl) σ s.asks = some xs) : AnsOk s xs ∧ ∀ x ∈ xs, x.text.size ≤ 200 := by
  obtain ⟨h1, h2⟩ := answersOf_each (p := fun x => x.text.size ≤ 200) (fun n hn' x hx => ansOf_size hg (hn n hn') hx) h
  refine ⟨⟨h1, fun ⟨i, hi, hl⟩ => ?_⟩, h2⟩
  have := h2 (xs.getD i AnswerD.zero) (by simp [List.getD, hi])
  unfold IsLong at hl
  omega
theorem asks_ok {A : ActionD} (hA : ActionOk A) {i : Int} (h0 : 0 ≤ i) (h1 : i < A.steps.length) : (stepOf A i).asks.length ≤ 5 ∧ ∀ n ∈ (stepOf A i).asks, NameOk n := by
  have hs : StepOk (stepOf A i) A.steps.length := hA.2.2 i.toNat (by omega)
  cases hf : (stepOf A i).fin with
  | true =>
    have := (hs.1 hf).1
    refine ⟨by omega, fun n hn => ?_⟩
    rw [List.eq_nil_of_length_eq_zero this] at hn
    cases hn
  | false =>
    have := (hs.2 hf).1
    refine ⟨this.2.2.1, fun n hn => ?_⟩
    obtain ⟨j, hj, e⟩ := List.getElem_of_mem hn
    have := (this.2.2.2.1 j hj).1
    simp only [List.getD, List.getElem?_eq_getElem hj, e, Option.getD_some] at this
    exact this
theorem belowOf_size {s : StepD} {i : Nat} (h : ∀ n ∈ s.asks, n.size ≤ 20) : (belowOf s i).size ≤ 200 := by
  unfold belowOf
  rw [ByteArray.size_append]
  show 6 + _ ≤ 200
  by_cases hi : i < s.asks.length
  · have := h (s.asks.getD i ByteArray.empty) (by simp [List.getD, hi]); omega
  · have e : s.asks.getD i ByteArray.empty = ByteArray.empty := by simp [List.getD, hi]
    rw [e]
    decide
theorem finB_le (give : ByteArray) (l : List ByteArray) : (finB give l).size ≤ 200 := by
  show (finishOf give.data.toList (texts l)).toArray.size ≤ 200
  unfold finishOf
  split
  · simp
  · split
    · simpa using ‹_›
    · simp [hexL_length]
theorem goodOf_len (xs : List AnswerD) : (goodOf xs).length ≤ xs.length := by
  unfold goodOf
  rw [List.length_map]
  exact List.length_filter_le _ _
theorem goodOf_mem {xs : List AnswerD} {t : ByteArray} (h : t ∈ goodOf xs) : ∃ x ∈ xs, x.text = t := by
  unfold goodOf at h
  rw [List.mem_map] at h
  obtain ⟨x, hx, e⟩ := h
  exact ⟨x, (List.mem_filter.1 hx).1, e⟩
theorem arrive_good {webl : List NodeD} {A : ActionD} {r : RunX} (hw : actsOf webl r.name = some A) (h0 : 0 ≤ r.at') (h1 : r.at' < A.steps.length) (lo : 0 ≤ r.visits) (hi : r.visits < 20) (tl : (r.texts.length : Int) ≤ 5 * (r.visits + 1)) (ts : ∀ t ∈ r.texts, t.size ≤ 200) (tx : r.text.size ≤ 200) : (arrive A r).1.Good webl := by
  unfold arrive
  cases hf : (stepOf A r.at').fin with
  | true =>
    simp only [if_true]
    exact ⟨⟨A, hw, h0, h1⟩, by show 0 ≤ r.visits + 1; omega, by show r.visits + 1 ≤ 20; omega, tl, ts, finB_le _ _, fun _ _ h => by simp at h⟩
  | false =>
    simp only [Bool.false_eq_true, if_false]
    refine ⟨⟨A, hw, h0, h1⟩, by show 0 ≤ r.visits + 1; omega, by show r.visits + 1 ≤ 20; omega, tl, ts, tx, fun A' hA' _ _ => ?_⟩
    have : A = A' := Option.some.inj (hw.symm.trans hA')
    subst this
    exact hf
theorem nextOf_good {webl : List NodeD} {σ : Env} {r : RunX} (hok : ActsOk (actsOf webl)) (hg : GoodEnv webl σ) (h : r.Good webl) (hc : CanGo (actsOf webl) σ r) : (nextOf (actsOf webl) σ r).1.Good webl := by
  obtain ⟨A, hA, h0, h1⟩ := h.act
  have hAok := (hok _ _ hA).1
  unfold nextOf
  rw [hA]
  simp only
  by_cases hv : r.visits = 0
  · rw [if_pos hv]
    have := h.tl
    exact arrive_good hA h0 h1 h.lo (by omega) (by omega) h.ts h.tx
  · rw [if_neg hv]
    rcases hc.2 with e | ⟨A', xs, hA', hxs⟩
    · exact absurd e hv
    · rw [hA] at hA'
      cases hA'
      rw [hxs]
      simp only
      have lo := h.lo
      have hi := h.hi
      have tl := h.tl
      by_cases h20 : r.visits = 20
      · rw [if_pos h20]
        exact ⟨⟨A, hA, h0, h1⟩, h.lo, h.hi, h.tl, h.ts, by show spentB.size ≤ 200; decide, fun _ _ h => by simp at h⟩
      · rw [if_neg h20]
        obtain ⟨hal, han⟩ := asks_ok hAok h0 h1
        have han2 : ∀ n ∈ (stepOf A r.at').asks, n.size ≤ 20 := fun n hn => (han n hn).2.1
        obtain ⟨hAns, hxt⟩ := answers_ok hg han2 hxs
        have hfol := goOnF_followed hAns
        have hW : WentOn A.cost A.steps r.at' xs (goOnF (stepOf A r.at') xs) := .inr ⟨⟨hAok, ⟨h0, h1⟩, h.stp A hA hc.1 hv⟩, hfol⟩
        by_cases hgo : (goOnF (stepOf A r.at') xs).over = true
        · rw [if_pos hgo]
          refine ⟨⟨A, hA, h0, h1⟩, by show 0 ≤ r.visits + 1; omega, by show r.visits + 1 ≤ 20; omega, by show (r.texts.length : Int) ≤ 5 * (r.visits + 1); omega, h.ts, ?_, fun _ _ h => by simp at h⟩
          show (goOnF (stepOf A r.at') xs).text.size ≤ 200
          unfold goOnF
          split
          · split
            · exact belowOf_size han2
            · show (⟨#[]⟩ : ByteArray).size ≤ 200; decide
          · show (⟨#[]⟩ : ByteArray).size ≤ 200; decide
        · rw [if_neg hgo]
          have hgood : 0 ≤ (goOnF (stepOf A r.at') xs).at' ∧ (goOnF (stepOf A r.at') xs).at' < A.steps.length := by
            have hfF : (stepOf A r.at').fin = false := h.stp A hA hc.1 hv
            have hs : StepOk (stepOf A r.at') A.steps.length := hAok.2.2 r.at'.toNat (by omega)
            obtain ⟨⟨_, _, _, _, _, he, hfall, _⟩, hcs⟩ := hs.2 hfF
            unfold goOnF at hgo ⊢
            split
            · rename_i i hi'
              rw [hi'] at hgo
              simp only at hgo
              by_cases hfa : (stepOf A r.at').fall = -1
              · rw [if_pos hfa] at hgo; simp at hgo
              · rw [if_neg hfa]; exact ⟨by show 0 ≤ (stepOf A r.at').fall; omega, hfall.2⟩
            · show 0 ≤ (if xs.length = 0 then _ else _) ∧ (if xs.length = 0 then _ else _) < _
              split
              · exact he
              · rcases caseAt_is (textAt xs (stepOf A r.at').on) (stepOf A r.at').els (stepOf A r.at').cases with ⟨i, g1, _, _, g4⟩ | ⟨_, g2⟩
                · rw [g4]; exact (hcs i g1).2
                · rw [g2]; exact he
          have hgl := goodOf_len xs
          have hxl : xs.length ≤ 5 := by rw [hAns.1]; exact hal
          refine arrive_good (r := { r with texts := r.texts ++ goodOf xs, at' := (goOnF (stepOf A r.at') xs).at' }) hA hgood.1 hgood.2 h.lo (by show r.visits < 20; omega) ?_ (fun t ht => ?_) h.tx
          · show ((r.texts ++ goodOf xs).length : Int) ≤ 5 * (r.visits + 1)
            rw [List.length_append]
            push_cast
            omega
          · rcases List.mem_append.1 ht with ht | ht
            · exact h.ts t ht
            · obtain ⟨x, hx, rfl⟩ := goodOf_mem ht
              exact hxt x hx
def wantL (W : Acts) : List RunX → List ByteArray → List RunX
  | l, [] => l
  | l, a :: bs => wantL W (if (W a).isSome = true ∧ (envOf l a).isNone = true then l ++ [RunX.fresh a] else l) bs
theorem env_snoc (l : List RunX) (x : RunX) (m : ByteArray) : envOf (l ++ [x]) m = match envOf l m with | some r => some r | none => if x.name = m then some x else none := by
  unfold envOf
  rw [List.find?_append]
  cases h : l.find? fun r => decide (r.name = m) with
  | some r => rfl
  | none =>
    by_cases e : x.name = m
    · simp [e]
    · simp [e]
theorem wantL_env (W : Acts) : ∀ (bs : List ByteArray) (l : List RunX) (m : ByteArray), envOf (wantL W l bs) m = match envOf l m with | some r => some r | none => if hasN bs m = true ∧ (W m).isSome = true then some (RunX.fresh m) else none
  | [], l, m => by
    show envOf l m = _
    cases envOf l m with
    | some r => rfl
    | none => simp [hasN]
  | a :: bs, l, m => by
    show envOf (wantL W (if (W a).isSome = true ∧ (envOf l a).isNone = true then l ++ [RunX.fresh a] else l) bs) m = _
    rw [wantL_env W bs]
    have hcons : hasN (a :: bs) m = true ↔ a = m ∨ hasN bs m = true := by simp [hasN]
    by_cases hc : (W a).isSome = true ∧ (envOf l a).isNone = true
    · rw [if_pos hc, env_snoc]
      cases hm : envOf l m with
      | some r => rfl
      | none =>
        simp only
        by_cases e : a = m
        · subst e
          have e1 : (RunX.fresh a).name = a := rfl
          rw [if_pos e1]
          simp only
          rw [if_pos ⟨hcons.2 (.inl rfl), hc.1⟩]
        · have e1 : (RunX.fresh a).name ≠ m := e
          rw [if_neg e1]
          simp only
          by_cases h2 : hasN bs m = true ∧ (W m).isSome = true
          · rw [if_pos h2, if_pos ⟨hcons.2 (.inr h2.1), h2.2⟩]
          · rw [if_neg h2, if_neg]
            rintro ⟨h3, h4⟩
            rcases hcons.1 h3 with h5 | h5
            · exact e h5
            · exact h2 ⟨h5, h4⟩
    · rw [if_neg hc]
      cases hm : envOf l m with
      | some r => rfl
      | none =>
        simp only
        by_cases h2 : hasN bs m = true ∧ (W m).isSome = true
        · rw [if_pos h2, if_pos ⟨hcons.2 (.inr h2.1), h2.2⟩]
        · rw [if_neg h2, if_neg]
          rintro ⟨h3, h4⟩
          rcases hcons.1 h3 with h5 | h5
          · subst h5
            exact hc ⟨h4, by rw [hm]; rfl⟩
          · exact h2 ⟨h5, h4⟩
theorem wantL_diff (W : Acts) : ∀ (bs : List ByteArray) (l : List RunX), (∀ x ∈ l, ∀ y ∈ l, x.name = y.name → x = y) → ∀ x ∈ wantL W l bs, ∀ y ∈ wantL W l bs, x.name = y.name → x = y
  | [], _, h => h
  | a :: bs, l, h => by
    show ∀ x ∈ wantL W (if (W a).isSome = true ∧ (envOf l a).isNone = true then l ++ [RunX.fresh a] else l) bs, ∀ y ∈ wantL W (if (W a).isSome = true ∧ (envOf l a).isNone = true then l ++ [RunX.fresh a] else l) bs, _
    refine wantL_diff W bs _ ?_
    by_cases hc : (W a).isSome = true ∧ (envOf l a).isNone = true
    · rw [if_pos hc]
      have hno : ∀ x ∈ l, x.name ≠ a := fun x hx e => by
        have := (env_iff h).2 ⟨hx, e⟩
        rw [this] at hc
        simp at hc
      intro x hx y hy e
      rcases List.mem_append.1 hx with hx | hx <;> rcases List.mem_append.1 hy with hy | hy
      · exact h x hx y hy e
      · rw [List.mem_singleton] at hy; subst hy; exact absurd e (hno x hx)
      · rw [List.mem_singleton] at hx; subst hx; exact absurd e.symm (hno y hy)
      · rw [List.mem_singleton] at hx hy; rw [hx, hy]
    · rw [if_neg hc]
      exact h
def doL (W : Acts) (l : List RunX) (r : RunX) : List RunX := (wantL W (insX l (nextOf W (envOf l) r).1) (nextOf W (envOf l) r).2).foldl insX []
theorem doL_asc {W : Acts} {l : List RunX} {r : RunX} (h : AscX l) : AscX (doL W l r) := (foldl_ins _ [] List.Pairwise.nil (wantL_diff W _ _ (asc_diff (insX_asc h)))).1
theorem doL_env {W : Acts} {l : List RunX} {n : ByteArray} {r : RunX} (h : AscX l) (hr : envOf l n = some r) : envOf (doL W l r) = doX W (envOf l) n := by
  funext m
  have hn : r.name = n := (env_mem hr).2
  have hn2 : (nextOf W (envOf l) r).1.name = n := by rw [nextOf_name]; exact hn
  unfold doL
  rw [(foldl_ins _ [] List.Pairwise.nil (wantL_diff W _ _ (asc_diff (insX_asc h)))).2 m, wantL_env, insX_env h, doX_eq hr, hn2]
  by_cases e : m = n
  · rw [if_pos e, if_pos e]
  · rw [if_neg e, if_neg e]
    cases hm : envOf l m with
    | some x => rfl
    | none =>
      simp only
      by_cases c : hasN (nextOf W (envOf l) r).2 m = true ∧ (W m).isSome = true
      · rw [if_pos c]
      · rw [if_neg c]
        rfl
structure GoodL (webl : List NodeD) (l : List RunX) : Prop where
  asc : AscX l
  good : ∀ r ∈ l, r.Good webl
theorem GoodL.env {webl : List NodeD} {l : List RunX} (h : GoodL webl l) : GoodEnv webl (envOf l) := fun _n r hr => ⟨(env_mem hr).2, h.good r (env_mem hr).1⟩
theorem fresh_good {webl : List NodeD} (hok : ActsOk (actsOf webl)) {a : ByteArray} (h : (actsOf webl a).isSome = true) : (RunX.fresh a).Good webl := by
  obtain ⟨A, hA⟩ := Option.isSome_iff_exists.1 h
  have hA1 := (hok a A hA).1.2.1.1
  exact ⟨⟨A, hA, Int.le_refl _, by show (0 : Int) < A.steps.length; omega⟩, Int.le_refl _, by show (0 : Int) ≤ 20; omega, by show ((([] : List ByteArray).length : Nat) : Int) ≤ 5 * 0; simp, fun t ht => (by cases ht), by show (⟨#[]⟩ : ByteArray).size ≤ 200; decide, fun _ _ _ h => absurd rfl h⟩
theorem doL_good {webl : List NodeD} (hok : ActsOk (actsOf webl)) {l : List RunX} {r : RunX} (h : GoodL webl l) (hr : r ∈ l) (hc : CanGo (actsOf webl) (envOf l) r) : GoodL webl (doL (actsOf webl) l r) := by
  refine ⟨doL_asc h.asc, fun x hx => ?_⟩
  have he := asc_env h.asc hr
  have h1 := asc_env (doL_asc (W := actsOf webl) (r := r) h.asc) hx
  rw [doL_env h.asc he, doX_eq he] at h1
  by_cases e : x.name = r.name
  · rw [if_pos e] at h1
    cases h1
    exact nextOf_good hok h.env (h.good r hr) hc
  · rw [if_neg e] at h1
    cases hm : envOf l x.name with
    | some y =>
      rw [hm] at h1
      cases h1
      exact h.good x (env_mem hm).1
    | none =>
      rw [hm] at h1
      simp only at h1
      split at h1
      · rename_i hc2
        have e2 : RunX.fresh x.name = x := Option.some.inj h1
        rw [← e2]
        exact fresh_good hok hc2.2
      · cases h1
end Go.Proofs.YtjhemildijapmaaGreatDoor
