import Derived.Test.YtghipdfemoofhaaGreatDoorKBConcat
import Derived.Deep.RegionHeld
namespace Go.Proofs.YtghipdfemoofhaaGreatDoor
open Go.RowKit
theorem Tryz.sizeSortedB : (Tryz.prog.info? 127).map (·.size) = some 2 := by kernel_rfl
def PartB (w : World) (A : Option Addr) (c : Nat) (ys : List Value) : Prop := (A = none ∧ c = 0 ∧ ys = []) ∨ ∃ p1 p2, A = some ⟨p1, p2, none⟩ ∧ ∀ j u, ys[j]? = some u → w.cell? ⟨p1, p2 + j, none⟩ = some u
theorem concatB_with {w2 : World} {xs : List Value} {p n c1 c3 tb : Nat} {A1 A3 : Option Addr} (hn : xs.length = n) (hl : n ≤ 1000) (hp : p ≤ n) (hone : ∀ u ∈ xs, u.oneCell' = true) (h1 : PartB w2 A1 c1 (xs.take p)) (h3 : PartB w2 A3 c3 (xs.drop p)) {m : Nat} (hm : m = n + 1) :
    Calls Tryz.prog 174 #[.slice (some ⟨w2.heap.size + 1, 0, none⟩) 3 3] ((w2.alloc (.cells #[.pointer (some ⟨tb, 0, none⟩)] 70)).alloc (.cells #[.slice A1 p c1, .slice (some ⟨w2.heap.size, 0, none⟩) 1 1, .slice A3 (n - p) c3] 124)).drew
      fun e w' => ∃ a' cap' base, e = .returned (.slice a' m cap') ∧ w2.heap.size ≤ base ∧ w'.ownsRow base 70 1 (.slice a' m cap') m (xs.take p ++ .pointer (some ⟨tb, 0, none⟩) :: xs.drop p) ∧ Kept w2 w' := by
  have k1 : Kept w2 ((w2.alloc (.cells #[.pointer (some ⟨tb, 0, none⟩)] 70)).alloc (.cells #[.slice A1 p c1, .slice (some ⟨w2.heap.size, 0, none⟩) 1 1, .slice A3 (n - p) c3] 124)).drew := (((Kept.refl _).alloc _).alloc _).drew
  have a2 := xBoxCell (w := w2) (x := .pointer (some ⟨tb, 0, none⟩)) (t := 70) (((Kept.refl _).alloc (.cells #[.slice A1 p c1, .slice (some ⟨w2.heap.size, 0, none⟩) 1 1, .slice A3 (n - p) c3] 124)).drew)
  have part : ∀ {A c ys}, PartB w2 A c ys → ∀ W, Kept w2 W → (A = none ∧ c = 0 ∧ ys = []) ∨ ∃ p1 p2, A = some ⟨p1, p2, none⟩ ∧ ∀ j u, ys[j]? = some u → W.cell? ⟨p1, p2 + j, none⟩ = some u := by
    intro A c ys h W k
    rcases h with h | ⟨p1, p2, e, g⟩
    · exact .inl h
    · exact .inr ⟨p1, p2, e, fun j u hu => by rw [k.cell (World.block_lt_of_cell? _ _ (g j u hu))]; exact g j u hu⟩
  have hfl : ([xs.take p, [.pointer (some ⟨tb, 0, none⟩)], xs.drop p] : List (List Value)).flatten = xs.take p ++ .pointer (some ⟨tb, 0, none⟩) :: xs.drop p := by simp
  refine (concatB_any _ (w2.heap.size + 1) 3 [xs.take p, [.pointer (some ⟨tb, 0, none⟩)], xs.drop p] (fun i => if i = 0 then A1 else if i = 1 then some ⟨w2.heap.size, 0, none⟩ else A3) (fun i => if i = 0 then c1 else if i = 1 then 1 else c3) (by simp) (by simp [List.length_take, List.length_drop]; omega) ?_ ⟨?_, fun i hi => ?_⟩).mono ?_
  · intro l hl u hu
    simp only [List.mem_cons, List.not_mem_nil, or_false] at hl
    rcases hl with rfl | rfl | rfl
    · exact hone u (List.mem_of_mem_take hu)
    · simp at hu; subst hu; rfl
    · exact hone u (List.mem_of_mem_drop hu)
  · show w2.heap.size + 1 < ((w2.alloc _).alloc _).heap.size
    simp
  · match i, hi with
    | 0, _ => exact ⟨by simp [List.length_take, Nat.min_eq_left (hn ▸ hp)], part h1 _ k1⟩
    | 1, _ => exact ⟨by simp, .inr ⟨w2.heap.size, 0, rfl, fun j u hu => by
        match j, hu with
        | 0, hu => simp at hu; subst hu; exact a2
        | j + 1, hu => simp at hu⟩⟩
    | 2, _ => exact ⟨by simp [List.length_drop, hn], part h3 _ k1⟩
    | i + 3, hi => exfalso; simp at hi; omega
  · rintro e w' ⟨v, rfl, hO, k⟩
    rw [hfl] at hO
    have hlen : (xs.take p ++ .pointer (some ⟨tb, 0, none⟩) :: xs.drop p).length = m := by rw [List.length_append, List.length_cons, List.length_take, List.length_drop]; omega
    rw [hlen] at hO
    obtain ⟨a', cap', rfl⟩ := own_slice hO
    exact ⟨a', cap', _, rfl, k1.size, hO, k1.trans k⟩
def WithEndB (l : List NodeD) (n : ByteArray) (tb : Nat) (xs : List Value) (w w' : World) (e : Ending) : Prop :=
  ∃ (m : Nat) (a : Option Addr) (cap base p : Nat), m = l.length + 1 ∧ e = .returned (.agg #[.slice a m cap, .func (.func 107) #[] #[]]) ∧ w.heap.size ≤ base ∧ w'.ownsRow base 70 1 (.slice a m cap) m (xs.take p ++ .pointer (some ⟨tb, 0, none⟩) :: xs.drop p) ∧ Place l n.toList p ∧ Kept w w'
theorem xBoxCells2 {w wi : World} {x y : Value} {t : TypeId} (K : Kept (w.alloc (.cells #[x, y] t)) wi) : wi.cell? ⟨w.heap.size, 0, none⟩ = some x ∧ wi.cell? ⟨w.heap.size, 1, none⟩ = some y :=
  ⟨(K.cell (by simp)).trans (range_new w #[x, y] t 0 _ rfl), (K.cell (by simp)).trans (range_new w #[x, y] t 1 _ rfl)⟩
theorem PackedN.one {w : World} {xs : List Value} {l : List NodeD} (h : PackedN w xs l) : ∀ u ∈ xs, u.oneCell' = true := by
  intro u hu
  obtain ⟨i, hi, rfl⟩ := List.getElem_of_mem hu
  obtain ⟨tb, _, _, e, _⟩ := h.2 i (by rw [← h.1]; exact hi)
  rw [List.getElem?_eq_getElem hi] at e
  rw [Option.some.inj e]
  rfl
abbrev withBW (w : World) (a : Option Addr) (n cap : Nat) : World := (w.alloc (.cells #[.slice a n cap, .func (.func 107) #[] #[]] 127)).alloc (.cells #[.slice none 0 0, .nilFunc] 127)
set_option maxRecDepth 100000 in
set_option maxHeartbeats 1600000 in
theorem withB_any (w : World) (a : Option Addr) (cap : Nat) (l : List NodeD) (d : NodeD) (xs : List Value) (base0 tb : Nat) (hl : l.length ≤ 100) (hr : Rises l) (hno : ∀ j, j < l.length → nameAt l j ≠ d.name.toList) (hO0 : w.ownsRow base0 70 1 (.slice a l.length cap) l.length xs) (hP : PackedN w xs l) (htl : tb < w.heap.size) (htn : w.cell? ⟨tb, 0, none⟩ = some (.string d.name)) :
    Calls Tryz.prog 149 #[.agg #[.slice a l.length cap, .func (.func 107) #[] #[]], .pointer (some ⟨tb, 0, none⟩)] w fun e w' => WithEndB l d.name tb xs w w' e := by
  have hCells := cellsB_of_owned hO0
  have hxl : xs.length = l.length := by have := hO0.1; omega
  have K0 : Kept w (withBW w a l.length cap) := ((Kept.refl _).alloc _).alloc _
  have HSO : Hid (∀ w', Kept (withBW w a l.length cap) w' → (fun w' => w'.cell? ⟨w.heap.size, 0, none⟩ = some (.slice a l.length cap) ∧ w'.cell? ⟨w.heap.size, 1, none⟩ = some (.func (.func 107) #[] #[])) w') := fun w' kk => xBoxCells2 (w := w) (Kept.trans ((Kept.refl _).alloc _) kk)
  have HRo : Hid (Row (withBW w a l.length cap) (w.heap.size + 1) 2) := by have := Row.made (w.alloc (.cells #[.slice a l.length cap, .func (.func 107) #[] #[]] 127)) #[.slice none 0 0, .nilFunc] 127; show Row _ _ _; simpa using this
  go_enter Tryz.func149, Tryz.ntmps149
  go_wp2
  go_region_held (fun w' => w'.cell? ⟨w.heap.size, 0, none⟩ = some (.slice a l.length cap) ∧ w'.cell? ⟨w.heap.size, 1, none⟩ = some (.func (.func 107) #[] #[])) (exact unhide HSO _ (by repeat (first | (with_reducible exact Kept.refl _) | (with_reducible assumption) | apply Kept.drew))) ((first | (go_at_call 107; refine (taskName_b _ tb d.name ((Kept.cell (K0.trans (by repeat (first | (with_reducible exact Kept.refl _) | (with_reducible assumption) | apply Kept.drew))) htl).trans htn)).mono ?_; rintro e w1 ⟨rfl, rfl⟩) | (go_at_call 150; refine (findB_any _ a cap l d.name (by omega) hr xs (hP.kept (K0.trans (by repeat (first | (with_reducible exact Kept.refl _) | (with_reducible assumption) | apply Kept.drew)))) (hCells.kept (K0.trans (by repeat (first | (with_reducible exact Kept.refl _) | (with_reducible assumption) | apply Kept.drew))))).mono ?_; rintro e w2 ⟨hfo, hk2⟩; obtain ⟨p, f, rfl, hp, hf⟩ := hfo; have k2 : Kept (withBW w a l.length cap) w2 := Kept.trans (by repeat (first | (with_reducible exact Kept.refl _) | (with_reducible assumption) | apply Kept.drew)) hk2; have HP := hide hp; have HF := hide hf; clear hp hf hk2)))
  all_goals
    have hff : f = false := by
      cases f
      · rfl
      · have := HF.out.1 rfl
        exact absurd this.2 (hno p this.1)
    subst hff
    have z2 := k2.size
    simp only [withBW, World.size_alloc] at z2
    have K2 := K0.trans k2
    have S2 := HSO.out w2 k2
    have hrow := HRo.out.kept k2
    obtain ⟨⟨_, x0⟩, g0⟩ := hrow.at (i := 0) (by omega)
    obtain ⟨⟨_, x1⟩, g1⟩ := hrow.at (i := 1) (by omega)
    have HR2 := hide hrow
    have hple := HP.out.le
    clear hrow
    obtain ⟨m, hm⟩ : ∃ m, m = l.length + 1 := ⟨_, rfl⟩
    have HM := hide hm
    have HSO2 : Hid (∀ w', KeptBut (w.heap.size + 1) (w.heap.size + 2) w2 w' → (fun w' => w'.cell? ⟨w.heap.size, 0, none⟩ = some (.slice a l.length cap) ∧ w'.cell? ⟨w.heap.size, 1, none⟩ = some (.func (.func 107) #[] #[])) w') := fun w' kk =>
      have ks := kk.same (l2 := w.heap.size) (h2 := w.heap.size + 1) (by omega)
      ⟨(ks.cell (Nat.le_refl _) (by omega) (by omega)).trans S2.1, (ks.cell (Nat.le_refl _) (by omega) (by omega)).trans S2.2⟩
    obtain ⟨s1, s2⟩ := S2
    have hone := hP.one
    have hCs := hCells.kept K2
    have u0 : w.heap.size < w2.heap.size := by omega
    have u2 : w.heap.size + 1 < w2.heap.size := by omega
    rcases hO0.2 with ⟨ev, h0⟩ | ⟨g, cp, cu2, ev, _, hg, hncp, _, _, _⟩
    · simp only [Value.slice.injEq] at ev
      obtain ⟨ea, _, ec⟩ := ev
      subst ea ec
      have hp0 : p = 0 := by omega
      subst hp0
      have hx0 : xs = [] := List.eq_nil_of_length_eq_zero (by omega)
      have hC := concatB_with (w2 := w2) (c1 := 0) (c3 := 0) (tb := tb) (A1 := none) (A3 := none) hxl (by omega) hple hone (.inl ⟨rfl, rfl, by rw [hx0]; rfl⟩) (.inl ⟨rfl, rfl, by rw [hx0]; rfl⟩) hm
      obtain rfl : l = [] := List.eq_nil_of_length_eq_zero h0
      simp only [List.length_nil, Nat.zero_sub] at hC s1
      have HC := hide hC
      clear hC hx0 hone hCs hm
      go_wp2
      go_region_held (fun w' => w'.cell? ⟨w.heap.size, 0, none⟩ = some (.slice none 0 0) ∧ w'.cell? ⟨w.heap.size, 1, none⟩ = some (.func (.func 107) #[] #[])) (exact unhide HSO2 _ (by repeat (first | exact KeptBut.refl _ _ _ | exact KeptBut.of_kept (by assumption) | apply KeptBut.drew | (refine KeptBut.setCell ?_ (by simp) (by simp) _) | apply KeptBut.alloc))) ((go_at_call 174; refine (unhide HC).mono ?_; rintro e w3 ⟨a', cap', base, rfl, hbase, hO, kk⟩; have HR3 := hide (HR2.out.kept kk); obtain ⟨⟨_, y0⟩, e0⟩ := HR3.out.at (i := 0) (by omega); obtain ⟨⟨_, y1⟩, e1⟩ := HR3.out.at (i := 1) (by omega); have HO := hide hO; clear hO))
      all_goals
        go_wp2
        have hR := World.rangeAt_setCells_same w3 (w.heap.size + 1) 0 [.slice a' m cap', .func (.func 107) #[] #[]] (HR3.out.there (o := 0) (m := 2) (Nat.le_refl _))
        have kf : Kept w ((w3.setCell ⟨w.heap.size + 1, 0, none⟩ (.slice a' m cap')).setCell ⟨w.heap.size + 1, 1, none⟩ (.func (.func 107) #[] #[])) := ((K2.trans kk).setCell (by simp) _).setCell (by simp) _
        have hO2 := owns_set (owns_set HO.out (p := ⟨w.heap.size + 1, 0, none⟩) (by simp <;> omega) (.slice a' m cap')) (p := ⟨w.heap.size + 1, 1, none⟩) (by simp <;> omega) (.func (.func 107) #[] #[])
        exact bodyPost_ret_cell [.slice a' m cap', .func (.func 107) #[] #[]] _ Tryz.results149 rfl hR Tryz.underlying127 rfl Tryz.sizeSortedB rfl ⟨m, a', cap', base, _, HM.out, rfl, by omega, hO2, HP.out, kf⟩
    · simp only [Value.slice.injEq] at ev
      obtain ⟨ea, _, ec⟩ := ev
      subst ea ec
      have hsrc : ∀ j u, xs[j]? = some u → w2.cell? ⟨g, 0 + j, none⟩ = some u := fun j u hu => by
        obtain ⟨b', o', e', _, hc'⟩ := hCs j (List.getElem?_eq_some_iff.1 hu).1
        simp only [Option.some.injEq, Addr.mk.injEq, and_true] at e'
        obtain ⟨rfl, rfl⟩ := e'
        exact hc' j u hu
      have hp1 : PartB w2 (some ⟨g, 0, none⟩) cap (xs.take p) := .inr ⟨g, 0, rfl, fun j u hu => hsrc j u (by rw [List.getElem?_take] at hu; split at hu; exact hu; cases hu)⟩
      have i1 : (p : Int) ≤ (cap : Int) := by omega
      have i2 : (p : Int) ≤ (l.length : Int) := by omega
      by_cases hce : cap = p
      · have hlp : l.length = p := by omega
        have hC := concatB_with (w2 := w2) (c1 := p) (c3 := 0) (tb := tb) (A1 := some ⟨g, 0, none⟩) (A3 := some ⟨g, 0, none⟩) hxl (by omega) hple hone (hce ▸ hp1) (.inr ⟨g, 0, rfl, fun j u hu => by rw [List.drop_eq_nil_of_le (by omega)] at hu; simp at hu⟩) hm
        rw [show l.length - p = 0 by omega] at hC
        have HC := hide hC
        clear hC hone hCs hsrc hp1 hm
        go_wp2
        go_region_held (fun w' => w'.cell? ⟨w.heap.size, 0, none⟩ = some (.slice (some ⟨g, 0, none⟩) l.length cap) ∧ w'.cell? ⟨w.heap.size, 1, none⟩ = some (.func (.func 107) #[] #[])) (exact unhide HSO2 _ (by repeat (first | exact KeptBut.refl _ _ _ | exact KeptBut.of_kept (by assumption) | apply KeptBut.drew | (refine KeptBut.setCell ?_ (by simp) (by simp) _) | apply KeptBut.alloc))) ((go_at_call 174; refine (unhide HC).mono ?_; rintro e w3 ⟨a', cap', base, rfl, hbase, hO, kk⟩; have HR3 := hide (HR2.out.kept kk); obtain ⟨⟨_, y0⟩, e0⟩ := HR3.out.at (i := 0) (by omega); obtain ⟨⟨_, y1⟩, e1⟩ := HR3.out.at (i := 1) (by omega); have HO := hide hO; clear hO))
        all_goals
          go_wp2
          have hR := World.rangeAt_setCells_same w3 (w.heap.size + 1) 0 [.slice a' m cap', .func (.func 107) #[] #[]] (HR3.out.there (o := 0) (m := 2) (Nat.le_refl _))
          have kf : Kept w ((w3.setCell ⟨w.heap.size + 1, 0, none⟩ (.slice a' m cap')).setCell ⟨w.heap.size + 1, 1, none⟩ (.func (.func 107) #[] #[])) := ((K2.trans kk).setCell (by simp) _).setCell (by simp) _
          have hO2 := owns_set (owns_set HO.out (p := ⟨w.heap.size + 1, 0, none⟩) (by simp <;> omega) (.slice a' m cap')) (p := ⟨w.heap.size + 1, 1, none⟩) (by simp <;> omega) (.func (.func 107) #[] #[])
          exact bodyPost_ret_cell [.slice a' m cap', .func (.func 107) #[] #[]] _ Tryz.results149 rfl hR Tryz.underlying127 rfl Tryz.sizeSortedB rfl ⟨m, a', cap', base, _, HM.out, rfl, by omega, hO2, HP.out, kf⟩
      · have hC := concatB_with (w2 := w2) (c1 := cap) (c3 := cap - p) (tb := tb) (A1 := some ⟨g, 0, none⟩) (A3 := some ⟨g, 0 + p * 1, none⟩) hxl (by omega) hple hone hp1 (.inr ⟨g, 0 + p * 1, rfl, fun j u hu => by rw [List.getElem?_drop] at hu; have := hsrc _ u hu; rw [show 0 + p * 1 + j = 0 + (p + j) by omega]; exact this⟩) hm
        simp only [Nat.mul_one, Nat.zero_add] at hC
        have HC := hide hC
        clear hC hone hCs hsrc hp1 hm
        go_wp2
        go_region_held (fun w' => w'.cell? ⟨w.heap.size, 0, none⟩ = some (.slice (some ⟨g, 0, none⟩) l.length cap) ∧ w'.cell? ⟨w.heap.size, 1, none⟩ = some (.func (.func 107) #[] #[])) (exact unhide HSO2 _ (by repeat (first | exact KeptBut.refl _ _ _ | exact KeptBut.of_kept (by assumption) | apply KeptBut.drew | (refine KeptBut.setCell ?_ (by simp) (by simp) _) | apply KeptBut.alloc))) ((go_at_call 174; refine (unhide HC).mono ?_; rintro e w3 ⟨a', cap', base, rfl, hbase, hO, kk⟩; have HR3 := hide (HR2.out.kept kk); obtain ⟨⟨_, y0⟩, e0⟩ := HR3.out.at (i := 0) (by omega); obtain ⟨⟨_, y1⟩, e1⟩ := HR3.out.at (i := 1) (by omega); have HO := hide hO; clear hO))
        all_goals
          go_wp2
          have hR := World.rangeAt_setCells_same w3 (w.heap.size + 1) 0 [.slice a' m cap', .func (.func 107) #[] #[]] (HR3.out.there (o := 0) (m := 2) (Nat.le_refl _))
          have kf : Kept w ((w3.setCell ⟨w.heap.size + 1, 0, none⟩ (.slice a' m cap')).setCell ⟨w.heap.size + 1, 1, none⟩ (.func (.func 107) #[] #[])) := ((K2.trans kk).setCell (by simp) _).setCell (by simp) _
          have hO2 := owns_set (owns_set HO.out (p := ⟨w.heap.size + 1, 0, none⟩) (by simp <;> omega) (.slice a' m cap')) (p := ⟨w.heap.size + 1, 1, none⟩) (by simp <;> omega) (.func (.func 107) #[] #[])
          exact bodyPost_ret_cell [.slice a' m cap', .func (.func 107) #[] #[]] _ Tryz.results149 rfl hR Tryz.underlying127 rfl Tryz.sizeSortedB rfl ⟨m, a', cap', base, _, HM.out, rfl, by omega, hO2, HP.out, kf⟩
end Go.Proofs.YtghipdfemoofhaaGreatDoor
