import Derived.Test.YtfjbdapblmlneaaOWithout
import Derived.Test.YtfjbdapblmlneaaOPutS
import Derived.Deep.CutRange

/-
  THE WALK over with.
-/
namespace Go.Proofs.Ytfjbdapblmlneaa
open Go.RowKit

/-- The three parts, as they are handed to Concat. -/
theorem rows_three {w0 W : World} (k0 : Kept w0 W) {B b o o2 bi c1 c2 p q : Nat} {a : Option Addr} {ca : Nat} {l : List NodeD} {d : NodeD} (hS : Nodes w0 (some ⟨b, o, none⟩) l) (hA : Steps w0 a d.steps) (hp : p ≤ l.length) (ho : l.length = q ∨ o2 = o + q * 3) (hB : B < W.heap.size)
    (h0 : W.cell? ⟨B, 0, none⟩ = some (.slice (some ⟨b, o, none⟩) p c1)) (h1 : W.cell? ⟨B, 1, none⟩ = some (.slice (some ⟨bi, 0, none⟩) 1 1)) (h2 : W.cell? ⟨B, 2, none⟩ = some (.slice (some ⟨b, o2, none⟩) (l.length - q) c2))
    (hi : ∀ j u, (d.cells a ca)[j]? = some u → W.cell? ⟨bi, j, none⟩ = some u) :
    Rows2 W w0 B [l.take p, [d], l.drop q] (fun i => if i = 0 then (b, o) else if i = 1 then (bi, 0) else (b, o2)) (fun i => if i = 0 then c1 else if i = 1 then 1 else c2) := by
  refine ⟨hB, fun i hi' => ?_⟩
  match i, hi' with
  | 0, _ =>
    refine ⟨?_, news_of k0 (hS.take p)⟩
    simpa [List.length_take, Nat.min_eq_left hp] using h0
  | 1, _ =>
    refine ⟨by simpa using h1, d.cells a ca, ⟨rfl, ?_, fun i hi2 => ?_⟩, fun j u hu => ?_⟩
    · intro u hu
      exact node_one d a ca u hu
    · have : i = 0 := by simpa using hi2
      subst this
      exact ⟨a, ca, hA, fun t v hv => by rw [Nat.zero_mul, Nat.zero_add]; exact hv⟩
    · show W.cell? ⟨bi, 0 + j, none⟩ = some u
      rw [Nat.zero_add]
      exact hi j u hu
  | 2, _ =>
    refine ⟨by simpa using h2, ?_⟩
    refine news_of (o := o2) k0 ?_
    show Nodes _ (some ⟨b, o2, none⟩) (l.drop q)
    rcases ho with h | rfl
    · intro i hi
      rw [List.length_drop] at hi
      omega
    · exact hS.drop q
  | i + 3, hi' =>
    exfalso
    simp at hi'
    omega

theorem three_flat (l : List NodeD) (d : NodeD) (p q : Nat) : ([l.take p, [d], l.drop q] : List (List NodeD)).flatten = l.take p ++ d :: l.drop q := by simp
theorem three_sum {l : List NodeD} {d : NodeD} (p q : Nat) (hl : l.length ≤ 1048576) : (([l.take p, [d], l.drop q] : List (List NodeD)).map List.length).sum ≤ 3145728 := by
  simp [List.length_take, List.length_drop]
  omega

/-- Concat of the three parts. -/
theorem concat_three {w0 W : World} (k0 : Kept w0 W) {B b o o2 bi c1 c2 p q : Nat} {a : Option Addr} {ca : Nat} {l : List NodeD} {d : NodeD} (hl : l.length ≤ 1048576) (hS : Nodes w0 (some ⟨b, o, none⟩) l) (hA : Steps w0 a d.steps) (hp : p ≤ l.length) (ho : l.length = q ∨ o2 = o + q * 3) (hB : B < W.heap.size)
    (h0 : W.cell? ⟨B, 0, none⟩ = some (.slice (some ⟨b, o, none⟩) p c1)) (h1 : W.cell? ⟨B, 1, none⟩ = some (.slice (some ⟨bi, 0, none⟩) 1 1)) (h2 : W.cell? ⟨B, 2, none⟩ = some (.slice (some ⟨b, o2, none⟩) (l.length - q) c2))
    (hi : ∀ j u, (d.cells a ca)[j]? = some u → W.cell? ⟨bi, j, none⟩ = some u) {T : List NodeD} (hT : l.take p ++ d :: l.drop q = T) :
    Calls Try.prog 72 #[.slice (some ⟨B, 0, none⟩) 3 3] W
      fun e w' => ∃ a' cap' xs, e = .returned (.slice a' T.length cap') ∧ w'.ownsRow W.heap.size 60 3 (.slice a' T.length cap') T.length xs ∧ Packed w0 xs T ∧ Kept W w' := by
  refine (concat_any W w0 B 3 [l.take p, [d], l.drop q] _ _ (by simp) (three_sum p q hl) (rows_three k0 hS hA hp ho hB h0 h1 h2 hi)).mono ?_
  rintro e w' ⟨v, xs, he, hO, hP, k⟩
  rw [three_flat, hT] at hO hP
  obtain ⟨_, a', cap', rfl, _, _⟩ := nodes_of_owned hO (hP.kept (k0.trans k))
  exact ⟨a', cap', xs, he, hO, hP, k⟩

/-- What with gives. -/
def WithEnd (l : List NodeD) (d : NodeD) (w0 w w' : World) (e : Ending) : Prop :=
  ∃ a cap xs base, e = .returned (.agg #[.slice a (putIn l d).length cap, .func (.func 70) #[] #[]]) ∧ w.heap.size ≤ base ∧ w'.ownsRow base 60 3 (.slice a (putIn l d).length cap) (putIn l d).length xs ∧ Packed w0 xs (putIn l d) ∧ Kept w w'

/-- Concat of the three parts, in the world in which with calls it. -/
theorem concat_with {w w2 : World} (K2 : Kept w w2) {b o o2 c1 c2 p q : Nat} {a : Option Addr} {ca : Nat} {l : List NodeD} {d : NodeD} (hl : l.length ≤ 1048576) (hS : Nodes w (some ⟨b, o, none⟩) l) (hA : Steps w a d.steps) (hp : p ≤ l.length) (ho : l.length = q ∨ o2 = o + q * 3) {T : List NodeD} (hT : T = l.take p ++ d :: l.drop q) :
    Calls Try.prog 72 #[.slice (some ⟨w2.heap.size + 1, 0, none⟩) 3 3] ((w2.alloc (.cells #[.string d.name, .int .i64 d.cost, .slice a d.steps.length ca] 60)).alloc (.cells #[.slice (some ⟨b, o, none⟩) p c1, .slice (some ⟨w2.heap.size, 0, none⟩) 1 1, .slice (some ⟨b, o2, none⟩) (l.length - q) c2] 48)).drew
      fun e w' => ∃ a' cap' xs base, e = .returned (.slice a' T.length cap') ∧ w2.heap.size ≤ base ∧ w'.ownsRow base 60 3 (.slice a' T.length cap') T.length xs ∧ Packed w xs T ∧ Kept w2 w' := by
  have k1 : Kept w2 ((w2.alloc (.cells #[.string d.name, .int .i64 d.cost, .slice a d.steps.length ca] 60)).alloc (.cells #[.slice (some ⟨b, o, none⟩) p c1, .slice (some ⟨w2.heap.size, 0, none⟩) 1 1, .slice (some ⟨b, o2, none⟩) (l.length - q) c2] 48)).drew := (((Kept.refl _).alloc _).alloc _).drew
  have a1 := boxCells3 (w := w2.alloc (.cells #[.string d.name, .int .i64 d.cost, .slice a d.steps.length ca] 60)) (x := .slice (some ⟨b, o, none⟩) p c1) (y := .slice (some ⟨w2.heap.size, 0, none⟩) 1 1) (z := .slice (some ⟨b, o2, none⟩) (l.length - q) c2) (t := 48) ((Kept.refl _).drew)
  have a2 := boxCells3 (w := w2) (x := .string d.name) (y := .int .i64 d.cost) (z := .slice a d.steps.length ca) (t := 60) (((Kept.refl _).alloc (.cells #[.slice (some ⟨b, o, none⟩) p c1, .slice (some ⟨w2.heap.size, 0, none⟩) 1 1, .slice (some ⟨b, o2, none⟩) (l.length - q) c2] 48)).drew)
  simp only [World.size_alloc] at a1
  refine (concat_three (K2.trans k1) (B := w2.heap.size + 1) (b := b) (o := o) (o2 := o2) (bi := w2.heap.size) (c1 := c1) (c2 := c2) (p := p) (q := q) (a := a) (ca := ca) (d := d) hl hS hA hp ho ?_ a1.1 a1.2.1 a1.2.2 ?_ hT.symm).mono ?_
  · show w2.heap.size + 1 < ((w2.alloc _).alloc _).heap.size
    simp
  · intro j u hu
    match j, hu with
    | 0, hu => simp [NodeD.cells] at hu; subst hu; exact a2.1
    | 1, hu => simp [NodeD.cells] at hu; subst hu; exact a2.2.1
    | 2, hu => simp [NodeD.cells] at hu; subst hu; exact a2.2.2
    | j + 3, hu => simp [NodeD.cells] at hu
  · rintro e w' ⟨a', cap', xs, he, hO, hP, k⟩
    exact ⟨a', cap', xs, _, he, k1.size, hO, hP, k1.trans k⟩

/-- The world in which with begins. -/
abbrev withW (w : World) (b o n cap : Nat) (d : NodeD) (a : Option Addr) (ca : Nat) : World :=
  ((w.alloc (.cells #[.slice (some ⟨b, o, none⟩) n cap, .func (.func 70) #[] #[]] 98)).alloc (.cells #[.string d.name, .int .i64 d.cost, .slice a d.steps.length ca] 60)).alloc (.cells #[.slice none 0 0, .nilFunc] 98)

set_option maxRecDepth 100000 in
set_option maxHeartbeats 1600000 in
theorem with_any (w0 w : World) (k0 : Kept w0 w) (b o : Nat) (cap : Nat) (l : List NodeD) (d : NodeD) (a : Option Addr) (ca : Nat) (hl : l.length ≤ 1048576) (hcap : l.length ≤ cap) (hr : Rises l) (hS : Nodes w0 (some ⟨b, o, none⟩) l) (hA : Steps w0 a d.steps) :
    Calls Try.prog 56 #[.agg #[.slice (some ⟨b, o, none⟩) l.length cap, .func (.func 70) #[] #[]], .agg #[.string d.name, .int .i64 d.cost, .slice a d.steps.length ca]] w
      fun e w' => WithEnd l d w0 w w' e := by
  have K0 : Kept w (withW w b o l.length cap d a ca) := (((Kept.refl _).alloc _).alloc _).alloc _
  have HSO : Hid (∀ w', Kept (withW w b o l.length cap d a ca) w' → (fun w' => w'.cell? ⟨w.heap.size, 0, none⟩ = some (.slice (some ⟨b, o, none⟩) l.length cap) ∧ w'.cell? ⟨w.heap.size, 1, none⟩ = some (.func (.func 70) #[] #[]) ∧ w'.cell? ⟨w.heap.size + 1, 0, none⟩ = some (.string d.name) ∧ w'.cell? ⟨w.heap.size + 1, 1, none⟩ = some (.int .i64 d.cost) ∧ w'.cell? ⟨w.heap.size + 1, 2, none⟩ = some (.slice a d.steps.length ca)) w') := fun w' kk => by
    have a1 := boxCells2 (w := w) (Kept.trans (((Kept.refl _).alloc _).alloc _) kk)
    have a2 := boxCells3 (w := w.alloc (.cells #[.slice (some ⟨b, o, none⟩) l.length cap, .func (.func 70) #[] #[]] 98)) (Kept.trans ((Kept.refl _).alloc _) kk)
    simp only [World.size_alloc] at a2
    exact ⟨a1.1, a1.2, a2.1, a2.2.1, a2.2.2⟩
  have HRo : Hid (Row (withW w b o l.length cap d a ca) (w.heap.size + 2) 2) := by have := Row.made ((w.alloc (.cells #[.slice (some ⟨b, o, none⟩) l.length cap, .func (.func 70) #[] #[]] 98)).alloc (.cells #[.string d.name, .int .i64 d.cost, .slice a d.steps.length ca] 60)) #[.slice none 0 0, .nilFunc] 98; show Row _ _ _; simpa using this
  go_enter Try.func56, Try.ntmps56
  go_wp2
  go_region_held (fun w' => w'.cell? ⟨w.heap.size, 0, none⟩ = some (.slice (some ⟨b, o, none⟩) l.length cap) ∧ w'.cell? ⟨w.heap.size, 1, none⟩ = some (.func (.func 70) #[] #[]) ∧ w'.cell? ⟨w.heap.size + 1, 0, none⟩ = some (.string d.name) ∧ w'.cell? ⟨w.heap.size + 1, 1, none⟩ = some (.int .i64 d.cost) ∧ w'.cell? ⟨w.heap.size + 1, 2, none⟩ = some (.slice a d.steps.length ca)) (exact unhide HSO _ (by repeat (first | apply Kept.drew | exact Kept.refl _ | assumption))) ((first | (go_at_call 70; refine (nodeName_any _ _ _ _ _ rfl).mono ?_; rintro e w1 ⟨rfl, hk1⟩; have k1 : Kept (withW w b o l.length cap d a ca) w1 := Kept.trans (by repeat (first | apply Kept.drew | exact Kept.refl _ | assumption)) hk1) | (go_at_call 71; refine (find_any _ (some ⟨b, o, none⟩) cap l d.name hl hr (hS.kept ((k0.trans K0).trans (by repeat (first | apply Kept.drew | exact Kept.refl _ | assumption))))).mono ?_; rintro e w2 ⟨hfo, hk2⟩; obtain ⟨p, f, rfl, hp, hf⟩ := hfo; have k2 : Kept (withW w b o l.length cap d a ca) w2 := Kept.trans (by repeat (first | apply Kept.drew | exact Kept.refl _ | assumption)) hk2; have HP := hide hp; have HF := hide hf; clear hp hf hk2)))
  all_goals
    have z2 := k2.size
    simp only [withW, World.size_alloc] at z2
    have K2 := K0.trans k2
    have S2 := HSO.out w2 k2
    have hrow := HRo.out.kept k2
    obtain ⟨⟨_, x0⟩, g0⟩ := hrow.at (i := 0) (by omega)
    obtain ⟨⟨_, x1⟩, g1⟩ := hrow.at (i := 1) (by omega)
    have HR2 := hide hrow
    have hple := HP.out.le
    clear hrow
    have HSO2 : Hid (∀ w', KeptBut (w.heap.size + 2) (w.heap.size + 3) w2 w' → (fun w' => w'.cell? ⟨w.heap.size, 0, none⟩ = some (.slice (some ⟨b, o, none⟩) l.length cap) ∧ w'.cell? ⟨w.heap.size, 1, none⟩ = some (.func (.func 70) #[] #[]) ∧ w'.cell? ⟨w.heap.size + 1, 0, none⟩ = some (.string d.name) ∧ w'.cell? ⟨w.heap.size + 1, 1, none⟩ = some (.int .i64 d.cost) ∧ w'.cell? ⟨w.heap.size + 1, 2, none⟩ = some (.slice a d.steps.length ca)) w') := fun w' kk =>
      have ks := kk.same (l2 := w.heap.size) (h2 := w.heap.size + 2) (by omega)
      ⟨(ks.cell (Nat.le_refl _) (by omega) (by omega)).trans S2.1, (ks.cell (Nat.le_refl _) (by omega) (by omega)).trans S2.2.1, (ks.cell (by omega) (by omega) (by omega)).trans S2.2.2.1, (ks.cell (by omega) (by omega) (by omega)).trans S2.2.2.2.1, (ks.cell (by omega) (by omega) (by omega)).trans S2.2.2.2.2⟩
    obtain ⟨s1, s2, s3, s4, s5⟩ := S2
    have i1 : (p : Int) ≤ (cap : Int) := by omega
    have i2 : (p : Int) ≤ (l.length : Int) := by omega
    have u0 : w.heap.size < w2.heap.size := by omega
    have u1 : w.heap.size + 1 < w2.heap.size := by omega
    have u2 : w.heap.size + 2 < w2.heap.size := by omega
    cases f
    · have hT := putIn_free hr HP.out (fun h => by have := HF.out.2 h; cases this)
      by_cases hce : cap = p
      · have hlp : l.length = p := by omega
        have hC := concat_with (c1 := p) (c2 := 0) (o2 := o) (q := p) (ca := ca) (k0.trans K2) hl hS hA hple (.inl hlp) hT
        rw [show l.length - p = 0 by omega] at hC
        have HC := hide hC
        clear hT hC
        go_wp2
        go_region_held (fun w' => w'.cell? ⟨w.heap.size, 0, none⟩ = some (.slice (some ⟨b, o, none⟩) l.length cap) ∧ w'.cell? ⟨w.heap.size, 1, none⟩ = some (.func (.func 70) #[] #[]) ∧ w'.cell? ⟨w.heap.size + 1, 0, none⟩ = some (.string d.name) ∧ w'.cell? ⟨w.heap.size + 1, 1, none⟩ = some (.int .i64 d.cost) ∧ w'.cell? ⟨w.heap.size + 1, 2, none⟩ = some (.slice a d.steps.length ca)) (exact unhide HSO2 _ (by repeat (first | exact KeptBut.refl _ _ _ | exact KeptBut.of_kept (by assumption) | apply KeptBut.drew | (refine KeptBut.setCell ?_ (by simp) (by simp) _) | apply KeptBut.alloc))) ((go_at_call 72; refine (unhide HC).mono ?_; rintro e w3 ⟨a', cap', xs, base, rfl, hbase, hO, hP, kk⟩; have HR3 := hide (HR2.out.kept kk); obtain ⟨⟨_, y0⟩, e0⟩ := HR3.out.at (i := 0) (by omega); obtain ⟨⟨_, y1⟩, e1⟩ := HR3.out.at (i := 1) (by omega); have HO := hide hO; have HPk := hide hP; clear hO hP))
        all_goals
          go_wp2
          have hR := World.rangeAt_setCells_same w3 (w.heap.size + 2) 0 [.slice a' (putIn l d).length cap', .func (.func 70) #[] #[]] (HR3.out.there (o := 0) (m := 2) (Nat.le_refl _))
          have kf : Kept w ((w3.setCell ⟨w.heap.size + 2, 0, none⟩ (.slice a' (putIn l d).length cap')).setCell ⟨w.heap.size + 2, 1, none⟩ (.func (.func 70) #[] #[])) := ((K2.trans kk).setCell (by simp) _).setCell (by simp) _
          have hO2 := owns_set (owns_set HO.out (p := ⟨w.heap.size + 2, 0, none⟩) (by simp <;> omega) (.slice a' (putIn l d).length cap')) (p := ⟨w.heap.size + 2, 1, none⟩) (by simp <;> omega) (.func (.func 70) #[] #[])
          exact bodyPost_ret_cell [.slice a' (putIn l d).length cap', .func (.func 70) #[] #[]] _ Try.results56 rfl hR Try.underlying98 rfl Try.sizeSorted rfl ⟨a', cap', xs, base, rfl, by omega, hO2, HPk.out, kf⟩
      · have HC := hide (concat_with (c1 := cap) (c2 := cap - p) (o2 := o + p * 3) (q := p) (ca := ca) (k0.trans K2) hl hS hA hple (.inr rfl) hT)
        clear hT
        go_wp2
        go_region_held (fun w' => w'.cell? ⟨w.heap.size, 0, none⟩ = some (.slice (some ⟨b, o, none⟩) l.length cap) ∧ w'.cell? ⟨w.heap.size, 1, none⟩ = some (.func (.func 70) #[] #[]) ∧ w'.cell? ⟨w.heap.size + 1, 0, none⟩ = some (.string d.name) ∧ w'.cell? ⟨w.heap.size + 1, 1, none⟩ = some (.int .i64 d.cost) ∧ w'.cell? ⟨w.heap.size + 1, 2, none⟩ = some (.slice a d.steps.length ca)) (exact unhide HSO2 _ (by repeat (first | exact KeptBut.refl _ _ _ | exact KeptBut.of_kept (by assumption) | apply KeptBut.drew | (refine KeptBut.setCell ?_ (by simp) (by simp) _) | apply KeptBut.alloc))) ((go_at_call 72; refine (unhide HC).mono ?_; rintro e w3 ⟨a', cap', xs, base, rfl, hbase, hO, hP, kk⟩; have HR3 := hide (HR2.out.kept kk); obtain ⟨⟨_, y0⟩, e0⟩ := HR3.out.at (i := 0) (by omega); obtain ⟨⟨_, y1⟩, e1⟩ := HR3.out.at (i := 1) (by omega); have HO := hide hO; have HPk := hide hP; clear hO hP))
        all_goals
          go_wp2
          have hR := World.rangeAt_setCells_same w3 (w.heap.size + 2) 0 [.slice a' (putIn l d).length cap', .func (.func 70) #[] #[]] (HR3.out.there (o := 0) (m := 2) (Nat.le_refl _))
          have kf : Kept w ((w3.setCell ⟨w.heap.size + 2, 0, none⟩ (.slice a' (putIn l d).length cap')).setCell ⟨w.heap.size + 2, 1, none⟩ (.func (.func 70) #[] #[])) := ((K2.trans kk).setCell (by simp) _).setCell (by simp) _
          have hO2 := owns_set (owns_set HO.out (p := ⟨w.heap.size + 2, 0, none⟩) (by simp <;> omega) (.slice a' (putIn l d).length cap')) (p := ⟨w.heap.size + 2, 1, none⟩) (by simp <;> omega) (.func (.func 70) #[] #[])
          exact bodyPost_ret_cell [.slice a' (putIn l d).length cap', .func (.func 70) #[] #[]] _ Try.results56 rfl hR Try.underlying98 rfl Try.sizeSorted rfl ⟨a', cap', xs, base, rfl, by omega, hO2, HPk.out, kf⟩
    · have hpl := HF.out.1 rfl
      have hpn := hpl.1
      have hT := putIn_there hr HP.out hpl.1 hpl.2
      have i3 : IntKind.i64.wrap ((p : Int) + 1) = (p : Int) + 1 := wrap_i64_in (by omega) (by omega)
      have i4 : (p : Int) + 1 ≤ (cap : Int) := by omega
      have i5 : (p : Int) + 1 ≤ (l.length : Int) := by omega
      by_cases hce : cap = p + 1
      · have hlp : l.length = p + 1 := by omega
        have hC := concat_with (c1 := p + 1) (c2 := 0) (o2 := o) (q := p + 1) (ca := ca) (k0.trans K2) hl hS hA hple (.inl hlp) hT
        rw [show l.length - (p + 1) = 0 by omega] at hC
        have HC := hide hC
        clear hT hpl hC
        go_wp2
        go_region_held (fun w' => w'.cell? ⟨w.heap.size, 0, none⟩ = some (.slice (some ⟨b, o, none⟩) l.length cap) ∧ w'.cell? ⟨w.heap.size, 1, none⟩ = some (.func (.func 70) #[] #[]) ∧ w'.cell? ⟨w.heap.size + 1, 0, none⟩ = some (.string d.name) ∧ w'.cell? ⟨w.heap.size + 1, 1, none⟩ = some (.int .i64 d.cost) ∧ w'.cell? ⟨w.heap.size + 1, 2, none⟩ = some (.slice a d.steps.length ca)) (exact unhide HSO2 _ (by repeat (first | exact KeptBut.refl _ _ _ | exact KeptBut.of_kept (by assumption) | apply KeptBut.drew | (refine KeptBut.setCell ?_ (by simp) (by simp) _) | apply KeptBut.alloc))) ((go_at_call 72; refine (unhide HC).mono ?_; rintro e w3 ⟨a', cap', xs, base, rfl, hbase, hO, hP, kk⟩; have HR3 := hide (HR2.out.kept kk); obtain ⟨⟨_, y0⟩, e0⟩ := HR3.out.at (i := 0) (by omega); obtain ⟨⟨_, y1⟩, e1⟩ := HR3.out.at (i := 1) (by omega); have HO := hide hO; have HPk := hide hP; clear hO hP))
        all_goals
          go_wp2
          have hR := World.rangeAt_setCells_same w3 (w.heap.size + 2) 0 [.slice a' (putIn l d).length cap', .func (.func 70) #[] #[]] (HR3.out.there (o := 0) (m := 2) (Nat.le_refl _))
          have kf : Kept w ((w3.setCell ⟨w.heap.size + 2, 0, none⟩ (.slice a' (putIn l d).length cap')).setCell ⟨w.heap.size + 2, 1, none⟩ (.func (.func 70) #[] #[])) := ((K2.trans kk).setCell (by simp) _).setCell (by simp) _
          have hO2 := owns_set (owns_set HO.out (p := ⟨w.heap.size + 2, 0, none⟩) (by simp <;> omega) (.slice a' (putIn l d).length cap')) (p := ⟨w.heap.size + 2, 1, none⟩) (by simp <;> omega) (.func (.func 70) #[] #[])
          exact bodyPost_ret_cell [.slice a' (putIn l d).length cap', .func (.func 70) #[] #[]] _ Try.results56 rfl hR Try.underlying98 rfl Try.sizeSorted rfl ⟨a', cap', xs, base, rfl, by omega, hO2, HPk.out, kf⟩
      · have HC := hide (concat_with (c1 := cap) (c2 := cap - (p + 1)) (o2 := o + (p + 1) * 3) (q := p + 1) (ca := ca) (k0.trans K2) hl hS hA hple (.inr rfl) hT)
        clear hT hpl
        go_wp2
        go_region_held (fun w' => w'.cell? ⟨w.heap.size, 0, none⟩ = some (.slice (some ⟨b, o, none⟩) l.length cap) ∧ w'.cell? ⟨w.heap.size, 1, none⟩ = some (.func (.func 70) #[] #[]) ∧ w'.cell? ⟨w.heap.size + 1, 0, none⟩ = some (.string d.name) ∧ w'.cell? ⟨w.heap.size + 1, 1, none⟩ = some (.int .i64 d.cost) ∧ w'.cell? ⟨w.heap.size + 1, 2, none⟩ = some (.slice a d.steps.length ca)) (exact unhide HSO2 _ (by repeat (first | exact KeptBut.refl _ _ _ | exact KeptBut.of_kept (by assumption) | apply KeptBut.drew | (refine KeptBut.setCell ?_ (by simp) (by simp) _) | apply KeptBut.alloc))) ((go_at_call 72; refine (unhide HC).mono ?_; rintro e w3 ⟨a', cap', xs, base, rfl, hbase, hO, hP, kk⟩; have HR3 := hide (HR2.out.kept kk); obtain ⟨⟨_, y0⟩, e0⟩ := HR3.out.at (i := 0) (by omega); obtain ⟨⟨_, y1⟩, e1⟩ := HR3.out.at (i := 1) (by omega); have HO := hide hO; have HPk := hide hP; clear hO hP))
        all_goals
          go_wp2
          have hR := World.rangeAt_setCells_same w3 (w.heap.size + 2) 0 [.slice a' (putIn l d).length cap', .func (.func 70) #[] #[]] (HR3.out.there (o := 0) (m := 2) (Nat.le_refl _))
          have kf : Kept w ((w3.setCell ⟨w.heap.size + 2, 0, none⟩ (.slice a' (putIn l d).length cap')).setCell ⟨w.heap.size + 2, 1, none⟩ (.func (.func 70) #[] #[])) := ((K2.trans kk).setCell (by simp) _).setCell (by simp) _
          have hO2 := owns_set (owns_set HO.out (p := ⟨w.heap.size + 2, 0, none⟩) (by simp <;> omega) (.slice a' (putIn l d).length cap')) (p := ⟨w.heap.size + 2, 1, none⟩) (by simp <;> omega) (.func (.func 70) #[] #[])
          exact bodyPost_ret_cell [.slice a' (putIn l d).length cap', .func (.func 70) #[] #[]] _ Try.results56 rfl hR Try.underlying98 rfl Try.sizeSorted rfl ⟨a', cap', xs, base, rfl, by omega, hO2, HPk.out, kf⟩

end Go.Proofs.Ytfjbdapblmlneaa

/-
  THE WALK over impl.PutNode.
-/
namespace Go.Proofs.Ytfjbdapblmlneaa
open Go.RowKit

/-- What the walk ends with. -/
def PutEnd (l : List NodeD) (d : NodeD) (w w' : World) (e : Ending) : Prop :=
  ∃ a cap c r, e = .returned (.tuple #[.agg #[.slice a r.length cap], .int .i64 c]) ∧ PutR l d c r ∧ NodesIn w' w.heap.size w'.heap.size a r ∧ Kept w w'

theorem PutEnd.none {l : List NodeD} {d : NodeD} {w w' : World} {e : Ending} (c : Int) (he : e = .returned (.tuple #[.agg #[.slice none 0 0], .int .i64 c])) (h : PutR l d c []) (k : Kept w w') : PutEnd l d w w' e := ⟨Option.none, 0, c, [], he, h, .inl rfl, k⟩

/-- The list with the node, in a variable. -/
def PutList (l : List NodeD) (d : NodeD) (w3 : World) (s6 : Value) (wx : World) : Prop :=
  ∃ sb a5 c5, s6 = .pointer (some ⟨sb, 0, none⟩) ∧ w3.heap.size ≤ sb ∧ sb < wx.heap.size ∧ wx.cell? ⟨sb, 0, none⟩ = some (.slice a5 (putIn l d).length c5) ∧ wx.cell? ⟨sb, 1, none⟩ = some (.func (.func 70) #[] #[]) ∧ Nodes wx a5 (putIn l d) ∧ Kept w3 wx

set_option maxRecDepth 100000 in
set_option maxHeartbeats 1600000 in
theorem implPut_any (w : World) (b o cap : Nat) (l : List NodeD) (d : NodeD) (a : Option Addr) (ca : Nat) (hl : l.length ≤ 1048576) (hcap : l.length ≤ cap) (hf : ∀ s ∈ l, s.Fits) (hs : ∀ s ∈ l, s.Small) (hdf : d.Fits) (hds : d.Small) (hS : Nodes w (some ⟨b, o, none⟩) l) (hA : Steps w a d.steps) :
    Calls Try.prog 27 #[.agg #[.slice (some ⟨b, o, none⟩) l.length cap], .agg #[.string d.name, .int .i64 d.cost, .slice a d.steps.length ca]] w fun e w' => PutEnd l d w w' e := by
  have hl' : l.length ≤ maxLen := by unfold maxLen; omega
  go_enter Try.func27, Try.ntmps27
  go_wp2_with fail
  refine (implCheckWeb_any ascSaid _ (some ⟨b, o, none⟩) cap l hl' hf (hS.kept (by repeat (first | apply Kept.alloc | exact Kept.refl _)))).mono ?_
  rintro e w1 ⟨⟨c, rfl, hc⟩, k1⟩
  have K1 : Kept w w1 := Kept.trans (by repeat (first | apply Kept.alloc | exact Kept.refl _)) k1
  have z1 := k1.size
  simp only [World.size_alloc] at z1
  have q0 := boxCell (w := w) (Kept.trans (((Kept.refl _).alloc _).alloc _) k1)
  have nn := boxCells3 (w := w.alloc (.cells #[.slice (some ⟨b, o, none⟩) l.length cap] 50)) (Kept.trans ((Kept.refl _).alloc _) k1)
  simp only [World.size_alloc] at nn
  obtain ⟨n0, n1, n2⟩ := nn
  have hrow1 : Row w1 (w.heap.size + 2) 1 := Row.kept (by have := Row.made ((w.alloc (.cells #[.slice (some ⟨b, o, none⟩) l.length cap] 50)).alloc (.cells #[.string d.name, .int .i64 d.cost, .slice a d.steps.length ca] 60)) #[.slice none 0 0] 50; simpa using this) k1
  obtain ⟨⟨_, x0⟩, g0⟩ := hrow1.at (i := 0) (by omega)
  have HR1 := hide hrow1
  have HC := hide hc
  clear hrow1 hc k1
  by_cases hc0 : c = 0
  · subst hc0
    have hw1 : w.heap.size < w1.heap.size := by omega
    have hw2 : w.heap.size + 1 < w1.heap.size := by omega
    have hw3 : w.heap.size + 2 < w1.heap.size := by omega
    go_wp2_with fail
    refine (badlyNamed_any _ d a ca hdf).mono ?_
    rintro e w2 ⟨hsay, k2⟩
    have q2 := (k2.cell (o := 0) hw1).trans q0
    have m0 := (k2.cell (o := 0) hw2).trans n0
    have m1 := (k2.cell (o := 1) hw2).trans n1
    have m2 := (k2.cell (o := 2) hw2).trans n2
    have HR2 := hide (HR1.out.kept k2)
    have K2 := K1.trans k2
    have z2 := k2.size
    obtain ⟨⟨_, y0⟩, e0⟩ := HR2.out.at (i := 0) (by omega)
    clear q0 n0 n1 n2 x0 g0 HR1 K1 k2
    rcases hsay.cases with ⟨rfl, hyes⟩ | ⟨rfl, hno⟩
    · have HY := hide hyes
      clear hyes hsay
      go_wp2
      have hR := World.rangeAt_setCells_same w2 (w.heap.size + 2) 0 [.slice none 0 0] (HR2.out.there (o := 0) (m := 1) (Nat.le_refl _))
      refine bodyPost_ret_cell2 [.slice none 0 0] _ (.int .i64 2) Try.results27 rfl hR Try.underlying50 rfl Try.sizeWeb rfl rfl (PutEnd.none 2 rfl (.inr (.inl ⟨HC.out, .inl HY.out, rfl, rfl⟩)) ?_)
      repeat (first | (refine Kept.setCell ?_ (by simp <;> omega) _) | exact K2)
    · have HY : Hid (NameOk d.name) := Classical.byContradiction hno
      clear hno hsay
      have hv1 : w.heap.size < w2.heap.size := by omega
      have hv2 : w.heap.size + 1 < w2.heap.size := by omega
      have hv3 : w.heap.size + 2 < w2.heap.size := by omega
      go_wp2_with fail
      refine (badlyMade_any _ d a ca hdf (hA.kept K2)).mono ?_
      rintro e w3 ⟨hsay, k3⟩
      have q3 := (k3.cell (o := 0) hv1).trans q2
      have p0 := (k3.cell (o := 0) hv2).trans m0
      have p1 := (k3.cell (o := 1) hv2).trans m1
      have p2 := (k3.cell (o := 2) hv2).trans m2
      have HR3 := hide (HR2.out.kept k3)
      have K3 := K2.trans k3
      have z3 := k3.size
      obtain ⟨⟨_, v0⟩, u0⟩ := HR3.out.at (i := 0) (by omega)
      clear q2 m0 m1 m2 y0 e0 HR2 K2 k3
      rcases hsay.cases with ⟨rfl, hyes⟩ | ⟨rfl, hno⟩
      · have HM := hide hyes
        clear hyes hsay
        go_wp2
        have hR := World.rangeAt_setCells_same w3 (w.heap.size + 2) 0 [.slice none 0 0] (HR3.out.there (o := 0) (m := 1) (Nat.le_refl _))
        refine bodyPost_ret_cell2 [.slice none 0 0] _ (.int .i64 2) Try.results27 rfl hR Try.underlying50 rfl Try.sizeWeb rfl rfl (PutEnd.none 2 rfl (.inr (.inl ⟨HC.out, .inr HM.out, rfl, rfl⟩)) ?_)
        repeat (first | (refine Kept.setCell ?_ (by simp <;> omega) _) | exact K3)
      · have HM : Hid (ActionOk ⟨d.cost, d.steps⟩) := Classical.byContradiction hno
        clear hno hsay
        have hu1 : w.heap.size < w3.heap.size := by omega
        have hu2 : w.heap.size + 1 < w3.heap.size := by omega
        have hu3 : w.heap.size + 2 < w3.heap.size := by omega
        have HSO : Hid (∀ w', Kept w3 w' → (fun w' => w'.cell? ⟨w.heap.size, 0, none⟩ = some (.slice (some ⟨b, o, none⟩) l.length cap) ∧ w'.cell? ⟨w.heap.size + 1, 0, none⟩ = some (.string d.name) ∧ w'.cell? ⟨w.heap.size + 1, 1, none⟩ = some (.int .i64 d.cost) ∧ w'.cell? ⟨w.heap.size + 1, 2, none⟩ = some (.slice a d.steps.length ca)) w') := fun w' kk => ⟨(kk.cell hu1).trans q3, (kk.cell hu2).trans p0, (kk.cell hu2).trans p1, (kk.cell hu2).trans p2⟩
        go_upto_region 5 with fail
        go_cut [6] from 18 to 21 (fun s6 wx => PutList l d w3 s6 wx)
        case first =>
          go_region_held (fun w' => w'.cell? ⟨w.heap.size, 0, none⟩ = some (.slice (some ⟨b, o, none⟩) l.length cap) ∧ w'.cell? ⟨w.heap.size + 1, 0, none⟩ = some (.string d.name) ∧ w'.cell? ⟨w.heap.size + 1, 1, none⟩ = some (.int .i64 d.cost) ∧ w'.cell? ⟨w.heap.size + 1, 2, none⟩ = some (.slice a d.steps.length ca)) (exact unhide HSO _ (by repeat (first | (refine Kept.setCell ?_ (by simp <;> omega) _) | (with_reducible exact Kept.refl _) | (with_reducible assumption) | apply Kept.drew | apply Kept.alloc))) ((first | (go_at_call 50; refine (listOf_any _ (some ⟨b, o, none⟩) l.length cap).mono ?_; rintro e w4 ⟨rfl, kk4⟩; have k4 : Kept w3 w4 := Kept.trans (by repeat (first | (with_reducible exact Kept.refl _) | (with_reducible assumption) | apply Kept.drew | apply Kept.alloc)) kk4; have zz4 := k4.size; (first | (have hrT4 := rowDrawn (t := 98) (c := #[.slice none 0 0, .nilFunc]) kk4; have HRT4 := hide hrT4; clear hrT4) | skip)) | (go_at_call 56; refine (with_any w _ (K3.trans (by repeat (first | (with_reducible exact Kept.refl _) | (with_reducible assumption) | apply Kept.drew | apply Kept.alloc))) b o cap l d a ca hl hcap (rises_of_code HC.out) hS hA).mono ?_; rintro e w5 ⟨a5, c5, xs5, base5, rfl, hb5, hO5, hP5, kk5⟩; have HO5 := hide hO5; have HP5 := hide hP5; clear hO5 hP5; have k5 : Kept w3 w5 := Kept.trans (by repeat (first | (with_reducible exact Kept.refl _) | (with_reducible assumption) | apply Kept.drew | apply Kept.alloc)) kk5; (first | (have hrT := HRT4.out.kept kk5; obtain ⟨⟨_, t0⟩, f0⟩ := hrT.row.at (i := 0) (by decide); obtain ⟨⟨_, t1⟩, f1⟩ := hrT.row.at (i := 1) (by decide); have HRT := hide hrT; clear hrT) | (have hrT := HRT4.out.keptUn kk5; obtain ⟨⟨_, t0⟩, f0⟩ := hrT.row.at (i := 0) (by decide); obtain ⟨⟨_, t1⟩, f1⟩ := hrT.row.at (i := 1) (by decide); have HRT := hide hrT; clear hrT) | (have hrT := rowAlloc (t := 98) (c := #[.slice none 0 0, .nilFunc]) kk5; obtain ⟨⟨_, t0⟩, f0⟩ := hrT.row.at (i := 0) (by decide); obtain ⟨⟨_, t1⟩, f1⟩ := hrT.row.at (i := 1) (by decide); have HRT := hide hrT; clear hrT) | (have hrT := rowDrawn (t := 98) (c := #[.slice none 0 0, .nilFunc]) kk5; obtain ⟨⟨_, t0⟩, f0⟩ := hrT.row.at (i := 0) (by decide); obtain ⟨⟨_, t1⟩, f1⟩ := hrT.row.at (i := 1) (by decide); have HRT := hide hrT; clear hrT) | skip))))
          · go_wp2_with fail
            go_meet
            refine ⟨w5.heap.size, a5, c5, rfl, k5.size, by simp, by simp, by simp, ?_, k5.alloc _⟩
            obtain ⟨_, a9, c9, ev, _, hN⟩ := nodes_of_owned (ownsRow_kept' HO5.out ((Kept.refl w5).alloc (.cells #[.slice a5 (putIn l d).length c5, .func (.func 70) #[] #[]] 98))) (HP5.out.kept ((K3.trans k5).alloc _))
            simp only [Value.slice.injEq, true_and] at ev
            obtain ⟨rfl, rfl⟩ := ev
            exact hN
          · go_wp2_with fail
            go_meet
            have zz5 := k5.size
            have hz5 := HRT.out.lt
            simp only [World.size_alloc] at hb5
            have hR := World.rangeAt_setCells_same w5 w4.heap.size 0 [.slice a5 (putIn l d).length c5, .func (.func 70) #[] #[]] (HRT.out.row.there (o := 0) (m := 2) (Nat.le_refl _))
            have kf : Kept w3 ((w5.setCell ⟨w4.heap.size, 0, none⟩ (.slice a5 (putIn l d).length c5)).setCell ⟨w4.heap.size, 1, none⟩ (.func (.func 70) #[] #[])) := (k5.setCell (by simp <;> omega) _).setCell (by simp <;> omega) _
            have hO2 := owns_set (owns_set HO5.out (p := ⟨w4.heap.size, 0, none⟩) (by simp <;> omega) (.slice a5 (putIn l d).length c5)) (p := ⟨w4.heap.size, 1, none⟩) (by simp <;> omega) (.func (.func 70) #[] #[])
            obtain ⟨_, a9, c9, ev, _, hN⟩ := nodes_of_owned hO2 (HP5.out.kept (K3.trans kf))
            simp only [Value.slice.injEq, true_and] at ev
            obtain ⟨rfl, rfl⟩ := ev
            exact ⟨w4.heap.size, a5, c5, rfl, by omega, by simp only [size_setCell]; exact HRT.out.lt, hR 0 _ rfl, hR 1 _ rfl, hN, kf⟩
          · go_wp2_with fail
            go_meet
            have hz5 := HRT.out.lt
            have zz5 := kk5.size
            have zz6 : w3.heap.size < w4.heap.size := HRT4.out.lt
            have hR := World.rangeAt_setCells_same w5 w3.heap.size 0 [.slice a5 (putIn l d).length c5, .func (.func 70) #[] #[]] (HRT.out.row.there (o := 0) (m := 2) (Nat.le_refl _))
            have kf : Kept w3 ((w5.setCell ⟨w3.heap.size, 0, none⟩ (.slice a5 (putIn l d).length c5)).setCell ⟨w3.heap.size, 1, none⟩ (.func (.func 70) #[] #[])) := (k5.setCell (by simp <;> omega) _).setCell (by simp <;> omega) _
            have hO2 := owns_set (owns_set HO5.out (p := ⟨w3.heap.size, 0, none⟩) (by simp <;> omega) (.slice a5 (putIn l d).length c5)) (p := ⟨w3.heap.size, 1, none⟩) (by simp <;> omega) (.func (.func 70) #[] #[])
            obtain ⟨_, a9, c9, ev, _, hN⟩ := nodes_of_owned hO2 (HP5.out.kept (K3.trans kf))
            simp only [Value.slice.injEq, true_and] at ev
            obtain ⟨rfl, rfl⟩ := ev
            exact ⟨w3.heap.size, a5, c5, rfl, by omega, by simp only [size_setCell]; exact HRT.out.lt, hR 0 _ rfl, hR 1 _ rfl, hN, kf⟩
        case rest =>
          obtain ⟨sb, a5, c5, rfl, hsb, hsl, s0, s1, hN5, k5⟩ := hcut
          have HN5 := hide hN5
          have HR5 := hide (HR3.out.kept k5)
          have K5 := K3.trans k5
          have z5 := k5.size
          obtain ⟨⟨_, t0⟩, f0⟩ := HR5.out.at (i := 0) (by omega)
          have HPl := hide (putIn_len_le l d (rises_of_code HC.out))
          clear hN5 k5 HR3 K3 v0 u0 q3 p0 p1 p2 HSO
          have hw5 : w.heap.size + 2 < wc.heap.size := by omega
          by_cases hlong : 60 < (putIn l d).length
          · have hlong' : (60 : Int) < ((putIn l d).length : Int) := by omega
            go_wp2
            have hR := World.rangeAt_setCells_same wc (w.heap.size + 2) 0 [.slice none 0 0] (HR5.out.there (o := 0) (m := 1) (Nat.le_refl _))
            refine bodyPost_ret_cell2 [.slice none 0 0] _ (.int .i64 3) Try.results27 rfl hR Try.underlying50 rfl Try.sizeWeb rfl rfl (PutEnd.none 3 rfl (.inr (.inr (.inl ⟨HC.out, HY.out, HM.out, hlong, rfl, rfl⟩))) ?_)
            repeat (first | (refine Kept.setCell ?_ (by simp <;> omega) _) | exact K5)
          · have hlong' : ¬ (60 : Int) < ((putIn l d).length : Int) := by omega
            have hsm : ∀ s ∈ putIn l d, s.Small := fun s hs' => by
              rcases putIn_mem hs' with rfl | h
              · exact hds
              · exact hs s h
            have HSm := hide hsm
            clear hsm
            go_wp2_with fail
            refine (webOf_in _ a5 c5 (putIn l d) (by omega) HSm.out (HN5.out.kept (by repeat (first | apply Kept.alloc | exact Kept.refl _)))).mono ?_
            rintro e w6 ⟨a6, rfl, hN6, k6⟩
            have HR6 := hide (HR5.out.kept k6)
            have K6 := K5.trans k6
            have z6 := k6.size
            obtain ⟨⟨_, t1⟩, f1⟩ := HR6.out.at (i := 0) (by omega)
            have HN6 := hide hN6
            clear t0 f0 HR5 hN6 HN5 HSm
            go_wp2
            have hR := World.rangeAt_setCells_same w6 (w.heap.size + 2) 0 [.slice a6 (putIn l d).length (putIn l d).length] (HR6.out.there (o := 0) (m := 1) (Nat.le_refl _))
            refine bodyPost_ret_cell2 [.slice a6 (putIn l d).length (putIn l d).length] _ (.int .i64 0) Try.results27 rfl hR Try.underlying50 rfl Try.sizeWeb rfl rfl ⟨a6, _, 0, putIn l d, rfl, .inr (.inr (.inr ⟨HC.out, HY.out, HM.out, by omega, rfl, rfl⟩)), NodesIn.mono (lo := wc.heap.size) (hi := w6.heap.size) ?_ (by omega) (by simp), ?_⟩
            · repeat (first | (refine NodesIn.setCell ?_ (by simp <;> omega) _) | exact HN6.out)
            · repeat (first | (refine Kept.setCell ?_ (by simp <;> omega) _) | exact K6)
  · have hcb : (c == 0) = false := by simpa using hc0
    go_wp2
    have hR := World.rangeAt_setCells_same w1 (w.heap.size + 2) 0 [.slice none 0 0] (HR1.out.there (o := 0) (m := 1) (Nat.le_refl _))
    refine bodyPost_ret_cell2 [.slice none 0 0] _ (.int .i64 1) Try.results27 rfl hR Try.underlying50 rfl Try.sizeWeb rfl rfl (PutEnd.none 1 rfl (.inl ⟨fun h => hc0 (HC.out.unique h), rfl, rfl⟩) ?_)
    repeat (first | (refine Kept.setCell ?_ (by simp <;> omega) _) | exact K1)

end Go.Proofs.Ytfjbdapblmlneaa
