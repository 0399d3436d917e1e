import Derived.Test.YtghipdfemoofhaaGreatDoorKBBegin
import Derived.Deep.RegionHeld
import Derived.Test.YtghipdfemoofhaaGreatDoorKXSame2
namespace Go.Proofs.YtghipdfemoofhaaGreatDoor
open Go.RowKit
theorem runName_any (w : World) (x1 x2 x3 x4 x5 x6 x7 : Value) (s : ByteArray) (hx : x1 = .string s) :
    Calls Tryz.prog 78 #[.agg #[x1, x2, x3, x4, x5, x6, x7]] w fun e w' => e = .returned (.string s) ∧ Kept w w' := by
  subst hx
  go_enter Tryz.func78, Tryz.ntmps78
  go_wp2
  go_ret
  exact ⟨rfl, (Kept.refl _).alloc _⟩
def RiseX (l : List RunX) (k : Nat) : Prop := ∀ j, j + 1 < k → lessX (l.getD j RunX.zero).name (l.getD (j + 1) RunX.zero).name
theorem asc_of_rise {l : List RunX} (h : RiseX l l.length) : AscX l := by
  have h2 : ∀ i j, i < j → j < l.length → lessX (l.getD i RunX.zero).name (l.getD j RunX.zero).name := by
    intro i j hij
    induction j with
    | zero => intro _; omega
    | succ j ih =>
      intro hj
      by_cases e : i = j
      · subst e; exact h i hj
      · exact lessX_trans (ih (by omega) (by omega)) (h j hj)
  unfold AscX
  rw [List.pairwise_iff_getElem]
  intro i j hi hj hij
  have := h2 i j hij hj
  simpa [List.getD, hi, hj] using this
theorem rise_of_asc {l : List RunX} (h : AscX l) : RiseX l l.length := fun j hj => by
  have := List.pairwise_iff_getElem.1 h j (j + 1) (by omega) hj (by omega)
  simpa [List.getD, hj, (by omega : j < l.length)] using this
set_option maxRecDepth 100000 in
set_option maxHeartbeats 3200000 in
theorem ascendR_any (w : World) (a : Option Addr) (cap : Nat) (l : List RunX) (hl : l.length ≤ 1048576) (hS : RunsX w a l) :
    Calls Tryz.prog 79 #[.agg #[.slice a l.length cap, .func (.func 78) #[] #[]]] w fun e w' => Says e (AscX l) ∧ Kept w w' := by
  have k0 : Kept w (w.alloc (.cells #[.slice a l.length cap, .func (.func 78) #[] #[]] 120)) := (Kept.refl _).alloc _
  go_enter Tryz.func79, Tryz.ntmps79
  go_wp2
  go_loopw [3] (fun i wr => ∃ n : Nat, 1 ≤ n ∧ n ≤ l.length + 1 ∧ i = .int .i64 n ∧ Kept (w.alloc (.cells #[.slice a l.length cap, .func (.func 78) #[] #[]] 120)) wr ∧ RiseX l n) (fun i _ => l.length + 2 - (intOf i).toNat)
  case atStart => exact ⟨1, by omega, by omega, rfl, Kept.refl _, fun j hj => absurd hj (by omega)⟩
  case round =>
    obtain ⟨n, hn1, hn2, rfl, hw, hg⟩ := hrel
    have HG := hide hg
    clear hg
    have hz1 := hw.size
    simp only [World.size_alloc] at hz1
    have z0 : w.heap.size < wr.heap.size := by omega
    obtain ⟨p0, p1⟩ := xBoxCells2 hw
    by_cases hlt : n < l.length
    · have k1 : Kept w wr := k0.trans hw
      obtain ⟨b, o, aa, ca, rfl, hb, hc, _, _⟩ := hS.kept k1 (n - 1) (by omega)
      obtain ⟨b', o', ba, da, e', hb', hc', _, _⟩ := hS.kept k1 n hlt
      simp only [Option.some.injEq, Addr.mk.injEq, and_true] at e'
      obtain ⟨rfl, rfl⟩ := e'
      obtain ⟨x, hxk⟩ : ∃ x, x = (l.getD (n - 1) RunX.zero) := ⟨_, rfl⟩
      obtain ⟨y, hyk⟩ : ∃ y, y = (l.getD n RunX.zero) := ⟨_, rfl⟩
      rw [← hxk] at hc
      rw [← hyk] at hc'
      have HX : Hid (l.getD (n - 1) RunX.zero = x) := hxk.symm
      have HYK : Hid (l.getD (n - 1 + 1) RunX.zero = y) := by rw [hyk, show n - 1 + 1 = n by omega]; exact rfl
      clear hxk hyk
      have c0 : wr.cell? ⟨b, o + (n - 1) * 7, none⟩ = some (.string x.name) := hc 0 _ rfl
      have c1 : wr.cell? ⟨b, o + (n - 1) * 7 + 1, none⟩ = some (.bool x.over) := hc 1 _ rfl
      have c2 : wr.cell? ⟨b, o + (n - 1) * 7 + 2, none⟩ = some (.bool x.fail) := hc 2 _ rfl
      have c3 : wr.cell? ⟨b, o + (n - 1) * 7 + 3, none⟩ = some (.string x.text) := hc 3 _ rfl
      have c4 : wr.cell? ⟨b, o + (n - 1) * 7 + 4, none⟩ = some (.int .i64 x.at') := hc 4 _ rfl
      have c5 : wr.cell? ⟨b, o + (n - 1) * 7 + 5, none⟩ = some (.int .i64 x.visits) := hc 5 _ rfl
      have c6 : wr.cell? ⟨b, o + (n - 1) * 7 + 6, none⟩ = some (.slice aa x.texts.length ca) := hc 6 _ rfl
      have d0 : wr.cell? ⟨b, o + n * 7, none⟩ = some (.string y.name) := hc' 0 _ rfl
      have d1 : wr.cell? ⟨b, o + n * 7 + 1, none⟩ = some (.bool y.over) := hc' 1 _ rfl
      have d2 : wr.cell? ⟨b, o + n * 7 + 2, none⟩ = some (.bool y.fail) := hc' 2 _ rfl
      have d3 : wr.cell? ⟨b, o + n * 7 + 3, none⟩ = some (.string y.text) := hc' 3 _ rfl
      have d4 : wr.cell? ⟨b, o + n * 7 + 4, none⟩ = some (.int .i64 y.at') := hc' 4 _ rfl
      have d5 : wr.cell? ⟨b, o + n * 7 + 5, none⟩ = some (.int .i64 y.visits) := hc' 5 _ rfl
      have d6 : wr.cell? ⟨b, o + n * 7 + 6, none⟩ = some (.slice ba y.texts.length da) := hc' 6 _ rfl
      clear hc hc'
      have i0 : (0 : Int) ≤ (n : Int) - 1 := by omega
      have i1 : (n : Int) - 1 < (l.length : Int) := by omega
      have i2 : (n : Int) < (l.length : Int) := by omega
      have i5 : (1 : Int) ≤ (n : Int) := by omega
      have i6 : (n : Int) ≤ (l.length : Int) := by omega
      have i7 : n ≤ l.length := by omega
      have i3 : ((n : Int) - 1).toNat = n - 1 := by omega
      have i4 : IntKind.i64.wrap ((n : Int) - 1) = (n : Int) - 1 := wrap_i64_in (by omega) (by omega)
      have hSof : ∀ w', Kept wr w' → (fun w' => w'.cell? ⟨b, o + (n - 1) * 7, none⟩ = some (.string x.name) ∧ w'.cell? ⟨b, o + (n - 1) * 7 + 1, none⟩ = some (.bool x.over) ∧ w'.cell? ⟨b, o + (n - 1) * 7 + 2, none⟩ = some (.bool x.fail) ∧ w'.cell? ⟨b, o + (n - 1) * 7 + 3, none⟩ = some (.string x.text) ∧ w'.cell? ⟨b, o + (n - 1) * 7 + 4, none⟩ = some (.int .i64 x.at') ∧ w'.cell? ⟨b, o + (n - 1) * 7 + 5, none⟩ = some (.int .i64 x.visits) ∧ w'.cell? ⟨b, o + (n - 1) * 7 + 6, none⟩ = some (.slice aa x.texts.length ca) ∧ w'.cell? ⟨b, o + n * 7, none⟩ = some (.string y.name) ∧ w'.cell? ⟨b, o + n * 7 + 1, none⟩ = some (.bool y.over) ∧ w'.cell? ⟨b, o + n * 7 + 2, none⟩ = some (.bool y.fail) ∧ w'.cell? ⟨b, o + n * 7 + 3, none⟩ = some (.string y.text) ∧ w'.cell? ⟨b, o + n * 7 + 4, none⟩ = some (.int .i64 y.at') ∧ w'.cell? ⟨b, o + n * 7 + 5, none⟩ = some (.int .i64 y.visits) ∧ w'.cell? ⟨b, o + n * 7 + 6, none⟩ = some (.slice ba y.texts.length da) ∧ w'.cell? ⟨w.heap.size, 0, none⟩ = some (.slice (some ⟨b, o, none⟩) l.length cap) ∧ w'.cell? ⟨w.heap.size, 1, none⟩ = some (.func (.func 78) #[] #[])) w' := fun w' kk => ⟨(Kept.cell kk hb).trans c0, (Kept.cell kk hb).trans c1, (Kept.cell kk hb).trans c2, (Kept.cell kk hb).trans c3, (Kept.cell kk hb).trans c4, (Kept.cell kk hb).trans c5, (Kept.cell kk hb).trans c6, (Kept.cell kk hb).trans d0, (Kept.cell kk hb).trans d1, (Kept.cell kk hb).trans d2, (Kept.cell kk hb).trans d3, (Kept.cell kk hb).trans d4, (Kept.cell kk hb).trans d5, (Kept.cell kk hb).trans d6, (Kept.cell kk z0).trans p0, (Kept.cell kk z0).trans p1⟩
      have HSO := hide hSof
      clear hSof
      cases hbl : Op.bytesLess x.name.toList y.name.toList
      · have hge : True := trivial
        go_upto_region 4 with fail
        refine UpTo.region (by kernel_rfl) (fun w' => w'.cell? ⟨b, o + (n - 1) * 7, none⟩ = some (.string x.name) ∧ w'.cell? ⟨b, o + (n - 1) * 7 + 1, none⟩ = some (.bool x.over) ∧ w'.cell? ⟨b, o + (n - 1) * 7 + 2, none⟩ = some (.bool x.fail) ∧ w'.cell? ⟨b, o + (n - 1) * 7 + 3, none⟩ = some (.string x.text) ∧ w'.cell? ⟨b, o + (n - 1) * 7 + 4, none⟩ = some (.int .i64 x.at') ∧ w'.cell? ⟨b, o + (n - 1) * 7 + 5, none⟩ = some (.int .i64 x.visits) ∧ w'.cell? ⟨b, o + (n - 1) * 7 + 6, none⟩ = some (.slice aa x.texts.length ca) ∧ w'.cell? ⟨b, o + n * 7, none⟩ = some (.string y.name) ∧ w'.cell? ⟨b, o + n * 7 + 1, none⟩ = some (.bool y.over) ∧ w'.cell? ⟨b, o + n * 7 + 2, none⟩ = some (.bool y.fail) ∧ w'.cell? ⟨b, o + n * 7 + 3, none⟩ = some (.string y.text) ∧ w'.cell? ⟨b, o + n * 7 + 4, none⟩ = some (.int .i64 y.at') ∧ w'.cell? ⟨b, o + n * 7 + 5, none⟩ = some (.int .i64 y.visits) ∧ w'.cell? ⟨b, o + n * 7 + 6, none⟩ = some (.slice ba y.texts.length da) ∧ w'.cell? ⟨w.heap.size, 0, none⟩ = some (.slice (some ⟨b, o, none⟩) l.length cap) ∧ w'.cell? ⟨w.heap.size, 1, none⟩ = some (.func (.func 78) #[] #[])) 17 (HSO.out _ ((Kept.refl wr).drew)) (fun hHeld => ?_)
        have KD : Kept wr wr.drew := (Kept.refl wr).drew
        generalize hwd : wr.drew = wd at hHeld KD ⊢
        clear hwd
        refine UpTo.tk 0 [1, 8, 16, 17] ?_ hHeld ?_ ?_
        rotate_left
        · intro u hu; (try dsimp only at hu); go_simp; (try with_reducible rfl)
        try simp only [Act.put, List.setIfInBounds_toArray, List.set_cons_zero, List.set_cons_succ]
        refine UpTo.tk 1 [8, 16, 17] ?_ hHeld ?_ ?_
        rotate_left
        · intro u hu; (try dsimp only at hu); go_simp; (try with_reducible rfl)
        try simp only [Act.put, List.setIfInBounds_toArray, List.set_cons_zero, List.set_cons_succ]
        refine UpTo.tk 2 [3, 6, 7, 8, 16, 17] ?_ hHeld ?_ ?_
        rotate_left
        · intro u hu; (try dsimp only at hu); go_simp; (try with_reducible rfl)
        try simp only [Act.put, List.setIfInBounds_toArray, List.set_cons_zero, List.set_cons_succ]
        refine UpTo.tk 3 [6, 7, 8, 16, 17] ?_ hHeld ?_ ?_
        rotate_left
        · intro u hu; (try dsimp only at hu); go_simp; (try with_reducible rfl)
        try simp only [Act.put, List.setIfInBounds_toArray, List.set_cons_zero, List.set_cons_succ]
        refine UpTo.tk 4 [5, 6, 7, 8, 16, 17] ?_ hHeld ?_ ?_
        rotate_left
        · intro u hu; (try dsimp only at hu); go_simp; (try with_reducible rfl)
        try simp only [Act.put, List.setIfInBounds_toArray, List.set_cons_zero, List.set_cons_succ]
        refine UpTo.tk 5 [6, 7, 8, 16, 17] ?_ hHeld ?_ ?_
        rotate_left
        · intro u hu; (try dsimp only at hu); go_simp; (try with_reducible rfl)
        try simp only [Act.put, List.setIfInBounds_toArray, List.set_cons_zero, List.set_cons_succ]
        refine UpTo.tk 6 [7, 8, 16, 17] ?_ hHeld ?_ ?_
        rotate_left
        · intro u hu; (try dsimp only at hu); go_simp; (try with_reducible rfl)
        try simp only [Act.put, List.setIfInBounds_toArray, List.set_cons_zero, List.set_cons_succ]
        refine UpTo.tk 7 [8, 16, 17] ?_ hHeld ?_ ?_
        rotate_left
        · intro u hu; (try dsimp only at hu); go_simp; (try with_reducible rfl)
        try simp only [Act.put, List.setIfInBounds_toArray, List.set_cons_zero, List.set_cons_succ]
        refine UpTo.tk 9 [10, 16, 17] ?_ hHeld ?_ ?_
        rotate_left
        · intro u hu; (try dsimp only at hu); go_simp; (try with_reducible rfl)
        try simp only [Act.put, List.setIfInBounds_toArray, List.set_cons_zero, List.set_cons_succ]
        refine UpTo.tk 10 [16, 17] ?_ hHeld ?_ ?_
        rotate_left
        · intro u hu; (try dsimp only at hu); go_simp; (try with_reducible rfl)
        try simp only [Act.put, List.setIfInBounds_toArray, List.set_cons_zero, List.set_cons_succ]
        refine UpTo.tk 11 [12, 14, 15, 16, 17] ?_ hHeld ?_ ?_
        rotate_left
        · intro u hu; (try dsimp only at hu); go_simp; (try with_reducible rfl)
        try simp only [Act.put, List.setIfInBounds_toArray, List.set_cons_zero, List.set_cons_succ]
        refine UpTo.tk 12 [14, 15, 16, 17] ?_ hHeld ?_ ?_
        rotate_left
        · intro u hu; (try dsimp only at hu); go_simp; (try with_reducible rfl)
        try simp only [Act.put, List.setIfInBounds_toArray, List.set_cons_zero, List.set_cons_succ]
        refine UpTo.tk 13 [14, 15, 16, 17] ?_ hHeld ?_ ?_
        rotate_left
        · intro u hu; (try dsimp only at hu); go_simp; (try with_reducible rfl)
        try simp only [Act.put, List.setIfInBounds_toArray, List.set_cons_zero, List.set_cons_succ]
        refine UpTo.tk 14 [15, 16, 17] ?_ hHeld ?_ ?_
        rotate_left
        · intro u hu; (try dsimp only at hu); go_simp; (try with_reducible rfl)
        try simp only [Act.put, List.setIfInBounds_toArray, List.set_cons_zero, List.set_cons_succ]
        refine UpTo.tk 15 [16, 17] ?_ hHeld ?_ ?_
        rotate_left
        · intro u hu; (try dsimp only at hu); go_simp; (try with_reducible rfl)
        try simp only [Act.put, List.setIfInBounds_toArray, List.set_cons_zero, List.set_cons_succ]
        refine UpTo.nx 8 (fun K hK => ?_)
        rw [if_pos (by rfl)]
        go_simp
        go_at_call 78
        refine (runName_any _ _ _ _ _ _ _ _ _ rfl).mono ?_
        rintro e w1 ⟨rfl, hw1⟩
        have K1 := KD.trans hw1
        refine hK.out _ _ (fun _ => HSO.out _ K1) ?_
        clear hK K hHeld
        try simp only [Act.put, List.setIfInBounds_toArray, List.set_cons_zero, List.set_cons_succ]
        refine UpTo.nx 16 (fun K hK => ?_)
        rw [if_pos (by rfl)]
        go_simp
        go_at_call 78
        refine (runName_any _ _ _ _ _ _ _ _ _ rfl).mono ?_
        rintro e w2 ⟨rfl, hw2⟩
        have kk := K1.trans hw2
        refine hK.out _ _ (fun _ => HSO.out _ kk) ?_
        clear hK K
        try simp only [Act.put, List.setIfInBounds_toArray, List.set_cons_zero, List.set_cons_succ]
        refine UpTo.nx 17 (fun K hK => ?_)
        go_simp
        refine hK.out _ _ (fun h => absurd rfl h) ?_
        clear hK K
        try simp only [Act.put, List.setIfInBounds_toArray, List.set_cons_zero, List.set_cons_succ]
        refine UpTo.done (by kernel_rfl) ?_
        try dsimp only
        have kf := hw.trans kk
        go_wp2
        go_ret
        exact ⟨Says.no fun h => (by have h3 := rise_of_asc h (n - 1) (by omega); unfold lessX at h3; rw [HX.out, HYK.out, hbl] at h3; cases h3), k0.trans kf⟩
      · have hge : True := trivial
        go_upto_region 4 with fail
        refine UpTo.region (by kernel_rfl) (fun w' => w'.cell? ⟨b, o + (n - 1) * 7, none⟩ = some (.string x.name) ∧ w'.cell? ⟨b, o + (n - 1) * 7 + 1, none⟩ = some (.bool x.over) ∧ w'.cell? ⟨b, o + (n - 1) * 7 + 2, none⟩ = some (.bool x.fail) ∧ w'.cell? ⟨b, o + (n - 1) * 7 + 3, none⟩ = some (.string x.text) ∧ w'.cell? ⟨b, o + (n - 1) * 7 + 4, none⟩ = some (.int .i64 x.at') ∧ w'.cell? ⟨b, o + (n - 1) * 7 + 5, none⟩ = some (.int .i64 x.visits) ∧ w'.cell? ⟨b, o + (n - 1) * 7 + 6, none⟩ = some (.slice aa x.texts.length ca) ∧ w'.cell? ⟨b, o + n * 7, none⟩ = some (.string y.name) ∧ w'.cell? ⟨b, o + n * 7 + 1, none⟩ = some (.bool y.over) ∧ w'.cell? ⟨b, o + n * 7 + 2, none⟩ = some (.bool y.fail) ∧ w'.cell? ⟨b, o + n * 7 + 3, none⟩ = some (.string y.text) ∧ w'.cell? ⟨b, o + n * 7 + 4, none⟩ = some (.int .i64 y.at') ∧ w'.cell? ⟨b, o + n * 7 + 5, none⟩ = some (.int .i64 y.visits) ∧ w'.cell? ⟨b, o + n * 7 + 6, none⟩ = some (.slice ba y.texts.length da) ∧ w'.cell? ⟨w.heap.size, 0, none⟩ = some (.slice (some ⟨b, o, none⟩) l.length cap) ∧ w'.cell? ⟨w.heap.size, 1, none⟩ = some (.func (.func 78) #[] #[])) 17 (HSO.out _ ((Kept.refl wr).drew)) (fun hHeld => ?_)
        have KD : Kept wr wr.drew := (Kept.refl wr).drew
        generalize hwd : wr.drew = wd at hHeld KD ⊢
        clear hwd
        refine UpTo.tk 0 [1, 8, 16, 17] ?_ hHeld ?_ ?_
        rotate_left
        · intro u hu; (try dsimp only at hu); go_simp; (try with_reducible rfl)
        try simp only [Act.put, List.setIfInBounds_toArray, List.set_cons_zero, List.set_cons_succ]
        refine UpTo.tk 1 [8, 16, 17] ?_ hHeld ?_ ?_
        rotate_left
        · intro u hu; (try dsimp only at hu); go_simp; (try with_reducible rfl)
        try simp only [Act.put, List.setIfInBounds_toArray, List.set_cons_zero, List.set_cons_succ]
        refine UpTo.tk 2 [3, 6, 7, 8, 16, 17] ?_ hHeld ?_ ?_
        rotate_left
        · intro u hu; (try dsimp only at hu); go_simp; (try with_reducible rfl)
        try simp only [Act.put, List.setIfInBounds_toArray, List.set_cons_zero, List.set_cons_succ]
        refine UpTo.tk 3 [6, 7, 8, 16, 17] ?_ hHeld ?_ ?_
        rotate_left
        · intro u hu; (try dsimp only at hu); go_simp; (try with_reducible rfl)
        try simp only [Act.put, List.setIfInBounds_toArray, List.set_cons_zero, List.set_cons_succ]
        refine UpTo.tk 4 [5, 6, 7, 8, 16, 17] ?_ hHeld ?_ ?_
        rotate_left
        · intro u hu; (try dsimp only at hu); go_simp; (try with_reducible rfl)
        try simp only [Act.put, List.setIfInBounds_toArray, List.set_cons_zero, List.set_cons_succ]
        refine UpTo.tk 5 [6, 7, 8, 16, 17] ?_ hHeld ?_ ?_
        rotate_left
        · intro u hu; (try dsimp only at hu); go_simp; (try with_reducible rfl)
        try simp only [Act.put, List.setIfInBounds_toArray, List.set_cons_zero, List.set_cons_succ]
        refine UpTo.tk 6 [7, 8, 16, 17] ?_ hHeld ?_ ?_
        rotate_left
        · intro u hu; (try dsimp only at hu); go_simp; (try with_reducible rfl)
        try simp only [Act.put, List.setIfInBounds_toArray, List.set_cons_zero, List.set_cons_succ]
        refine UpTo.tk 7 [8, 16, 17] ?_ hHeld ?_ ?_
        rotate_left
        · intro u hu; (try dsimp only at hu); go_simp; (try with_reducible rfl)
        try simp only [Act.put, List.setIfInBounds_toArray, List.set_cons_zero, List.set_cons_succ]
        refine UpTo.tk 9 [10, 16, 17] ?_ hHeld ?_ ?_
        rotate_left
        · intro u hu; (try dsimp only at hu); go_simp; (try with_reducible rfl)
        try simp only [Act.put, List.setIfInBounds_toArray, List.set_cons_zero, List.set_cons_succ]
        refine UpTo.tk 10 [16, 17] ?_ hHeld ?_ ?_
        rotate_left
        · intro u hu; (try dsimp only at hu); go_simp; (try with_reducible rfl)
        try simp only [Act.put, List.setIfInBounds_toArray, List.set_cons_zero, List.set_cons_succ]
        refine UpTo.tk 11 [12, 14, 15, 16, 17] ?_ hHeld ?_ ?_
        rotate_left
        · intro u hu; (try dsimp only at hu); go_simp; (try with_reducible rfl)
        try simp only [Act.put, List.setIfInBounds_toArray, List.set_cons_zero, List.set_cons_succ]
        refine UpTo.tk 12 [14, 15, 16, 17] ?_ hHeld ?_ ?_
        rotate_left
        · intro u hu; (try dsimp only at hu); go_simp; (try with_reducible rfl)
        try simp only [Act.put, List.setIfInBounds_toArray, List.set_cons_zero, List.set_cons_succ]
        refine UpTo.tk 13 [14, 15, 16, 17] ?_ hHeld ?_ ?_
        rotate_left
        · intro u hu; (try dsimp only at hu); go_simp; (try with_reducible rfl)
        try simp only [Act.put, List.setIfInBounds_toArray, List.set_cons_zero, List.set_cons_succ]
        refine UpTo.tk 14 [15, 16, 17] ?_ hHeld ?_ ?_
        rotate_left
        · intro u hu; (try dsimp only at hu); go_simp; (try with_reducible rfl)
        try simp only [Act.put, List.setIfInBounds_toArray, List.set_cons_zero, List.set_cons_succ]
        refine UpTo.tk 15 [16, 17] ?_ hHeld ?_ ?_
        rotate_left
        · intro u hu; (try dsimp only at hu); go_simp; (try with_reducible rfl)
        try simp only [Act.put, List.setIfInBounds_toArray, List.set_cons_zero, List.set_cons_succ]
        refine UpTo.nx 8 (fun K hK => ?_)
        rw [if_pos (by rfl)]
        go_simp
        go_at_call 78
        refine (runName_any _ _ _ _ _ _ _ _ _ rfl).mono ?_
        rintro e w1 ⟨rfl, hw1⟩
        have K1 := KD.trans hw1
        refine hK.out _ _ (fun _ => HSO.out _ K1) ?_
        clear hK K hHeld
        try simp only [Act.put, List.setIfInBounds_toArray, List.set_cons_zero, List.set_cons_succ]
        refine UpTo.nx 16 (fun K hK => ?_)
        rw [if_pos (by rfl)]
        go_simp
        go_at_call 78
        refine (runName_any _ _ _ _ _ _ _ _ _ rfl).mono ?_
        rintro e w2 ⟨rfl, hw2⟩
        have kk := K1.trans hw2
        refine hK.out _ _ (fun _ => HSO.out _ kk) ?_
        clear hK K
        try simp only [Act.put, List.setIfInBounds_toArray, List.set_cons_zero, List.set_cons_succ]
        refine UpTo.nx 17 (fun K hK => ?_)
        go_simp
        refine hK.out _ _ (fun h => absurd rfl h) ?_
        clear hK K
        try simp only [Act.put, List.setIfInBounds_toArray, List.set_cons_zero, List.set_cons_succ]
        refine UpTo.done (by kernel_rfl) ?_
        try dsimp only
        have kf := hw.trans kk
        go_wp2
        go_roundw
        case rel =>
          refine ⟨n + 1, by omega, by omega, by go_num, kf, fun j hj => ?_⟩
          by_cases e : j = n - 1
          · subst e
            unfold lessX
            rw [HX.out, HYK.out, hbl]
          · exact HG.out j (by omega)
        case measure => simp [intOf]; omega
    · go_wp2
      go_ret
      exact ⟨Says.yes (asc_of_rise fun j hj => HG.out j (by omega)), k0.trans hw⟩
def NamedX (r : List RunX) (l : List NodeD) : Prop := r.length = l.length ∧ ∀ i, i < l.length → nameAt l i = (r.getD i RunX.zero).name.toList
set_option maxRecDepth 100000 in
theorem findLitR_any (w : World) (g : Nat) (x : RunX) (xa : Option Addr) (xc : Nat) (key : ByteArray) (hg : g < w.heap.size) (hc : w.cell? ⟨g, 1, none⟩ = some (.func (.func 78) #[] #[])) :
    Calls Tryz.prog 158 #[.agg #[.string x.name, .bool x.over, .bool x.fail, .string x.text, .int .i64 x.at', .int .i64 x.visits, .slice xa x.texts.length xc], .string key, .pointer (some ⟨g, 0, none⟩)] w fun e w' => e = .returned (.int .i64 (cmpD x.name.toList key.toList)) ∧ Kept w w' := by
  have k0 : Kept w (w.alloc (.cells #[.string x.name, .bool x.over, .bool x.fail, .string x.text, .int .i64 x.at', .int .i64 x.visits, .slice xa x.texts.length xc] 72)) := (Kept.refl _).alloc _
  have hgn : ¬ g = w.heap.size := by omega
  go_enter Tryz.func158, Tryz.ntmps158
  go_wp2_with fail
  refine (runName_any _ _ _ _ _ _ _ _ _ rfl).mono ?_
  rintro e w1 ⟨rfl, k1⟩
  go_wp2_with fail
  refine (compare_any _ x.name key).mono ?_
  rintro e w2 ⟨rfl, rfl⟩
  go_wp2
  go_ret
  exact ⟨rfl, k0.trans k1⟩
set_option maxRecDepth 100000 in
set_option maxHeartbeats 1600000 in
theorem searchR_any (w : World) (g : Nat) (a : Option Addr) (cap : Nat) (l : List NodeD) (key : ByteArray) (hl : l.length ≤ 1048576) (hr : Rises l) (hg : g < w.heap.size) (hc : w.cell? ⟨g, 1, none⟩ = some (.func (.func 78) #[] #[])) (r : List RunX) (hP : NamedX r l) (hS : RunsX w a r) :
    Calls Tryz.prog 157 #[.slice a l.length cap, .string key, .func (.func 158) #[] #[.pointer (some ⟨g, 0, none⟩)]] w
      fun e w' => Found l key.toList e ∧ Kept w w' := by
  have HRi := hide hr
  clear hr
  go_enter Tryz.func157, Tryz.ntmps157
  go_wp2
  go_loopw [9, 10] (fun x y wr => ∃ i j : Nat, x = .int .i64 i ∧ y = .int .i64 j ∧ i ≤ j ∧ j ≤ l.length ∧ (∀ t, t < i → Op.bytesLess (nameAt l t) key.toList = true) ∧ (∀ t, j ≤ t → t < l.length → Op.bytesLess (nameAt l t) key.toList = false) ∧ Kept w wr) (fun x y _ => (intOf y).toNat - (intOf x).toNat)
  case atStart => exact ⟨0, l.length, rfl, rfl, Nat.zero_le _, Nat.le_refl _, fun t ht => absurd ht (Nat.not_lt_zero _), fun t h1 h2 => by omega, Kept.refl _⟩
  case round =>
    obtain ⟨i, j, rfl, rfl, hij, hjn, hbe, hbh, hw⟩ := hrel
    have HB := hide (And.intro hbe hbh)
    clear hbe hbh
    by_cases hlt : (i : Int) < j
    · obtain ⟨h, hh⟩ : ∃ h : Nat, h = (i + j) / 2 := ⟨_, rfl⟩
      have hhlt : h < l.length := by omega
      have hhi : i ≤ h := by omega
      have hhj : h < j := by omega
      obtain ⟨b, o, xa, xc, rfl, hb, hcs, _, _⟩ := hS.kept hw h (by rw [hP.1]; exact hhlt)
      obtain ⟨x, hd⟩ : ∃ x, x = r.getD h RunX.zero := ⟨_, rfl⟩
      rw [← hd] at hcs
      have HD : Hid (nameAt l h = x.name.toList) := by rw [hd]; exact hP.2 h hhlt
      have c0 : wr.cell? ⟨b, o + h * 7, none⟩ = some (.string x.name) := hcs 0 _ rfl
      have c1 : wr.cell? ⟨b, o + h * 7 + 1, none⟩ = some (.bool x.over) := hcs 1 _ rfl
      have c2 : wr.cell? ⟨b, o + h * 7 + 2, none⟩ = some (.bool x.fail) := hcs 2 _ rfl
      have c3 : wr.cell? ⟨b, o + h * 7 + 3, none⟩ = some (.string x.text) := hcs 3 _ rfl
      have c4 : wr.cell? ⟨b, o + h * 7 + 4, none⟩ = some (.int .i64 x.at') := hcs 4 _ rfl
      have c5 : wr.cell? ⟨b, o + h * 7 + 5, none⟩ = some (.int .i64 x.visits) := hcs 5 _ rfl
      have c6 : wr.cell? ⟨b, o + h * 7 + 6, none⟩ = some (.slice xa x.texts.length xc) := hcs 6 _ rfl
      clear hd hcs
      have hmid : ((i : Int) + (j : Int)) / 2 = (h : Int) := by omega
      have HH := hide hh
      clear hh
      have hg' : g < wr.heap.size := Nat.lt_of_lt_of_le hg hw.size
      have hc' : wr.cell? ⟨g, 1, none⟩ = some (.func (.func 78) #[] #[]) := by rw [hw.cell hg]; exact hc
      go_wp2_with fail
      refine (findLitR_any _ g x xa xc key hg' hc').mono ?_
      rintro e w1 ⟨rfl, k1⟩
      have hnm : nameAt l h = x.name.toList := HD.out
      have HC : Hid (cmpD x.name.toList key.toList < 0 ↔ Op.bytesLess (nameAt l h) key.toList = true) := by rw [hnm]; exact cmpD_neg
      clear c0 c1 c2 c3 c4 c5 c6 hnm
      generalize cmpD x.name.toList key.toList = q at *
      have hw1 := hw.trans k1
      clear hw k1
      by_cases hneg : q < 0
      · go_wp2
        go_roundw
        case rel =>
          obtain ⟨hbe, hbh⟩ := HB.out
          refine ⟨h + 1, j, by go_num, rfl, by omega, hjn, fun t ht => ?_, hbh, hw1⟩
          have hle := HC.out.1 hneg
          by_cases e : t = h
          · subst e; exact hle
          · exact less_trans _ _ _ (HRi.out t h (by omega) hhlt) hle
        case measure => simp [intOf]; omega
      · go_wp2
        go_roundw
        case rel =>
          obtain ⟨hbe, hbh⟩ := HB.out
          refine ⟨i, h, rfl, by go_num, hhi, by omega, hbe, fun t h1 h2 => ?_, hw1⟩
          have hle : Op.bytesLess (nameAt l h) key.toList = false := by
            cases hq : Op.bytesLess (nameAt l h) key.toList
            · rfl
            · have := HC.out.2 hq
              omega
          by_cases e : t = h
          · subst e; exact hle
          · cases hq : Op.bytesLess (nameAt l t) key.toList
            · rfl
            · rw [less_trans _ _ _ (HRi.out h t (by omega) h2) hq] at hle
              cases hle
        case measure => simp [intOf]; omega
    · have hij' : i = j := by omega
      subst hij'
      have HPl : Hid (Place l key.toList i) := ⟨hjn, HB.out.1, HB.out.2⟩
      clear HB
      by_cases hin : i < l.length
      · obtain ⟨b, o, xa, xc, rfl, hb, hcs, _, _⟩ := hS.kept hw i (by rw [hP.1]; exact hin)
        obtain ⟨x, hd⟩ : ∃ x, x = r.getD i RunX.zero := ⟨_, rfl⟩
        rw [← hd] at hcs
        have HD : Hid (nameAt l i = x.name.toList) := by rw [hd]; exact hP.2 i hin
        have c0 : wr.cell? ⟨b, o + i * 7, none⟩ = some (.string x.name) := hcs 0 _ rfl
        have c1 : wr.cell? ⟨b, o + i * 7 + 1, none⟩ = some (.bool x.over) := hcs 1 _ rfl
        have c2 : wr.cell? ⟨b, o + i * 7 + 2, none⟩ = some (.bool x.fail) := hcs 2 _ rfl
        have c3 : wr.cell? ⟨b, o + i * 7 + 3, none⟩ = some (.string x.text) := hcs 3 _ rfl
        have c4 : wr.cell? ⟨b, o + i * 7 + 4, none⟩ = some (.int .i64 x.at') := hcs 4 _ rfl
        have c5 : wr.cell? ⟨b, o + i * 7 + 5, none⟩ = some (.int .i64 x.visits) := hcs 5 _ rfl
        have c6 : wr.cell? ⟨b, o + i * 7 + 6, none⟩ = some (.slice xa x.texts.length xc) := hcs 6 _ rfl
        clear hd hcs
        have hg' : g < wr.heap.size := Nat.lt_of_lt_of_le hg hw.size
        have hc' : wr.cell? ⟨g, 1, none⟩ = some (.func (.func 78) #[] #[]) := by rw [hw.cell hg]; exact hc
        have hin' : (i : Int) < l.length := by omega
        go_wp2_with fail
        refine (findLitR_any _ g x xa xc key hg' hc').mono ?_
        rintro e w1 ⟨rfl, k1⟩
        have hnm : nameAt l i = x.name.toList := HD.out
        have HC : Hid (cmpD x.name.toList key.toList = 0 ↔ nameAt l i = key.toList) := by rw [hnm]; exact cmpD_zero
        clear c0 c1 c2 c3 c4 c5 c6 hnm
        generalize cmpD x.name.toList key.toList = q at *
        have hw1 := hw.trans k1
        clear hw k1
        go_wp2
        go_ret2
        refine ⟨Found.mk i _ rfl HPl.out ?_, hw1⟩
        rw [← HC.out]
        simp [hin]
      · have hin' : ¬ (i : Int) < l.length := by omega
        go_wp2
        go_ret2
        exact ⟨Found.mk i false rfl HPl.out (by simp; intro h; exact absurd h hin), hw⟩
set_option maxRecDepth 100000 in
set_option maxHeartbeats 800000 in
theorem findR_any (w : World) (a : Option Addr) (cap : Nat) (l : List NodeD) (key : ByteArray) (hl : l.length ≤ 1048576) (hr : Rises l) (r : List RunX) (hP : NamedX r l) (hS : RunsX w a r) :
    Calls Tryz.prog 120 #[.agg #[.slice a l.length cap, .func (.func 78) #[] #[]], .string key] w
      fun e w' => Found l key.toList e ∧ Kept w w' := by
  have k0 : Kept w (w.alloc (.cells #[.slice a l.length cap, .func (.func 78) #[] #[]] 120)) := (Kept.refl _).alloc _
  go_enter Tryz.func120, Tryz.ntmps120
  go_wp2_with fail
  refine (searchR_any _ w.heap.size a cap l key hl hr (by simp) (by simp) r hP (hS.kept k0)).mono ?_
  rintro e w1 ⟨hfo, k1⟩
  obtain ⟨p, f, rfl, hp, hf⟩ := hfo
  have HP := hide hp
  have HF := hide hf
  clear hp hf
  go_wp2
  go_ret2
  exact ⟨Found.mk p f rfl HP.out HF.out, k0.trans k1⟩
def nodesX (l : List RunX) : List NodeD := l.map fun x => ⟨x.name, 0, []⟩
theorem nodesX_named (l : List RunX) : NamedX l (nodesX l) := by
  refine ⟨by simp [nodesX], fun i hi => ?_⟩
  have hi' : i < l.length := by simpa [nodesX] using hi
  simp [nameAt, nodesX, List.getD, hi']
theorem nodesX_rises {l : List RunX} (h : AscX l) : Rises (nodesX l) := by
  intro i j hij hj
  have hj' : j < l.length := by simpa [nodesX] using hj
  rw [(nodesX_named l).2 i (by omega), (nodesX_named l).2 j hj]
  have := List.pairwise_iff_getElem.1 h i j (by omega) hj' hij
  simpa [List.getD, hj', (by omega : i < l.length), lessX] using this
def FindX (l : List RunX) (n : ByteArray) (e : Ending) : Prop :=
  ∃ (p : Nat) (f : Bool), e = .returned (.tuple #[.int .i64 p, .bool f]) ∧ p ≤ l.length ∧ (if f then p < l.length ∧ envOf l n = some (l.getD p RunX.zero) else envOf l n = none)
theorem getD_mem {l : List RunX} {p : Nat} (h : p < l.length) : l.getD p RunX.zero ∈ l := by
  rw [List.getD_eq_getElem?_getD, List.getElem?_eq_getElem h]
  exact List.getElem_mem h
theorem found_env {l : List RunX} (hA : AscX l) {n : ByteArray} {e : Ending} (h : Found (nodesX l) n.toList e) : FindX l n e := by
  obtain ⟨p, f, rfl, ⟨hp, hb, ha⟩, hf⟩ := h
  have hlen : (nodesX l).length = l.length := (nodesX_named l).1.symm
  rw [hlen] at hp ha hf
  have hN : ∀ i, i < l.length → nameAt (nodesX l) i = (l.getD i RunX.zero).name.toList := fun i hi => (nodesX_named l).2 i (by omega)
  refine ⟨p, f, rfl, hp, ?_⟩
  cases f with
  | true =>
    obtain ⟨h1, h2⟩ := hf.1 rfl
    rw [hN p h1] at h2
    refine ⟨h1, ?_⟩
    rw [← toList_inj.1 h2]
    exact asc_env hA (getD_mem h1)
  | false =>
    cases he : envOf l n with
    | none => rfl
    | some r =>
      exfalso
      obtain ⟨hm, hn⟩ := env_mem he
      obtain ⟨k, hk, hkr⟩ := List.getElem_of_mem hm
      have hg : (l.getD k RunX.zero) = r := by simp [List.getD, hk, hkr]
      have hnk : nameAt (nodesX l) k = n.toList := by rw [hN k hk, hg, hn]
      have hpk : p ≤ k := by
        rcases Nat.lt_or_ge k p with h | h
        · have := hb k h
          rw [hnk, less_irrefl] at this
          cases this
        · exact h
      rcases Nat.lt_or_eq_of_le hpk with h | h
      · have h1 := ha p (Nat.le_refl _) (by omega)
        have h2 := nodesX_rises hA p k h (by omega)
        rw [hnk, h1] at h2
        cases h2
      · subst h
        have := hf.2 ⟨hk, hnk⟩
        cases this
theorem findX_any (w : World) (a : Option Addr) (cap : Nat) (l : List RunX) (n : ByteArray) (hl : l.length ≤ 1048576) (hA : AscX l) (hS : RunsX w a l) :
    Calls Tryz.prog 120 #[.agg #[.slice a l.length cap, .func (.func 78) #[] #[]], .string n] w
      fun e w' => FindX l n e ∧ Kept w w' := by
  have hlen : (nodesX l).length = l.length := (nodesX_named l).1.symm
  have h := findR_any w a cap (nodesX l) n (by omega) (nodesX_rises hA) l (nodesX_named l) hS
  rw [hlen] at h
  exact h.mono fun e w' hh => ⟨found_env hA hh.1, hh.2⟩
theorem says_dec {P Q : Prop} [Decidable P] (h : P ↔ Q) : Says (.returned (.bool (decide P))) Q := by
  by_cases hp : P
  · rw [decide_eq_true hp]; exact Says.yes (h.1 hp)
  · rw [decide_eq_false hp]; exact Says.no fun hq => hp (h.2 hq)
set_option maxRecDepth 100000 in
set_option maxHeartbeats 1600000 in
theorem behind_any (w : World) (tb : Nat) (r x : RunX) (xa : Option Addr) (xc : Nat) (ht : tb < w.heap.size) (hc : w.cell? ⟨tb, 5, none⟩ = some (.int .i64 r.visits)) :
    Calls Tryz.prog 121 #[.pointer (some ⟨tb, 0, none⟩), .agg #[.string x.name, .bool x.over, .bool x.fail, .string x.text, .int .i64 x.at', .int .i64 x.visits, .slice xa x.texts.length xc]] w
      fun e w' => Says e (behindI r x) ∧ Kept w w' := by
  have k0 : Kept w (w.alloc (.cells #[.string x.name, .bool x.over, .bool x.fail, .string x.text, .int .i64 x.at', .int .i64 x.visits, .slice xa x.texts.length xc] 72)) := (Kept.refl _).alloc _
  have hne : ¬ tb = w.heap.size := by omega
  unfold behindI
  cases hov : x.over
  · rw [hov] at k0
    go_enter Tryz.func121, Tryz.ntmps121
    go_wp2
    go_region
    all_goals
      go_wp2
      go_ret
      exact ⟨says_dec (by simp), k0.drew⟩
  · rw [hov] at k0
    go_enter Tryz.func121, Tryz.ntmps121
    go_wp2
    go_region
    all_goals
      go_wp2
      go_ret
      exact ⟨Says.yes (Or.inl trivial), k0.drew⟩
set_option maxRecDepth 100000 in
set_option maxHeartbeats 3200000 in
theorem equalTexts_any (w : World) (a a' : Option Addr) (c c' : Nat) (l l' : List ByteArray) (hl : l.length ≤ 1048576) (_hl' : l'.length ≤ 1048576) (hS : Strs w a l) (hS' : Strs w a' l') :
    Calls Tryz.prog 122 #[.slice a l.length c, .slice a' l'.length c'] w fun e w' => e = .returned (.bool (decide (l = l'))) ∧ Kept w w' := by
  go_enter Tryz.func122, Tryz.ntmps122
  by_cases hlen : l.length = l'.length
  · have hlb : ((l.length : Int) != (l'.length : Int)) = false := by simp [hlen]
    have hle : (l.length : Int) = (l'.length : Int) := by omega
    go_wp2
    go_loopw [13] (fun i wr => ∃ k : Nat, k ≤ l.length ∧ i = .int .i64 k ∧ Hid (∀ j, j < k → l.getD j ByteArray.empty = l'.getD j ByteArray.empty) ∧ Kept w wr) (fun i _ => l.length - (intOf i).toNat)
    case atStart => exact ⟨0, Nat.zero_le _, rfl, hide fun j hj => absurd hj (Nat.not_lt_zero _), Kept.refl _⟩
    case round =>
      obtain ⟨k, hk, rfl, HG, KW⟩ := hrel
      by_cases hlt : k < l.length
      · obtain ⟨b, o, rfl, hb, hc⟩ := hS.kept KW k hlt
        obtain ⟨b', o', rfl, hb', hc'⟩ := hS'.kept KW k (by omega)
        have i0 : (k : Int) < (l.length : Int) := by omega
        have i1 : (k : Int) < (l'.length : Int) := by omega
        obtain ⟨x, hx⟩ : ∃ x, x = l.getD k ByteArray.empty := ⟨_, rfl⟩
        obtain ⟨y, hy⟩ : ∃ y, y = l'.getD k ByteArray.empty := ⟨_, rfl⟩
        rw [← hx] at hc
        rw [← hy] at hc'
        have HX := hide hx
        have HY := hide hy
        clear hx hy
        cases hne : (x.toList == y.toList)
        · have hnb : (x.toList != y.toList) = true := by rw [bne, hne]; rfl
          go_upto_region 6 with fail
          go_quiet (fail)
          go_wp2_with fail
          go_ret
          have hnn : ¬ l = l' := fun e => by
            have h1 := beq_no hne
            rw [HX.out, HY.out, e] at h1
            exact h1 rfl
          exact ⟨by rw [decide_eq_false hnn]; rfl, KW.drewN _⟩
        · have hnb : (x.toList != y.toList) = false := by rw [bne, hne]; rfl
          go_upto_region 6 with fail
          go_quiet (fail)
          go_wp2_with fail
          go_roundw
          case rel =>
            refine ⟨k + 1, by omega, by go_num, hide fun j hj => ?_, KW.drewN _⟩
            by_cases e : j = k
            · rw [e, ← HX.out, ← HY.out]; exact beq_yes hne
            · exact HG.out j (by omega)
          case measure => simp [intOf]; omega
      · go_wp2_with fail
        go_ret
        have hee : l = l' := list_ext_getD hlen fun j hj => HG.out j (by omega)
        exact ⟨by rw [decide_eq_true hee]; rfl, KW⟩
  · have hlb : ((l.length : Int) != (l'.length : Int)) = true := by simp; omega
    have hle : ¬ (l.length : Int) = (l'.length : Int) := by omega
    have hnn : ¬ l = l' := fun e => hlen (by rw [e])
    have HN := hide hnn
    clear hnn
    go_wp2
    go_ret
    exact ⟨by rw [decide_eq_false HN.out]; rfl, Kept.refl _⟩
end Go.Proofs.YtghipdfemoofhaaGreatDoor
