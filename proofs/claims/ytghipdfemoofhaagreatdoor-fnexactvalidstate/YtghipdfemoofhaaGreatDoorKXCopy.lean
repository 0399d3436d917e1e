import Derived.Test.YtghipdfemoofhaaGreatDoorKXPut
import Derived.Test.YtghipdfemoofhaaGreatDoorKOOrder
import Derived.Deep.RegionLaw
import Derived.Test.YtghipdfemoofhaaGreatDoorKXWant
import Derived.Test.YtghipdfemoofhaaGreatDoorKVBench
import Derived.Test.YtghipdfemoofhaaGreatDoorKSRoots
import Derived.Test.YtghipdfemoofhaaGreatDoorKOPack
import Derived.Test.YtghipdfemoofhaaGreatDoorKXNext
import Derived.Test.YtghipdfemoofhaaGreatDoorKXGood

namespace Go.Proofs.YtghipdfemoofhaaGreatDoor
open Go.RowKit

theorem Tryz.xSizeState : (Tryz.prog.info? 38).map (·.size) = some 2 := by kernel_rfl
theorem PackedX.set {w : World} {P : Nat → Prop} {xs : List Value} {l : List RunX} {c p : Nat} (h : PackedX w P xs l) (hc : ∀ b, P b → b ≠ c) (u : Value) : PackedX (w.setCell ⟨c, p, none⟩ u) P xs l := by
  refine ⟨h.1, fun i hi => ?_⟩
  obtain ⟨xa, xc, e, hs, hx, hp⟩ := h.2 i hi
  refine ⟨xa, xc, e, (fun j hj => ?_), hx, hp⟩
  obtain ⟨b, o, rfl, hb, hcl⟩ := hs j hj
  exact ⟨b, o, rfl, by rw [size_setCell]; exact hb, by rw [cell_set_ne (hc b (hp _ rfl))]; exact hcl⟩
theorem owns_but {w w' : World} {base size sb m n : Nat} {e t : TypeId} {v : Value} {xs : List Value} (h : w.ownsRow base e size v n xs) (k : KeptBut sb (sb + 1) w w') (hr : RowT w sb t m) (ht : t ≠ e) : w'.ownsRow base e size v n xs := by
  refine ⟨h.1, ?_⟩
  rcases h.2 with h2 | ⟨g, cap, cur, rfl, hb, hg, rest⟩
  · exact .inl h2
  · refine .inr ⟨g, cap, cur, rfl, hb, ?_, rest⟩
    have hne : g ≠ sb := by
      rintro rfl
      obtain ⟨c2, h2, _⟩ := hr
      rw [hg] at h2
      simp only [Option.some.injEq, Obj.cells.injEq] at h2
      exact ht h2.2.1.symm
    rw [k.block g (heap_lt hg) (by omega)]
    exact hg
theorem owned_strs {w : World} {base : Nat} {t : TypeId} {v : Value} {n : Nat} {l : List ByteArray} (h : w.ownsRow base t 1 v n (l.map Value.string)) : ∃ a cap, v = .slice a l.length cap ∧ Strs w a l := by
  have hn : n = l.length := by have := h.1; simp at this; omega
  subst hn
  rcases h.2 with ⟨rfl, h0⟩ | ⟨g, cap, cur, rfl, hb, hg, hnc, _, _, _⟩
  · exact ⟨none, 0, by rw [h0], fun i hi => by omega⟩
  · refine ⟨_, cap, rfl, fun i hi => ⟨g, 0, rfl, heap_lt hg, ?_⟩⟩
    have := h.cells (g := g) rfl i (.string (l.getD i ByteArray.empty)) (by simp [List.getD, hi])
    rw [Addr.add_mid] at this
    exact this

structure StX (W1 wr : World) (sb : Nat) (ra : Option Addr) (n rc : Nat) (d : Option Addr) (t : List RunX) (dc : Nat) (xs : List Value) : Prop where
  kb : KeptBut sb (sb + 1) W1 wr
  row : RowT wr sb 38 2
  roots : wr.cell? ⟨sb, 0, none⟩ = some (.slice ra n rc)
  runs : wr.cell? ⟨sb, 1, none⟩ = some (.slice d t.length dc)
  own : wr.ownsRow W1.heap.size 72 7 (.slice d t.length dc) t.length xs
  pack : PackedX wr (fun b => sb < b) xs t

def StateX (roots : List ByteArray) (T : List RunX) (w w' : World) (e : Ending) : Prop :=
  ∃ ra rc d dc xs, e = .returned (.agg #[.slice ra roots.length rc, .slice d T.length dc]) ∧ w'.ownsRow w.heap.size 9 1 (.slice ra roots.length rc) roots.length (roots.map Value.string) ∧ w'.ownsRow w.heap.size 72 7 (.slice d T.length dc) T.length xs ∧ PackedX w' (fun b => w.heap.size ≤ b) xs T ∧ Kept w w'

theorem foldl_asc : ∀ (l t : List RunX), AscX t → AscX (l.foldl insX t)
  | [], _, h => h
  | x :: l, t, h => foldl_asc l (insX t x) (insX_asc h)
set_option maxRecDepth 100000 in
set_option maxHeartbeats 12800000 in
theorem stateX_any (w : World) (rb ro rc : Nat) (roots : List ByteArray) (a : Option Addr) (cap : Nat) (R : List RunX) (hrl : roots.length ≤ 10) (hRl : R.length ≤ 10000) (hTt : ∀ r ∈ R, r.texts.length ≤ 1000) (hfl : ∀ k, ((R.take k).foldl insX []).length ≤ 10000) (hR : Strs w (some ⟨rb, ro, none⟩) roots) (hS : RunsX w a R) :
    Calls Tryz.prog 90 #[.slice (some ⟨rb, ro, none⟩) roots.length rc, .slice a R.length cap] w fun e w' => StateX roots (R.foldl insX []) w w' e := by
  obtain ⟨is, hi, hz0, hz1, hz2⟩ := xInfo_parts Tryz.xInfoStr
  obtain ⟨W0, hW0⟩ : ∃ W0, W0 = w.alloc (.cells #[.slice none 0 0, .slice none 0 0] 38) := ⟨_, rfl⟩
  have KW0 : Kept w W0 := by rw [hW0]; exact (Kept.refl _).alloc _
  have hres0 : RowT W0 w.heap.size 38 2 := by rw [hW0]; exact RowT.made w #[.slice none 0 0, .slice none 0 0] 38
  have hW0s : w.heap.size + 1 ≤ W0.heap.size := hres0.lt
  have HRes0 := hide hres0
  have HKE : Hid (Kept W0 (W0.alloc (.cells #[] 9))) := (Kept.refl _).alloc _
  have HO0 : Hid ((W0.alloc (.cells #[] 9)).ownsRow W0.heap.size 9 1 (.slice (some ⟨W0.heap.size, 0, none⟩) 0 0) 0 (([] : List ByteArray).map Value.string)) := World.ownsRow_made W0 #[] 0 (Nat.le_refl _) (Nat.zero_le _) rfl
  have HNews : Hid (∀ j u, (roots.map Value.string)[j]? = some u → (W0.alloc (.cells #[] 9)).cell? ((⟨rb, ro, none⟩ : Addr).add j) = some u) := fun j u hu => by
    have hj : j < roots.length := by have := (List.getElem?_eq_some_iff.1 hu).1; simpa using this
    obtain ⟨b, o, e, hb, hc⟩ := (hR.kept (KW0.trans HKE.out)) j hj
    simp only [Option.some.injEq] at e
    rw [e, Addr.add_mid, hc]
    simp [hj] at hu
    simp [List.getD, hj, hu]
  have HOnes : Hid (∀ u ∈ roots.map Value.string, u.oneCell' = true) := fun u hu => by obtain ⟨x, _, rfl⟩ := List.mem_map.1 hu; rfl
  have hbs : W0.heap.size ≤ (W0.alloc (.cells #[] 9)).heap.size := HKE.out.size
  clear hres0
  go_enter Tryz.func90, Tryz.ntmps90
  go_upto_region 1 with fail
  rw [← hW0]
  clear hW0
  go_wp2_with (at_builtin; refine wpList_append_own _ rfl (.tmp 7) (.tmp 8) 25 rfl W0.heap.size 9 is _ 1 16 Tryz.underlying25 hi hz0 hz1 hz2 rfl (by decide) (.slice (some ⟨W0.heap.size, 0, none⟩) 0 0) 0 [] rfl HO0.out ⟨rb, ro, none⟩ roots.length rc (roots.map Value.string) rfl (by simp) HNews.out HOnes.out (by unfold maxLen; omega) (by omega) hbs ?_; intro v6 w6 hown6 hgr6 _; have kw6 : Kept W0 w6 := kept_of_grown HKE.out (Nat.le_refl _) HO0.out hgr6; rw [Nat.zero_add, List.nil_append] at hown6; obtain ⟨ra, rc6, rfl⟩ := own_slice hown6; have HT6 := hide hown6; clear hown6 hgr6)
  obtain ⟨W1, hW1⟩ : ∃ W1, W1 = w6.alloc (.cells #[.slice ra roots.length rc6, .slice none 0 0] 38) := ⟨_, rfl⟩
  obtain ⟨sb, hsb⟩ : ∃ sb, sb = w6.heap.size := ⟨_, rfl⟩
  have KE1 : Kept w6 W1 := by rw [hW1]; exact (Kept.refl _).alloc _
  have HSr : Hid (RowT W1 sb 38 2) := by rw [hW1, hsb]; exact RowT.made w6 #[.slice ra roots.length rc6, .slice none 0 0] 38
  have hcs : W1.rangeAt sb 0 [.slice ra roots.length rc6, .slice none 0 0] := by rw [hW1, hsb]; exact range_new w6 #[.slice ra roots.length rc6, .slice none 0 0] 38
  have HCs := hide hcs
  have HRes := hide (HRes0.out.kept (kw6.trans KE1))
  have HT7 := hide (ownsRow_kept' HT6.out KE1)
  have K1 : Kept w W1 := (KW0.trans kw6).trans KE1
  have hz6 := kw6.size
  have hs1 : sb + 1 ≤ W1.heap.size := HSr.out.lt
  have hs0 : w.heap.size < sb := by omega
  rw [← hW1, ← hsb]
  clear hcs HT6 HO0 HNews HRes0 hW1 hsb HOnes hbs HKE KE1 kw6 hz6 KW0
  go_loopw [6] (fun i wr => ∃ (k : Nat) (d : Option Addr) (dc : Nat) (xs : List Value), k ≤ R.length ∧ i = .int .i64 k ∧ StX W1 wr sb ra roots.length rc6 d ((R.take k).foldl insX []) dc xs) (fun i _ => R.length - (intOf i).toNat)
  case atStart =>
    have hc := HCs.out
    exact ⟨0, none, 0, [], Nat.zero_le _, rfl, ⟨KeptBut.refl _ _ _, HSr.out, hc 0 _ rfl, hc 1 _ rfl, World.ownsRow_nil _ _ _ _, PackedX.nil _ _⟩⟩
  case round =>
    obtain ⟨k, d, dc, xs, hk, rfl, hSt⟩ := hrel
    have hfk := hfl k
    by_cases hlt : k < R.length
    · have Kr : Kept w wr := hSt.kb.kept K1 (by omega)
      obtain ⟨b, o, xa, ca, rfl, hb, hc, hTk, hXk⟩ := hS.kept Kr k hlt
      obtain ⟨t, ht⟩ : ∃ t, t = (R.take k).foldl insX [] := ⟨_, rfl⟩
      obtain ⟨y, hy⟩ : ∃ y, y = R.getD k RunX.zero := ⟨_, rfl⟩
      have HSc : Hid ((R.take (k + 1)).foldl insX [] = insX t y) := by show _ = _; rw [List.take_succ_eq_append_getElem hlt, List.foldl_append, ht, hy]; simp [List.getD, hlt]
      have hTr : AscX t := by rw [ht]; exact foldl_asc _ _ List.Pairwise.nil
      have hyt : y.texts.length ≤ 1000 := by rw [hy]; simp only [List.getD, hlt, List.getElem?_eq_getElem, Option.getD_some]; exact hTt _ (List.getElem_mem hlt)
      rw [← ht] at hSt hfk
      rw [← hy] at hc hTk
      have HSt := hide hSt
      have zr := hSt.kb.size
      have HRt : Hid (RunsXP wr (fun b => sb < b) d t) := by
        obtain ⟨_, a9, c9, ev, h⟩ := PackedX.runs hSt.own hSt.pack (Kept.refl _)
        simp only [Value.slice.injEq, true_and] at ev
        rw [ev.1]
        exact h
      have HPut : Hid (∀ W, Kept wr W → Calls Tryz.prog 88 #[.slice d t.length dc, .agg #[.string y.name, .bool y.over, .bool y.fail, .string y.text, .int .i64 y.at', .int .i64 y.visits, .slice xa y.texts.length ca]] W fun e w' => ∃ v, e = .returned v ∧ RunsO W w' (fun b => sb < b) v (insX t y) ∧ Kept W w') := fun W hW => xPut_any W d dc t y xa ca (by omega) hyt hTr (fun b => sb < b) (fun b hb => by have := hW.size; omega) (HRt.out.kept hW) (hTk.kept hW) hXk
      have c0 : wr.cell? ⟨b, o + k * 7 + 0, none⟩ = some (.string y.name) := hc 0 _ rfl
      have c1 : wr.cell? ⟨b, o + k * 7 + 1, none⟩ = some (.bool y.over) := hc 1 _ rfl
      have c2 : wr.cell? ⟨b, o + k * 7 + 2, none⟩ = some (.bool y.fail) := hc 2 _ rfl
      have c3 : wr.cell? ⟨b, o + k * 7 + 3, none⟩ = some (.string y.text) := hc 3 _ rfl
      have c4 : wr.cell? ⟨b, o + k * 7 + 4, none⟩ = some (.int .i64 y.at') := hc 4 _ rfl
      have c5 : wr.cell? ⟨b, o + k * 7 + 5, none⟩ = some (.int .i64 y.visits) := hc 5 _ rfl
      have c6 : wr.cell? ⟨b, o + k * 7 + 6, none⟩ = some (.slice xa y.texts.length ca) := hc 6 _ rfl
      rw [Nat.add_zero] at c0
      have m1 := hSt.runs
      have hsb := hSt.row.lt
      clear hc hy ht hTr hSt hTk hXk
      have i0 : (k : Int) < (R.length : Int) := by omega
      have HSO : Hid (∀ w', Kept wr w' → (fun w' => w'.cell? ⟨sb, 1, none⟩ = some (.slice d t.length dc) ∧ w'.cell? ⟨b, o + k * 7, none⟩ = some (.string y.name) ∧ w'.cell? ⟨b, o + k * 7 + 1, none⟩ = some (.bool y.over) ∧ w'.cell? ⟨b, o + k * 7 + 2, none⟩ = some (.bool y.fail) ∧ w'.cell? ⟨b, o + k * 7 + 3, none⟩ = some (.string y.text) ∧ w'.cell? ⟨b, o + k * 7 + 4, none⟩ = some (.int .i64 y.at') ∧ w'.cell? ⟨b, o + k * 7 + 5, none⟩ = some (.int .i64 y.visits) ∧ w'.cell? ⟨b, o + k * 7 + 6, none⟩ = some (.slice xa y.texts.length ca)) w') := fun w' kk => ⟨(kk.cell hsb).trans m1, (kk.cell hb).trans c0, (kk.cell hb).trans c1, (kk.cell hb).trans c2, (kk.cell hb).trans c3, (kk.cell hb).trans c4, (kk.cell hb).trans c5, (kk.cell hb).trans c6⟩
      go_wp2
      refine UpTo.region (by kernel_rfl) (fun w' => w'.cell? ⟨sb, 1, none⟩ = some (.slice d t.length dc) ∧ w'.cell? ⟨b, o + k * 7, none⟩ = some (.string y.name) ∧ w'.cell? ⟨b, o + k * 7 + 1, none⟩ = some (.bool y.over) ∧ w'.cell? ⟨b, o + k * 7 + 2, none⟩ = some (.bool y.fail) ∧ w'.cell? ⟨b, o + k * 7 + 3, none⟩ = some (.string y.text) ∧ w'.cell? ⟨b, o + k * 7 + 4, none⟩ = some (.int .i64 y.at') ∧ w'.cell? ⟨b, o + k * 7 + 5, none⟩ = some (.int .i64 y.visits) ∧ w'.cell? ⟨b, o + k * 7 + 6, none⟩ = some (.slice xa y.texts.length ca)) 8 ⟨m1, c0, c1, c2, c3, c4, c5, c6⟩ (fun hHeld => ?_)
      refine UpTo.take 0 [1, 6, 8] (v := ?_) (by (simp only [List.getElem?_toArray, List.getElem?_cons_zero]; rfl)) (by kernel_rfl) (by kernel_rfl) (by kernel_rfl) (by kernel_rfl) (by exact fun _ _ _ h => h) (Or.inl ⟨by rfl, ?_⟩) hHeld ?_
      rotate_left
      · intro u hu
        try dsimp only at hu
        go_simp
        try with_reducible rfl
      try simp only [Act.put, List.setIfInBounds_toArray, List.set_cons_zero, List.set_cons_succ]
      refine UpTo.take 1 [6, 8] (v := ?_) (by (simp only [List.getElem?_toArray, List.getElem?_cons_succ, List.getElem?_cons_zero]; rfl)) (by kernel_rfl) (by kernel_rfl) (by kernel_rfl) (by kernel_rfl) (by exact fun _ _ _ h => h) (Or.inl ⟨by rfl, ?_⟩) hHeld ?_
      rotate_left
      · intro u hu
        try dsimp only at hu
        go_simp
        try with_reducible rfl
      try simp only [Act.put, List.setIfInBounds_toArray, List.set_cons_zero, List.set_cons_succ]
      refine UpTo.take 2 [4, 5, 6, 8] (v := ?_) (by (simp only [List.getElem?_toArray, List.getElem?_cons_succ, List.getElem?_cons_zero]; rfl)) (by kernel_rfl) (by kernel_rfl) (by kernel_rfl) (by kernel_rfl) (by exact fun _ _ _ h => h) (Or.inl ⟨by rfl, ?_⟩) hHeld ?_
      rotate_left
      · intro u hu
        try dsimp only at hu
        go_simp
        try with_reducible rfl
      try simp only [Act.put, List.setIfInBounds_toArray, List.set_cons_zero, List.set_cons_succ]
      refine UpTo.take 3 [4, 5, 6, 8] (v := ?_) (by (simp only [List.getElem?_toArray, List.getElem?_cons_succ, List.getElem?_cons_zero]; rfl)) (by kernel_rfl) (by kernel_rfl) (by kernel_rfl) (by kernel_rfl) (by exact fun _ _ _ h => h) (Or.inl ⟨by rfl, ?_⟩) hHeld ?_
      rotate_left
      · intro u hu
        try dsimp only at hu
        go_simp
        try with_reducible rfl
      try simp only [Act.put, List.setIfInBounds_toArray, List.set_cons_zero, List.set_cons_succ]
      refine UpTo.take 4 [5, 6, 8] (v := ?_) (by (simp only [List.getElem?_toArray, List.getElem?_cons_succ, List.getElem?_cons_zero]; rfl)) (by kernel_rfl) (by kernel_rfl) (by kernel_rfl) (by kernel_rfl) (by exact fun _ _ _ h => h) (Or.inl ⟨by rfl, ?_⟩) hHeld ?_
      rotate_left
      · intro u hu
        try dsimp only at hu
        go_simp
        try with_reducible rfl
      try simp only [Act.put, List.setIfInBounds_toArray, List.set_cons_zero, List.set_cons_succ]
      refine UpTo.take 5 [6, 8] (v := ?_) (by (simp only [List.getElem?_toArray, List.getElem?_cons_succ, List.getElem?_cons_zero]; rfl)) (by kernel_rfl) (by kernel_rfl) (by kernel_rfl) (by kernel_rfl) (by exact fun _ _ _ h => h) (Or.inl ⟨by rfl, ?_⟩) hHeld ?_
      rotate_left
      · intro u hu
        try dsimp only at hu
        go_simp
        try with_reducible rfl
      try simp only [Act.put, List.setIfInBounds_toArray, List.set_cons_zero, List.set_cons_succ]
      refine UpTo.next 6 (by kernel_rfl) (by (simp only [List.getElem?_toArray, List.getElem?_cons_succ, List.getElem?_cons_zero]; rfl)) (fun K hK => ?_)
      rw [if_pos (by rfl)]
      go_simp
      go_at_call 88
      refine (HPut.out _ (by repeat (first | (with_reducible exact Kept.refl _) | (with_reducible assumption) | apply Kept.drew))).mono ?_
      rintro e w2 ⟨v2, rfl, hO2, kk2⟩
      have k2 : Kept wr w2 := Kept.trans (by repeat (first | (with_reducible exact Kept.refl _) | (with_reducible assumption) | apply Kept.drew)) kk2
      have z2 := k2.size
      obtain ⟨wy, xs2, ky1, ky2, hO3, hP3⟩ := hO2
      have zy := ky1.size
      have hwy : W1.heap.size ≤ wy.heap.size := Nat.le_trans zr (Nat.le_trans (Nat.le_of_eq (by rfl)) zy)
      have hO2' := owns_base (base' := W1.heap.size) hO3 hwy
      obtain ⟨d2, dc2, rfl⟩ := own_slice hO3
      have HO2 := hide hO2'
      have HP2 := hide (hP3.kept ky2)
      have hr2 := HSt.out.row.kept k2
      obtain ⟨⟨_, fo2⟩, fo1⟩ := hr2.row.at (i := 1) (by omega)
      have HRw := hide hr2
      clear hO2' hO3 hP3 hr2 ky1 ky2 zy hwy
      dsimp only
      refine hK.out _ _ (fun _ => HSO.out w2 k2) ?_
      clear hK K hHeld
      have hHeld := HSO.out w2 k2
      try simp only [Act.put, List.setIfInBounds_toArray, List.set_cons_zero, List.set_cons_succ]
      refine UpTo.take 7 [8] (v := ?_) (by (simp only [List.getElem?_toArray, List.getElem?_cons_succ, List.getElem?_cons_zero]; rfl)) (by kernel_rfl) (by kernel_rfl) (by kernel_rfl) (by kernel_rfl) (by exact fun _ _ _ h => h) (Or.inl ⟨by rfl, ?_⟩) hHeld ?_
      rotate_left
      · intro u hu
        try dsimp only at hu
        go_simp
        try with_reducible rfl
      try simp only [Act.put, List.setIfInBounds_toArray, List.set_cons_zero, List.set_cons_succ]
      refine UpTo.next 8 (by kernel_rfl) (by (simp only [List.getElem?_toArray, List.getElem?_cons_succ, List.getElem?_cons_zero]; rfl)) (fun K hK => ?_)
      go_simp
      refine hK.out _ _ (fun h => absurd rfl h) ?_
      clear hK K
      try simp only [Act.put, List.setIfInBounds_toArray, List.set_cons_zero, List.set_cons_succ]
      refine UpTo.done (by kernel_rfl) ?_
      go_wp2
      go_roundw
      case rel => exact ⟨k + 1, d2, dc2, xs2, by omega, by go_num, by rw [HSc.out]; exact ⟨(HSt.out.kb.trans (KeptBut.of_kept k2)).setCell (Nat.le_refl _) (Nat.lt_succ_self _) _, HRw.out.set _, by rw [set_miss (by omega), k2.cell HSt.out.row.lt]; exact HSt.out.roots, set_hit HRw.out.row (by omega) _, owns_set (p := ⟨sb, 1, none⟩) HO2.out hs1 _, HP2.out.set (fun b h => by omega) _⟩⟩
      case measure => simp [intOf]; omega
    · have hkl : k = R.length := by omega
      subst hkl
      rw [List.take_length] at hSt hfk
      obtain ⟨t, ht⟩ : ∃ t, t = R.foldl insX [] := ⟨_, rfl⟩
      rw [← ht] at hSt hfk
      have m0 := hSt.roots
      have m1 := hSt.runs
      have hrs := HRes.out.block (hSt.kb.block _ HRes.out.lt (by omega))
      obtain ⟨⟨_, t0⟩, f0⟩ := hrs.row.at (i := 0) (by omega)
      obtain ⟨⟨_, t1⟩, f1⟩ := hrs.row.at (i := 1) (by omega)
      have HRs := hide hrs
      have HSt := hide hSt
      have hsb := hSt.row.lt
      have hwb := hrs.lt
      clear hrs hSt
      go_wp2
      have hR9 := World.rangeAt_setCells_same wr w.heap.size 0 [.slice ra roots.length rc6, .slice d t.length dc] (HRs.out.row.there (o := 0) (m := 2) (Nat.le_refl _))
      have hO := owns_set (owns_set HSt.out.own (p := ⟨w.heap.size, 0, none⟩) (by show w.heap.size < _; omega) (.slice ra roots.length rc6)) (p := ⟨w.heap.size, 1, none⟩) (by show w.heap.size < _; omega) (.slice d t.length dc)
      have hT8 := owns_but HT7.out HSt.out.kb HSr.out (by decide)
      have hT9 := owns_set (owns_set hT8 (p := ⟨w.heap.size, 0, none⟩) (by show w.heap.size < _; omega) (.slice ra roots.length rc6)) (p := ⟨w.heap.size, 1, none⟩) (by show w.heap.size < _; omega) (.slice d t.length dc)
      have hP9 := (HSt.out.pack.set (c := w.heap.size) (p := 0) (fun b h => by omega) (.slice ra roots.length rc6)).set (c := w.heap.size) (p := 1) (fun b h => by omega) (.slice d t.length dc)
      subst ht
      refine bodyPost_ret_cell [.slice ra roots.length rc6, .slice d (R.foldl insX []).length dc] _ Tryz.results90 rfl hR9 Tryz.underlying38 rfl Tryz.xSizeState rfl ⟨ra, rc6, d, dc, xs, rfl, owns_base hT9 (by omega), owns_base hO (by omega), ⟨hP9.1, fun i hi => by obtain ⟨xa, xc, e, h1, h2, h3⟩ := hP9.2 i hi; exact ⟨xa, xc, e, h1, h2, fun ad e => by have := h3 ad e; omega⟩⟩, ?_⟩
      exact ((HSt.out.kb.kept K1 (by omega)).setCell (Nat.le_refl _) _).setCell (Nat.le_refl _) _

end Go.Proofs.YtghipdfemoofhaaGreatDoor

namespace Go.Proofs.YtghipdfemoofhaaGreatDoor
open Go.RowKit

theorem xBoxCell {w wi : World} {x : Value} {t : TypeId} (K : Kept (w.alloc (.cells #[x] t)) wi) : wi.cell? ⟨w.heap.size, 0, none⟩ = some x :=
  (K.cell (by simp)).trans (range_new w #[x] t 0 _ rfl)
theorem xRowAlloc {X w' : World} {c : Array Value} {t : TypeId} (k : Kept (X.alloc (.cells c t)) w') : RowT w' X.heap.size t c.size := (RowT.made X c t).kept k
theorem filter_two {α : Type} (p q : α → Bool) (h : ∀ x, ¬ (p x = true ∧ q x = true)) : ∀ l : List α, (l.filter p).length + (l.filter q).length ≤ l.length
  | [] => Nat.le_refl _
  | x :: l => by
    have ih := filter_two p q h l
    have hx := h x
    simp only [List.filter_cons]
    by_cases h1 : p x = true
    · have h2 : ¬ q x = true := fun h2 => hx ⟨h1, h2⟩
      rw [if_pos h1, if_neg h2, List.length_cons, List.length_cons]
      omega
    · rw [if_neg h1]
      by_cases h2 : q x = true
      · rw [if_pos h2, List.length_cons, List.length_cons]; omega
      · rw [if_neg h2, List.length_cons]; omega
theorem ins_len1 (l : List RunX) (r : RunX) : (insX l r).length ≤ l.length + 1 := by
  unfold insX
  rw [List.length_append, List.length_cons]
  have := filter_two (fun x : RunX => Op.bytesLess x.name.toList r.name.toList) (fun x : RunX => Op.bytesLess r.name.toList x.name.toList) (fun x h => lessX_asymm h.1 h.2) l
  omega
theorem foldl_len : ∀ (l t : List RunX), (l.foldl insX t).length ≤ t.length + l.length
  | [], _ => Nat.le_refl _
  | x :: l, t => by
    have h1 := foldl_len l (insX t x)
    have h2 := ins_len1 t x
    show (l.foldl insX (insX t x)).length ≤ _
    rw [List.length_cons]
    omega
theorem take_foldl_len (R : List RunX) (k : Nat) : ((R.take k).foldl insX []).length ≤ R.length := by
  have h1 := foldl_len (R.take k) []
  have h2 : (R.take k).length ≤ R.length := by rw [List.length_take]; omega
  simp only [List.length_nil] at h1
  omega
theorem wantL_mem (W : Acts) : ∀ (bs : List ByteArray) (l : List RunX) (x : RunX), x ∈ wantL W l bs → x ∈ l ∨ ∃ n, x = RunX.fresh n
  | [], _, _, h => .inl h
  | a :: bs, l, x, h => by
    rcases wantL_mem W bs _ x h with h1 | h1
    · by_cases hc : (W a).isSome = true ∧ (envOf l a).isNone = true
      · rw [if_pos hc] at h1
        rcases List.mem_append.1 h1 with h2 | h2
        · exact .inl h2
        · rw [List.mem_singleton] at h2
          exact .inr ⟨a, h2⟩
      · rw [if_neg hc] at h1
        exact .inl h1
    · exact .inr h1
theorem packedX_weak {w : World} {P Q : Nat → Prop} {xs : List Value} {l : List RunX} (h : PackedX w P xs l) (hq : ∀ b, P b → Q b) : PackedX w Q xs l :=
  ⟨h.1, fun i hi => by obtain ⟨xa, xc, e, h1, h2, h3⟩ := h.2 i hi; exact ⟨xa, xc, e, h1, h2, fun ad e => hq _ (h3 ad e)⟩⟩

set_option maxRecDepth 100000 in
set_option maxHeartbeats 1600000 in
theorem startX_any (w : World) (a : Option Addr) (cap : Nat) (webl : List NodeD) (rb ro rc : Nat) (roots : List ByteArray) (hl : webl.length ≤ 1048576) (hf : ∀ s ∈ webl, s.Fits) (hw : WebCode webl 0) (hro : RootsOk roots) (hrs : ∀ s ∈ roots, s.size ≤ maxLen) (hS : Nodes w a webl) (hR : Strs w (some ⟨rb, ro, none⟩) roots) :
    Calls Tryz.prog 62 #[.agg #[.slice a webl.length cap], .slice (some ⟨rb, ro, none⟩) roots.length rc] w fun e w' => StateX roots (startL webl roots) w w' e := by
  have hl' : webl.length ≤ maxLen := by unfold maxLen; omega
  have hrl : roots.length ≤ maxLen := by have := hro.1; have := hro.2.1; unfold maxLen; omega
  go_enter Tryz.func62, Tryz.ntmps62
  go_wp2_with fail
  refine (specCheckWeb_any _ a cap webl hl' hf (hS.kept (by repeat (first | apply Kept.alloc | exact Kept.refl _)))).mono ?_
  rintro e w1 ⟨⟨c, rfl, hc⟩, k1⟩
  have K1 : Kept w w1 := Kept.trans (by repeat (first | apply Kept.alloc | exact Kept.refl _)) k1
  have z1 := k1.size
  simp only [World.size_alloc] at z1
  have q0 := xBoxCell (w := w) (Kept.trans ((Kept.refl _).alloc _) k1)
  have hrow1 := xRowAlloc k1
  simp only [World.size_alloc] at hrow1
  have HR1 : Hid (RowT w1 (w.heap.size + 1) 38 2) := hrow1
  obtain ⟨⟨_, x0⟩, g0⟩ := HR1.out.row.at (i := 0) (by omega)
  obtain ⟨⟨_, x1⟩, g1⟩ := HR1.out.row.at (i := 1) (by omega)
  have hc0 : c = 0 := hc.unique hw
  clear hrow1 hc k1
  have hw1 : w.heap.size < w1.heap.size := by omega
  have hw2 : w.heap.size + 1 < w1.heap.size := by omega
  subst hc0
  go_wp2_with fail
  refine (l3RootsOk_any _ (some ⟨rb, ro, none⟩) rc roots hrl hrs (hR.kept K1)).mono ?_
  rintro e w2 ⟨hsay, k2⟩
  have q2 := (k2.cell (o := 0) hw1).trans q0
  have HR2 := hide (HR1.out.kept k2)
  have K2 := K1.trans k2
  have z2 := k2.size
  obtain ⟨⟨_, y0⟩, e0⟩ := HR2.out.row.at (i := 0) (by omega)
  obtain ⟨⟨_, y1⟩, e1⟩ := HR2.out.row.at (i := 1) (by omega)
  clear q0 x0 x1 g0 g1 HR1 K1 k2
  rcases hsay.cases with ⟨rfl, hyes⟩ | ⟨rfl, hno⟩
  · have HY := hide hyes
    clear hyes hsay
    have hv1 : w.heap.size < w2.heap.size := by omega
    have HKn0 : Hid (KnX w2 (w2.alloc (.cells #[.slice a webl.length cap, .slice none 0 0] 145)) w2.heap.size a webl.length cap [] none 0 []) := ⟨(Kept.refl _).alloc _, ⟨RowT.made w2 _ _, range_new w2 #[.slice a webl.length cap, .slice none 0 0] 145 0 _ rfl, range_new w2 #[.slice a webl.length cap, .slice none 0 0] 145 1 _ rfl⟩, World.ownsRow_nil _ _ _ _, PackedX.nil _ _⟩
    go_wp2_with fail
    refine (wantX_any w2 _ w2.heap.size (Nat.le_refl _) a cap webl (some ⟨rb, ro, none⟩) rc roots [] none 0 [] hl (by have := HY.out.2.1; omega) (by simp) HKn0.out (hS.kept K2) (hR.kept K2)).mono ?_
    rintro e w3 ⟨rfl, d, dc, xs, hKn⟩
    have k3 : Kept w2 w3 := hKn.kw
    have K3 := K2.trans k3
    have z3 := k3.size
    have m1 := hKn.known.runs
    have hkb := hKn.known.row.lt
    have HRz := hide hKn.runs
    have HR3 := hide (HR2.out.kept k3)
    obtain ⟨R, hRR⟩ : ∃ R, R = wantL (actsOf webl) [] roots := ⟨_, rfl⟩
    have hRl : R.length ≤ 10 := by have := wantL_len (actsOf webl) roots []; have := HY.out.2.1; rw [hRR]; simp at *; omega
    have hRt : ∀ r ∈ R, r.texts.length ≤ 1000 := fun r hr => by
      rw [hRR] at hr
      rcases wantL_mem _ _ _ _ hr with h | ⟨n, rfl⟩
      · cases h
      · exact Nat.zero_le _
    have HRR : Hid (R.foldl insX [] = startL webl roots) := by show _ = _; rw [hRR]; rfl
    rw [← hRR] at HRz m1
    have HRt := hide hRt
    clear hKn y0 y1 e0 e1 HR2 q2 hRR hRt
    go_wp2_with fail
    refine (stateX_any _ rb ro rc roots d dc R (by have := HY.out.2.1; omega) (by omega) HRt.out (fun k => by have := take_foldl_len R k; omega) (hR.kept K3) HRz.out).mono ?_
    rintro e w4 hEnd
    rw [HRR.out] at hEnd
    obtain ⟨ra, rc4, d4, dc4, xs4, rfl, hT4, hO4, hP4, k4⟩ := hEnd
    have K4 := K3.trans k4
    have HR4 := hide (HR3.out.kept k4)
    have z4 := k4.size
    obtain ⟨⟨_, t0⟩, f0⟩ := HR4.out.row.at (i := 0) (by omega)
    obtain ⟨⟨_, t1⟩, f1⟩ := HR4.out.row.at (i := 1) (by omega)
    have HT4 := hide hT4
    have HO4 := hide hO4
    have HP4 := hide hP4
    obtain ⟨T, hTT⟩ : ∃ T, T = startL webl roots := ⟨_, rfl⟩
    rw [← hTT] at HO4 HP4 ⊢
    have HTT := hide hTT
    clear hT4 hO4 hP4 HR3 m1 hTT HRR
    go_wp2
    have hR9 := World.rangeAt_setCells_same w4 (w.heap.size + 1) 0 [.slice ra roots.length rc4, .slice d4 T.length dc4] (HR4.out.row.there (o := 0) (m := 2) (Nat.le_refl _))
    have hO := owns_set (owns_set HO4.out (p := ⟨w.heap.size + 1, 0, none⟩) (by simp; omega) (.slice ra roots.length rc4)) (p := ⟨w.heap.size + 1, 1, none⟩) (by simp; omega) (.slice d4 T.length dc4)
    have hT9 := owns_set (owns_set HT4.out (p := ⟨w.heap.size + 1, 0, none⟩) (by simp; omega) (.slice ra roots.length rc4)) (p := ⟨w.heap.size + 1, 1, none⟩) (by simp; omega) (.slice d4 T.length dc4)
    have hP9 := (HP4.out.set (c := w.heap.size + 1) (p := 0) (fun b h => by omega) (.slice ra roots.length rc4)).set (c := w.heap.size + 1) (p := 1) (fun b h => by omega) (.slice d4 T.length dc4)
    obtain rfl := HTT.out
    exact bodyPost_ret_cell [.slice ra roots.length rc4, .slice d4 (startL webl roots).length dc4] _ Tryz.results62 rfl hR9 Tryz.underlying38 rfl Tryz.xSizeState rfl ⟨ra, rc4, d4, dc4, xs4, rfl, owns_base hT9 (by omega), owns_base hO (by omega), packedX_weak hP9 (fun b h => by omega), (K4.setCell (by simp) _).setCell (by simp) _⟩
  · exact absurd hro hno

end Go.Proofs.YtghipdfemoofhaaGreatDoor

namespace Go.Proofs.YtghipdfemoofhaaGreatDoor
open Go.RowKit

def StrsB (w : World) (nb : Nat) (a : Option Addr) (l : List ByteArray) : Prop := ∀ i, i < l.length → ∃ b o, a = some ⟨b, o, none⟩ ∧ b < w.heap.size ∧ b ≠ nb ∧ w.cell? ⟨b, o + i, none⟩ = some (.string (l.getD i ByteArray.empty))
theorem StrsB.new {w w' : World} {a : Option Addr} {l : List ByteArray} (h : Strs w a l) (k : Kept w w') : StrsB w' w.heap.size a l := fun i hi => by
  obtain ⟨b, o, e, hb, hc⟩ := h i hi
  exact ⟨b, o, e, Nat.lt_of_lt_of_le hb k.size, by omega, (k.cell hb).trans hc⟩
theorem StrsB.of_A {n0 c nb : Nat} {w : World} {a : Option Addr} {l : List ByteArray} (h : StrsA n0 w c a l) (h1 : n0 ≤ nb) (h2 : nb < c + 2) : StrsB w nb a l := fun i hi => by
  obtain ⟨b, o, e, hb, h3, hc⟩ := h i hi
  exact ⟨b, o, e, hb, by omega, hc⟩
theorem StrsB.sets' {nb : Nat} {a : Option Addr} {l : List ByteArray} : ∀ (vs : List Value) (p : Nat) {w : World}, StrsB w nb a l → StrsB (w.setCells nb p vs) nb a l
  | [], _, _, h => h
  | v :: r, p, w, h => by
    rw [World.setCells]
    refine StrsB.sets' r (p + 1) fun i hi => ?_
    obtain ⟨b, o, e, hb, h1, hc⟩ := h i hi
    exact ⟨b, o, e, by rw [size_setCell]; exact hb, h1, by rw [cell_set_ne h1]; exact hc⟩
theorem StrsB.sets {nb : Nat} {a : Option Addr} {l : List ByteArray} {w : World} (h : StrsB w nb a l) (vs : List Value) (p : Nat) : Strs (w.setCells nb p vs) a l := fun i hi => by
  obtain ⟨b, o, e, hb, _, hc⟩ := StrsB.sets' vs p h i hi
  exact ⟨b, o, e, hb, hc⟩
theorem RowT.sets {b n : Nat} {t : TypeId} : ∀ (vs : List Value) (p : Nat) {w : World}, RowT w b t n → RowT (w.setCells b p vs) b t n
  | [], _, _, h => h
  | v :: r, p, _, h => by rw [World.setCells]; exact RowT.sets r (p + 1) (h.set v)
theorem RBox.laid {w : World} {nb : Nat} (h : RowT w nb 72 7) {q : RunX} {xq : Option Addr} {cq : Nat} : RBox (w.setCells nb 0 (q.cells xq cq)) nb q xq cq :=
  ⟨RowT.sets _ _ h, World.rangeAt_setCells_same w nb 0 (q.cells xq cq) (h.row.there (o := 0) (m := 7) (Nat.le_refl _))⟩
theorem next_asks {W : Acts} {σ : Env} {r : RunX} : (nextOf W σ r).2 = [] ∨ ∃ A, W r.name = some A ∧ (nextOf W σ r).2 = (stepOf A (nextOf W σ r).1.at').asks := by
  unfold nextOf
  cases hA : W r.name with
  | none => exact .inl rfl
  | some A =>
    simp only
    by_cases h0 : r.visits = 0
    · rw [if_pos h0]
      refine .inr ⟨A, rfl, ?_⟩
      unfold arrive
      split <;> rfl
    · rw [if_neg h0]
      cases answersOf W σ (stepOf A r.at').asks with
      | none => exact .inl rfl
      | some xs =>
        simp only
        by_cases h20 : r.visits = 20
        · rw [if_pos h20]; exact .inl rfl
        · rw [if_neg h20]
          by_cases hg : (goOnF (stepOf A r.at') xs).over = true
          · rw [if_pos hg]; exact .inl rfl
          · rw [if_neg hg]
            refine .inr ⟨A, rfl, ?_⟩
            unfold arrive
            split <;> rfl
theorem next_asks_len {webl : List NodeD} {σ : Env} {r : RunX} (hok : ActsOk (actsOf webl)) (hg : GoodEnv webl σ) (h : r.Good webl) (hc : CanGo (actsOf webl) σ r) : (nextOf (actsOf webl) σ r).2.length ≤ 5 := by
  rcases next_asks (W := actsOf webl) (σ := σ) (r := r) with e | ⟨A, hA, e⟩
  · rw [e]; exact Nat.zero_le _
  · obtain ⟨A', hA', h0, h1⟩ := (nextOf_good hok hg h hc).act
    rw [nextOf_name] at hA'
    rw [hA] at hA'
    cases hA'
    rw [e]
    exact (asks_ok (hok _ _ hA).1 h0 h1).1

set_option maxRecDepth 100000 in
set_option maxHeartbeats 12800000 in
theorem doX_any (w : World) (a : Option Addr) (cap : Nat) (webl : List NodeD) (rb ro rc : Nat) (roots : List ByteArray) (d : Option Addr) (dc : Nat) (l : List RunX) (name : ByteArray) (r : RunX) (hwl : webl.length ≤ 1000) (hlw : l.length ≤ 900) (hsz : SmallAsks webl) (hok : ActsOk (actsOf webl)) (hft : ∀ y ∈ webl, y.Fits) (hrl : roots.length ≤ 10)
    (hgl : GoodL webl l) (hr : envOf l name = some r) (hcg : CanGo (actsOf webl) (envOf l) r) (hN : Nodes w a webl) (hS : RunsX w d l) (hR : Strs w (some ⟨rb, ro, none⟩) roots) :
    Calls Tryz.prog 56 #[.agg #[.slice a webl.length cap], .agg #[.slice (some ⟨rb, ro, none⟩) roots.length rc, .slice d l.length dc], .string name] w fun e w' => StateX roots (doL (actsOf webl) l r) w w' e := by
  obtain ⟨k, hk, hke⟩ : ∃ k, k < l.length ∧ l.getD k RunX.zero = r := by
    obtain ⟨k, h1, h2⟩ := List.getElem_of_mem (env_mem hr).1
    exact ⟨k, h1, by simp only [List.getD, List.getElem?_eq_getElem h1, Option.getD_some, h2]⟩
  have hgr := hgl.good r (env_mem hr).1
  have hge := hgl.env
  have hll : l.length ≤ 1048576 := by omega
  have hwb : webl.length ≤ 1048576 := by omega
  obtain ⟨b, o, xa, xc, rfl, hb0, hcs, hTx, hXn⟩ := hS k hk
  rw [hke] at hcs hTx
  have HXn := hide hXn
  clear hXn
  obtain ⟨WB, hWB⟩ : ∃ WB, WB = ((w.alloc (.cells #[.slice a webl.length cap] 34)).alloc (.cells #[.slice (some ⟨rb, ro, none⟩) roots.length rc, .slice (some ⟨b, o, none⟩) l.length dc] 38)).alloc (.cells #[.slice none 0 0, .slice none 0 0] 38) := ⟨_, rfl⟩
  have kB : Kept w WB := by rw [hWB]; exact (((Kept.refl _).alloc _).alloc _).alloc _
  have hBs : WB.heap.size = w.heap.size + 3 := by rw [hWB]; simp
  have b0 : WB.cell? ⟨w.heap.size, 0, none⟩ = some (.slice a webl.length cap) := by rw [hWB, Kept.cell (w := w.alloc (.cells #[.slice a webl.length cap] 34)) (((Kept.refl _).alloc _).alloc _) (by simp)]; exact range_new w _ _ 0 _ rfl
  have s0 : WB.cell? ⟨w.heap.size + 1, 0, none⟩ = some (.slice (some ⟨rb, ro, none⟩) roots.length rc) := by have := range_new (w.alloc (.cells #[.slice a webl.length cap] 34)) #[.slice (some ⟨rb, ro, none⟩) roots.length rc, .slice (some ⟨b, o, none⟩) l.length dc] 38 0 _ rfl; rw [World.size_alloc] at this; rw [hWB, Kept.cell (w := (w.alloc (.cells #[.slice a webl.length cap] 34)).alloc (.cells #[.slice (some ⟨rb, ro, none⟩) roots.length rc, .slice (some ⟨b, o, none⟩) l.length dc] 38)) ((Kept.refl _).alloc _) (by simp)]; exact this
  have s1 : WB.cell? ⟨w.heap.size + 1, 1, none⟩ = some (.slice (some ⟨b, o, none⟩) l.length dc) := by have := range_new (w.alloc (.cells #[.slice a webl.length cap] 34)) #[.slice (some ⟨rb, ro, none⟩) roots.length rc, .slice (some ⟨b, o, none⟩) l.length dc] 38 1 _ rfl; rw [World.size_alloc] at this; rw [hWB, Kept.cell (w := (w.alloc (.cells #[.slice a webl.length cap] 34)).alloc (.cells #[.slice (some ⟨rb, ro, none⟩) roots.length rc, .slice (some ⟨b, o, none⟩) l.length dc] 38)) ((Kept.refl _).alloc _) (by simp)]; exact this
  have HRes : Hid (RowT WB (w.heap.size + 1 + 1) 38 2) := by
    have h1 := RowT.made ((w.alloc (.cells #[.slice a webl.length cap] 34)).alloc (.cells #[.slice (some ⟨rb, ro, none⟩) roots.length rc, .slice (some ⟨b, o, none⟩) l.length dc] 38)) #[.slice none 0 0, .slice none 0 0] 38
    simp only [World.size_alloc] at h1
    rw [hWB]
    exact h1
  have z0 : w.heap.size < WB.heap.size := by omega
  have z1 : w.heap.size + 1 < WB.heap.size := by omega
  have hbB : b < WB.heap.size := Nat.lt_of_lt_of_le hb0 kB.size
  have t0 : WB.cell? ⟨b, o + k * 7, none⟩ = some (.string r.name) := (kB.cell hb0).trans (hcs 0 _ rfl)
  have t1 : WB.cell? ⟨b, o + k * 7 + 1, none⟩ = some (.bool r.over) := (kB.cell hb0).trans (hcs 1 _ rfl)
  have t2 : WB.cell? ⟨b, o + k * 7 + 2, none⟩ = some (.bool r.fail) := (kB.cell hb0).trans (hcs 2 _ rfl)
  have t3 : WB.cell? ⟨b, o + k * 7 + 3, none⟩ = some (.string r.text) := (kB.cell hb0).trans (hcs 3 _ rfl)
  have t4 : WB.cell? ⟨b, o + k * 7 + 4, none⟩ = some (.int .i64 r.at') := (kB.cell hb0).trans (hcs 4 _ rfl)
  have t5 : WB.cell? ⟨b, o + k * 7 + 5, none⟩ = some (.int .i64 r.visits) := (kB.cell hb0).trans (hcs 5 _ rfl)
  have t6 : WB.cell? ⟨b, o + k * 7 + 6, none⟩ = some (.slice xa r.texts.length xc) := (kB.cell hb0).trans (hcs 6 _ rfl)
  have HSO : Hid (∀ w', Kept WB w' → w'.cell? ⟨w.heap.size, 0, none⟩ = some (.slice a webl.length cap) ∧ w'.cell? ⟨w.heap.size + 1, 0, none⟩ = some (.slice (some ⟨rb, ro, none⟩) roots.length rc) ∧ w'.cell? ⟨w.heap.size + 1, 1, none⟩ = some (.slice (some ⟨b, o, none⟩) l.length dc) ∧ w'.cell? ⟨b, o + k * 7, none⟩ = some (.string r.name) ∧ w'.cell? ⟨b, o + k * 7 + 1, none⟩ = some (.bool r.over) ∧ w'.cell? ⟨b, o + k * 7 + 2, none⟩ = some (.bool r.fail) ∧ w'.cell? ⟨b, o + k * 7 + 3, none⟩ = some (.string r.text) ∧ w'.cell? ⟨b, o + k * 7 + 4, none⟩ = some (.int .i64 r.at') ∧ w'.cell? ⟨b, o + k * 7 + 5, none⟩ = some (.int .i64 r.visits) ∧ w'.cell? ⟨b, o + k * 7 + 6, none⟩ = some (.slice xa r.texts.length xc)) := fun w' K => ⟨(K.cell z0).trans b0, (K.cell z1).trans s0, (K.cell z1).trans s1, (K.cell hbB).trans t0, (K.cell hbB).trans t1, (K.cell hbB).trans t2, (K.cell hbB).trans t3, (K.cell hbB).trans t4, (K.cell hbB).trans t5, (K.cell hbB).trans t6⟩
  have HCan : Hid (∀ W, Kept WB W → Calls Tryz.prog 75 #[.agg #[.slice a webl.length cap], .agg #[.slice (some ⟨rb, ro, none⟩) roots.length rc, .slice (some ⟨b, o, none⟩) l.length dc], .agg #[.string r.name, .bool r.over, .bool r.fail, .string r.text, .int .i64 r.at', .int .i64 r.visits, .slice xa r.texts.length xc]] W fun e w' => Says e (CanGo (actsOf webl) (envOf l) r) ∧ Kept W w') := fun W K => canGo_any W a cap webl (some ⟨rb, ro, none⟩) roots.length rc (some ⟨b, o, none⟩) dc l r xa xc hwb hll hsz (fun _ _ => hgr.act) (hN.kept (kB.trans K)) (hS.kept (kB.trans K))
  have HNxt : Hid (∀ W, Kept WB W → Calls Tryz.prog 87 #[.agg #[.slice a webl.length cap], .agg #[.slice (some ⟨rb, ro, none⟩) roots.length rc, .slice (some ⟨b, o, none⟩) l.length dc], .agg #[.string r.name, .bool r.over, .bool r.fail, .string r.text, .int .i64 r.at', .int .i64 r.visits, .slice xa r.texts.length xc]] W fun e w' => NextSaid w.heap.size (W.heap.size + 2) (actsOf webl) (envOf l) r w' e ∧ Kept W w') := fun W K => next_old w W (kB.trans K) a cap webl (some ⟨rb, ro, none⟩) roots.length rc (some ⟨b, o, none⟩) dc l r xa xc hwb hll hsz hok hft hgr hge hcg hN (hS.kept (kB.trans K)) hTx HXn.out
  have HKB := hide kB
  have HN := hide hN
  have HS := hide hS
  have HRt0 := hide hR
  have HCg := hide hcg
  have HGr := hide hgr
  have HEr := hide hr
  have HKe := hide hke
  clear hr hke
  clear kB hBs hcs hN hS hR hcg hTx t0 t1 t2 t3 t4 t5 t6 b0 s0 s1
  go_enter Tryz.func56, Tryz.ntmps56
  go_upto_region 1 with fail
  rw [← hWB]
  clear hWB
  obtain ⟨b0, s0, s1, _⟩ := HSO.out _ (Kept.refl _)
  go_wp2_with fail
  refine (l4At_place _ (some ⟨rb, ro, none⟩) roots.length rc (some ⟨b, o, none⟩) dc l name hll (HS.out.kept HKB.out)).mono ?_
  rintro e w1 ⟨⟨q1, rfl, hq1⟩, K1⟩
  obtain rfl : q1 = (k : Int) := by
    rcases hq1 with ⟨j, hj, e1, h1, h2⟩ | ⟨_, h1⟩
    · rw [e1]
      have e2 : l.getD j RunX.zero = l.getD k RunX.zero := by rw [HEr.out] at h1; rw [← Option.some.inj h1, HKe.out]
      simp only [List.getD, List.getElem?_eq_getElem hj, List.getElem?_eq_getElem hk, Option.getD_some] at e2
      have e3 := congrArg RunX.name e2
      have hasc := List.pairwise_iff_getElem.1 hgl.asc
      rcases Nat.lt_trichotomy j k with h | h | h
      · exact absurd e3 (lessX_ne (hasc j k hj hk h))
      · rw [h]
      · exact absurd e3.symm (lessX_ne (hasc k j hk hj h))
    · rw [HEr.out] at h1; cases h1
  clear hq1 b0 s0 s1
  have hk0 : ¬ (k : Int) < 0 := by omega
  have hkl : (k : Int) < (l.length : Int) := by omega
  go_upto_region 2 with fail
  refine UpTo.region (by kernel_rfl) (fun w' => w'.cell? ⟨w.heap.size, 0, none⟩ = some (.slice a webl.length cap) ∧ w'.cell? ⟨w.heap.size + 1, 0, none⟩ = some (.slice (some ⟨rb, ro, none⟩) roots.length rc) ∧ w'.cell? ⟨w.heap.size + 1, 1, none⟩ = some (.slice (some ⟨b, o, none⟩) l.length dc) ∧ w'.cell? ⟨b, o + k * 7, none⟩ = some (.string r.name) ∧ w'.cell? ⟨b, o + k * 7 + 1, none⟩ = some (.bool r.over) ∧ w'.cell? ⟨b, o + k * 7 + 2, none⟩ = some (.bool r.fail) ∧ w'.cell? ⟨b, o + k * 7 + 3, none⟩ = some (.string r.text) ∧ w'.cell? ⟨b, o + k * 7 + 4, none⟩ = some (.int .i64 r.at') ∧ w'.cell? ⟨b, o + k * 7 + 5, none⟩ = some (.int .i64 r.visits) ∧ w'.cell? ⟨b, o + k * 7 + 6, none⟩ = some (.slice xa r.texts.length xc)) 12 (HSO.out _ (K1.drew)) (fun hHeld => ?_)
  have KD : Kept w1 w1.drew := (Kept.refl w1).drew
  generalize hwd : w1.drew = wd at hHeld KD ⊢
  clear hwd
  refine UpTo.take 0 [1, 2, 3, 4, 5, 6, 7, 8, 9, 10, 11, 12] (v := ?_) (by (simp only [List.getElem?_toArray, List.getElem?_cons_zero]; rfl)) (by kernel_rfl) (by kernel_rfl) (by kernel_rfl) (by kernel_rfl) (by exact fun _ _ _ h => h) (Or.inl ⟨by rfl, ?_⟩) hHeld ?_
  rotate_left
  · intro u hu
    try dsimp only at hu
    go_simp
    try with_reducible rfl
  try simp only [Act.put, List.setIfInBounds_toArray, List.set_cons_zero, List.set_cons_succ]
  refine UpTo.take 1 [2, 3, 4, 5, 6, 7, 8, 9, 10, 11, 12] (v := ?_) (by (simp only [List.getElem?_toArray, List.getElem?_cons_succ, List.getElem?_cons_zero]; rfl)) (by kernel_rfl) (by kernel_rfl) (by kernel_rfl) (by kernel_rfl) (by exact fun _ _ _ h => h) (Or.inl ⟨by rfl, ?_⟩) hHeld ?_
  rotate_left
  · intro u hu
    try dsimp only at hu
    go_simp
    try with_reducible rfl
  try simp only [Act.put, List.setIfInBounds_toArray, List.set_cons_zero, List.set_cons_succ]
  refine UpTo.take 2 [3, 4, 5, 6, 7, 8, 9, 10, 11, 12] (v := ?_) (by (simp only [List.getElem?_toArray, List.getElem?_cons_succ, List.getElem?_cons_zero]; rfl)) (by kernel_rfl) (by kernel_rfl) (by kernel_rfl) (by kernel_rfl) (by exact fun _ _ _ h => h) (Or.inl ⟨by rfl, ?_⟩) hHeld ?_
  rotate_left
  · intro u hu
    try dsimp only at hu
    go_simp
    try with_reducible rfl
  try simp only [Act.put, List.setIfInBounds_toArray, List.set_cons_zero, List.set_cons_succ]
  refine UpTo.take 3 [10, 11, 12] (v := ?_) (by (simp only [List.getElem?_toArray, List.getElem?_cons_succ, List.getElem?_cons_zero]; rfl)) (by kernel_rfl) (by kernel_rfl) (by kernel_rfl) (by kernel_rfl) (by exact fun _ _ _ h => h) (Or.inl ⟨by rfl, ?_⟩) hHeld ?_
  rotate_left
  · intro u hu
    try dsimp only at hu
    go_simp
    try with_reducible rfl
  try simp only [Act.put, List.setIfInBounds_toArray, List.set_cons_zero, List.set_cons_succ]
  refine UpTo.take 4 [10, 11, 12] (v := ?_) (by (simp only [List.getElem?_toArray, List.getElem?_cons_succ, List.getElem?_cons_zero]; rfl)) (by kernel_rfl) (by kernel_rfl) (by kernel_rfl) (by kernel_rfl) (by exact fun _ _ _ h => h) (Or.inl ⟨by rfl, ?_⟩) hHeld ?_
  rotate_left
  · intro u hu
    try dsimp only at hu
    go_simp
    try with_reducible rfl
  try simp only [Act.put, List.setIfInBounds_toArray, List.set_cons_zero, List.set_cons_succ]
  refine UpTo.take 5 [6, 8, 9, 10, 11, 12] (v := ?_) (by (simp only [List.getElem?_toArray, List.getElem?_cons_succ, List.getElem?_cons_zero]; rfl)) (by kernel_rfl) (by kernel_rfl) (by kernel_rfl) (by kernel_rfl) (by exact fun _ _ _ h => h) (Or.inl ⟨by rfl, ?_⟩) hHeld ?_
  rotate_left
  · intro u hu
    try dsimp only at hu
    go_simp
    try with_reducible rfl
  try simp only [Act.put, List.setIfInBounds_toArray, List.set_cons_zero, List.set_cons_succ]
  refine UpTo.take 6 [8, 9, 10, 11, 12] (v := ?_) (by (simp only [List.getElem?_toArray, List.getElem?_cons_succ, List.getElem?_cons_zero]; rfl)) (by kernel_rfl) (by kernel_rfl) (by kernel_rfl) (by kernel_rfl) (by exact fun _ _ _ h => h) (Or.inl ⟨by rfl, ?_⟩) hHeld ?_
  rotate_left
  · intro u hu
    try dsimp only at hu
    go_simp
    try with_reducible rfl
  try simp only [Act.put, List.setIfInBounds_toArray, List.set_cons_zero, List.set_cons_succ]
  refine UpTo.take 7 [8, 9, 10, 11, 12] (v := ?_) (by (simp only [List.getElem?_toArray, List.getElem?_cons_succ, List.getElem?_cons_zero]; rfl)) (by kernel_rfl) (by kernel_rfl) (by kernel_rfl) (by kernel_rfl) (by exact fun _ _ _ h => h) (Or.inl ⟨by rfl, ?_⟩) hHeld ?_
  rotate_left
  · intro u hu
    try dsimp only at hu
    go_simp
    try with_reducible rfl
  try simp only [Act.put, List.setIfInBounds_toArray, List.set_cons_zero, List.set_cons_succ]
  refine UpTo.take 8 [9, 10, 11, 12] (v := ?_) (by (simp only [List.getElem?_toArray, List.getElem?_cons_succ, List.getElem?_cons_zero]; rfl)) (by kernel_rfl) (by kernel_rfl) (by kernel_rfl) (by kernel_rfl) (by exact fun _ _ _ h => h) (Or.inl ⟨by rfl, ?_⟩) hHeld ?_
  rotate_left
  · intro u hu
    try dsimp only at hu
    go_simp
    try with_reducible rfl
  try simp only [Act.put, List.setIfInBounds_toArray, List.set_cons_zero, List.set_cons_succ]
  refine UpTo.take 9 [10, 11, 12] (v := ?_) (by (simp only [List.getElem?_toArray, List.getElem?_cons_succ, List.getElem?_cons_zero]; rfl)) (by kernel_rfl) (by kernel_rfl) (by kernel_rfl) (by kernel_rfl) (by exact fun _ _ _ h => h) (Or.inl ⟨by rfl, ?_⟩) hHeld ?_
  rotate_left
  · intro u hu
    try dsimp only at hu
    go_simp
    try with_reducible rfl
  try simp only [Act.put, List.setIfInBounds_toArray, List.set_cons_zero, List.set_cons_succ]
  refine UpTo.next 10 (by kernel_rfl) (by (simp only [List.getElem?_toArray, List.getElem?_cons_succ, List.getElem?_cons_zero]; rfl)) (fun K hK => ?_)
  rw [if_pos (by rfl)]
  go_simp
  go_at_call 75
  refine (HCan.out wd (K1.trans KD)).mono ?_
  rintro e w2 ⟨hsay, k2⟩
  have K2 := (K1.trans KD).trans k2
  rcases hsay.cases with ⟨rfl, _⟩ | ⟨rfl, hno⟩
  rotate_left
  · exact absurd HCg.out hno
  clear hsay k2
  dsimp only
  refine hK.out _ _ (fun _ => HSO.out _ K2) ?_
  clear hK K hHeld KD K1
  have hHeld := HSO.out _ K2
  try simp only [Act.put, List.setIfInBounds_toArray, List.set_cons_zero, List.set_cons_succ]
  refine UpTo.take 11 [12] (v := ?_) (by (simp only [List.getElem?_toArray, List.getElem?_cons_succ, List.getElem?_cons_zero]; rfl)) (by kernel_rfl) (by kernel_rfl) (by kernel_rfl) (by kernel_rfl) (by exact fun _ _ _ h => h) (Or.inl ⟨by rfl, ?_⟩) hHeld ?_
  rotate_left
  · intro u hu
    try dsimp only at hu
    go_simp
    try with_reducible rfl
  try simp only [Act.put, List.setIfInBounds_toArray, List.set_cons_zero, List.set_cons_succ]
  refine UpTo.next 12 (by kernel_rfl) (by (simp only [List.getElem?_toArray, List.getElem?_cons_succ, List.getElem?_cons_zero]; rfl)) (fun K hK => ?_)
  go_simp
  refine hK.out _ _ (fun h => absurd rfl h) ?_
  clear hK K
  try simp only [Act.put, List.setIfInBounds_toArray, List.set_cons_zero, List.set_cons_succ]
  refine UpTo.done (by kernel_rfl) ?_
  clear hHeld
  go_upto_region 4 with fail
  go_cut [8, 9] from 29 to 39 (fun s8 s9 wx => ∃ nb q xq cq ka kc, s8 = .pointer (some ⟨nb, 0, none⟩) ∧ s9 = .slice ka (nextOf (actsOf webl) (envOf l) r).2.length kc ∧ q = (nextOf (actsOf webl) (envOf l) r).1 ∧ Kept WB wx ∧ WB.heap.size ≤ nb ∧ RBox wx nb q xq cq ∧ Strs wx xq q.texts ∧ (xq = none → cq = 0) ∧ Strs wx ka (nextOf (actsOf webl) (envOf l) r).2)
  case first =>
    refine UpTo.region (by kernel_rfl) (fun w' => w'.cell? ⟨w.heap.size, 0, none⟩ = some (.slice a webl.length cap) ∧ w'.cell? ⟨w.heap.size + 1, 0, none⟩ = some (.slice (some ⟨rb, ro, none⟩) roots.length rc) ∧ w'.cell? ⟨w.heap.size + 1, 1, none⟩ = some (.slice (some ⟨b, o, none⟩) l.length dc) ∧ w'.cell? ⟨b, o + k * 7, none⟩ = some (.string r.name) ∧ w'.cell? ⟨b, o + k * 7 + 1, none⟩ = some (.bool r.over) ∧ w'.cell? ⟨b, o + k * 7 + 2, none⟩ = some (.bool r.fail) ∧ w'.cell? ⟨b, o + k * 7 + 3, none⟩ = some (.string r.text) ∧ w'.cell? ⟨b, o + k * 7 + 4, none⟩ = some (.int .i64 r.at') ∧ w'.cell? ⟨b, o + k * 7 + 5, none⟩ = some (.int .i64 r.visits) ∧ w'.cell? ⟨b, o + k * 7 + 6, none⟩ = some (.slice xa r.texts.length xc)) 13 (HSO.out _ (K2.drew)) (fun hHeld => ?_)
    have KD : Kept w2 w2.drew := (Kept.refl w2).drew
    generalize hwd : w2.drew = wd at hHeld KD ⊢
    clear hwd
    refine UpTo.take 0 [7, 8, 9, 10, 12, 13] (v := ?_) (by (simp only [List.getElem?_toArray, List.getElem?_cons_zero]; rfl)) (by kernel_rfl) (by kernel_rfl) (by kernel_rfl) (by kernel_rfl) (by exact fun _ _ _ h => h) (Or.inl ⟨by rfl, ?_⟩) hHeld ?_
    rotate_left
    · intro u hu
      try dsimp only at hu
      go_simp
      try with_reducible rfl
    try simp only [Act.put, List.setIfInBounds_toArray, List.set_cons_zero, List.set_cons_succ]
    refine UpTo.take 1 [7, 8, 9, 10, 12, 13] (v := ?_) (by (simp only [List.getElem?_toArray, List.getElem?_cons_succ, List.getElem?_cons_zero]; rfl)) (by kernel_rfl) (by kernel_rfl) (by kernel_rfl) (by kernel_rfl) (by exact fun _ _ _ h => h) (Or.inl ⟨by rfl, ?_⟩) hHeld ?_
    rotate_left
    · intro u hu
      try dsimp only at hu
      go_simp
      try with_reducible rfl
    try simp only [Act.put, List.setIfInBounds_toArray, List.set_cons_zero, List.set_cons_succ]
    refine UpTo.take 2 [3, 5, 6, 7, 8, 9, 10, 12, 13] (v := ?_) (by (simp only [List.getElem?_toArray, List.getElem?_cons_succ, List.getElem?_cons_zero]; rfl)) (by kernel_rfl) (by kernel_rfl) (by kernel_rfl) (by kernel_rfl) (by exact fun _ _ _ h => h) (Or.inl ⟨by rfl, ?_⟩) hHeld ?_
    rotate_left
    · intro u hu
      try dsimp only at hu
      go_simp
      try with_reducible rfl
    try simp only [Act.put, List.setIfInBounds_toArray, List.set_cons_zero, List.set_cons_succ]
    refine UpTo.take 3 [5, 6, 7, 8, 9, 10, 12, 13] (v := ?_) (by (simp only [List.getElem?_toArray, List.getElem?_cons_succ, List.getElem?_cons_zero]; rfl)) (by kernel_rfl) (by kernel_rfl) (by kernel_rfl) (by kernel_rfl) (by exact fun _ _ _ h => h) (Or.inl ⟨by rfl, ?_⟩) hHeld ?_
    rotate_left
    · intro u hu
      try dsimp only at hu
      go_simp
      try with_reducible rfl
    try simp only [Act.put, List.setIfInBounds_toArray, List.set_cons_zero, List.set_cons_succ]
    refine UpTo.take 4 [5, 6, 7, 8, 9, 10, 12, 13] (v := ?_) (by (simp only [List.getElem?_toArray, List.getElem?_cons_succ, List.getElem?_cons_zero]; rfl)) (by kernel_rfl) (by kernel_rfl) (by kernel_rfl) (by kernel_rfl) (by exact fun _ _ _ h => h) (Or.inl ⟨by rfl, ?_⟩) hHeld ?_
    rotate_left
    · intro u hu
      try dsimp only at hu
      go_simp
      try with_reducible rfl
    try simp only [Act.put, List.setIfInBounds_toArray, List.set_cons_zero, List.set_cons_succ]
    refine UpTo.take 5 [6, 7, 8, 9, 10, 12, 13] (v := ?_) (by (simp only [List.getElem?_toArray, List.getElem?_cons_succ, List.getElem?_cons_zero]; rfl)) (by kernel_rfl) (by kernel_rfl) (by kernel_rfl) (by kernel_rfl) (by exact fun _ _ _ h => h) (Or.inl ⟨by rfl, ?_⟩) hHeld ?_
    rotate_left
    · intro u hu
      try dsimp only at hu
      go_simp
      try with_reducible rfl
    try simp only [Act.put, List.setIfInBounds_toArray, List.set_cons_zero, List.set_cons_succ]
    refine UpTo.take 6 [7, 8, 9, 10, 12, 13] (v := ?_) (by (simp only [List.getElem?_toArray, List.getElem?_cons_succ, List.getElem?_cons_zero]; rfl)) (by kernel_rfl) (by kernel_rfl) (by kernel_rfl) (by kernel_rfl) (by exact fun _ _ _ h => h) (Or.inl ⟨by rfl, ?_⟩) hHeld ?_
    rotate_left
    · intro u hu
      try dsimp only at hu
      go_simp
      try with_reducible rfl
    try simp only [Act.put, List.setIfInBounds_toArray, List.set_cons_zero, List.set_cons_succ]
    refine UpTo.two 7 11 (by kernel_rfl) (by (simp only [List.getElem?_toArray, List.getElem?_cons_succ, List.getElem?_cons_zero]; rfl)) (by (simp only [List.getElem?_toArray, List.getElem?_cons_succ, List.getElem?_cons_zero]; rfl)) (fun K hK => ?_) (fun K hK => ?_)
    · rw [if_pos (by rfl)]
      go_simp
      go_at_call 87
      refine (HNxt.out wd (K2.trans KD)).mono ?_
      rintro e w3 ⟨⟨xq, cq, ka, kc, rfl, hTq, hXq, hTk⟩, k3⟩
      obtain ⟨q, hq⟩ : ∃ q, q = (nextOf (actsOf webl) (envOf l) r).1 := ⟨_, rfl⟩
      obtain ⟨asks, has⟩ : ∃ asks, asks = (nextOf (actsOf webl) (envOf l) r).2 := ⟨_, rfl⟩
      rw [← hq] at hTq ⊢
      rw [← has] at hTk ⊢
      have HQ := hide hq
      have HA := hide has
      have HTq := hide hTq
      have HTk := hide hTk
      have HXq := hide hXq
      clear hTq hTk hXq hq has
      dsimp only [RunX.cells]
      have K3 := (K2.trans KD).trans k3
      refine hK.out _ _ (fun _ => HSO.out _ K3) ?_
      clear hK K hHeld
      have hHeld := HSO.out _ K3
      try simp only [Act.put, List.setIfInBounds_toArray, List.set_cons_zero, List.set_cons_succ]
      refine UpTo.take 8 [9, 10, 12, 13] (v := ?_) (by (simp only [List.getElem?_toArray, List.getElem?_cons_succ, List.getElem?_cons_zero]; rfl)) (by kernel_rfl) (by kernel_rfl) (by kernel_rfl) (by kernel_rfl) (by exact fun _ _ _ h => h) (Or.inl ⟨by rfl, ?_⟩) hHeld ?_
      rotate_left
      · intro u hu
        try dsimp only at hu
        go_simp
        try with_reducible rfl
      try simp only [Act.put, List.setIfInBounds_toArray, List.set_cons_zero, List.set_cons_succ]
      refine UpTo.take 9 [12, 13] (v := ?_) (by (simp only [List.getElem?_toArray, List.getElem?_cons_succ, List.getElem?_cons_zero]; rfl)) (by kernel_rfl) (by kernel_rfl) (by kernel_rfl) (by kernel_rfl) (by exact fun _ _ _ h => h) (Or.inl ⟨by rfl, ?_⟩) hHeld ?_
      rotate_left
      · intro u hu
        try dsimp only at hu
        go_simp
        try with_reducible rfl
      try simp only [Act.put, List.setIfInBounds_toArray, List.set_cons_zero, List.set_cons_succ]
      refine UpTo.take 10 [13] (v := ?_) (by (simp only [List.getElem?_toArray, List.getElem?_cons_succ, List.getElem?_cons_zero]; rfl)) (by kernel_rfl) (by kernel_rfl) (by kernel_rfl) (by kernel_rfl) (by exact fun _ _ _ h => h) (Or.inl ⟨by rfl, ?_⟩) hHeld ?_
      rotate_left
      · intro u hu
        try dsimp only at hu
        go_simp
        try with_reducible rfl
      try simp only [Act.put, List.setIfInBounds_toArray, List.set_cons_zero, List.set_cons_succ]
      refine UpTo.next 11 (by kernel_rfl) (by (simp only [List.getElem?_toArray, List.getElem?_cons_succ, List.getElem?_cons_zero]; rfl)) (fun K hK => ?_)
      go_simp
      have K4 : Kept w3 (w3.alloc (.cells #[.string ⟨#[]⟩, .bool false, .bool false, .string ⟨#[]⟩, .int .i64 0, .int .i64 0, .slice none 0 0] 72)) := (Kept.refl _).alloc _
      refine hK.out _ _ (fun _ => HSO.out _ (K3.trans K4)) ?_
      clear hK K
      try simp only [Act.put, List.setIfInBounds_toArray, List.set_cons_zero, List.set_cons_succ]
      have hRw : RowT (w3.alloc (.cells #[.string ⟨#[]⟩, .bool false, .bool false, .string ⟨#[]⟩, .int .i64 0, .int .i64 0, .slice none 0 0] 72)) w3.heap.size 72 7 := RowT.made w3 _ _
      have KE := K3.trans K4
      have HTq2 := hide (StrsB.new HTq.out.strs K4)
      have HTk2 := hide (StrsB.new HTk.out.strs K4)
      have nz := K3.size
      obtain ⟨nb, hnb⟩ : ∃ nb, nb = w3.heap.size := ⟨_, rfl⟩
      rw [← hnb] at hRw HTq2 HTk2 nz ⊢
      generalize hwe : w3.alloc (.cells #[.string ⟨#[]⟩, .bool false, .bool false, .string ⟨#[]⟩, .int .i64 0, .int .i64 0, .slice none 0 0] 72) = wE at hRw KE HTq2 HTk2 ⊢
      clear hwe K4 hnb HTq HTk
      obtain ⟨⟨_, v0⟩, f0⟩ := hRw.row.at (i := 0) (by omega)
      obtain ⟨⟨_, v1⟩, f1⟩ := hRw.row.at (i := 1) (by omega)
      obtain ⟨⟨_, v2⟩, f2⟩ := hRw.row.at (i := 2) (by omega)
      obtain ⟨⟨_, v3⟩, f3⟩ := hRw.row.at (i := 3) (by omega)
      obtain ⟨⟨_, v4⟩, f4⟩ := hRw.row.at (i := 4) (by omega)
      obtain ⟨⟨_, v5⟩, f5⟩ := hRw.row.at (i := 5) (by omega)
      obtain ⟨⟨_, v6⟩, f6⟩ := hRw.row.at (i := 6) (by omega)
      have vz := hRw.lt
      refine UpTo.next 12 (by kernel_rfl) (by (simp only [List.getElem?_toArray, List.getElem?_cons_succ, List.getElem?_cons_zero]; rfl)) (fun K hK => ?_)
      go_simp
      refine hK.out _ _ ?_ ?_
      · exact fun _ => HSO.out _ (kept_sets (g := nb) nz [.string q.name, .bool q.over, .bool q.fail, .string q.text, .int .i64 q.at', .int .i64 q.visits, .slice xq q.texts.length cq] 0 KE)
      clear hK K
      try simp only [Act.put, List.setIfInBounds_toArray, List.set_cons_zero, List.set_cons_succ]
      refine UpTo.next 13 (by kernel_rfl) (by (simp only [List.getElem?_toArray, List.getElem?_cons_succ, List.getElem?_cons_zero]; rfl)) (fun K hK => ?_)
      go_simp
      refine hK.out _ _ (fun h => absurd rfl h) ?_
      clear hK K
      try simp only [Act.put, List.setIfInBounds_toArray, List.set_cons_zero, List.set_cons_succ]
      refine UpTo.done (by kernel_rfl) ?_
      go_wp2_with fail
      go_meet
      exact ⟨nb, q, xq, cq, ka, kc, rfl, by rw [HA.out], HQ.out, kept_sets (g := nb) nz [.string q.name, .bool q.over, .bool q.fail, .string q.text, .int .i64 q.at', .int .i64 q.visits, .slice xq q.texts.length cq] 0 KE, nz, RBox.laid hRw, HTq2.out.sets [.string q.name, .bool q.over, .bool q.fail, .string q.text, .int .i64 q.at', .int .i64 q.visits, .slice xq q.texts.length cq] 0, HXq.out, by rw [← HA.out]; exact HTk2.out.sets [.string q.name, .bool q.over, .bool q.fail, .string q.text, .int .i64 q.at', .int .i64 q.visits, .slice xq q.texts.length cq] 0⟩
    · rw [if_pos (by rfl)]
      go_simp
      have K3a : Kept wd (wd.alloc (.cells #[.string ⟨#[]⟩, .bool false, .bool false, .string ⟨#[]⟩, .int .i64 0, .int .i64 0, .slice none 0 0] 72)) := (Kept.refl _).alloc _
      have K3b := (K2.trans KD).trans K3a
      have hRw0 : RowT (wd.alloc (.cells #[.string ⟨#[]⟩, .bool false, .bool false, .string ⟨#[]⟩, .int .i64 0, .int .i64 0, .slice none 0 0] 72)) wd.heap.size 72 7 := RowT.made wd _ _
      have nz := (K2.trans KD).size
      obtain ⟨nb, hnb⟩ : ∃ nb, nb = wd.heap.size := ⟨_, rfl⟩
      rw [← hnb] at hRw0 nz ⊢
      generalize hwe : wd.alloc (.cells #[.string ⟨#[]⟩, .bool false, .bool false, .string ⟨#[]⟩, .int .i64 0, .int .i64 0, .slice none 0 0] 72) = wF at hRw0 K3b ⊢
      clear hwe K3a hnb
      refine hK.out _ _ (fun _ => HSO.out _ K3b) ?_
      clear hK K
      try simp only [Act.put, List.setIfInBounds_toArray, List.set_cons_zero, List.set_cons_succ]
      refine UpTo.next 7 (by kernel_rfl) (by (simp only [List.getElem?_toArray, List.getElem?_cons_succ, List.getElem?_cons_zero]; rfl)) (fun K hK => ?_)
      rw [if_pos (by rfl)]
      go_simp
      go_at_call 87
      refine (HNxt.out wF K3b).mono ?_
      rintro e w3 ⟨⟨xq, cq, ka, kc, rfl, hTq, hXq, hTk⟩, k3⟩
      obtain ⟨q, hq⟩ : ∃ q, q = (nextOf (actsOf webl) (envOf l) r).1 := ⟨_, rfl⟩
      obtain ⟨asks, has⟩ : ∃ asks, asks = (nextOf (actsOf webl) (envOf l) r).2 := ⟨_, rfl⟩
      rw [← hq] at hTq ⊢
      rw [← has] at hTk ⊢
      have HQ := hide hq
      have HA := hide has
      have HTq := hide hTq
      have HTk := hide hTk
      have HXq := hide hXq
      clear hTq hTk hXq hq has
      dsimp only [RunX.cells]
      have K3 := K3b.trans k3
      refine hK.out _ _ (fun _ => HSO.out _ K3) ?_
      clear hK K hHeld
      have hHeld := HSO.out _ K3
      try simp only [Act.put, List.setIfInBounds_toArray, List.set_cons_zero, List.set_cons_succ]
      refine UpTo.take 8 [9, 10, 12, 13] (v := ?_) (by (simp only [List.getElem?_toArray, List.getElem?_cons_succ, List.getElem?_cons_zero]; rfl)) (by kernel_rfl) (by kernel_rfl) (by kernel_rfl) (by kernel_rfl) (by exact fun _ _ _ h => h) (Or.inl ⟨by rfl, ?_⟩) hHeld ?_
      rotate_left
      · intro u hu
        try dsimp only at hu
        go_simp
        try with_reducible rfl
      try simp only [Act.put, List.setIfInBounds_toArray, List.set_cons_zero, List.set_cons_succ]
      refine UpTo.take 9 [12, 13] (v := ?_) (by (simp only [List.getElem?_toArray, List.getElem?_cons_succ, List.getElem?_cons_zero]; rfl)) (by kernel_rfl) (by kernel_rfl) (by kernel_rfl) (by kernel_rfl) (by exact fun _ _ _ h => h) (Or.inl ⟨by rfl, ?_⟩) hHeld ?_
      rotate_left
      · intro u hu
        try dsimp only at hu
        go_simp
        try with_reducible rfl
      try simp only [Act.put, List.setIfInBounds_toArray, List.set_cons_zero, List.set_cons_succ]
      refine UpTo.take 10 [13] (v := ?_) (by (simp only [List.getElem?_toArray, List.getElem?_cons_succ, List.getElem?_cons_zero]; rfl)) (by kernel_rfl) (by kernel_rfl) (by kernel_rfl) (by kernel_rfl) (by exact fun _ _ _ h => h) (Or.inl ⟨by rfl, ?_⟩) hHeld ?_
      rotate_left
      · intro u hu
        try dsimp only at hu
        go_simp
        try with_reducible rfl
      try simp only [Act.put, List.setIfInBounds_toArray, List.set_cons_zero, List.set_cons_succ]
      have hRw := hRw0.kept k3
      have KE := K3
      have hFz := hRw0.lt
      have HTq2 := hide (StrsB.of_A (nb := nb) HTq.out (by omega) (by omega))
      have HTk2 := hide (StrsB.of_A (nb := nb) HTk.out (by omega) (by omega))
      obtain ⟨⟨_, v0⟩, f0⟩ := hRw.row.at (i := 0) (by omega)
      obtain ⟨⟨_, v1⟩, f1⟩ := hRw.row.at (i := 1) (by omega)
      obtain ⟨⟨_, v2⟩, f2⟩ := hRw.row.at (i := 2) (by omega)
      obtain ⟨⟨_, v3⟩, f3⟩ := hRw.row.at (i := 3) (by omega)
      obtain ⟨⟨_, v4⟩, f4⟩ := hRw.row.at (i := 4) (by omega)
      obtain ⟨⟨_, v5⟩, f5⟩ := hRw.row.at (i := 5) (by omega)
      obtain ⟨⟨_, v6⟩, f6⟩ := hRw.row.at (i := 6) (by omega)
      have vz := hRw.lt
      refine UpTo.next 12 (by kernel_rfl) (by (simp only [List.getElem?_toArray, List.getElem?_cons_succ, List.getElem?_cons_zero]; rfl)) (fun K hK => ?_)
      go_simp
      refine hK.out _ _ ?_ ?_
      · exact fun _ => HSO.out _ (kept_sets (g := nb) nz [.string q.name, .bool q.over, .bool q.fail, .string q.text, .int .i64 q.at', .int .i64 q.visits, .slice xq q.texts.length cq] 0 KE)
      clear hK K
      try simp only [Act.put, List.setIfInBounds_toArray, List.set_cons_zero, List.set_cons_succ]
      refine UpTo.next 13 (by kernel_rfl) (by (simp only [List.getElem?_toArray, List.getElem?_cons_succ, List.getElem?_cons_zero]; rfl)) (fun K hK => ?_)
      go_simp
      refine hK.out _ _ (fun h => absurd rfl h) ?_
      clear hK K
      try simp only [Act.put, List.setIfInBounds_toArray, List.set_cons_zero, List.set_cons_succ]
      refine UpTo.done (by kernel_rfl) ?_
      go_wp2_with fail
      go_meet
      exact ⟨nb, q, xq, cq, ka, kc, rfl, by rw [HA.out], HQ.out, kept_sets (g := nb) nz [.string q.name, .bool q.over, .bool q.fail, .string q.text, .int .i64 q.at', .int .i64 q.visits, .slice xq q.texts.length cq] 0 KE, nz, RBox.laid hRw, HTq2.out.sets [.string q.name, .bool q.over, .bool q.fail, .string q.text, .int .i64 q.at', .int .i64 q.visits, .slice xq q.texts.length cq] 0, HXq.out, by rw [← HA.out]; exact HTk2.out.sets [.string q.name, .bool q.over, .bool q.fail, .string q.text, .int .i64 q.at', .int .i64 q.visits, .slice xq q.texts.length cq] 0⟩
  case rest =>
    obtain ⟨nb, q, xq, cq, ka, kc, rfl, rfl, hq, Kx, hnb, hbx, hTq, hXq, hTk⟩ := hcut
    obtain ⟨w4, rfl⟩ : ∃ w4, w4 = wc := ⟨_, rfl⟩
    have hqg : q.Good webl := by rw [hq]; exact nextOf_good hok hge HGr.out HCg.out
    have hal : (nextOf (actsOf webl) (envOf l) r).2.length ≤ 5 := next_asks_len hok hge HGr.out HCg.out
    obtain ⟨asks, has⟩ : ∃ asks, asks = (nextOf (actsOf webl) (envOf l) r).2 := ⟨_, rfl⟩
    rw [← has] at hal hTk ⊢
    have HDo : Hid ((wantL (actsOf webl) (insX l q) asks).foldl insX [] = doL (actsOf webl) l r) := by show _ = _; rw [has, hq]; rfl
    have hqt : q.texts.length ≤ 1000 := by have h1 := hqg.tl; have h2 := hqg.hi; omega
    obtain ⟨g0, g1, g2, g3, g4, g5, g6⟩ := hbx.all
    have gz := hbx.row.lt
    have HTk := hide hTk
    have HQg := hide hqg
    have HPut : Hid (∀ W, Kept w4 W → Calls Tryz.prog 88 #[.slice (some ⟨b, o, none⟩) l.length dc, .agg #[.string q.name, .bool q.over, .bool q.fail, .string q.text, .int .i64 q.at', .int .i64 q.visits, .slice xq q.texts.length cq]] W fun e w' => ∃ v, e = .returned v ∧ RunsO W w' (fun _ => True) v (insX l q) ∧ Kept W w') := fun W hW => xPut_any W (some ⟨b, o, none⟩) dc l q xq cq (by omega) hqt hgl.asc (fun _ => True) (fun _ _ => trivial) ((HS.out.kept (HKB.out.trans (Kx.trans hW))).all) (hTq.kept hW) hXq
    obtain ⟨b0, s0, s1, _⟩ := HSO.out _ Kx
    have z0x := Nat.lt_of_lt_of_le z0 Kx.size
    have z1x := Nat.lt_of_lt_of_le z1 Kx.size
    have HS5 : Hid (∀ w', Kept w4 w' → w'.cell? ⟨w.heap.size, 0, none⟩ = some (.slice a webl.length cap) ∧ w'.cell? ⟨w.heap.size + 1, 1, none⟩ = some (.slice (some ⟨b, o, none⟩) l.length dc) ∧ w'.cell? ⟨nb, 0, none⟩ = some (.string q.name) ∧ w'.cell? ⟨nb, 1, none⟩ = some (.bool q.over) ∧ w'.cell? ⟨nb, 2, none⟩ = some (.bool q.fail) ∧ w'.cell? ⟨nb, 3, none⟩ = some (.string q.text) ∧ w'.cell? ⟨nb, 4, none⟩ = some (.int .i64 q.at') ∧ w'.cell? ⟨nb, 5, none⟩ = some (.int .i64 q.visits) ∧ w'.cell? ⟨nb, 6, none⟩ = some (.slice xq q.texts.length cq)) := fun w' K => ⟨(K.cell z0x).trans b0, (K.cell z1x).trans s1, (K.cell gz).trans g0, (K.cell gz).trans g1, (K.cell gz).trans g2, (K.cell gz).trans g3, (K.cell gz).trans g4, (K.cell gz).trans g5, (K.cell gz).trans g6⟩
    clear hq has hTk hqg hTq hXq hbx g0 g1 g2 g3 g4 g5 g6 b0 s0 s1 HNxt HCan
    go_upto_region 5 with fail
    refine UpTo.region (by kernel_rfl) (fun w' => w'.cell? ⟨w.heap.size, 0, none⟩ = some (.slice a webl.length cap) ∧ w'.cell? ⟨w.heap.size + 1, 1, none⟩ = some (.slice (some ⟨b, o, none⟩) l.length dc) ∧ w'.cell? ⟨nb, 0, none⟩ = some (.string q.name) ∧ w'.cell? ⟨nb, 1, none⟩ = some (.bool q.over) ∧ w'.cell? ⟨nb, 2, none⟩ = some (.bool q.fail) ∧ w'.cell? ⟨nb, 3, none⟩ = some (.string q.text) ∧ w'.cell? ⟨nb, 4, none⟩ = some (.int .i64 q.at') ∧ w'.cell? ⟨nb, 5, none⟩ = some (.int .i64 q.visits) ∧ w'.cell? ⟨nb, 6, none⟩ = some (.slice xq q.texts.length cq)) 7 (HS5.out _ ((Kept.refl w4).drew)) (fun hHeld => ?_)
    have KD : Kept w4 w4.drew := (Kept.refl w4).drew
    generalize hwd : w4.drew = wd at hHeld KD ⊢
    clear hwd
    refine UpTo.take 0 [5, 6, 7] (v := ?_) (by (simp only [List.getElem?_toArray, List.getElem?_cons_zero]; rfl)) (by kernel_rfl) (by kernel_rfl) (by kernel_rfl) (by kernel_rfl) (by exact fun _ _ _ h => h) (Or.inl ⟨by rfl, ?_⟩) hHeld ?_
    rotate_left
    · intro u hu
      try dsimp only at hu
      go_simp
      try with_reducible rfl
    try simp only [Act.put, List.setIfInBounds_toArray, List.set_cons_zero, List.set_cons_succ]
    refine UpTo.take 1 [2, 4, 5, 6, 7] (v := ?_) (by (simp only [List.getElem?_toArray, List.getElem?_cons_succ, List.getElem?_cons_zero]; rfl)) (by kernel_rfl) (by kernel_rfl) (by kernel_rfl) (by kernel_rfl) (by exact fun _ _ _ h => h) (Or.inl ⟨by rfl, ?_⟩) hHeld ?_
    rotate_left
    · intro u hu
      try dsimp only at hu
      go_simp
      try with_reducible rfl
    try simp only [Act.put, List.setIfInBounds_toArray, List.set_cons_zero, List.set_cons_succ]
    refine UpTo.take 2 [4, 5, 6, 7] (v := ?_) (by (simp only [List.getElem?_toArray, List.getElem?_cons_succ, List.getElem?_cons_zero]; rfl)) (by kernel_rfl) (by kernel_rfl) (by kernel_rfl) (by kernel_rfl) (by exact fun _ _ _ h => h) (Or.inl ⟨by rfl, ?_⟩) hHeld ?_
    rotate_left
    · intro u hu
      try dsimp only at hu
      go_simp
      try with_reducible rfl
    try simp only [Act.put, List.setIfInBounds_toArray, List.set_cons_zero, List.set_cons_succ]
    refine UpTo.take 3 [4, 5, 6, 7] (v := ?_) (by (simp only [List.getElem?_toArray, List.getElem?_cons_succ, List.getElem?_cons_zero]; rfl)) (by kernel_rfl) (by kernel_rfl) (by kernel_rfl) (by kernel_rfl) (by exact fun _ _ _ h => h) (Or.inl ⟨by rfl, ?_⟩) hHeld ?_
    rotate_left
    · intro u hu
      try dsimp only at hu
      go_simp
      try with_reducible rfl
    try simp only [Act.put, List.setIfInBounds_toArray, List.set_cons_zero, List.set_cons_succ]
    refine UpTo.next 4 (by kernel_rfl) (by (simp only [List.getElem?_toArray, List.getElem?_cons_succ, List.getElem?_cons_zero]; rfl)) (fun K hK => ?_)
    rw [if_pos (by rfl)]
    go_simp
    go_at_call 88
    refine (HPut.out wd KD).mono ?_
    rintro e w5 ⟨v5, rfl, hO5, k5⟩
    have K5 := KD.trans k5
    obtain ⟨w6, xs6, ky1, ky2, hO6, hP6⟩ := hO5
    obtain ⟨av, cv, rfl⟩ := own_slice hO6
    have HO6 := hide hO6
    have HP6 := hide hP6
    have HN6 := hide (HN.out.kept (HKB.out.trans (Kx.trans (KD.trans ky1))))
    have HT6 := hide (HTk.out.kept (KD.trans ky1))
    have HK6 := hide ky2
    have HK46 := hide (KD.trans ky1)
    have hz6 := ky2.size
    clear hO6 hP6 ky1 ky2
    refine hK.out _ _ (fun _ => HS5.out _ K5) ?_
    clear hK K hHeld
    have hHeld := HS5.out _ K5
    try simp only [Act.put, List.setIfInBounds_toArray, List.set_cons_zero, List.set_cons_succ]
    refine UpTo.take 5 [6, 7] (v := ?_) (by (simp only [List.getElem?_toArray, List.getElem?_cons_succ, List.getElem?_cons_zero]; rfl)) (by kernel_rfl) (by kernel_rfl) (by kernel_rfl) (by kernel_rfl) (by exact fun _ _ _ h => h) (Or.inl ⟨by rfl, ?_⟩) hHeld ?_
    rotate_left
    · intro u hu
      try dsimp only at hu
      go_simp
      try with_reducible rfl
    try simp only [Act.put, List.setIfInBounds_toArray, List.set_cons_zero, List.set_cons_succ]
    refine UpTo.next 6 (by kernel_rfl) (by (simp only [List.getElem?_toArray, List.getElem?_cons_succ, List.getElem?_cons_zero]; rfl)) (fun K hK => ?_)
    go_simp
    have K7a : Kept w5 (w5.alloc (.cells #[.slice a webl.length cap, .slice av (insX l q).length cv] 145)) := (Kept.refl _).alloc _
    have HKn : Hid (KnX w6 (w5.alloc (.cells #[.slice a webl.length cap, .slice av (insX l q).length cv] 145)) w5.heap.size a webl.length cap (insX l q) av cv xs6) := ⟨HK6.out.trans K7a, ⟨RowT.made w5 _ _, range_new w5 #[.slice a webl.length cap, .slice av (insX l q).length cv] 145 0 _ rfl, range_new w5 #[.slice a webl.length cap, .slice av (insX l q).length cv] 145 1 _ rfl⟩, ownsRow_kept' HO6.out K7a, HP6.out⟩
    have K7 := K5.trans K7a
    obtain ⟨kb, hkb⟩ : ∃ kb, kb = w5.heap.size := ⟨_, rfl⟩
    have hkz : w6.heap.size ≤ kb := by omega
    refine hK.out _ _ (fun _ => HS5.out _ K7) ?_
    clear hK K hHeld
    rw [← hkb] at HKn ⊢
    generalize hwe : w5.alloc (.cells #[.slice a webl.length cap, .slice av (insX l q).length cv] 145) = w7 at HKn K7 ⊢
    clear hwe K7a hkb
    try simp only [Act.put, List.setIfInBounds_toArray, List.set_cons_zero, List.set_cons_succ]
    refine UpTo.next 7 (by kernel_rfl) (by (simp only [List.getElem?_toArray, List.getElem?_cons_succ, List.getElem?_cons_zero]; rfl)) (fun K hK => ?_)
    go_simp
    refine hK.out _ _ (fun h => absurd rfl h) ?_
    clear hK K
    try simp only [Act.put, List.setIfInBounds_toArray, List.set_cons_zero, List.set_cons_succ]
    refine UpTo.done (by kernel_rfl) ?_
    go_wp2_with fail
    refine (wantX_any w6 w7 kb hkz a cap webl ka kc asks (insX l q) av cv xs6 hwb (by omega) (by have := ins_len1 l q; omega) HKn.out HN6.out HT6.out).mono ?_
    rintro e w8 ⟨rfl, d8, dc8, xs8, hKn8⟩
    have k8 : Kept w4 w8 := HK46.out.trans hKn8.kw
    have m1 := hKn8.known.runs
    have kz := hKn8.known.row.lt
    have HRz := hide hKn8.runs
    obtain ⟨R, hRR⟩ : ∃ R, R = wantL (actsOf webl) (insX l q) asks := ⟨_, rfl⟩
    have hRl : R.length ≤ 1000 := by have h1 := wantL_len (actsOf webl) asks (insX l q); have h2 := ins_len1 l q; rw [hRR]; omega
    have HRt : Hid (∀ x ∈ R, x.texts.length ≤ 1000) := fun x hx => by
      rw [hRR] at hx
      rcases wantL_mem _ _ _ _ hx with h | ⟨n, rfl⟩
      · rcases insX_mem.1 h with rfl | ⟨h1, _⟩
        · exact hqt
        · have h2 := (hgl.good x h1).tl; have h3 := (hgl.good x h1).hi; omega
      · exact Nat.zero_le _
    have HRD : Hid (R.foldl insX [] = doL (actsOf webl) l r) := by show _ = _; rw [hRR]; exact HDo.out
    rw [← hRR] at HRz m1
    have K8 := Kx.trans k8
    have HSt : Hid (∀ W, Kept w8 W → Calls Tryz.prog 90 #[.slice (some ⟨rb, ro, none⟩) roots.length rc, .slice d8 R.length dc8] W fun e w' => StateX roots (doL (actsOf webl) l r) W w' e) := fun W hW => by
      have h := stateX_any W rb ro rc roots d8 dc8 R hrl (by omega) HRt.out (fun j => by have := take_foldl_len R j; omega) (HRt0.out.kept (HKB.out.trans (K8.trans hW))) (HRz.out.kept hW)
      rw [HRD.out] at h
      exact h
    obtain ⟨_, s0, _⟩ := HSO.out _ K8
    have z18 := Nat.lt_of_lt_of_le z1 K8.size
    have HS7 : Hid (∀ w', Kept w8 w' → w'.cell? ⟨w.heap.size + 1, 0, none⟩ = some (.slice (some ⟨rb, ro, none⟩) roots.length rc) ∧ w'.cell? ⟨kb, 1, none⟩ = some (.slice d8 R.length dc8)) := fun w' K => ⟨(K.cell z18).trans s0, (K.cell kz).trans m1⟩
    have HR8 := hide (HRes.out.kept K8)
    have K08 := HKB.out.trans K8
    clear hKn8 hRR HRz HRD HRt HDo m1 s0 k8 HKn HN6 HT6 HK6 HK46 HO6 HP6 HPut HS5 HSO HRes HN HS HTk HQg
    go_upto_region 7 with fail
    refine UpTo.region (by kernel_rfl) (fun w' => w'.cell? ⟨w.heap.size + 1, 0, none⟩ = some (.slice (some ⟨rb, ro, none⟩) roots.length rc) ∧ w'.cell? ⟨kb, 1, none⟩ = some (.slice d8 R.length dc8)) 7 (HS7.out _ ((Kept.refl w8).drew)) (fun hHeld => ?_)
    have KD : Kept w8 w8.drew := (Kept.refl w8).drew
    generalize hwd : w8.drew = wd at hHeld KD ⊢
    clear hwd
    refine UpTo.take 0 [1, 6, 7] (v := ?_) (by (simp only [List.getElem?_toArray, List.getElem?_cons_zero]; rfl)) (by kernel_rfl) (by kernel_rfl) (by kernel_rfl) (by kernel_rfl) (by exact fun _ _ _ h => h) (Or.inl ⟨by rfl, ?_⟩) hHeld ?_
    rotate_left
    · intro u hu
      try dsimp only at hu
      go_simp
      try with_reducible rfl
    try simp only [Act.put, List.setIfInBounds_toArray, List.set_cons_zero, List.set_cons_succ]
    refine UpTo.take 1 [6, 7] (v := ?_) (by (simp only [List.getElem?_toArray, List.getElem?_cons_succ, List.getElem?_cons_zero]; rfl)) (by kernel_rfl) (by kernel_rfl) (by kernel_rfl) (by kernel_rfl) (by exact fun _ _ _ h => h) (Or.inl ⟨by rfl, ?_⟩) hHeld ?_
    rotate_left
    · intro u hu
      try dsimp only at hu
      go_simp
      try with_reducible rfl
    try simp only [Act.put, List.setIfInBounds_toArray, List.set_cons_zero, List.set_cons_succ]
    refine UpTo.take 2 [3, 4, 5, 6, 7] (v := ?_) (by (simp only [List.getElem?_toArray, List.getElem?_cons_succ, List.getElem?_cons_zero]; rfl)) (by kernel_rfl) (by kernel_rfl) (by kernel_rfl) (by kernel_rfl) (by exact fun _ _ _ h => h) (Or.inl ⟨by rfl, ?_⟩) hHeld ?_
    rotate_left
    · intro u hu
      try dsimp only at hu
      go_simp
      try with_reducible rfl
    try simp only [Act.put, List.setIfInBounds_toArray, List.set_cons_zero, List.set_cons_succ]
    refine UpTo.take 3 [4, 5, 6, 7] (v := ?_) (by (simp only [List.getElem?_toArray, List.getElem?_cons_succ, List.getElem?_cons_zero]; rfl)) (by kernel_rfl) (by kernel_rfl) (by kernel_rfl) (by kernel_rfl) (by exact fun _ _ _ h => h) (Or.inl ⟨by rfl, ?_⟩) hHeld ?_
    rotate_left
    · intro u hu
      try dsimp only at hu
      go_simp
      try with_reducible rfl
    try simp only [Act.put, List.setIfInBounds_toArray, List.set_cons_zero, List.set_cons_succ]
    refine UpTo.take 4 [5, 6, 7] (v := ?_) (by (simp only [List.getElem?_toArray, List.getElem?_cons_succ, List.getElem?_cons_zero]; rfl)) (by kernel_rfl) (by kernel_rfl) (by kernel_rfl) (by kernel_rfl) (by exact fun _ _ _ h => h) (Or.inl ⟨by rfl, ?_⟩) hHeld ?_
    rotate_left
    · intro u hu
      try dsimp only at hu
      go_simp
      try with_reducible rfl
    try simp only [Act.put, List.setIfInBounds_toArray, List.set_cons_zero, List.set_cons_succ]
    refine UpTo.take 5 [6, 7] (v := ?_) (by (simp only [List.getElem?_toArray, List.getElem?_cons_succ, List.getElem?_cons_zero]; rfl)) (by kernel_rfl) (by kernel_rfl) (by kernel_rfl) (by kernel_rfl) (by exact fun _ _ _ h => h) (Or.inl ⟨by rfl, ?_⟩) hHeld ?_
    rotate_left
    · intro u hu
      try dsimp only at hu
      go_simp
      try with_reducible rfl
    try simp only [Act.put, List.setIfInBounds_toArray, List.set_cons_zero, List.set_cons_succ]
    refine UpTo.next 6 (by kernel_rfl) (by (simp only [List.getElem?_toArray, List.getElem?_cons_succ, List.getElem?_cons_zero]; rfl)) (fun K hK => ?_)
    rw [if_pos (by rfl)]
    go_simp
    go_at_call 90
    refine (HSt.out wd KD).mono ?_
    rintro e w9 ⟨ra, rc9, d9, dc9, xs9, rfl, hT9, hO9, hP9, k9⟩
    obtain ⟨T, hTT⟩ : ∃ T, T = doL (actsOf webl) l r := ⟨_, rfl⟩
    rw [← hTT] at hO9 hP9 ⊢
    have HTT := hide hTT
    have K9 := KD.trans k9
    have z9 := K9.size
    have zd := KD.size
    have HT9 := hide hT9
    have HO9 := hide hO9
    have HP9 := hide hP9
    have HR9 := hide (HR8.out.kept K9)
    obtain ⟨⟨_, x0⟩, f0⟩ := HR9.out.row.at (i := 0) (by omega)
    obtain ⟨⟨_, x1⟩, f1⟩ := HR9.out.row.at (i := 1) (by omega)
    have hrz := HR8.out.lt
    have hrz9 := HR9.out.lt
    clear hT9 hO9 hP9 hTT
    refine hK.out _ _ (fun _ => HS7.out _ K9) ?_
    clear hK K hHeld
    try simp only [Act.put, List.setIfInBounds_toArray, List.set_cons_zero, List.set_cons_succ]
    refine UpTo.next 7 (by kernel_rfl) (by (simp only [List.getElem?_toArray, List.getElem?_cons_succ, List.getElem?_cons_zero]; rfl)) (fun K hK => ?_)
    go_simp
    refine hK.out _ _ (fun h => absurd rfl h) ?_
    clear hK K
    try simp only [Act.put, List.setIfInBounds_toArray, List.set_cons_zero, List.set_cons_succ]
    refine UpTo.done (by kernel_rfl) ?_
    go_wp2_with fail
    have hRg := World.rangeAt_setCells_same w9 (w.heap.size + 1 + 1) 0 [.slice ra roots.length rc9, .slice d9 T.length dc9] (HR9.out.row.there (o := 0) (m := 2) (Nat.le_refl _))
    have hO := owns_set (owns_set HO9.out (p := ⟨w.heap.size + 1 + 1, 0, none⟩) (by show w.heap.size + 1 + 1 < _; omega) (.slice ra roots.length rc9)) (p := ⟨w.heap.size + 1 + 1, 1, none⟩) (by show w.heap.size + 1 + 1 < _; omega) (.slice d9 T.length dc9)
    have hT := owns_set (owns_set HT9.out (p := ⟨w.heap.size + 1 + 1, 0, none⟩) (by show w.heap.size + 1 + 1 < _; omega) (.slice ra roots.length rc9)) (p := ⟨w.heap.size + 1 + 1, 1, none⟩) (by show w.heap.size + 1 + 1 < _; omega) (.slice d9 T.length dc9)
    have hP := (HP9.out.set (c := w.heap.size + 1 + 1) (p := 0) (fun b h => by omega) (.slice ra roots.length rc9)).set (c := w.heap.size + 1 + 1) (p := 1) (fun b h => by omega) (.slice d9 T.length dc9)
    obtain rfl := HTT.out
    exact bodyPost_ret_cell [.slice ra roots.length rc9, .slice d9 (doL (actsOf webl) l r).length dc9] _ Tryz.results56 rfl hRg Tryz.underlying38 rfl Tryz.xSizeState rfl ⟨ra, rc9, d9, dc9, xs9, rfl, owns_base hT (by omega), owns_base hO (by omega), packedX_weak hP (fun b h => by omega), kept_sets (g := w.heap.size + 1 + 1) (by omega) [.slice ra roots.length rc9, .slice d9 (doL (actsOf webl) l r).length dc9] 0 (K08.trans K9)⟩

end Go.Proofs.YtghipdfemoofhaaGreatDoor

namespace Go.Proofs.YtghipdfemoofhaaGreatDoor
open Go.RowKit

def PackedY (w : World) (P : Nat → Prop) (xs : List Value) (l : List RunX) : Prop := xs.length = l.length * 7 ∧ ∀ i, i < l.length → ∃ xa xc, (xs.drop (i * 7)).take 7 = (l.getD i RunX.zero).cells xa xc ∧ TStrs w 9 xa (l.getD i RunX.zero).texts ∧ (xa = none → xc = 0) ∧ (∀ ad : Addr, xa = some ad → P ad.block)
theorem PackedY.nil (w : World) (P : Nat → Prop) : PackedY w P [] [] := ⟨rfl, fun i hi => by simp at hi⟩
theorem PackedY.same {w w' : World} {P : Nat → Prop} {xs : List Value} {l : List RunX} {u : TypeId} (h : PackedY w P xs l) (k : SameKind u w w') (hu : 9 ≠ u) : PackedY w' P xs l := ⟨h.1, fun i hi => by obtain ⟨xa, xc, e, hs, hx⟩ := h.2 i hi; exact ⟨xa, xc, e, hs.same k hu, hx⟩⟩
theorem PackedY.kept {w w' : World} {P : Nat → Prop} {xs : List Value} {l : List RunX} (h : PackedY w P xs l) (k : Kept w w') : PackedY w' P xs l := h.same (u := 72) (SameKind.of_kept k) (by decide)
theorem PackedY.plain {w : World} {P : Nat → Prop} {xs : List Value} {l : List RunX} (h : PackedY w P xs l) : PackedX w P xs l := ⟨h.1, fun i hi => by obtain ⟨xa, xc, e, hs, hx⟩ := h.2 i hi; exact ⟨xa, xc, e, hs.strs, hx⟩⟩
theorem PackedY.snoc {w : World} {P : Nat → Prop} {xs : List Value} {l : List RunX} {r : RunX} {xa : Option Addr} {xc : Nat} (h : PackedY w P xs l) (hs : TStrs w 9 xa r.texts) (hx : xa = none → xc = 0) (hp : ∀ ad : Addr, xa = some ad → P ad.block) : PackedY w P (xs ++ r.cells xa xc) (l ++ [r]) := by
  refine ⟨by simp [h.1, RunX.cells]; omega, fun i hi => ?_⟩
  rw [List.length_append] at hi
  simp only [List.length_cons, List.length_nil] at hi
  by_cases e : i < l.length
  · have e1 : (l ++ [r]).getD i RunX.zero = l.getD i RunX.zero := by simp [List.getD, List.getElem?_append_left e]
    have e2 : ((xs ++ r.cells xa xc).drop (i * 7)).take 7 = (xs.drop (i * 7)).take 7 := by
      rw [List.drop_append_of_le_length (by rw [h.1]; omega), List.take_append_of_le_length (by rw [List.length_drop, h.1]; omega)]
    rw [e1, e2]
    exact h.2 i e
  · obtain rfl : i = l.length := by omega
    have e1 : (l ++ [r]).getD l.length RunX.zero = r := by simp [List.getD]
    have e2 : ((xs ++ r.cells xa xc).drop (l.length * 7)).take 7 = r.cells xa xc := by
      rw [← h.1, List.drop_left]
      rfl
    rw [e1, e2]
    exact ⟨xa, xc, rfl, hs, hx, hp⟩
structure CpX (W1 wr : World) (sb : Nat) (ra : Option Addr) (n rc : Nat) (d : Option Addr) (t : List RunX) (dc : Nat) (xs : List Value) : Prop where
  kb : KeptBut sb (sb + 1) W1 wr
  row : RowT wr sb 38 2
  roots : wr.cell? ⟨sb, 0, none⟩ = some (.slice ra n rc)
  runs : wr.cell? ⟨sb, 1, none⟩ = some (.slice d t.length dc)
  own : wr.ownsRow W1.heap.size 72 7 (.slice d t.length dc) t.length xs
  pack : PackedY wr (fun b => sb < b) xs t
theorem CpX.kept {W1 wr w' : World} {sb n rc dc : Nat} {ra d : Option Addr} {t : List RunX} {xs : List Value} (h : CpX W1 wr sb ra n rc d t dc xs) (k : Kept wr w') : CpX W1 w' sb ra n rc d t dc xs :=
  ⟨h.kb.trans (KeptBut.of_kept k), h.row.kept k, (k.cell h.row.lt).trans h.roots, (k.cell h.row.lt).trans h.runs, ownsRow_kept' h.own k, h.pack.kept k⟩
theorem cp_ne {w : World} {sb base n : Nat} {v : Value} {xs : List Value} (hr : RowT w sb 38 2) (h : w.ownsRow base 72 7 v n xs) : some sb ≠ v.ownBlock := by
  rcases h.2 with ⟨rfl, _⟩ | ⟨g, cap, cur, rfl, _, hg, _⟩
  · intro e; cases e
  · intro e
    simp only [Value.ownBlock, Option.some.injEq] at e
    subst e
    obtain ⟨c2, h2, _⟩ := hr
    rw [hg] at h2
    simp only [Option.some.injEq, Obj.cells.injEq] at h2
    exact absurd h2.2.1 (by decide)
theorem CpX.next {W1 wr W w6 : World} {sb n rc dc cv : Nat} {ra d av : Option Addr} {t : List RunX} {xs : List Value} {y : RunX} {xa : Option Addr} {xc : Nat} (h : CpX W1 wr sb ra n rc d t dc xs) (hsb : sb < W1.heap.size) (KW : Kept wr W) (hgr : W.grownBy w6 (Value.slice d t.length dc).ownBlock)
    (hO6 : w6.ownsRow W1.heap.size 72 7 (.slice av (t.length + 1) cv) (t.length + 1) (xs ++ y.cells xa xc)) (hs : TStrs W 9 xa y.texts) (hx : xa = none → xc = 0) (hp : ∀ ad : Addr, xa = some ad → sb < ad.block) :
    CpX W1 (w6.setCell ⟨sb, 1, none⟩ (.slice av (t.length + 1) cv)) sb ra n rc av (t ++ [y]) cv (xs ++ y.cells xa xc) := by
  have hW := h.kept KW
  have hb : w6.heap[sb]? = W.heap[sb]? := hgr.block sb hW.row.lt (cp_ne hW.row hW.own)
  have hl : (t ++ [y]).length = t.length + 1 := by simp
  have hr6 := hW.row.block hb
  have sk := (SameKind.of_grown hW.own hgr)
  refine ⟨?_, hr6.set _, ?_, ?_, ?_, ?_⟩
  · refine KeptBut.setCell ⟨hgr.os.trans hW.kb.os, hgr.tape.trans hW.kb.tape, hgr.output.trans hW.kb.output, Nat.le_trans hW.kb.size hgr.size, fun b hb' hn => (hgr.block b (Nat.lt_of_lt_of_le hb' hW.kb.size) (fun e => ?_)).trans (hW.kb.block b hb' hn)⟩ (Nat.le_refl _) (Nat.lt_succ_self _) _
    have := (hW.own.lt b e.symm).1
    omega
  · rw [set_miss (by omega), World.cell?_of_block (w := W) hb]; exact hW.roots
  · rw [hl]; exact set_hit hr6.row (by omega) _
  · rw [hl]; exact owns_set hO6 hsb _
  · exact ((hW.pack.same sk (by decide)).snoc (hs.same sk (by decide)) hx hp).same (hr6.same (o := 1) _) (by decide)

end Go.Proofs.YtghipdfemoofhaaGreatDoor
