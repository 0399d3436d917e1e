import Derived.Test.YtjhemildijapmaaGreatDoorKXPut
import Derived.Test.YtjhemildijapmaaGreatDoorKOOrder
import Derived.Deep.RegionLaw
import Derived.Test.YtjhemildijapmaaGreatDoorKXWant
import Derived.Test.YtjhemildijapmaaGreatDoorKVAppr
import Derived.Test.YtjhemildijapmaaGreatDoorKSRoots
import Derived.Test.YtjhemildijapmaaGreatDoorKOPack
import Derived.Test.YtjhemildijapmaaGreatDoorKXNext
import Derived.Test.YtjhemildijapmaaGreatDoorKXPut0
import Derived.Maps.Own
import Derived.Maps.OwnSet
import Derived.Maps.Views
import Derived.Test.YtjhemildijapmaaGreatDoorKXSame3
namespace Go.Proofs.YtjhemildijapmaaGreatDoor
open Go.RowKit
theorem Tryz.xSizeState : (Tryz.prog.info? 33).map (·.size) = some 2 := by kernel_rfl
theorem PackedX.set {w : World} {P : Nat → Prop} {xs : List Value} {l : List RunX} {c p : Nat} (h : PackedX w P xs l) (hc : ∀ b, P b → b ≠ c) (u : Value) : PackedX (w.setCell ⟨c, p, none⟩ u) P xs l := by
  refine ⟨h.1, fun i hi => ?_⟩
  obtain ⟨xa, xc, e, hs, hx, hp⟩ := h.2 i hi
  refine ⟨xa, xc, e, (fun j hj => ?_), hx, hp⟩
  obtain ⟨b, o, rfl, hb, hcl⟩ := hs j hj
  exact ⟨b, o, rfl, by rw [size_setCell]; exact hb, by rw [cell_set_ne (hc b (hp _ rfl))]; exact hcl⟩
theorem owns_but {w w' : World} {base size sb m n : Nat} {e t : TypeId} {v : Value} {xs : List Value} (h : w.ownsRow base e size v n xs) (k : KeptBut sb (sb + 1) w w') (hr : RowT w sb t m) (ht : t ≠ e) : w'.ownsRow base e size v n xs := by
  refine ⟨h.1, ?_⟩
  rcases h.2 with h2 | ⟨g, cap, cur, rfl, hb, hg, rest⟩
  · exact .inl h2
  · refine .inr ⟨g, cap, cur, rfl, hb, ?_, rest⟩
    have hne : g ≠ sb := by
      rintro rfl
      obtain ⟨c2, h2, _⟩ := hr
      rw [hg] at h2
      simp only [Option.some.injEq, Obj.cells.injEq] at h2
      exact ht h2.2.1.symm
    rw [k.block g (heap_lt hg) (by omega)]
    exact hg
theorem owned_strs {w : World} {base : Nat} {t : TypeId} {v : Value} {n : Nat} {l : List ByteArray} (h : w.ownsRow base t 1 v n (l.map Value.string)) : ∃ a cap, v = .slice a l.length cap ∧ Strs w a l := by
  have hn : n = l.length := by have := h.1; simp at this; omega
  subst hn
  rcases h.2 with ⟨rfl, h0⟩ | ⟨g, cap, cur, rfl, hb, hg, hnc, _, _, _⟩
  · exact ⟨none, 0, by rw [h0], fun i hi => by omega⟩
  · refine ⟨_, cap, rfl, fun i hi => ⟨g, 0, rfl, heap_lt hg, ?_⟩⟩
    have := h.cells (g := g) rfl i (.string (l.getD i ByteArray.empty)) (by simp [List.getD, hi])
    rw [Addr.add_mid] at this
    exact this
structure StX (W1 wr : World) (sb : Nat) (ra : Option Addr) (n rc : Nat) (d : Option Addr) (t : List RunX) (dc : Nat) (xs : List Value) : Prop where
  kb : KeptBut sb (sb + 1) W1 wr
  row : RowT wr sb 33 2
  roots : wr.cell? ⟨sb, 0, none⟩ = some (.slice ra n rc)
  runs : wr.cell? ⟨sb, 1, none⟩ = some (.slice d t.length dc)
  own : wr.ownsRow W1.heap.size 59 7 (.slice d t.length dc) t.length xs
  pack : PackedX wr (fun b => sb < b) xs t
def StateX (roots : List ByteArray) (T : List RunX) (w w' : World) (e : Ending) : Prop :=
  ∃ ra rc d dc xs, e = .returned (.agg #[.slice ra roots.length rc, .slice d T.length dc]) ∧ w'.ownsRow w.heap.size 9 1 (.slice ra roots.length rc) roots.length (roots.map Value.string) ∧ w'.ownsRow w.heap.size 59 7 (.slice d T.length dc) T.length xs ∧ PackedX w' (fun b => w.heap.size ≤ b) xs T ∧ Kept w w'
theorem foldl_asc : ∀ (l t : List RunX), AscX t → AscX (l.foldl insX t)
  | [], _, h => h
  | x :: l, t, h => foldl_asc l (insX t x) (insX_asc h)
set_option maxRecDepth 100000 in
set_option maxHeartbeats 12800000 in
theorem stateX_any (w : World) (rb ro rc : Nat) (roots : List ByteArray) (a : Option Addr) (cap : Nat) (R : List RunX) (hrl : roots.length ≤ 10) (hRl : R.length ≤ 10000) (hTt : ∀ r ∈ R, r.texts.length ≤ 1000) (hfl : ∀ k, ((R.take k).foldl insX []).length ≤ 10000) (hR : Strs w (some ⟨rb, ro, none⟩) roots) (hS : RunsX w a R) :
    Calls Tryz.prog 48 #[.slice (some ⟨rb, ro, none⟩) roots.length rc, .slice a R.length cap] w fun e w' => StateX roots (R.foldl insX []) w w' e := by
  obtain ⟨is, hi, hz0, hz1, hz2⟩ := xInfo_parts Tryz.xInfoStr
  obtain ⟨W0, hW0⟩ : ∃ W0, W0 = w.alloc (.cells #[.slice none 0 0, .slice none 0 0] 33) := ⟨_, rfl⟩
  have KW0 : Kept w W0 := by rw [hW0]; exact (Kept.refl _).alloc _
  have hres0 : RowT W0 w.heap.size 33 2 := by rw [hW0]; exact RowT.made w #[.slice none 0 0, .slice none 0 0] 33
  have hW0s : w.heap.size + 1 ≤ W0.heap.size := hres0.lt
  have HRes0 := hide hres0
  have HKE : Hid (Kept W0 (W0.alloc (.cells #[] 9))) := (Kept.refl _).alloc _
  have HO0 : Hid ((W0.alloc (.cells #[] 9)).ownsRow W0.heap.size 9 1 (.slice (some ⟨W0.heap.size, 0, none⟩) 0 0) 0 (([] : List ByteArray).map Value.string)) := World.ownsRow_made W0 #[] 0 (Nat.le_refl _) (Nat.zero_le _) rfl
  have HNews : Hid (∀ j u, (roots.map Value.string)[j]? = some u → (W0.alloc (.cells #[] 9)).cell? ((⟨rb, ro, none⟩ : Addr).add j) = some u) := fun j u hu => by
    have hj : j < roots.length := by have := (List.getElem?_eq_some_iff.1 hu).1; simpa using this
    obtain ⟨b, o, e, hb, hc⟩ := (hR.kept (KW0.trans HKE.out)) j hj
    simp only [Option.some.injEq] at e
    rw [e, Addr.add_mid, hc]
    simp [hj] at hu
    simp [List.getD, hj, hu]
  have HOnes : Hid (∀ u ∈ roots.map Value.string, u.oneCell' = true) := fun u hu => by obtain ⟨x, _, rfl⟩ := List.mem_map.1 hu; rfl
  have hbs : W0.heap.size ≤ (W0.alloc (.cells #[] 9)).heap.size := HKE.out.size
  clear hres0
  go_enter Tryz.func48, Tryz.ntmps48
  go_upto_region 1 with fail
  rw [← hW0]
  clear hW0
  go_wp2_with (at_builtin; refine wpList_append_own _ rfl (.tmp 7) (.tmp 8) 25 rfl W0.heap.size 9 is _ 1 16 Tryz.underlying25 hi hz0 hz1 hz2 rfl (by decide) (.slice (some ⟨W0.heap.size, 0, none⟩) 0 0) 0 [] rfl HO0.out ⟨rb, ro, none⟩ roots.length rc (roots.map Value.string) rfl (by simp) HNews.out HOnes.out (by unfold maxLen; omega) (by omega) hbs ?_; intro v6 w6 hown6 hgr6 _; have kw6 : Kept W0 w6 := kept_of_grown HKE.out (Nat.le_refl _) HO0.out hgr6; rw [Nat.zero_add, List.nil_append] at hown6; obtain ⟨ra, rc6, rfl⟩ := own_slice hown6; have HT6 := hide hown6; clear hown6 hgr6)
  obtain ⟨W1, hW1⟩ : ∃ W1, W1 = w6.alloc (.cells #[.slice ra roots.length rc6, .slice none 0 0] 33) := ⟨_, rfl⟩
  obtain ⟨sb, hsb⟩ : ∃ sb, sb = w6.heap.size := ⟨_, rfl⟩
  have KE1 : Kept w6 W1 := by rw [hW1]; exact (Kept.refl _).alloc _
  have HSr : Hid (RowT W1 sb 33 2) := by rw [hW1, hsb]; exact RowT.made w6 #[.slice ra roots.length rc6, .slice none 0 0] 33
  have hcs : W1.rangeAt sb 0 [.slice ra roots.length rc6, .slice none 0 0] := by rw [hW1, hsb]; exact range_new w6 #[.slice ra roots.length rc6, .slice none 0 0] 33
  have HCs := hide hcs
  have HRes := hide (HRes0.out.kept (kw6.trans KE1))
  have HT7 := hide (ownsRow_kept' HT6.out KE1)
  have K1 : Kept w W1 := (KW0.trans kw6).trans KE1
  have hz6 := kw6.size
  have hs1 : sb + 1 ≤ W1.heap.size := HSr.out.lt
  have hs0 : w.heap.size < sb := by omega
  rw [← hW1, ← hsb]
  clear hcs HT6 HO0 HNews HRes0 hW1 hsb HOnes hbs HKE KE1 kw6 hz6 KW0
  go_loopw [6] (fun i wr => ∃ (k : Nat) (d : Option Addr) (dc : Nat) (xs : List Value), k ≤ R.length ∧ i = .int .i64 k ∧ StX W1 wr sb ra roots.length rc6 d ((R.take k).foldl insX []) dc xs) (fun i _ => R.length - (intOf i).toNat)
  case atStart =>
    have hc := HCs.out
    exact ⟨0, none, 0, [], Nat.zero_le _, rfl, ⟨KeptBut.refl _ _ _, HSr.out, hc 0 _ rfl, hc 1 _ rfl, World.ownsRow_nil _ _ _ _, PackedX.nil _ _⟩⟩
  case round =>
    obtain ⟨k, d, dc, xs, hk, rfl, hSt⟩ := hrel
    have hfk := hfl k
    by_cases hlt : k < R.length
    · have Kr : Kept w wr := hSt.kb.kept K1 (by omega)
      obtain ⟨b, o, xa, ca, rfl, hb, hc, hTk, hXk⟩ := hS.kept Kr k hlt
      obtain ⟨t, ht⟩ : ∃ t, t = (R.take k).foldl insX [] := ⟨_, rfl⟩
      obtain ⟨y, hy⟩ : ∃ y, y = R.getD k RunX.zero := ⟨_, rfl⟩
      have HSc : Hid ((R.take (k + 1)).foldl insX [] = insX t y) := by show _ = _; rw [List.take_succ_eq_append_getElem hlt, List.foldl_append, ht, hy]; simp [List.getD, hlt]
      have hTr : AscX t := by rw [ht]; exact foldl_asc _ _ List.Pairwise.nil
      have hyt : y.texts.length ≤ 1000 := by rw [hy]; simp only [List.getD, hlt, List.getElem?_eq_getElem, Option.getD_some]; exact hTt _ (List.getElem_mem hlt)
      rw [← ht] at hSt hfk
      rw [← hy] at hc hTk
      have HSt := hide hSt
      have zr := hSt.kb.size
      have HRt : Hid (RunsXP wr (fun b => sb < b) d t) := by
        obtain ⟨_, a9, c9, ev, h⟩ := PackedX.runs hSt.own hSt.pack (Kept.refl _)
        simp only [Value.slice.injEq, true_and] at ev
        rw [ev.1]
        exact h
      have HPut : Hid (∀ W, Kept wr W → Calls Tryz.prog 46 #[.slice d t.length dc, .agg #[.string y.name, .bool y.over, .bool y.fail, .string y.text, .int .i64 y.at', .int .i64 y.visits, .slice xa y.texts.length ca]] W fun e w' => ∃ v, e = .returned v ∧ RunsO W w' (fun b => sb < b) v (insX t y) ∧ Kept W w') := fun W hW => xPut_any W d dc t y xa ca (by omega) hyt hTr (fun b => sb < b) (fun b hb => by have := hW.size; omega) (HRt.out.kept hW) (hTk.kept hW) hXk
      have c0 : wr.cell? ⟨b, o + k * 7 + 0, none⟩ = some (.string y.name) := hc 0 _ rfl
      have c1 : wr.cell? ⟨b, o + k * 7 + 1, none⟩ = some (.bool y.over) := hc 1 _ rfl
      have c2 : wr.cell? ⟨b, o + k * 7 + 2, none⟩ = some (.bool y.fail) := hc 2 _ rfl
      have c3 : wr.cell? ⟨b, o + k * 7 + 3, none⟩ = some (.string y.text) := hc 3 _ rfl
      have c4 : wr.cell? ⟨b, o + k * 7 + 4, none⟩ = some (.int .i64 y.at') := hc 4 _ rfl
      have c5 : wr.cell? ⟨b, o + k * 7 + 5, none⟩ = some (.int .i64 y.visits) := hc 5 _ rfl
      have c6 : wr.cell? ⟨b, o + k * 7 + 6, none⟩ = some (.slice xa y.texts.length ca) := hc 6 _ rfl
      rw [Nat.add_zero] at c0
      have m1 := hSt.runs
      have hsb := hSt.row.lt
      clear hc hy ht hTr hSt hTk hXk
      have i0 : (k : Int) < (R.length : Int) := by omega
      have HSO : Hid (∀ w', Kept wr w' → (fun w' => w'.cell? ⟨sb, 1, none⟩ = some (.slice d t.length dc) ∧ w'.cell? ⟨b, o + k * 7, none⟩ = some (.string y.name) ∧ w'.cell? ⟨b, o + k * 7 + 1, none⟩ = some (.bool y.over) ∧ w'.cell? ⟨b, o + k * 7 + 2, none⟩ = some (.bool y.fail) ∧ w'.cell? ⟨b, o + k * 7 + 3, none⟩ = some (.string y.text) ∧ w'.cell? ⟨b, o + k * 7 + 4, none⟩ = some (.int .i64 y.at') ∧ w'.cell? ⟨b, o + k * 7 + 5, none⟩ = some (.int .i64 y.visits) ∧ w'.cell? ⟨b, o + k * 7 + 6, none⟩ = some (.slice xa y.texts.length ca)) w') := fun w' kk => ⟨(kk.cell hsb).trans m1, (kk.cell hb).trans c0, (kk.cell hb).trans c1, (kk.cell hb).trans c2, (kk.cell hb).trans c3, (kk.cell hb).trans c4, (kk.cell hb).trans c5, (kk.cell hb).trans c6⟩
      go_wp2
      refine UpTo.region (by kernel_rfl) (fun w' => w'.cell? ⟨sb, 1, none⟩ = some (.slice d t.length dc) ∧ w'.cell? ⟨b, o + k * 7, none⟩ = some (.string y.name) ∧ w'.cell? ⟨b, o + k * 7 + 1, none⟩ = some (.bool y.over) ∧ w'.cell? ⟨b, o + k * 7 + 2, none⟩ = some (.bool y.fail) ∧ w'.cell? ⟨b, o + k * 7 + 3, none⟩ = some (.string y.text) ∧ w'.cell? ⟨b, o + k * 7 + 4, none⟩ = some (.int .i64 y.at') ∧ w'.cell? ⟨b, o + k * 7 + 5, none⟩ = some (.int .i64 y.visits) ∧ w'.cell? ⟨b, o + k * 7 + 6, none⟩ = some (.slice xa y.texts.length ca)) 8 ⟨m1, c0, c1, c2, c3, c4, c5, c6⟩ (fun hHeld => ?_)
      refine UpTo.tk 0 hHeld ?_
      refine UpTo.tk 1 hHeld ?_
      refine UpTo.tk 2 hHeld ?_
      refine UpTo.tk 3 hHeld ?_
      refine UpTo.tk 4 hHeld ?_
      refine UpTo.tk 5 hHeld ?_
      refine UpTo.nx 6 (fun K hK => ?_)
      rw [if_pos (by rfl)]
      go_simp
      go_at_call 46
      refine (HPut.out _ (by repeat (first | (with_reducible exact Kept.refl _) | (with_reducible assumption) | apply Kept.drew))).mono ?_
      rintro e w2 ⟨v2, rfl, hO2, kk2⟩
      have k2 : Kept wr w2 := Kept.trans (by repeat (first | (with_reducible exact Kept.refl _) | (with_reducible assumption) | apply Kept.drew)) kk2
      have z2 := k2.size
      obtain ⟨wy, xs2, ky1, ky2, hO3, hP3⟩ := hO2
      have zy := ky1.size
      have hwy : W1.heap.size ≤ wy.heap.size := Nat.le_trans zr (Nat.le_trans (Nat.le_of_eq (by rfl)) zy)
      have hO2' := owns_base (base' := W1.heap.size) hO3 hwy
      obtain ⟨d2, dc2, rfl⟩ := own_slice hO3
      have HO2 := hide hO2'
      have HP2 := hide (hP3.kept ky2)
      have hr2 := HSt.out.row.kept k2
      obtain ⟨⟨_, fo2⟩, fo1⟩ := hr2.row.at (i := 1) (by omega)
      have HRw := hide hr2
      clear hO2' hO3 hP3 hr2 ky1 ky2 zy hwy
      dsimp only
      refine hK.out _ _ (fun _ => HSO.out w2 k2) ?_
      clear hK K hHeld
      have hHeld := HSO.out w2 k2
      try simp only [Act.put, upA, upB, upC]
      refine UpTo.tk 7 hHeld ?_
      refine UpTo.nx 8 (fun K hK => ?_)
      go_simp
      refine hK.out _ _ (fun h => absurd rfl h) ?_
      clear hK K
      try simp only [Act.put, upA, upB, upC]
      refine UpTo.dn ?_
      go_wp2
      go_roundw
      case rel => exact ⟨k + 1, d2, dc2, xs2, by omega, by go_num, by rw [HSc.out]; exact ⟨(HSt.out.kb.trans (KeptBut.of_kept k2)).setCell (Nat.le_refl _) (Nat.lt_succ_self _) _, HRw.out.set _, by rw [set_miss (by omega), k2.cell HSt.out.row.lt]; exact HSt.out.roots, set_hit HRw.out.row (by omega) _, owns_set (p := ⟨sb, 1, none⟩) HO2.out hs1 _, HP2.out.set (fun b h => by omega) _⟩⟩
      case measure => simp [intOf]; omega
    · have hkl : k = R.length := by omega
      subst hkl
      rw [List.take_length] at hSt hfk
      obtain ⟨t, ht⟩ : ∃ t, t = R.foldl insX [] := ⟨_, rfl⟩
      rw [← ht] at hSt hfk
      have m0 := hSt.roots
      have m1 := hSt.runs
      have hrs := HRes.out.block (hSt.kb.block _ HRes.out.lt (by omega))
      obtain ⟨⟨_, t0⟩, f0⟩ := hrs.row.at (i := 0) (by omega)
      obtain ⟨⟨_, t1⟩, f1⟩ := hrs.row.at (i := 1) (by omega)
      have HRs := hide hrs
      have HSt := hide hSt
      have hsb := hSt.row.lt
      have hwb := hrs.lt
      clear hrs hSt
      go_wp2
      have hR9 := World.rangeAt_setCells_same wr w.heap.size 0 [.slice ra roots.length rc6, .slice d t.length dc] (HRs.out.row.there (o := 0) (m := 2) (Nat.le_refl _))
      have hO := owns_set (owns_set HSt.out.own (p := ⟨w.heap.size, 0, none⟩) (by show w.heap.size < _; omega) (.slice ra roots.length rc6)) (p := ⟨w.heap.size, 1, none⟩) (by show w.heap.size < _; omega) (.slice d t.length dc)
      have hT8 := owns_but HT7.out HSt.out.kb HSr.out (by decide)
      have hT9 := owns_set (owns_set hT8 (p := ⟨w.heap.size, 0, none⟩) (by show w.heap.size < _; omega) (.slice ra roots.length rc6)) (p := ⟨w.heap.size, 1, none⟩) (by show w.heap.size < _; omega) (.slice d t.length dc)
      have hP9 := (HSt.out.pack.set (c := w.heap.size) (p := 0) (fun b h => by omega) (.slice ra roots.length rc6)).set (c := w.heap.size) (p := 1) (fun b h => by omega) (.slice d t.length dc)
      subst ht
      refine bodyPost_ret_cell [.slice ra roots.length rc6, .slice d (R.foldl insX []).length dc] _ Tryz.results48 rfl hR9 Tryz.underlying33 rfl Tryz.xSizeState rfl ⟨ra, rc6, d, dc, xs, rfl, owns_base hT9 (by omega), owns_base hO (by omega), ⟨hP9.1, fun i hi => by obtain ⟨xa, xc, e, h1, h2, h3⟩ := hP9.2 i hi; exact ⟨xa, xc, e, h1, h2, fun ad e => by have := h3 ad e; omega⟩⟩, ?_⟩
      exact ((HSt.out.kb.kept K1 (by omega)).setCell (Nat.le_refl _) _).setCell (Nat.le_refl _) _
theorem xBoxCell {w wi : World} {x : Value} {t : TypeId} (K : Kept (w.alloc (.cells #[x] t)) wi) : wi.cell? ⟨w.heap.size, 0, none⟩ = some x :=
  (K.cell (by simp)).trans (range_new w #[x] t 0 _ rfl)
theorem xRowAlloc {X w' : World} {c : Array Value} {t : TypeId} (k : Kept (X.alloc (.cells c t)) w') : RowT w' X.heap.size t c.size := (RowT.made X c t).kept k
theorem filter_two {α : Type} (p q : α → Bool) (h : ∀ x, ¬ (p x = true ∧ q x = true)) : ∀ l : List α, (l.filter p).length + (l.filter q).length ≤ l.length
  | [] => Nat.le_refl _
  | x :: l => by
    have ih := filter_two p q h l
    have hx := h x
    simp only [List.filter_cons]
    by_cases h1 : p x = true
    · have h2 : ¬ q x = true := fun h2 => hx ⟨h1, h2⟩
      rw [if_pos h1, if_neg h2, List.length_cons, List.length_cons]
      omega
    · rw [if_neg h1]
      by_cases h2 : q x = true
      · rw [if_pos h2, List.length_cons, List.length_cons]; omega
      · rw [if_neg h2, List.length_cons]; omega
theorem ins_len1 (l : List RunX) (r : RunX) : (insX l r).length ≤ l.length + 1 := by
  unfold insX
  rw [List.length_append, List.length_cons]
  have := filter_two (fun x : RunX => Op.bytesLess x.name.toList r.name.toList) (fun x : RunX => Op.bytesLess r.name.toList x.name.toList) (fun x h => lessX_asymm h.1 h.2) l
  omega
theorem foldl_len : ∀ (l t : List RunX), (l.foldl insX t).length ≤ t.length + l.length
  | [], _ => Nat.le_refl _
  | x :: l, t => by
    have h1 := foldl_len l (insX t x)
    have h2 := ins_len1 t x
    show (l.foldl insX (insX t x)).length ≤ _
    rw [List.length_cons]
    omega
theorem take_foldl_len (R : List RunX) (k : Nat) : ((R.take k).foldl insX []).length ≤ R.length := by
  have h1 := foldl_len (R.take k) []
  have h2 : (R.take k).length ≤ R.length := by rw [List.length_take]; omega
  simp only [List.length_nil] at h1
  omega
theorem wantL_mem (W : Acts) : ∀ (bs : List ByteArray) (l : List RunX) (x : RunX), x ∈ wantL W l bs → x ∈ l ∨ ∃ n, x = RunX.fresh n
  | [], _, _, h => .inl h
  | a :: bs, l, x, h => by
    rcases wantL_mem W bs _ x h with h1 | h1
    · by_cases hc : (W a).isSome = true ∧ (envOf l a).isNone = true
      · rw [if_pos hc] at h1
        rcases List.mem_append.1 h1 with h2 | h2
        · exact .inl h2
        · rw [List.mem_singleton] at h2
          exact .inr ⟨a, h2⟩
      · rw [if_neg hc] at h1
        exact .inl h1
    · exact .inr h1
theorem packedX_weak {w : World} {P Q : Nat → Prop} {xs : List Value} {l : List RunX} (h : PackedX w P xs l) (hq : ∀ b, P b → Q b) : PackedX w Q xs l :=
  ⟨h.1, fun i hi => by obtain ⟨xa, xc, e, h1, h2, h3⟩ := h.2 i hi; exact ⟨xa, xc, e, h1, h2, fun ad e => hq _ (h3 ad e)⟩⟩
set_option maxRecDepth 100000 in
set_option maxHeartbeats 1600000 in
theorem startX_any (w : World) (a : Option Addr) (cap : Nat) (webl : List NodeD) (rb ro rc : Nat) (roots : List ByteArray) (hl : webl.length ≤ 1048576) (hf : ∀ s ∈ webl, s.Fits) (hw : WebCode webl 0) (hro : RootsOk roots) (hrs : ∀ s ∈ roots, s.size ≤ maxLen) (hS : Nodes w a webl) (hR : Strs w (some ⟨rb, ro, none⟩) roots) :
    Calls Tryz.prog 40 #[.agg #[.slice a webl.length cap], .slice (some ⟨rb, ro, none⟩) roots.length rc] w fun e w' => StateX roots (startL webl roots) w w' e := by
  have hl' : webl.length ≤ maxLen := by unfold maxLen; omega
  have hrl : roots.length ≤ maxLen := by have := hro.1; have := hro.2.1; unfold maxLen; omega
  go_enter Tryz.func40, Tryz.ntmps40
  go_wp2_with fail
  refine (specCheckWeb_any _ a cap webl hl' hf (hS.kept (by repeat (first | apply Kept.alloc | exact Kept.refl _)))).mono ?_
  rintro e w1 ⟨⟨c, rfl, hc⟩, k1⟩
  have K1 : Kept w w1 := Kept.trans (by repeat (first | apply Kept.alloc | exact Kept.refl _)) k1
  have z1 := k1.size
  simp only [World.size_alloc] at z1
  have q0 := xBoxCell (w := w) (Kept.trans ((Kept.refl _).alloc _) k1)
  have hrow1 := xRowAlloc k1
  simp only [World.size_alloc] at hrow1
  have HR1 : Hid (RowT w1 (w.heap.size + 1) 33 2) := hrow1
  obtain ⟨⟨_, x0⟩, g0⟩ := HR1.out.row.at (i := 0) (by omega)
  obtain ⟨⟨_, x1⟩, g1⟩ := HR1.out.row.at (i := 1) (by omega)
  have hc0 : c = 0 := hc.unique hw
  clear hrow1 hc k1
  have hw1 : w.heap.size < w1.heap.size := by omega
  have hw2 : w.heap.size + 1 < w1.heap.size := by omega
  subst hc0
  go_wp2_with fail
  refine (l3RootsOk_any _ (some ⟨rb, ro, none⟩) rc roots hrl hrs (hR.kept K1)).mono ?_
  rintro e w2 ⟨hsay, k2⟩
  have q2 := (k2.cell (o := 0) hw1).trans q0
  have HR2 := hide (HR1.out.kept k2)
  have K2 := K1.trans k2
  have z2 := k2.size
  obtain ⟨⟨_, y0⟩, e0⟩ := HR2.out.row.at (i := 0) (by omega)
  obtain ⟨⟨_, y1⟩, e1⟩ := HR2.out.row.at (i := 1) (by omega)
  clear q0 x0 x1 g0 g1 HR1 K1 k2
  rcases hsay.cases with ⟨rfl, hyes⟩ | ⟨rfl, hno⟩
  · have HY := hide hyes
    clear hyes hsay
    have hv1 : w.heap.size < w2.heap.size := by omega
    have HKn0 : Hid (KnX w2 (w2.alloc (.cells #[.slice a webl.length cap, .slice none 0 0] 91)) w2.heap.size a webl.length cap [] none 0 []) := ⟨(Kept.refl _).alloc _, ⟨RowT.made w2 _ _, range_new w2 #[.slice a webl.length cap, .slice none 0 0] 91 0 _ rfl, range_new w2 #[.slice a webl.length cap, .slice none 0 0] 91 1 _ rfl⟩, World.ownsRow_nil _ _ _ _, PackedX.nil _ _⟩
    go_wp2_with fail
    refine (wantX_any w2 _ w2.heap.size (Nat.le_refl _) a cap webl (some ⟨rb, ro, none⟩) rc roots [] none 0 [] hl (by have := HY.out.2.1; omega) (by simp) HKn0.out (hS.kept K2) (hR.kept K2)).mono ?_
    rintro e w3 ⟨rfl, d, dc, xs, hKn⟩
    have k3 : Kept w2 w3 := hKn.kw
    have K3 := K2.trans k3
    have z3 := k3.size
    have m1 := hKn.known.runs
    have hkb := hKn.known.row.lt
    have HRz := hide hKn.runs
    have HR3 := hide (HR2.out.kept k3)
    obtain ⟨R, hRR⟩ : ∃ R, R = wantL (actsOf webl) [] roots := ⟨_, rfl⟩
    have hRl : R.length ≤ 10 := by have := wantL_len (actsOf webl) roots []; have := HY.out.2.1; rw [hRR]; simp at *; omega
    have hRt : ∀ r ∈ R, r.texts.length ≤ 1000 := fun r hr => by
      rw [hRR] at hr
      rcases wantL_mem _ _ _ _ hr with h | ⟨n, rfl⟩
      · cases h
      · exact Nat.zero_le _
    have HRR : Hid (R.foldl insX [] = startL webl roots) := by show _ = _; rw [hRR]; rfl
    rw [← hRR] at HRz m1
    have HRt := hide hRt
    clear hKn y0 y1 e0 e1 HR2 q2 hRR hRt
    go_wp2_with fail
    refine (stateX_any _ rb ro rc roots d dc R (by have := HY.out.2.1; omega) (by omega) HRt.out (fun k => by have := take_foldl_len R k; omega) (hR.kept K3) HRz.out).mono ?_
    rintro e w4 hEnd
    rw [HRR.out] at hEnd
    obtain ⟨ra, rc4, d4, dc4, xs4, rfl, hT4, hO4, hP4, k4⟩ := hEnd
    have K4 := K3.trans k4
    have HR4 := hide (HR3.out.kept k4)
    have z4 := k4.size
    obtain ⟨⟨_, t0⟩, f0⟩ := HR4.out.row.at (i := 0) (by omega)
    obtain ⟨⟨_, t1⟩, f1⟩ := HR4.out.row.at (i := 1) (by omega)
    have HT4 := hide hT4
    have HO4 := hide hO4
    have HP4 := hide hP4
    obtain ⟨T, hTT⟩ : ∃ T, T = startL webl roots := ⟨_, rfl⟩
    rw [← hTT] at HO4 HP4 ⊢
    have HTT := hide hTT
    clear hT4 hO4 hP4 HR3 m1 hTT HRR
    go_wp2
    have hR9 := World.rangeAt_setCells_same w4 (w.heap.size + 1) 0 [.slice ra roots.length rc4, .slice d4 T.length dc4] (HR4.out.row.there (o := 0) (m := 2) (Nat.le_refl _))
    have hO := owns_set (owns_set HO4.out (p := ⟨w.heap.size + 1, 0, none⟩) (by simp; omega) (.slice ra roots.length rc4)) (p := ⟨w.heap.size + 1, 1, none⟩) (by simp; omega) (.slice d4 T.length dc4)
    have hT9 := owns_set (owns_set HT4.out (p := ⟨w.heap.size + 1, 0, none⟩) (by simp; omega) (.slice ra roots.length rc4)) (p := ⟨w.heap.size + 1, 1, none⟩) (by simp; omega) (.slice d4 T.length dc4)
    have hP9 := (HP4.out.set (c := w.heap.size + 1) (p := 0) (fun b h => by omega) (.slice ra roots.length rc4)).set (c := w.heap.size + 1) (p := 1) (fun b h => by omega) (.slice d4 T.length dc4)
    obtain rfl := HTT.out
    exact bodyPost_ret_cell [.slice ra roots.length rc4, .slice d4 (startL webl roots).length dc4] _ Tryz.results40 rfl hR9 Tryz.underlying33 rfl Tryz.xSizeState rfl ⟨ra, rc4, d4, dc4, xs4, rfl, owns_base hT9 (by omega), owns_base hO (by omega), packedX_weak hP9 (fun b h => by omega), (K4.setCell (by simp) _).setCell (by simp) _⟩
  · exact absurd hro hno
def StrsB (w : World) (nb : Nat) (a : Option Addr) (l : List ByteArray) : Prop := ∀ i, i < l.length → ∃ b o, a = some ⟨b, o, none⟩ ∧ b < w.heap.size ∧ b ≠ nb ∧ w.cell? ⟨b, o + i, none⟩ = some (.string (l.getD i ByteArray.empty))
theorem StrsB.new {w w' : World} {a : Option Addr} {l : List ByteArray} (h : Strs w a l) (k : Kept w w') : StrsB w' w.heap.size a l := fun i hi => by
  obtain ⟨b, o, e, hb, hc⟩ := h i hi
  exact ⟨b, o, e, Nat.lt_of_lt_of_le hb k.size, by omega, (k.cell hb).trans hc⟩
theorem StrsB.of_A {n0 c nb : Nat} {w : World} {a : Option Addr} {l : List ByteArray} (h : StrsA n0 w c a l) (h1 : n0 ≤ nb) (h2 : nb < c + 2) : StrsB w nb a l := fun i hi => by
  obtain ⟨b, o, e, hb, h3, hc⟩ := h i hi
  exact ⟨b, o, e, hb, by omega, hc⟩
theorem StrsB.sets' {nb : Nat} {a : Option Addr} {l : List ByteArray} : ∀ (vs : List Value) (p : Nat) {w : World}, StrsB w nb a l → StrsB (w.setCells nb p vs) nb a l
  | [], _, _, h => h
  | v :: r, p, w, h => by
    rw [World.setCells]
    refine StrsB.sets' r (p + 1) fun i hi => ?_
    obtain ⟨b, o, e, hb, h1, hc⟩ := h i hi
    exact ⟨b, o, e, by rw [size_setCell]; exact hb, h1, by rw [cell_set_ne h1]; exact hc⟩
theorem StrsB.sets {nb : Nat} {a : Option Addr} {l : List ByteArray} {w : World} (h : StrsB w nb a l) (vs : List Value) (p : Nat) : Strs (w.setCells nb p vs) a l := fun i hi => by
  obtain ⟨b, o, e, hb, _, hc⟩ := StrsB.sets' vs p h i hi
  exact ⟨b, o, e, hb, hc⟩
theorem RowT.sets {b n : Nat} {t : TypeId} : ∀ (vs : List Value) (p : Nat) {w : World}, RowT w b t n → RowT (w.setCells b p vs) b t n
  | [], _, _, h => h
  | v :: r, p, _, h => by rw [World.setCells]; exact RowT.sets r (p + 1) (h.set v)
theorem RBox.laid {w : World} {nb : Nat} (h : RowT w nb 59 7) {q : RunX} {xq : Option Addr} {cq : Nat} : RBox (w.setCells nb 0 (q.cells xq cq)) nb q xq cq :=
  ⟨RowT.sets _ _ h, World.rangeAt_setCells_same w nb 0 (q.cells xq cq) (h.row.there (o := 0) (m := 7) (Nat.le_refl _))⟩
theorem next_asks {W : Acts} {σ : Env} {r : RunX} : (nextOf W σ r).2 = [] ∨ ∃ A, W r.name = some A ∧ (nextOf W σ r).2 = (stepOf A (nextOf W σ r).1.at').asks := by
  unfold nextOf
  cases hA : W r.name with
  | none => exact .inl rfl
  | some A =>
    simp only
    by_cases h0 : r.visits = 0
    · rw [if_pos h0]
      refine .inr ⟨A, rfl, ?_⟩
      unfold arrive
      split <;> rfl
    · rw [if_neg h0]
      cases answersOf W σ (stepOf A r.at').asks with
      | none => exact .inl rfl
      | some xs =>
        simp only
        by_cases h20 : r.visits = 20
        · rw [if_pos h20]; exact .inl rfl
        · rw [if_neg h20]
          by_cases hg : (goOnF (stepOf A r.at') xs).over = true
          · rw [if_pos hg]; exact .inl rfl
          · rw [if_neg hg]
            refine .inr ⟨A, rfl, ?_⟩
            unfold arrive
            split <;> rfl
theorem next_asks_len {webl : List NodeD} {σ : Env} {r : RunX} (hok : ActsOk (actsOf webl)) (hg : GoodEnv webl σ) (h : r.Good webl) (hc : CanGo (actsOf webl) σ r) : (nextOf (actsOf webl) σ r).2.length ≤ 5 := by
  rcases next_asks (W := actsOf webl) (σ := σ) (r := r) with e | ⟨A, hA, e⟩
  · rw [e]; exact Nat.zero_le _
  · obtain ⟨A', hA', h0, h1⟩ := (nextOf_good hok hg h hc).act
    rw [nextOf_name] at hA'
    rw [hA] at hA'
    cases hA'
    rw [e]
    exact (asks_ok (hok _ _ hA).1 h0 h1).1
set_option maxRecDepth 100000 in
set_option maxHeartbeats 12800000 in
theorem doX_any (w : World) (a : Option Addr) (cap : Nat) (webl : List NodeD) (rb ro rc : Nat) (roots : List ByteArray) (d : Option Addr) (dc : Nat) (l : List RunX) (name : ByteArray) (r : RunX) (hwl : webl.length ≤ 1000) (hlw : l.length ≤ 900) (hsz : SmallAsks webl) (hok : ActsOk (actsOf webl)) (hft : ∀ y ∈ webl, y.Fits) (hrl : roots.length ≤ 10)
    (hgl : GoodL webl l) (hr : envOf l name = some r) (hcg : CanGo (actsOf webl) (envOf l) r) (hN : Nodes w a webl) (hS : RunsX w d l) (hR : Strs w (some ⟨rb, ro, none⟩) roots) :
    Calls Tryz.prog 20 #[.agg #[.slice a webl.length cap], .agg #[.slice (some ⟨rb, ro, none⟩) roots.length rc, .slice d l.length dc], .string name] w fun e w' => StateX roots (doL (actsOf webl) l r) w w' e := by
  obtain ⟨k, hk, hke⟩ : ∃ k, k < l.length ∧ l.getD k RunX.zero = r := by
    obtain ⟨k, h1, h2⟩ := List.getElem_of_mem (env_mem hr).1
    exact ⟨k, h1, by simp only [List.getD, List.getElem?_eq_getElem h1, Option.getD_some, h2]⟩
  have hgr := hgl.good r (env_mem hr).1
  have hge := hgl.env
  have hll : l.length ≤ 1048576 := by omega
  have hwb : webl.length ≤ 1048576 := by omega
  obtain ⟨b, o, xa, xc, rfl, hb0, hcs, hTx, hXn⟩ := hS k hk
  rw [hke] at hcs hTx
  have HXn := hide hXn
  clear hXn
  obtain ⟨WB, hWB⟩ : ∃ WB, WB = ((w.alloc (.cells #[.slice a webl.length cap] 37)).alloc (.cells #[.slice (some ⟨rb, ro, none⟩) roots.length rc, .slice (some ⟨b, o, none⟩) l.length dc] 33)).alloc (.cells #[.slice none 0 0, .slice none 0 0] 33) := ⟨_, rfl⟩
  have kB : Kept w WB := by rw [hWB]; exact (((Kept.refl _).alloc _).alloc _).alloc _
  have hBs : WB.heap.size = w.heap.size + 3 := by rw [hWB]; simp
  have b0 : WB.cell? ⟨w.heap.size, 0, none⟩ = some (.slice a webl.length cap) := by rw [hWB, Kept.cell (w := w.alloc (.cells #[.slice a webl.length cap] 37)) (((Kept.refl _).alloc _).alloc _) (by simp)]; exact range_new w _ _ 0 _ rfl
  have s0 : WB.cell? ⟨w.heap.size + 1, 0, none⟩ = some (.slice (some ⟨rb, ro, none⟩) roots.length rc) := by have := range_new (w.alloc (.cells #[.slice a webl.length cap] 37)) #[.slice (some ⟨rb, ro, none⟩) roots.length rc, .slice (some ⟨b, o, none⟩) l.length dc] 33 0 _ rfl; rw [World.size_alloc] at this; rw [hWB, Kept.cell (w := (w.alloc (.cells #[.slice a webl.length cap] 37)).alloc (.cells #[.slice (some ⟨rb, ro, none⟩) roots.length rc, .slice (some ⟨b, o, none⟩) l.length dc] 33)) ((Kept.refl _).alloc _) (by simp)]; exact this
  have s1 : WB.cell? ⟨w.heap.size + 1, 1, none⟩ = some (.slice (some ⟨b, o, none⟩) l.length dc) := by have := range_new (w.alloc (.cells #[.slice a webl.length cap] 37)) #[.slice (some ⟨rb, ro, none⟩) roots.length rc, .slice (some ⟨b, o, none⟩) l.length dc] 33 1 _ rfl; rw [World.size_alloc] at this; rw [hWB, Kept.cell (w := (w.alloc (.cells #[.slice a webl.length cap] 37)).alloc (.cells #[.slice (some ⟨rb, ro, none⟩) roots.length rc, .slice (some ⟨b, o, none⟩) l.length dc] 33)) ((Kept.refl _).alloc _) (by simp)]; exact this
  have HRes : Hid (RowT WB (w.heap.size + 1 + 1) 33 2) := by
    have h1 := RowT.made ((w.alloc (.cells #[.slice a webl.length cap] 37)).alloc (.cells #[.slice (some ⟨rb, ro, none⟩) roots.length rc, .slice (some ⟨b, o, none⟩) l.length dc] 33)) #[.slice none 0 0, .slice none 0 0] 33
    simp only [World.size_alloc] at h1
    rw [hWB]
    exact h1
  have z0 : w.heap.size < WB.heap.size := by omega
  have z1 : w.heap.size + 1 < WB.heap.size := by omega
  have hbB : b < WB.heap.size := Nat.lt_of_lt_of_le hb0 kB.size
  have t0 : WB.cell? ⟨b, o + k * 7, none⟩ = some (.string r.name) := (kB.cell hb0).trans (hcs 0 _ rfl)
  have t1 : WB.cell? ⟨b, o + k * 7 + 1, none⟩ = some (.bool r.over) := (kB.cell hb0).trans (hcs 1 _ rfl)
  have t2 : WB.cell? ⟨b, o + k * 7 + 2, none⟩ = some (.bool r.fail) := (kB.cell hb0).trans (hcs 2 _ rfl)
  have t3 : WB.cell? ⟨b, o + k * 7 + 3, none⟩ = some (.string r.text) := (kB.cell hb0).trans (hcs 3 _ rfl)
  have t4 : WB.cell? ⟨b, o + k * 7 + 4, none⟩ = some (.int .i64 r.at') := (kB.cell hb0).trans (hcs 4 _ rfl)
  have t5 : WB.cell? ⟨b, o + k * 7 + 5, none⟩ = some (.int .i64 r.visits) := (kB.cell hb0).trans (hcs 5 _ rfl)
  have t6 : WB.cell? ⟨b, o + k * 7 + 6, none⟩ = some (.slice xa r.texts.length xc) := (kB.cell hb0).trans (hcs 6 _ rfl)
  have HSO : Hid (∀ w', Kept WB w' → w'.cell? ⟨w.heap.size, 0, none⟩ = some (.slice a webl.length cap) ∧ w'.cell? ⟨w.heap.size + 1, 0, none⟩ = some (.slice (some ⟨rb, ro, none⟩) roots.length rc) ∧ w'.cell? ⟨w.heap.size + 1, 1, none⟩ = some (.slice (some ⟨b, o, none⟩) l.length dc) ∧ w'.cell? ⟨b, o + k * 7, none⟩ = some (.string r.name) ∧ w'.cell? ⟨b, o + k * 7 + 1, none⟩ = some (.bool r.over) ∧ w'.cell? ⟨b, o + k * 7 + 2, none⟩ = some (.bool r.fail) ∧ w'.cell? ⟨b, o + k * 7 + 3, none⟩ = some (.string r.text) ∧ w'.cell? ⟨b, o + k * 7 + 4, none⟩ = some (.int .i64 r.at') ∧ w'.cell? ⟨b, o + k * 7 + 5, none⟩ = some (.int .i64 r.visits) ∧ w'.cell? ⟨b, o + k * 7 + 6, none⟩ = some (.slice xa r.texts.length xc)) := fun w' K => ⟨(K.cell z0).trans b0, (K.cell z1).trans s0, (K.cell z1).trans s1, (K.cell hbB).trans t0, (K.cell hbB).trans t1, (K.cell hbB).trans t2, (K.cell hbB).trans t3, (K.cell hbB).trans t4, (K.cell hbB).trans t5, (K.cell hbB).trans t6⟩
  have HCan : Hid (∀ W, Kept WB W → Calls Tryz.prog 44 #[.agg #[.slice a webl.length cap], .agg #[.slice (some ⟨rb, ro, none⟩) roots.length rc, .slice (some ⟨b, o, none⟩) l.length dc], .agg #[.string r.name, .bool r.over, .bool r.fail, .string r.text, .int .i64 r.at', .int .i64 r.visits, .slice xa r.texts.length xc]] W fun e w' => Says e (CanGo (actsOf webl) (envOf l) r) ∧ Kept W w') := fun W K => canGo_any W a cap webl (some ⟨rb, ro, none⟩) roots.length rc (some ⟨b, o, none⟩) dc l r xa xc hwb hll hsz (fun _ _ => hgr.act) (hN.kept (kB.trans K)) (hS.kept (kB.trans K))
  have HNxt : Hid (∀ W, Kept WB W → Calls Tryz.prog 45 #[.agg #[.slice a webl.length cap], .agg #[.slice (some ⟨rb, ro, none⟩) roots.length rc, .slice (some ⟨b, o, none⟩) l.length dc], .agg #[.string r.name, .bool r.over, .bool r.fail, .string r.text, .int .i64 r.at', .int .i64 r.visits, .slice xa r.texts.length xc]] W fun e w' => NextSaid w.heap.size (W.heap.size + 2) (actsOf webl) (envOf l) r w' e ∧ Kept W w') := fun W K => next_old w W (kB.trans K) a cap webl (some ⟨rb, ro, none⟩) roots.length rc (some ⟨b, o, none⟩) dc l r xa xc hwb hll hsz hok hft hgr hge hcg hN (hS.kept (kB.trans K)) hTx HXn.out
  have HKB := hide kB
  have HN := hide hN
  have HS := hide hS
  have HRt0 := hide hR
  have HCg := hide hcg
  have HGr := hide hgr
  have HEr := hide hr
  have HKe := hide hke
  clear hr hke
  clear kB hBs hcs hN hS hR hcg hTx t0 t1 t2 t3 t4 t5 t6 b0 s0 s1
  go_enter Tryz.func20, Tryz.ntmps20
  go_upto_region 1 with fail
  rw [← hWB]
  clear hWB
  obtain ⟨b0, s0, s1, _⟩ := HSO.out _ (Kept.refl _)
  go_wp2_with fail
  refine (l4At_place _ (some ⟨rb, ro, none⟩) roots.length rc (some ⟨b, o, none⟩) dc l name hll (HS.out.kept HKB.out)).mono ?_
  rintro e w1 ⟨⟨q1, rfl, hq1⟩, K1⟩
  obtain rfl : q1 = (k : Int) := by
    rcases hq1 with ⟨j, hj, e1, h1, h2⟩ | ⟨_, h1⟩
    · rw [e1]
      have e2 : l.getD j RunX.zero = l.getD k RunX.zero := by rw [HEr.out] at h1; rw [← Option.some.inj h1, HKe.out]
      simp only [List.getD, List.getElem?_eq_getElem hj, List.getElem?_eq_getElem hk, Option.getD_some] at e2
      have e3 := congrArg RunX.name e2
      have hasc := List.pairwise_iff_getElem.1 hgl.asc
      rcases Nat.lt_trichotomy j k with h | h | h
      · exact absurd e3 (lessX_ne (hasc j k hj hk h))
      · rw [h]
      · exact absurd e3.symm (lessX_ne (hasc k j hk hj h))
    · rw [HEr.out] at h1; cases h1
  clear hq1 b0 s0 s1
  have hk0 : ¬ (k : Int) < 0 := by omega
  have hkl : (k : Int) < (l.length : Int) := by omega
  go_upto_region 2 with fail
  refine UpTo.rk 12 HSO.out (K1.drew) (fun hHeld => ?_)
  have KD : Kept w1 w1.drew := (Kept.refl w1).drew
  generalize hwd : w1.drew = wd at hHeld KD ⊢
  clear hwd
  refine UpTo.tk 0 hHeld ?_
  refine UpTo.tk 1 hHeld ?_
  refine UpTo.tk 2 hHeld ?_
  refine UpTo.tk 3 hHeld ?_
  refine UpTo.tk 4 hHeld ?_
  refine UpTo.tk 5 hHeld ?_
  refine UpTo.tk 6 hHeld ?_
  refine UpTo.tk 7 hHeld ?_
  refine UpTo.tk 8 hHeld ?_
  refine UpTo.tk 9 hHeld ?_
  refine UpTo.nx 10 (fun K hK => ?_)
  rw [if_pos (by rfl)]
  go_simp
  go_at_call 44
  refine (HCan.out wd (K1.trans KD)).mono ?_
  rintro e w2 ⟨hsay, k2⟩
  have K2 := (K1.trans KD).trans k2
  rcases hsay.cases with ⟨rfl, _⟩ | ⟨rfl, hno⟩
  rotate_left
  · exact absurd HCg.out hno
  clear hsay k2
  dsimp only
  refine hK.out _ _ (fun _ => HSO.out _ K2) ?_
  clear hK K hHeld KD K1
  have hHeld := HSO.out _ K2
  try simp only [Act.put, upA, upB, upC]
  refine UpTo.tk 11 hHeld ?_
  refine UpTo.nx 12 (fun K hK => ?_)
  go_simp
  refine hK.out _ _ (fun h => absurd rfl h) ?_
  clear hK K
  try simp only [Act.put, upA, upB, upC]
  refine UpTo.dn ?_
  clear hHeld
  go_upto_region 4 with fail
  go_cut [8, 9] from 29 to 39 (fun s8 s9 wx => ∃ nb q xq cq ka kc, s8 = .pointer (some ⟨nb, 0, none⟩) ∧ s9 = .slice ka (nextOf (actsOf webl) (envOf l) r).2.length kc ∧ q = (nextOf (actsOf webl) (envOf l) r).1 ∧ Kept WB wx ∧ WB.heap.size ≤ nb ∧ RBox wx nb q xq cq ∧ Strs wx xq q.texts ∧ (xq = none → cq = 0) ∧ Strs wx ka (nextOf (actsOf webl) (envOf l) r).2)
  case first =>
    refine UpTo.rk 13 HSO.out (K2.drew) (fun hHeld => ?_)
    have KD : Kept w2 w2.drew := (Kept.refl w2).drew
    generalize hwd : w2.drew = wd at hHeld KD ⊢
    clear hwd
    refine UpTo.tk 0 hHeld ?_
    refine UpTo.tk 1 hHeld ?_
    refine UpTo.tk 2 hHeld ?_
    refine UpTo.tk 3 hHeld ?_
    refine UpTo.tk 4 hHeld ?_
    refine UpTo.tk 5 hHeld ?_
    refine UpTo.tk 6 hHeld ?_
    refine UpTo.tw 7 11 (fun K hK => ?_) (fun K hK => ?_)
    · rw [if_pos (by rfl)]
      go_simp
      go_at_call 45
      refine (HNxt.out wd (K2.trans KD)).mono ?_
      rintro e w3 ⟨⟨xq, cq, ka, kc, rfl, hTq, hXq, hTk⟩, k3⟩
      obtain ⟨q, hq⟩ : ∃ q, q = (nextOf (actsOf webl) (envOf l) r).1 := ⟨_, rfl⟩
      obtain ⟨asks, has⟩ : ∃ asks, asks = (nextOf (actsOf webl) (envOf l) r).2 := ⟨_, rfl⟩
      rw [← hq] at hTq ⊢
      rw [← has] at hTk ⊢
      have HQ := hide hq
      have HA := hide has
      have HTq := hide hTq
      have HTk := hide hTk
      have HXq := hide hXq
      clear hTq hTk hXq hq has
      dsimp only [RunX.cells]
      have K3 := (K2.trans KD).trans k3
      refine hK.out _ _ (fun _ => HSO.out _ K3) ?_
      clear hK K hHeld
      have hHeld := HSO.out _ K3
      try simp only [Act.put, upA, upB, upC]
      refine UpTo.tk 8 hHeld ?_
      refine UpTo.tk 9 hHeld ?_
      refine UpTo.tk 10 hHeld ?_
      refine UpTo.nx 11 (fun K hK => ?_)
      go_simp
      have K4 : Kept w3 (w3.alloc (.cells #[.string ⟨#[]⟩, .bool false, .bool false, .string ⟨#[]⟩, .int .i64 0, .int .i64 0, .slice none 0 0] 59)) := (Kept.refl _).alloc _
      refine hK.out _ _ (fun _ => HSO.out _ (K3.trans K4)) ?_
      clear hK K
      try simp only [Act.put, upA, upB, upC]
      have hRw : RowT (w3.alloc (.cells #[.string ⟨#[]⟩, .bool false, .bool false, .string ⟨#[]⟩, .int .i64 0, .int .i64 0, .slice none 0 0] 59)) w3.heap.size 59 7 := RowT.made w3 _ _
      have KE := K3.trans K4
      have HTq2 := hide (StrsB.new HTq.out.strs K4)
      have HTk2 := hide (StrsB.new HTk.out.strs K4)
      have nz := K3.size
      obtain ⟨nb, hnb⟩ : ∃ nb, nb = w3.heap.size := ⟨_, rfl⟩
      rw [← hnb] at hRw HTq2 HTk2 nz ⊢
      generalize hwe : w3.alloc (.cells #[.string ⟨#[]⟩, .bool false, .bool false, .string ⟨#[]⟩, .int .i64 0, .int .i64 0, .slice none 0 0] 59) = wE at hRw KE HTq2 HTk2 ⊢
      clear hwe K4 hnb HTq HTk
      obtain ⟨⟨_, v0⟩, f0⟩ := hRw.row.at (i := 0) (by omega)
      obtain ⟨⟨_, v1⟩, f1⟩ := hRw.row.at (i := 1) (by omega)
      obtain ⟨⟨_, v2⟩, f2⟩ := hRw.row.at (i := 2) (by omega)
      obtain ⟨⟨_, v3⟩, f3⟩ := hRw.row.at (i := 3) (by omega)
      obtain ⟨⟨_, v4⟩, f4⟩ := hRw.row.at (i := 4) (by omega)
      obtain ⟨⟨_, v5⟩, f5⟩ := hRw.row.at (i := 5) (by omega)
      obtain ⟨⟨_, v6⟩, f6⟩ := hRw.row.at (i := 6) (by omega)
      have vz := hRw.lt
      refine UpTo.nx 12 (fun K hK => ?_)
      go_simp
      refine hK.out _ _ ?_ ?_
      · exact fun _ => HSO.out _ (kept_sets (g := nb) nz [.string q.name, .bool q.over, .bool q.fail, .string q.text, .int .i64 q.at', .int .i64 q.visits, .slice xq q.texts.length cq] 0 KE)
      clear hK K
      try simp only [Act.put, upA, upB, upC]
      refine UpTo.nx 13 (fun K hK => ?_)
      go_simp
      refine hK.out _ _ (fun h => absurd rfl h) ?_
      clear hK K
      try simp only [Act.put, upA, upB, upC]
      refine UpTo.dn ?_
      go_wp2_with fail
      go_meet
      exact ⟨nb, q, xq, cq, ka, kc, rfl, by rw [HA.out], HQ.out, kept_sets (g := nb) nz [.string q.name, .bool q.over, .bool q.fail, .string q.text, .int .i64 q.at', .int .i64 q.visits, .slice xq q.texts.length cq] 0 KE, nz, RBox.laid hRw, HTq2.out.sets [.string q.name, .bool q.over, .bool q.fail, .string q.text, .int .i64 q.at', .int .i64 q.visits, .slice xq q.texts.length cq] 0, HXq.out, by rw [← HA.out]; exact HTk2.out.sets [.string q.name, .bool q.over, .bool q.fail, .string q.text, .int .i64 q.at', .int .i64 q.visits, .slice xq q.texts.length cq] 0⟩
    · rw [if_pos (by rfl)]
      go_simp
      have K3a : Kept wd (wd.alloc (.cells #[.string ⟨#[]⟩, .bool false, .bool false, .string ⟨#[]⟩, .int .i64 0, .int .i64 0, .slice none 0 0] 59)) := (Kept.refl _).alloc _
      have K3b := (K2.trans KD).trans K3a
      have hRw0 : RowT (wd.alloc (.cells #[.string ⟨#[]⟩, .bool false, .bool false, .string ⟨#[]⟩, .int .i64 0, .int .i64 0, .slice none 0 0] 59)) wd.heap.size 59 7 := RowT.made wd _ _
      have nz := (K2.trans KD).size
      obtain ⟨nb, hnb⟩ : ∃ nb, nb = wd.heap.size := ⟨_, rfl⟩
      rw [← hnb] at hRw0 nz ⊢
      generalize hwe : wd.alloc (.cells #[.string ⟨#[]⟩, .bool false, .bool false, .string ⟨#[]⟩, .int .i64 0, .int .i64 0, .slice none 0 0] 59) = wF at hRw0 K3b ⊢
      clear hwe K3a hnb
      refine hK.out _ _ (fun _ => HSO.out _ K3b) ?_
      clear hK K
      try simp only [Act.put, upA, upB, upC]
      refine UpTo.nx 7 (fun K hK => ?_)
      rw [if_pos (by rfl)]
      go_simp
      go_at_call 45
      refine (HNxt.out wF K3b).mono ?_
      rintro e w3 ⟨⟨xq, cq, ka, kc, rfl, hTq, hXq, hTk⟩, k3⟩
      obtain ⟨q, hq⟩ : ∃ q, q = (nextOf (actsOf webl) (envOf l) r).1 := ⟨_, rfl⟩
      obtain ⟨asks, has⟩ : ∃ asks, asks = (nextOf (actsOf webl) (envOf l) r).2 := ⟨_, rfl⟩
      rw [← hq] at hTq ⊢
      rw [← has] at hTk ⊢
      have HQ := hide hq
      have HA := hide has
      have HTq := hide hTq
      have HTk := hide hTk
      have HXq := hide hXq
      clear hTq hTk hXq hq has
      dsimp only [RunX.cells]
      have K3 := K3b.trans k3
      refine hK.out _ _ (fun _ => HSO.out _ K3) ?_
      clear hK K hHeld
      have hHeld := HSO.out _ K3
      try simp only [Act.put, upA, upB, upC]
      refine UpTo.tk 8 hHeld ?_
      refine UpTo.tk 9 hHeld ?_
      refine UpTo.tk 10 hHeld ?_
      have hRw := hRw0.kept k3
      have KE := K3
      have hFz := hRw0.lt
      have HTq2 := hide (StrsB.of_A (nb := nb) HTq.out (by omega) (by omega))
      have HTk2 := hide (StrsB.of_A (nb := nb) HTk.out (by omega) (by omega))
      obtain ⟨⟨_, v0⟩, f0⟩ := hRw.row.at (i := 0) (by omega)
      obtain ⟨⟨_, v1⟩, f1⟩ := hRw.row.at (i := 1) (by omega)
      obtain ⟨⟨_, v2⟩, f2⟩ := hRw.row.at (i := 2) (by omega)
      obtain ⟨⟨_, v3⟩, f3⟩ := hRw.row.at (i := 3) (by omega)
      obtain ⟨⟨_, v4⟩, f4⟩ := hRw.row.at (i := 4) (by omega)
      obtain ⟨⟨_, v5⟩, f5⟩ := hRw.row.at (i := 5) (by omega)
      obtain ⟨⟨_, v6⟩, f6⟩ := hRw.row.at (i := 6) (by omega)
      have vz := hRw.lt
      refine UpTo.nx 12 (fun K hK => ?_)
      go_simp
      refine hK.out _ _ ?_ ?_
      · exact fun _ => HSO.out _ (kept_sets (g := nb) nz [.string q.name, .bool q.over, .bool q.fail, .string q.text, .int .i64 q.at', .int .i64 q.visits, .slice xq q.texts.length cq] 0 KE)
      clear hK K
      try simp only [Act.put, upA, upB, upC]
      refine UpTo.nx 13 (fun K hK => ?_)
      go_simp
      refine hK.out _ _ (fun h => absurd rfl h) ?_
      clear hK K
      try simp only [Act.put, upA, upB, upC]
      refine UpTo.dn ?_
      go_wp2_with fail
      go_meet
      exact ⟨nb, q, xq, cq, ka, kc, rfl, by rw [HA.out], HQ.out, kept_sets (g := nb) nz [.string q.name, .bool q.over, .bool q.fail, .string q.text, .int .i64 q.at', .int .i64 q.visits, .slice xq q.texts.length cq] 0 KE, nz, RBox.laid hRw, HTq2.out.sets [.string q.name, .bool q.over, .bool q.fail, .string q.text, .int .i64 q.at', .int .i64 q.visits, .slice xq q.texts.length cq] 0, HXq.out, by rw [← HA.out]; exact HTk2.out.sets [.string q.name, .bool q.over, .bool q.fail, .string q.text, .int .i64 q.at', .int .i64 q.visits, .slice xq q.texts.length cq] 0⟩
  case rest =>
    obtain ⟨nb, q, xq, cq, ka, kc, rfl, rfl, hq, Kx, hnb, hbx, hTq, hXq, hTk⟩ := hcut
    obtain ⟨w4, rfl⟩ : ∃ w4, w4 = wc := ⟨_, rfl⟩
    have hqg : q.Good webl := by rw [hq]; exact nextOf_good hok hge HGr.out HCg.out
    have hal : (nextOf (actsOf webl) (envOf l) r).2.length ≤ 5 := next_asks_len hok hge HGr.out HCg.out
    obtain ⟨asks, has⟩ : ∃ asks, asks = (nextOf (actsOf webl) (envOf l) r).2 := ⟨_, rfl⟩
    rw [← has] at hal hTk ⊢
    have HDo : Hid ((wantL (actsOf webl) (insX l q) asks).foldl insX [] = doL (actsOf webl) l r) := by show _ = _; rw [has, hq]; rfl
    have hqt : q.texts.length ≤ 1000 := by have h1 := hqg.tl; have h2 := hqg.hi; omega
    obtain ⟨g0, g1, g2, g3, g4, g5, g6⟩ := hbx.all
    have gz := hbx.row.lt
    have HTk := hide hTk
    have HQg := hide hqg
    have HPut : Hid (∀ W, Kept w4 W → Calls Tryz.prog 46 #[.slice (some ⟨b, o, none⟩) l.length dc, .agg #[.string q.name, .bool q.over, .bool q.fail, .string q.text, .int .i64 q.at', .int .i64 q.visits, .slice xq q.texts.length cq]] W fun e w' => ∃ v, e = .returned v ∧ RunsO W w' (fun _ => True) v (insX l q) ∧ Kept W w') := fun W hW => xPut_any W (some ⟨b, o, none⟩) dc l q xq cq (by omega) hqt hgl.asc (fun _ => True) (fun _ _ => trivial) ((HS.out.kept (HKB.out.trans (Kx.trans hW))).all) (hTq.kept hW) hXq
    obtain ⟨b0, s0, s1, _⟩ := HSO.out _ Kx
    have z0x := Nat.lt_of_lt_of_le z0 Kx.size
    have z1x := Nat.lt_of_lt_of_le z1 Kx.size
    have HS5 : Hid (∀ w', Kept w4 w' → w'.cell? ⟨w.heap.size, 0, none⟩ = some (.slice a webl.length cap) ∧ w'.cell? ⟨w.heap.size + 1, 1, none⟩ = some (.slice (some ⟨b, o, none⟩) l.length dc) ∧ w'.cell? ⟨nb, 0, none⟩ = some (.string q.name) ∧ w'.cell? ⟨nb, 1, none⟩ = some (.bool q.over) ∧ w'.cell? ⟨nb, 2, none⟩ = some (.bool q.fail) ∧ w'.cell? ⟨nb, 3, none⟩ = some (.string q.text) ∧ w'.cell? ⟨nb, 4, none⟩ = some (.int .i64 q.at') ∧ w'.cell? ⟨nb, 5, none⟩ = some (.int .i64 q.visits) ∧ w'.cell? ⟨nb, 6, none⟩ = some (.slice xq q.texts.length cq)) := fun w' K => ⟨(K.cell z0x).trans b0, (K.cell z1x).trans s1, (K.cell gz).trans g0, (K.cell gz).trans g1, (K.cell gz).trans g2, (K.cell gz).trans g3, (K.cell gz).trans g4, (K.cell gz).trans g5, (K.cell gz).trans g6⟩
    clear hq has hTk hqg hTq hXq hbx g0 g1 g2 g3 g4 g5 g6 b0 s0 s1 HNxt HCan
    go_upto_region 5 with fail
    refine UpTo.rg 7 HS5.out fun wd KD hHeld => ?_
    refine UpTo.tk 0 hHeld ?_
    refine UpTo.tk 1 hHeld ?_
    refine UpTo.tk 2 hHeld ?_
    refine UpTo.tk 3 hHeld ?_
    refine UpTo.nx 4 (fun K hK => ?_)
    rw [if_pos (by rfl)]
    go_simp
    go_at_call 46
    refine (HPut.out wd KD).mono ?_
    rintro e w5 ⟨v5, rfl, hO5, k5⟩
    have K5 := KD.trans k5
    obtain ⟨w6, xs6, ky1, ky2, hO6, hP6⟩ := hO5
    obtain ⟨av, cv, rfl⟩ := own_slice hO6
    have HO6 := hide hO6
    have HP6 := hide hP6
    have HN6 := hide (HN.out.kept (HKB.out.trans (Kx.trans (KD.trans ky1))))
    have HT6 := hide (HTk.out.kept (KD.trans ky1))
    have HK6 := hide ky2
    have HK46 := hide (KD.trans ky1)
    have hz6 := ky2.size
    clear hO6 hP6 ky1 ky2
    refine hK.out _ _ (fun _ => HS5.out _ K5) ?_
    clear hK K hHeld
    have hHeld := HS5.out _ K5
    try simp only [Act.put, upA, upB, upC]
    refine UpTo.tk 5 hHeld ?_
    refine UpTo.nx 6 (fun K hK => ?_)
    go_simp
    have K7a : Kept w5 (w5.alloc (.cells #[.slice a webl.length cap, .slice av (insX l q).length cv] 91)) := (Kept.refl _).alloc _
    have HKn : Hid (KnX w6 (w5.alloc (.cells #[.slice a webl.length cap, .slice av (insX l q).length cv] 91)) w5.heap.size a webl.length cap (insX l q) av cv xs6) := ⟨HK6.out.trans K7a, ⟨RowT.made w5 _ _, range_new w5 #[.slice a webl.length cap, .slice av (insX l q).length cv] 91 0 _ rfl, range_new w5 #[.slice a webl.length cap, .slice av (insX l q).length cv] 91 1 _ rfl⟩, ownsRow_kept' HO6.out K7a, HP6.out⟩
    have K7 := K5.trans K7a
    obtain ⟨kb, hkb⟩ : ∃ kb, kb = w5.heap.size := ⟨_, rfl⟩
    have hkz : w6.heap.size ≤ kb := by omega
    refine hK.out _ _ (fun _ => HS5.out _ K7) ?_
    clear hK K hHeld
    rw [← hkb] at HKn ⊢
    generalize hwe : w5.alloc (.cells #[.slice a webl.length cap, .slice av (insX l q).length cv] 91) = w7 at HKn K7 ⊢
    clear hwe K7a hkb
    try simp only [Act.put, upA, upB, upC]
    refine UpTo.nx 7 (fun K hK => ?_)
    go_simp
    refine hK.out _ _ (fun h => absurd rfl h) ?_
    clear hK K
    try simp only [Act.put, upA, upB, upC]
    refine UpTo.dn ?_
    go_wp2_with fail
    refine (wantX_any w6 w7 kb hkz a cap webl ka kc asks (insX l q) av cv xs6 hwb (by omega) (by have := ins_len1 l q; omega) HKn.out HN6.out HT6.out).mono ?_
    rintro e w8 ⟨rfl, d8, dc8, xs8, hKn8⟩
    have k8 : Kept w4 w8 := HK46.out.trans hKn8.kw
    have m1 := hKn8.known.runs
    have kz := hKn8.known.row.lt
    have HRz := hide hKn8.runs
    obtain ⟨R, hRR⟩ : ∃ R, R = wantL (actsOf webl) (insX l q) asks := ⟨_, rfl⟩
    have hRl : R.length ≤ 1000 := by have h1 := wantL_len (actsOf webl) asks (insX l q); have h2 := ins_len1 l q; rw [hRR]; omega
    have HRt : Hid (∀ x ∈ R, x.texts.length ≤ 1000) := fun x hx => by
      rw [hRR] at hx
      rcases wantL_mem _ _ _ _ hx with h | ⟨n, rfl⟩
      · rcases insX_mem.1 h with rfl | ⟨h1, _⟩
        · exact hqt
        · have h2 := (hgl.good x h1).tl; have h3 := (hgl.good x h1).hi; omega
      · exact Nat.zero_le _
    have HRD : Hid (R.foldl insX [] = doL (actsOf webl) l r) := by show _ = _; rw [hRR]; exact HDo.out
    rw [← hRR] at HRz m1
    have K8 := Kx.trans k8
    have HSt : Hid (∀ W, Kept w8 W → Calls Tryz.prog 48 #[.slice (some ⟨rb, ro, none⟩) roots.length rc, .slice d8 R.length dc8] W fun e w' => StateX roots (doL (actsOf webl) l r) W w' e) := fun W hW => by
      have h := stateX_any W rb ro rc roots d8 dc8 R hrl (by omega) HRt.out (fun j => by have := take_foldl_len R j; omega) (HRt0.out.kept (HKB.out.trans (K8.trans hW))) (HRz.out.kept hW)
      rw [HRD.out] at h
      exact h
    obtain ⟨_, s0, _⟩ := HSO.out _ K8
    have z18 := Nat.lt_of_lt_of_le z1 K8.size
    have HS7 : Hid (∀ w', Kept w8 w' → w'.cell? ⟨w.heap.size + 1, 0, none⟩ = some (.slice (some ⟨rb, ro, none⟩) roots.length rc) ∧ w'.cell? ⟨kb, 1, none⟩ = some (.slice d8 R.length dc8)) := fun w' K => ⟨(K.cell z18).trans s0, (K.cell kz).trans m1⟩
    have HR8 := hide (HRes.out.kept K8)
    have K08 := HKB.out.trans K8
    clear hKn8 hRR HRz HRD HRt HDo m1 s0 k8 HKn HN6 HT6 HK6 HK46 HO6 HP6 HPut HS5 HSO HRes HN HS HTk HQg
    go_upto_region 7 with fail
    refine UpTo.rg 7 HS7.out fun wd KD hHeld => ?_
    refine UpTo.tk 0 hHeld ?_
    refine UpTo.tk 1 hHeld ?_
    refine UpTo.tk 2 hHeld ?_
    refine UpTo.tk 3 hHeld ?_
    refine UpTo.tk 4 hHeld ?_
    refine UpTo.tk 5 hHeld ?_
    refine UpTo.nx 6 (fun K hK => ?_)
    rw [if_pos (by rfl)]
    go_simp
    go_at_call 48
    refine (HSt.out wd KD).mono ?_
    rintro e w9 ⟨ra, rc9, d9, dc9, xs9, rfl, hT9, hO9, hP9, k9⟩
    obtain ⟨T, hTT⟩ : ∃ T, T = doL (actsOf webl) l r := ⟨_, rfl⟩
    rw [← hTT] at hO9 hP9 ⊢
    have HTT := hide hTT
    have K9 := KD.trans k9
    have z9 := K9.size
    have zd := KD.size
    have HT9 := hide hT9
    have HO9 := hide hO9
    have HP9 := hide hP9
    have HR9 := hide (HR8.out.kept K9)
    obtain ⟨⟨_, x0⟩, f0⟩ := HR9.out.row.at (i := 0) (by omega)
    obtain ⟨⟨_, x1⟩, f1⟩ := HR9.out.row.at (i := 1) (by omega)
    have hrz := HR8.out.lt
    have hrz9 := HR9.out.lt
    clear hT9 hO9 hP9 hTT
    refine hK.out _ _ (fun _ => HS7.out _ K9) ?_
    clear hK K hHeld
    try simp only [Act.put, upA, upB, upC]
    refine UpTo.nx 7 (fun K hK => ?_)
    go_simp
    refine hK.out _ _ (fun h => absurd rfl h) ?_
    clear hK K
    try simp only [Act.put, upA, upB, upC]
    refine UpTo.dn ?_
    go_wp2_with fail
    have hRg := World.rangeAt_setCells_same w9 (w.heap.size + 1 + 1) 0 [.slice ra roots.length rc9, .slice d9 T.length dc9] (HR9.out.row.there (o := 0) (m := 2) (Nat.le_refl _))
    have hO := owns_set (owns_set HO9.out (p := ⟨w.heap.size + 1 + 1, 0, none⟩) (by show w.heap.size + 1 + 1 < _; omega) (.slice ra roots.length rc9)) (p := ⟨w.heap.size + 1 + 1, 1, none⟩) (by show w.heap.size + 1 + 1 < _; omega) (.slice d9 T.length dc9)
    have hT := owns_set (owns_set HT9.out (p := ⟨w.heap.size + 1 + 1, 0, none⟩) (by show w.heap.size + 1 + 1 < _; omega) (.slice ra roots.length rc9)) (p := ⟨w.heap.size + 1 + 1, 1, none⟩) (by show w.heap.size + 1 + 1 < _; omega) (.slice d9 T.length dc9)
    have hP := (HP9.out.set (c := w.heap.size + 1 + 1) (p := 0) (fun b h => by omega) (.slice ra roots.length rc9)).set (c := w.heap.size + 1 + 1) (p := 1) (fun b h => by omega) (.slice d9 T.length dc9)
    obtain rfl := HTT.out
    exact bodyPost_ret_cell [.slice ra roots.length rc9, .slice d9 (doL (actsOf webl) l r).length dc9] _ Tryz.results20 rfl hRg Tryz.underlying33 rfl Tryz.xSizeState rfl ⟨ra, rc9, d9, dc9, xs9, rfl, owns_base hT (by omega), owns_base hO (by omega), packedX_weak hP (fun b h => by omega), kept_sets (g := w.heap.size + 1 + 1) (by omega) [.slice ra roots.length rc9, .slice d9 (doL (actsOf webl) l r).length dc9] 0 (K08.trans K9)⟩
def PackedY (w : World) (P : Nat → Prop) (xs : List Value) (l : List RunX) : Prop := xs.length = l.length * 7 ∧ ∀ i, i < l.length → ∃ xa xc, (xs.drop (i * 7)).take 7 = (l.getD i RunX.zero).cells xa xc ∧ TStrs w 9 xa (l.getD i RunX.zero).texts ∧ (xa = none → xc = 0) ∧ (∀ ad : Addr, xa = some ad → P ad.block)
theorem PackedY.nil (w : World) (P : Nat → Prop) : PackedY w P [] [] := ⟨rfl, fun i hi => by simp at hi⟩
theorem PackedY.same {w w' : World} {P : Nat → Prop} {xs : List Value} {l : List RunX} {u : TypeId} (h : PackedY w P xs l) (k : SameKind u w w') (hu : 9 ≠ u) : PackedY w' P xs l := ⟨h.1, fun i hi => by obtain ⟨xa, xc, e, hs, hx⟩ := h.2 i hi; exact ⟨xa, xc, e, hs.same k hu, hx⟩⟩
theorem PackedY.kept {w w' : World} {P : Nat → Prop} {xs : List Value} {l : List RunX} (h : PackedY w P xs l) (k : Kept w w') : PackedY w' P xs l := h.same (u := 59) (SameKind.of_kept k) (by decide)
theorem PackedY.plain {w : World} {P : Nat → Prop} {xs : List Value} {l : List RunX} (h : PackedY w P xs l) : PackedX w P xs l := ⟨h.1, fun i hi => by obtain ⟨xa, xc, e, hs, hx⟩ := h.2 i hi; exact ⟨xa, xc, e, hs.strs, hx⟩⟩
theorem PackedY.snoc {w : World} {P : Nat → Prop} {xs : List Value} {l : List RunX} {r : RunX} {xa : Option Addr} {xc : Nat} (h : PackedY w P xs l) (hs : TStrs w 9 xa r.texts) (hx : xa = none → xc = 0) (hp : ∀ ad : Addr, xa = some ad → P ad.block) : PackedY w P (xs ++ r.cells xa xc) (l ++ [r]) := by
  refine ⟨by simp [h.1, RunX.cells]; omega, fun i hi => ?_⟩
  rw [List.length_append] at hi
  simp only [List.length_cons, List.length_nil] at hi
  by_cases e : i < l.length
  · have e1 : (l ++ [r]).getD i RunX.zero = l.getD i RunX.zero := by simp [List.getD, List.getElem?_append_left e]
    have e2 : ((xs ++ r.cells xa xc).drop (i * 7)).take 7 = (xs.drop (i * 7)).take 7 := by
      rw [List.drop_append_of_le_length (by rw [h.1]; omega), List.take_append_of_le_length (by rw [List.length_drop, h.1]; omega)]
    rw [e1, e2]
    exact h.2 i e
  · obtain rfl : i = l.length := by omega
    have e1 : (l ++ [r]).getD l.length RunX.zero = r := by simp [List.getD]
    have e2 : ((xs ++ r.cells xa xc).drop (l.length * 7)).take 7 = r.cells xa xc := by
      rw [← h.1, List.drop_left]
      rfl
    rw [e1, e2]
    exact ⟨xa, xc, rfl, hs, hx, hp⟩
theorem tstrs_owned {w : World} {base : Nat} {t : TypeId} {a : Option Addr} {cap n : Nat} {l : List ByteArray} (h : w.ownsRow base t 1 (.slice a n cap) n (l.map Value.string)) : TStrs w t a l ∧ (a = none → cap = 0) ∧ ∀ ad : Addr, a = some ad → base ≤ ad.block := by
  have hn : n = l.length := by have := h.1; simp at this; omega
  rcases h.2 with ⟨e, h0⟩ | ⟨g, c2, cur, e, hb, hg, hnc, _, _, _⟩
  · simp only [Value.slice.injEq] at e
    obtain ⟨rfl, _, rfl⟩ := e
    refine ⟨.inl (List.length_eq_zero_iff.1 (by omega)), fun _ => rfl, fun _ e => by cases e⟩
  · simp only [Value.slice.injEq] at e
    obtain ⟨rfl, _, rfl⟩ := e
    refine ⟨.inr ⟨g, cur, _, rfl, hg, fun i hi => ?_⟩, fun e => (by cases e), fun ad e => by cases e; exact hb⟩
    have := h.cells (g := g) rfl i (.string (l.getD i ByteArray.empty)) (by simp [List.getD, hi])
    rw [Addr.add_mid, Nat.zero_add] at this
    exact this
structure CpX (W1 wr : World) (sb : Nat) (ra : Option Addr) (n rc : Nat) (d : Option Addr) (t : List RunX) (dc : Nat) (xs : List Value) : Prop where
  kb : KeptBut sb (sb + 1) W1 wr
  row : RowT wr sb 33 2
  roots : wr.cell? ⟨sb, 0, none⟩ = some (.slice ra n rc)
  runs : wr.cell? ⟨sb, 1, none⟩ = some (.slice d t.length dc)
  own : wr.ownsRow W1.heap.size 59 7 (.slice d t.length dc) t.length xs
  pack : PackedY wr (fun b => sb < b) xs t
theorem CpX.kept {W1 wr w' : World} {sb n rc dc : Nat} {ra d : Option Addr} {t : List RunX} {xs : List Value} (h : CpX W1 wr sb ra n rc d t dc xs) (k : Kept wr w') : CpX W1 w' sb ra n rc d t dc xs :=
  ⟨h.kb.trans (KeptBut.of_kept k), h.row.kept k, (k.cell h.row.lt).trans h.roots, (k.cell h.row.lt).trans h.runs, ownsRow_kept' h.own k, h.pack.kept k⟩
theorem cp_ne {w : World} {sb base n : Nat} {v : Value} {xs : List Value} (hr : RowT w sb 33 2) (h : w.ownsRow base 59 7 v n xs) : some sb ≠ v.ownBlock := by
  rcases h.2 with ⟨rfl, _⟩ | ⟨g, cap, cur, rfl, _, hg, _⟩
  · intro e; cases e
  · intro e
    simp only [Value.ownBlock, Option.some.injEq] at e
    subst e
    obtain ⟨c2, h2, _⟩ := hr
    rw [hg] at h2
    simp only [Option.some.injEq, Obj.cells.injEq] at h2
    exact absurd h2.2.1 (by decide)
theorem CpX.next {W1 wr W w6 : World} {sb n rc dc cv : Nat} {ra d av : Option Addr} {t : List RunX} {xs : List Value} {y : RunX} {xa : Option Addr} {xc : Nat} (h : CpX W1 wr sb ra n rc d t dc xs) (hsb : sb < W1.heap.size) (KW : Kept wr W) (hgr : W.grownBy w6 (Value.slice d t.length dc).ownBlock)
    (hO6 : w6.ownsRow W1.heap.size 59 7 (.slice av (t.length + 1) cv) (t.length + 1) (xs ++ y.cells xa xc)) (hs : TStrs W 9 xa y.texts) (hx : xa = none → xc = 0) (hp : ∀ ad : Addr, xa = some ad → sb < ad.block) :
    CpX W1 (w6.setCell ⟨sb, 1, none⟩ (.slice av (t.length + 1) cv)) sb ra n rc av (t ++ [y]) cv (xs ++ y.cells xa xc) := by
  have hW := h.kept KW
  have hb : w6.heap[sb]? = W.heap[sb]? := hgr.block sb hW.row.lt (cp_ne hW.row hW.own)
  have hl : (t ++ [y]).length = t.length + 1 := by simp
  have hr6 := hW.row.block hb
  have sk := (SameKind.of_grown hW.own hgr)
  refine ⟨?_, hr6.set _, ?_, ?_, ?_, ?_⟩
  · refine KeptBut.setCell ⟨hgr.os.trans hW.kb.os, hgr.tape.trans hW.kb.tape, hgr.output.trans hW.kb.output, Nat.le_trans hW.kb.size hgr.size, fun b hb' hn => (hgr.block b (Nat.lt_of_lt_of_le hb' hW.kb.size) (fun e => ?_)).trans (hW.kb.block b hb' hn)⟩ (Nat.le_refl _) (Nat.lt_succ_self _) _
    have := (hW.own.lt b e.symm).1
    omega
  · rw [set_miss (by omega), World.cell?_of_block (w := W) hb]; exact hW.roots
  · rw [hl]; exact set_hit hr6.row (by omega) _
  · rw [hl]; exact owns_set hO6 hsb _
  · exact ((hW.pack.same sk (by decide)).snoc (hs.same sk (by decide)) hx hp).same (hr6.same (o := 1) _) (by decide)
set_option maxRecDepth 100000 in
set_option maxHeartbeats 12800000 in
theorem copyX_any (w : World) (rb ro rc : Nat) (roots : List ByteArray) (a : Option Addr) (cap : Nat) (R : List RunX) (hrl : roots.length ≤ 1000) (hRl : R.length ≤ 10000) (hTt : ∀ r ∈ R, r.texts.length ≤ 1000) (hR : Strs w (some ⟨rb, ro, none⟩) roots) (hS : RunsX w a R) :
    Calls Tryz.prog 19 #[.agg #[.slice (some ⟨rb, ro, none⟩) roots.length rc, .slice a R.length cap]] w fun e w' => StateX roots R w w' e := by
  obtain ⟨is, hi, hz0, hz1, hz2⟩ := xInfo_parts Tryz.xInfoStr
  obtain ⟨ino, hn0, hn1, hn2, hn3⟩ := xInfo_parts Tryz.xInfoRun
  obtain ⟨W0, hW0⟩ : ∃ W0, W0 = (w.alloc (.cells #[.slice (some ⟨rb, ro, none⟩) roots.length rc, .slice a R.length cap] 33)).alloc (.cells #[.slice none 0 0, .slice none 0 0] 33) := ⟨_, rfl⟩
  have KW0 : Kept w W0 := by rw [hW0]; exact ((Kept.refl _).alloc _).alloc _
  have hres0 : RowT W0 (w.heap.size + 1) 33 2 := by
    have h1 := RowT.made (w.alloc (.cells #[.slice (some ⟨rb, ro, none⟩) roots.length rc, .slice a R.length cap] 33)) #[.slice none 0 0, .slice none 0 0] 33
    simp only [World.size_alloc] at h1
    rw [hW0]
    exact h1
  have c0 : W0.cell? ⟨w.heap.size, 0, none⟩ = some (.slice (some ⟨rb, ro, none⟩) roots.length rc) := by rw [hW0, Kept.cell (w := w.alloc (.cells #[.slice (some ⟨rb, ro, none⟩) roots.length rc, .slice a R.length cap] 33)) ((Kept.refl _).alloc _) (by simp)]; exact range_new w _ _ 0 _ rfl
  have c1 : W0.cell? ⟨w.heap.size, 1, none⟩ = some (.slice a R.length cap) := by rw [hW0, Kept.cell (w := w.alloc (.cells #[.slice (some ⟨rb, ro, none⟩) roots.length rc, .slice a R.length cap] 33)) ((Kept.refl _).alloc _) (by simp)]; exact range_new w _ _ 1 _ rfl
  have hW0s : w.heap.size + 2 ≤ W0.heap.size := by rw [hW0]; simp
  have z0 : w.heap.size < W0.heap.size := by omega
  have HC : Hid (∀ w', Kept W0 w' → w'.cell? ⟨w.heap.size, 1, none⟩ = some (.slice a R.length cap)) := fun w' K => (K.cell (by omega)).trans c1
  have HRes0 := hide hres0
  have HKE : Hid (Kept W0 (W0.alloc (.cells #[] 9))) := (Kept.refl _).alloc _
  have HO0 : Hid ((W0.alloc (.cells #[] 9)).ownsRow W0.heap.size 9 1 (.slice (some ⟨W0.heap.size, 0, none⟩) 0 0) 0 (([] : List ByteArray).map Value.string)) := World.ownsRow_made W0 #[] 0 (Nat.le_refl _) (Nat.zero_le _) rfl
  have HNews : Hid (∀ j u, (roots.map Value.string)[j]? = some u → (W0.alloc (.cells #[] 9)).cell? ((⟨rb, ro, none⟩ : Addr).add j) = some u) := fun j u hu => by
    have hj : j < roots.length := by have := (List.getElem?_eq_some_iff.1 hu).1; simpa using this
    obtain ⟨b, o, e, hb, hc⟩ := (hR.kept (KW0.trans HKE.out)) j hj
    simp only [Option.some.injEq] at e
    rw [e, Addr.add_mid, hc]
    simp [hj] at hu
    simp [List.getD, hj, hu]
  have HOnes : Hid (∀ u ∈ roots.map Value.string, u.oneCell' = true) := fun u hu => by obtain ⟨x, _, rfl⟩ := List.mem_map.1 hu; rfl
  have hbs : W0.heap.size ≤ (W0.alloc (.cells #[] 9)).heap.size := HKE.out.size
  clear hres0
  go_enter Tryz.func19, Tryz.ntmps19
  go_upto_region 1 with fail
  rw [← hW0]
  clear hW0
  go_wp2_with (at_builtin; refine wpList_append_own _ rfl (.tmp 6) (.tmp 8) 25 rfl W0.heap.size 9 is _ 1 16 Tryz.underlying25 hi hz0 hz1 hz2 rfl (by decide) (.slice (some ⟨W0.heap.size, 0, none⟩) 0 0) 0 [] rfl HO0.out ⟨rb, ro, none⟩ roots.length rc (roots.map Value.string) rfl (by simp) HNews.out HOnes.out (by unfold maxLen; omega) (by omega) hbs ?_; intro v6 w6 hown6 hgr6 _; have kw6 : Kept W0 w6 := kept_of_grown HKE.out (Nat.le_refl _) HO0.out hgr6; rw [Nat.zero_add, List.nil_append] at hown6; obtain ⟨ra, rc6, rfl⟩ := own_slice hown6; have HT6 := hide hown6; clear hown6 hgr6)
  obtain ⟨W1, hW1⟩ : ∃ W1, W1 = w6.alloc (.cells #[.slice ra roots.length rc6, .slice none 0 0] 33) := ⟨_, rfl⟩
  obtain ⟨sb, hsb⟩ : ∃ sb, sb = w6.heap.size := ⟨_, rfl⟩
  have KE1 : Kept w6 W1 := by rw [hW1]; exact (Kept.refl _).alloc _
  have HSr : Hid (RowT W1 sb 33 2) := by rw [hW1, hsb]; exact RowT.made w6 #[.slice ra roots.length rc6, .slice none 0 0] 33
  have hcs : W1.rangeAt sb 0 [.slice ra roots.length rc6, .slice none 0 0] := by rw [hW1, hsb]; exact range_new w6 #[.slice ra roots.length rc6, .slice none 0 0] 33
  have HCs := hide hcs
  have HRes := hide (HRes0.out.kept (kw6.trans KE1))
  have HT7 := hide (ownsRow_kept' HT6.out KE1)
  have K01 : Kept W0 W1 := kw6.trans KE1
  have K1 : Kept w W1 := KW0.trans K01
  have hz6 := kw6.size
  have hs1 : sb + 1 ≤ W1.heap.size := HSr.out.lt
  have hs0 : w.heap.size + 1 < sb := by omega
  have hs2 : W0.heap.size ≤ sb := by omega
  rw [← hW1, ← hsb]
  clear hcs HT6 HO0 HNews HRes0 hW1 hsb HOnes hbs HKE KE1 kw6 hz6 KW0 c0 c1
  go_loopw [4] (fun i wr => ∃ (k : Nat) (d : Option Addr) (dc : Nat) (xs : List Value), k ≤ R.length ∧ i = .int .i64 k ∧ CpX W1 wr sb ra roots.length rc6 d (R.take k) dc xs) (fun i _ => R.length - (intOf i).toNat)
  case atStart =>
    have hc := HCs.out
    exact ⟨0, none, 0, [], Nat.zero_le _, rfl, ⟨KeptBut.refl _ _ _, HSr.out, hc 0 _ rfl, hc 1 _ rfl, World.ownsRow_nil _ _ _ _, PackedY.nil _ _⟩⟩
  case round =>
    obtain ⟨k, d, dc, xs, hk, rfl, hSt⟩ := hrel
    have K0r : Kept W0 wr := hSt.kb.kept K01 hs2
    have s1 := HC.out wr K0r
    have hwz : w.heap.size < wr.heap.size := by have := K0r.size; omega
    by_cases hlt : k < R.length
    · have Kr : Kept w wr := hSt.kb.kept K1 (by omega)
      obtain ⟨b, o, xa, ca, rfl, hb, hc, hTk, hXk⟩ := hS.kept Kr k hlt
      obtain ⟨y, hy⟩ : ∃ y, y = R.getD k RunX.zero := ⟨_, rfl⟩
      have HSc : Hid (R.take (k + 1) = R.take k ++ [y]) := by show _ = _; rw [List.take_succ_eq_append_getElem hlt, hy]; simp [List.getD, hlt]
      have hyt : y.texts.length ≤ 1000 := by rw [hy]; simp only [List.getD, hlt, List.getElem?_eq_getElem, Option.getD_some]; exact hTt _ (List.getElem_mem hlt)
      obtain ⟨t, ht⟩ : ∃ t, t = R.take k := ⟨_, rfl⟩
      have htl : t.length = k := by rw [ht, List.length_take]; omega
      rw [← ht] at hSt HSc
      rw [← hy] at hc hTk
      have HTl := hide htl
      have hkt : t.length ≤ 10000 := by omega
      have HSt := hide hSt
      have q0 : wr.cell? ⟨b, o + k * 7, none⟩ = some (.string y.name) := hc 0 _ rfl
      have q1 : wr.cell? ⟨b, o + k * 7 + 1, none⟩ = some (.bool y.over) := hc 1 _ rfl
      have q2 : wr.cell? ⟨b, o + k * 7 + 2, none⟩ = some (.bool y.fail) := hc 2 _ rfl
      have q3 : wr.cell? ⟨b, o + k * 7 + 3, none⟩ = some (.string y.text) := hc 3 _ rfl
      have q4 : wr.cell? ⟨b, o + k * 7 + 4, none⟩ = some (.int .i64 y.at') := hc 4 _ rfl
      have q5 : wr.cell? ⟨b, o + k * 7 + 5, none⟩ = some (.int .i64 y.visits) := hc 5 _ rfl
      have q6 : wr.cell? ⟨b, o + k * 7 + 6, none⟩ = some (.slice xa y.texts.length ca) := hc 6 _ rfl
      have HTk := hide hTk
      have HXk := hide hXk
      have i0 : (k : Int) < (R.length : Int) := by omega
      clear hc hy ht htl hSt hTk hXk
      obtain ⟨W2, hW2⟩ : ∃ W2, W2 = wr.alloc (.cells #[.string y.name, .bool y.over, .bool y.fail, .string y.text, .int .i64 y.at', .int .i64 y.visits, .slice xa y.texts.length ca] 59) := ⟨_, rfl⟩
      have K2 : Kept wr W2 := by rw [hW2]; exact (Kept.refl _).alloc _
      have HBox : Hid (RBox W2 wr.heap.size y xa ca) := by rw [hW2]; exact ⟨RowT.made wr #[.string y.name, .bool y.over, .bool y.fail, .string y.text, .int .i64 y.at', .int .i64 y.visits, .slice xa y.texts.length ca] 59, range_new wr _ _⟩
      go_upto_region 6 with fail
      rw [← hW2]
      clear hW2
      obtain ⟨fb, hfb⟩ : ∃ fb, fb = wr.heap.size := ⟨_, rfl⟩
      have hfz : W1.heap.size ≤ fb := by have := HSt.out.kb.size; omega
      have hfr : wr.heap.size ≤ fb := by omega
      rw [← hfb] at HBox ⊢
      clear hfb
      have HKE : Hid (Kept W2 (W2.alloc (.cells #[] 9))) := (Kept.refl _).alloc _
      have HOE : Hid ((W2.alloc (.cells #[] 9)).ownsRow W2.heap.size 9 1 (.slice (some ⟨W2.heap.size, 0, none⟩) 0 0) 0 (([] : List ByteArray).map Value.string)) := World.ownsRow_made W2 #[] 0 (Nat.le_refl _) (Nat.zero_le _) rfl
      go_cut [5] from 23 to 27 (fun s5 wx => ∃ xa2 xc2, s5 = .pointer (some ⟨fb, 0, none⟩) ∧ Kept wr wx ∧ RBox wx fb y xa2 xc2 ∧ TStrs wx 9 xa2 y.texts ∧ (xa2 = none → xc2 = 0) ∧ (∀ ad : Addr, xa2 = some ad → fb < ad.block))
      case first =>
        clear q0 q1 q2 q3 q4 q5 q6
        obtain ⟨q0, q1, q2, q3, q4, q5, q6⟩ := HBox.out.all
        have qz := HBox.out.row.lt
        obtain ⟨_, g6⟩ := HBox.out.row.row.at (i := 6) (by omega)
        rcases (show xa = none ∨ ∃ ad, xa = some ad from by cases xa with | none => exact .inl rfl | some x => exact .inr ⟨x, rfl⟩) with rfl | ⟨ad, rfl⟩
        · have h0 : y.texts = [] := by
            cases htx : y.texts with
            | nil => rfl
            | cons t ts => exfalso; obtain ⟨b, o, e, _⟩ := HTk.out 0 (by rw [htx]; simp); cases e
          have hxc := HXk.out rfl
          have q6' : W2.cell? ⟨fb, 6, none⟩ = some (.slice none 0 0) := by rw [q6, h0, hxc]; rfl
          have H0 := hide h0
          clear q6 h0 hxc
          have q6 := q6'
          clear q6'
          go_wp2_with (at_builtin; refine wpList_append_own_none _ rfl (.tmp 23) (.tmp 25) 25 rfl W2.heap.size 9 is 1 Tryz.underlying25 hi (.slice (some ⟨W2.heap.size, 0, none⟩) 0 0) 0 [] rfl HOE.out rfl ?_)
          go_meet
          exact ⟨_, _, rfl, Kept.alloc (Below.setCell K2 (p := ⟨fb, 6, none⟩) hfr _) _, (HBox.out.put (xa' := some ⟨W2.heap.size, 0, none⟩) (xc' := 0) (by omega) (by simp [RunX.cells, H0.out])).kept ((Kept.refl _).alloc _), .inl H0.out, (fun e => by cases e), fun ad e => by cases e; exact qz⟩
        · have HNws : Hid (∀ j u, (y.texts.map Value.string)[j]? = some u → (W2.alloc (.cells #[] 9)).cell? (ad.add j) = some u) := fun j u hu => by
            have hj : j < y.texts.length := by have := (List.getElem?_eq_some_iff.1 hu).1; simpa using this
            obtain ⟨b, o, e, hb, hc⟩ := (HTk.out.kept (K2.trans HKE.out)) j hj
            simp only [Option.some.injEq] at e
            subst e
            rw [Addr.add_mid, hc]
            simp [hj] at hu
            simp [List.getD, hj, hu]
          have HOnes : Hid (∀ u ∈ y.texts.map Value.string, u.oneCell' = true) := fun u hu => by obtain ⟨x, _, rfl⟩ := List.mem_map.1 hu; rfl
          have hbs : W2.heap.size ≤ (W2.alloc (.cells #[] 9)).heap.size := HKE.out.size
          go_wp2_with (at_builtin; refine wpList_append_own _ rfl (.tmp 23) (.tmp 25) 25 rfl W2.heap.size 9 is _ 1 16 Tryz.underlying25 hi hz0 hz1 hz2 rfl (by decide) (.slice (some ⟨W2.heap.size, 0, none⟩) 0 0) 0 [] rfl HOE.out ad y.texts.length ca (y.texts.map Value.string) rfl (by simp) HNws.out HOnes.out (by unfold maxLen; omega) (by omega) hbs ?_; intro v1 w8 hown1 hgr1 _; rw [Nat.zero_add, List.nil_append] at hown1; have KP8 := kept_of_grown HKE.out (Nat.le_refl _) HOE.out hgr1; have HO8 := hide hown1; obtain ⟨av1, cv1, rfl⟩ := own_slice hown1; have HB8 := hide (HBox.out.kept KP8); have q6b := HB8.out.all.2.2.2.2.2.2; have qzb := HB8.out.row.lt; obtain ⟨_, g6b⟩ := HB8.out.row.row.at (i := 6) (by omega); clear hown1 hgr1)
          go_meet
          obtain ⟨h1, h2, h3⟩ := tstrs_owned (owns_set HO8.out (p := ⟨fb, 6, none⟩) qz (.slice av1 y.texts.length cv1))
          exact ⟨_, _, rfl, Below.setCell (K2.trans KP8) (p := ⟨fb, 6, none⟩) hfr _, HB8.out.put (by omega) rfl, h1, h2, fun ad e => Nat.lt_of_lt_of_le qz (h3 ad e)⟩
      case rest =>
        obtain ⟨xa2, xc2, rfl, k2, hbx, hs2, hx2, hp2⟩ := hcut
        obtain ⟨w2, rfl⟩ : ∃ w2, w2 = wc := ⟨_, rfl⟩
        clear q0 q1 q2 q3 q4 q5 q6 hb HOE HKE HBox s1
        obtain ⟨q0, q1, q2, q3, q4, q5, q6⟩ := hbx.all
        have qz := hbx.row.lt
        have hSt2 := HSt.out.kept k2
        have m1 := hSt2.runs
        have mz := hSt2.row.lt
        obtain ⟨⟨_, y1⟩, g1⟩ := hSt2.row.row.at (i := 1) (by omega)
        have HS2 := hide hSt2
        have KA : Kept w2 (w2.alloc (.cells #[.string y.name, .bool y.over, .bool y.fail, .string y.text, .int .i64 y.at', .int .i64 y.visits, .slice xa2 y.texts.length xc2] 59)) := (Kept.refl _).alloc _
        have hWz : W1.heap.size ≤ (w2.alloc (.cells #[.string y.name, .bool y.over, .bool y.fail, .string y.text, .int .i64 y.at', .int .i64 y.visits, .slice xa2 y.texts.length xc2] 59)).heap.size := Nat.le_trans hSt2.kb.size KA.size
        have HOw := hide (ownsRow_kept' hSt2.own KA)
        have HT2 := hide (hs2.same (u := 59) (SameKind.of_kept KA) (by decide))
        have HNw : Hid (∀ j u, (y.cells xa2 xc2)[j]? = some u → (w2.alloc (.cells #[.string y.name, .bool y.over, .bool y.fail, .string y.text, .int .i64 y.at', .int .i64 y.visits, .slice xa2 y.texts.length xc2] 59)).cell? ((⟨w2.heap.size, 0, none⟩ : Addr).add j) = some u) := fun j u hu => by rw [Addr.add_mid]; exact range_new w2 (y.cells xa2 xc2).toArray 59 j u (by simpa using hu)
        clear hSt2 hs2 hbx
        go_wp2_with (at_builtin; refine wpList_append_own _ rfl (.tmp 29) (.tmp 31) 31 rfl W1.heap.size 59 ino _ 7 80 Tryz.underlying31 hn0 hn1 hn2 hn3 rfl (by decide) _ t.length _ rfl HOw.out ⟨w2.heap.size, 0, none⟩ 1 1 (y.cells xa2 xc2) rfl rfl HNw.out (RunX.one y xa2 xc2) (by unfold maxLen; omega) (by omega) hWz ?_; intro v6 w9 hown9 hgr9 _; obtain ⟨av, cv, rfl⟩ := own_slice hown9; have HNx := hide (HS2.out.next (by omega) KA hgr9 hown9 HT2.out hx2 (fun ad e => by have := hp2 ad e; omega)); have hb9 : w9.heap[sb]? = (w2.alloc (.cells #[.string y.name, .bool y.over, .bool y.fail, .string y.text, .int .i64 y.at', .int .i64 y.visits, .slice xa2 y.texts.length xc2] 59)).heap[sb]? := hgr9.block sb (HS2.out.kept KA).row.lt (cp_ne (HS2.out.kept KA).row HOw.out); have hr9 := (HS2.out.kept KA).row.block hb9; obtain ⟨⟨_, u1⟩, e1⟩ := hr9.row.at (i := 1) (by omega); have u9 := hr9.lt; clear hown9 hgr9 hb9 hr9)
        go_roundw
        case rel => exact ⟨k + 1, av, cv, xs ++ y.cells xa2 xc2, by omega, by go_num, by rw [HSc.out]; exact HNx.out⟩
        case measure => simp [intOf]; omega
    · have hkl : k = R.length := by omega
      subst hkl
      rw [List.take_length] at hSt
      have m0 := hSt.roots
      have m1 := hSt.runs
      have hrs := HRes.out.block (hSt.kb.block _ HRes.out.lt (by omega))
      obtain ⟨⟨_, t0⟩, f0⟩ := hrs.row.at (i := 0) (by omega)
      obtain ⟨⟨_, t1⟩, f1⟩ := hrs.row.at (i := 1) (by omega)
      have HRs := hide hrs
      have HSt := hide hSt
      have hsb := hSt.row.lt
      have hwb := hrs.lt
      have zk := hSt.kb.size
      clear hrs hSt
      go_wp2
      have hR9 := World.rangeAt_setCells_same wr (w.heap.size + 1) 0 [.slice ra roots.length rc6, .slice d R.length dc] (HRs.out.row.there (o := 0) (m := 2) (Nat.le_refl _))
      have hO := owns_set (owns_set HSt.out.own (p := ⟨w.heap.size + 1, 0, none⟩) (by show w.heap.size + 1 < _; omega) (.slice ra roots.length rc6)) (p := ⟨w.heap.size + 1, 1, none⟩) (by show w.heap.size + 1 < _; omega) (.slice d R.length dc)
      have hT8 := owns_but HT7.out HSt.out.kb HSr.out (by decide)
      have hT9 := owns_set (owns_set hT8 (p := ⟨w.heap.size + 1, 0, none⟩) (by show w.heap.size + 1 < _; omega) (.slice ra roots.length rc6)) (p := ⟨w.heap.size + 1, 1, none⟩) (by show w.heap.size + 1 < _; omega) (.slice d R.length dc)
      have hP9 := (HSt.out.pack.plain.set (c := w.heap.size + 1) (p := 0) (fun b h => by omega) (.slice ra roots.length rc6)).set (c := w.heap.size + 1) (p := 1) (fun b h => by omega) (.slice d R.length dc)
      refine bodyPost_ret_cell [.slice ra roots.length rc6, .slice d R.length dc] _ Tryz.results19 rfl hR9 Tryz.underlying33 rfl Tryz.xSizeState rfl ⟨ra, rc6, d, dc, xs, rfl, owns_base hT9 (by omega), owns_base hO (by omega), packedX_weak hP9 (fun b h => by omega), ?_⟩
      exact ((HSt.out.kb.kept K1 (by omega)).setCell (by show w.heap.size ≤ w.heap.size + 1; omega) _).setCell (by show w.heap.size ≤ w.heap.size + 1; omega) _
structure But (S : Nat → Prop) (w w' : World) : Prop where
  os : w'.os = w.os
  tape : w'.tape = w.tape
  output : w'.output = w.output
  size : w.heap.size ≤ w'.heap.size
  block : ∀ b, b < w.heap.size → ¬ S b → w'.heap[b]? = w.heap[b]?
section
variable {S : Nat → Prop} {w w' w'' wz : World}
theorem But.of_kept (h : Kept w w') : But S w w' := ⟨h.os, h.tape, h.output, h.size, fun b hb _ => h.block b hb⟩
theorem But.of_grown {row : Option Nat} (h : w.grownBy w' row) (hs : ∀ b, row = some b → S b) : But S w w' := ⟨h.os, h.tape, h.output, h.size, fun b hb hn => h.block b hb (fun e => hn (hs b e.symm))⟩
theorem But.trans (h : But S w w') (k : But S w' w'') : But S w w'' := ⟨k.os.trans h.os, k.tape.trans h.tape, k.output.trans h.output, Nat.le_trans h.size k.size, fun b hb hn => (k.block b (Nat.lt_of_lt_of_le hb h.size) hn).trans (h.block b hb hn)⟩
theorem But.set (h : But S w w') {p : Addr} (hs : S p.block) (v : Value) : But S w (w'.setCell p v) := ⟨h.os, h.tape, h.output, by rw [size_setCell]; exact h.size, fun b hb hn => by rw [Below.heap_setCell _ _ _ _ (fun e => hn (by rw [e]; exact hs))]; exact h.block b hb hn⟩
theorem But.mono {S' : Nat → Prop} (h : But S w w') (hs : ∀ b, b < w.heap.size → S b → S' b) : But S' w w' := ⟨h.os, h.tape, h.output, h.size, fun b hb hn => h.block b hb (fun e => hn (hs b hb e))⟩
theorem But.kept (h : But S w w') (k : Kept wz w) (hs : ∀ b, S b → wz.heap.size ≤ b) : Kept wz w' :=
  ⟨h.os.trans k.os, h.tape.trans k.tape, h.output.trans k.output, Nat.le_trans k.size h.size, fun b hb => (h.block b (Nat.lt_of_lt_of_le hb k.size) (fun e => by have := hs b e; omega)).trans (k.block b hb)⟩
theorem But.cell (h : But S w w') {b o : Nat} (hb : b < w.heap.size) (hn : ¬ S b) : w'.cell? ⟨b, o, none⟩ = w.cell? ⟨b, o, none⟩ := World.cell?_of_block (w := w) (h.block b hb hn)
theorem But.row (h : But S w w') {b n : Nat} {t : TypeId} (hr : RowT w b t n) (hn : ¬ S b) : RowT w' b t n := hr.block (h.block b hr.lt hn)
theorem But.range (h : But S w w') {b o n : Nat} {t : TypeId} (hr : RowT w b t n) (hn : ¬ S b) {cs : List Value} (hc : w.rangeAt b o cs) : w'.rangeAt b o cs := fun j v hv => (h.cell hr.lt hn).trans (hc j v hv)
theorem But.owns (h : But S w w') {base size n : Nat} {e : TypeId} {v : Value} {xs : List Value} (ho : w.ownsRow base e size v n xs) (hn : ∀ b, v.ownBlock = some b → ¬ S b) : w'.ownsRow base e size v n xs := by
  refine ⟨ho.1, ?_⟩
  rcases ho.2 with h2 | ⟨g, cap, cur, rfl, hb, hg, rest⟩
  · exact .inl h2
  · exact .inr ⟨g, cap, cur, rfl, hb, by rw [h.block g (heap_lt hg) (hn g rfl)]; exact hg, rest⟩
end
def TypeAt (w : World) (b : Nat) (t : TypeId) : Prop := ∃ cur fr, w.heap[b]? = some (Obj.cells cur t fr)
theorem RowT.type {w : World} {b n : Nat} {t : TypeId} (h : RowT w b t n) : TypeAt w b t := let ⟨cur, h1, _⟩ := h; ⟨cur, _, h1⟩
theorem owns_type {w : World} {base size n : Nat} {e : TypeId} {v : Value} {xs : List Value} (h : w.ownsRow base e size v n xs) {b : Nat} (hb : v.ownBlock = some b) : TypeAt w b e := by
  rcases h.2 with ⟨rfl, _⟩ | ⟨g, cap, cur, rfl, _, hg, _⟩
  · cases hb
  · simp only [Value.ownBlock, Option.some.injEq] at hb
    subst hb
    exact ⟨cur, _, hg⟩
theorem type_ne {w : World} {b c : Nat} {t u : TypeId} (h : TypeAt w b t) (k : TypeAt w c u) (hn : t ≠ u) : b ≠ c := by
  rintro rfl
  obtain ⟨c1, f1, h1⟩ := h
  obtain ⟨c2, f2, h2⟩ := k
  rw [h1] at h2
  simp only [Option.some.injEq, Obj.cells.injEq] at h2
  exact hn h2.2.1
structure TaskM where
  tb : Nat
  r : RunX
  cost : Int
  steps : List StepD
  sa : Option Addr
  sc : Nat
  op : Nat
  tv : Value
  qv : Value
  qs : List Value
  bl : ByteArray
def TaskM.cells (t : TaskM) : List Value := [.string t.r.name, .bool t.r.over, .bool t.r.fail, .string t.r.text, .int .i64 t.r.at', .int .i64 t.r.visits, t.tv, .int .i64 t.cost, .slice t.sa t.steps.length t.sc, .int .i64 (t.op : Int), t.qv, .string t.bl]
def TaskM.ptr (t : TaskM) : Value := .pointer (some ⟨t.tb, 0, none⟩)
def TaskM.own (t : TaskM) : List Nat := t.tv.ownBlock.toList ++ t.qv.ownBlock.toList
def ptrB (b : Nat) : Value := .pointer (some ⟨b, 0, none⟩)
structure TaskAt (base : Nat) (w : World) (t : TaskM) : Prop where
  row : RowT w t.tb 64 12
  rng : w.rangeAt t.tb 0 t.cells
  txt : w.ownsRow base 9 1 t.tv t.r.texts.length (t.r.texts.map Value.string)
  ask : w.ownsRow base 9 1 t.qv t.qs.length t.qs
  low : base ≤ t.tb
theorem TaskAt.own_type {base : Nat} {w : World} {t : TaskM} (h : TaskAt base w t) {x : Nat} (hx : x ∈ t.own) : TypeAt w x 9 ∧ base ≤ x ∧ x < w.heap.size := by
  unfold TaskM.own at hx
  rcases List.mem_append.1 hx with hx | hx
  · have e := Option.mem_toList.1 hx
    exact ⟨owns_type h.txt e, h.txt.lt x e⟩
  · have e := Option.mem_toList.1 hx
    exact ⟨owns_type h.ask e, h.ask.lt x e⟩
theorem TaskAt.but {base : Nat} {S : Nat → Prop} {w w' : World} {t : TaskM} (h : TaskAt base w t) (k : But S w w') (h1 : ¬ S t.tb) (h2 : ∀ x ∈ t.own, ¬ S x) : TaskAt base w' t :=
  ⟨k.row h.row h1, k.range h.row h1 h.rng, k.owns h.txt (fun b hb => h2 b (List.mem_append.2 (.inl (Option.mem_toList.2 hb)))), k.owns h.ask (fun b hb => h2 b (List.mem_append.2 (.inr (Option.mem_toList.2 hb)))), h.low⟩
def asIs (v : Value) : Option (DataW Value × List MemPlace) := some (.held v, [])
def keyLit (s : ByteArray) : Lit := .string s.data.toList
def runsOf (ts : List TaskM) : List RunX := ts.map (·.r)
structure Ghost where
  wo : World
  K : Nat → Prop
  ps : List (Nat × ByteArray)
def Ghost.no (w : World) : Ghost := ⟨w, fun _ => False, []⟩
structure Fen (G : Ghost) (w : World) (bb mb : Nat) (ts : List TaskM) (f : ByteArray → Value) : Prop where
  size : G.wo.heap.size ≤ w.heap.size
  lt : ∀ k, G.K k → k < G.wo.heap.size
  same : ∀ k, G.K k → w.heap[k]? = G.wo.heap[k]?
  nb : ¬ G.K bb
  nm : ¬ G.K mb
  nt : ∀ t ∈ ts, ¬ G.K t.tb ∧ ∀ x ∈ t.own, ¬ G.K x
  nf : ∀ s x, (f s).ownBlock = some x → ¬ G.K x
  has : ∀ p ∈ G.ps, ∃ t ∈ ts, t.tb = p.1 ∧ t.r.name = p.2
theorem Fen.but {G : Ghost} {S : Nat → Prop} {w w' : World} {bb mb : Nat} {ts : List TaskM} {f : ByteArray → Value} (h : Fen G w bb mb ts f) (k : But S w w') (hS : ∀ b, S b → ¬ G.K b) : Fen G w' bb mb ts f :=
  ⟨Nat.le_trans h.size k.size, h.lt, fun b hb => (k.block b (Nat.lt_of_lt_of_le (h.lt b hb) h.size) (fun e => hS b e hb)).trans (h.same b hb), h.nb, h.nm, h.nt, h.nf, h.has⟩
theorem Fen.far {G : Ghost} {w : World} {bb mb : Nat} {ts : List TaskM} {f : ByteArray → Value} (h : Fen G w bb mb ts f) {x : Nat} (hx : w.heap.size ≤ x) : ¬ G.K x := fun hk => by
  have h1 := h.lt x hk
  have h2 := h.size
  omega
theorem Fen.no {w w' : World} {bb mb : Nat} {ts : List TaskM} {f : ByteArray → Value} (h : w.heap.size ≤ w'.heap.size) : Fen (Ghost.no w) w' bb mb ts f :=
  ⟨h, fun _ e => e.elim, fun _ e => e.elim, id, id, fun _ _ => ⟨id, fun _ _ => id⟩, fun _ _ _ => id, fun _ h => (by cases h)⟩
structure BM (G : Ghost) (webl : List NodeD) (wz w : World) (bb : Nat) (a : Option Addr) (cap : Nat) (rd : Option Addr) (rn rc : Nat) (mb mx : Nat) (ts : List TaskM) (d : Option Addr) (dc : Nat) (f : ByteArray → Value) (ws : ByteArray → List Nat) : Prop where
  kw : Kept wz w
  row : RowT w bb 114 6
  c0 : w.cell? ⟨bb, 0, none⟩ = some (.slice a webl.length cap)
  c1 : w.cell? ⟨bb, 1, none⟩ = some (.func (.func 117) #[] #[])
  c2 : w.cell? ⟨bb, 2, none⟩ = some (.slice rd rn rc)
  c3 : w.cell? ⟨bb, 3, none⟩ = some (.slice d ts.length dc)
  c4 : w.cell? ⟨bb, 4, none⟩ = some (.func (.func 88) #[] #[])
  c5 : w.cell? ⟨bb, 5, none⟩ = some (.map (some mb))
  low : wz.heap.size ≤ bb
  items : w.ownsRow wz.heap.size 57 1 (.slice d ts.length dc) ts.length (ts.map TaskM.ptr)
  task : ∀ t ∈ ts, TaskAt wz.heap.size w t
  act : ∀ t ∈ ts, actsOf webl t.r.name = some ⟨t.cost, t.steps⟩ ∧ Steps wz t.sa t.steps
  asc : AscX (runsOf ts)
  tbs : (ts.map (·.tb)).Nodup
  sep : ts.Pairwise fun t u => ∀ x ∈ t.own, x ∉ u.own
  sep2 : ∀ t ∈ ts, t.own.Nodup
  map : ∃ N D, N ≤ mx ∧ w.ownsMap Tryz.prog 9 asIs mb N D ∧ ∀ s : ByteArray, s.size ≤ maxLen → D.atKey (keyLit s) (.held (.slice none 0 0)) = .held (f s)
  mlow : wz.heap.size ≤ mb
  wrow : ∀ s, w.ownsRow wz.heap.size 57 1 (f s) (ws s).length ((ws s).map ptrB)
  wsep : ∀ s s', s ≠ s' → ∀ x, (f s).ownBlock = some x → (f s').ownBlock ≠ some x
  isep : ∀ s x, (f s).ownBlock = some x → (Value.slice d ts.length dc).ownBlock ≠ some x
  qb : ∀ t ∈ ts, t.qs.length ≤ 5 * mx
  oth : Fen G w bb mb ts f
theorem map_but {S : Nat → Prop} {w w' : World} {mb N : Nat} {D : DataW Value} (h : w.ownsMap Tryz.prog 9 asIs mb N D) (k : But S w w') (hn : ¬ S mb) : w'.ownsMap Tryz.prog 9 asIs mb N D := by
  obtain ⟨es, clock, hb, F, hs, hD⟩ := h
  exact ⟨es, clock, by rw [k.block mb (heap_lt hb) hn]; exact hb, F, hs, hD⟩
theorem map_ne {w : World} {mb N b : Nat} {D : DataW Value} {t : TypeId} (h : w.ownsMap Tryz.prog 9 asIs mb N D) (k : TypeAt w b t) : b ≠ mb := by
  rintro rfl
  obtain ⟨es, clock, hb, _⟩ := h
  obtain ⟨cur, fr, hc⟩ := k
  rw [hb] at hc
  cases hc
section
variable {G : Ghost} {webl : List NodeD} {wz w w' : World} {bb : Nat} {a : Option Addr} {cap : Nat} {rd : Option Addr} {rn rc : Nat} {mb mx : Nat} {ts : List TaskM} {d : Option Addr} {dc : Nat} {f : ByteArray → Value} {ws : ByteArray → List Nat}
theorem BM.but {S : Nat → Prop} (h : BM G webl wz w bb a cap rd rn rc mb mx ts d dc f ws) (k : But S w w') (hs : ∀ b, S b → wz.heap.size ≤ b) (h1 : ¬ S bb) (h2 : ¬ S mb) (h3 : ∀ b, (Value.slice d ts.length dc).ownBlock = some b → ¬ S b) (h4 : ∀ s b, (f s).ownBlock = some b → ¬ S b) (h5 : ∀ t ∈ ts, ¬ S t.tb ∧ ∀ x ∈ t.own, ¬ S x) (h6 : ∀ b, S b → ¬ G.K b) : BM G webl wz w' bb a cap rd rn rc mb mx ts d dc f ws := by
  have hb := h.row.lt
  refine ⟨k.kept h.kw hs, k.row h.row h1, (k.cell hb h1).trans h.c0, (k.cell hb h1).trans h.c1, (k.cell hb h1).trans h.c2, (k.cell hb h1).trans h.c3, (k.cell hb h1).trans h.c4, (k.cell hb h1).trans h.c5, h.low, k.owns h.items h3, fun t ht => (h.task t ht).but k (h5 t ht).1 (h5 t ht).2, h.act, h.asc, h.tbs, h.sep, h.sep2, ?_, h.mlow, fun s => k.owns (h.wrow s) (h4 s), h.wsep, h.isep, h.qb, h.oth.but k h6⟩
  obtain ⟨N, D, hN, hM, hf⟩ := h.map
  exact ⟨N, D, hN, map_but hM k h2, hf⟩
theorem BM.kept (h : BM G webl wz w bb a cap rd rn rc mb mx ts d dc f ws) (k : Kept w w') : BM G webl wz w' bb a cap rd rn rc mb mx ts d dc f ws :=
  h.but (S := fun _ => False) (But.of_kept k) (fun _ h => h.elim) id id (fun _ _ => id) (fun _ _ _ => id) (fun _ _ => ⟨id, fun _ _ => id⟩) (fun _ h => h.elim)
theorem BM.more {mx' : Nat} (h : BM G webl wz w bb a cap rd rn rc mb mx ts d dc f ws) (hm : mx ≤ mx') : BM G webl wz w bb a cap rd rn rc mb mx' ts d dc f ws :=
  ⟨h.kw, h.row, h.c0, h.c1, h.c2, h.c3, h.c4, h.c5, h.low, h.items, h.task, h.act, h.asc, h.tbs, h.sep, h.sep2, (by obtain ⟨N, D, h1, h2⟩ := h.map; exact ⟨N, D, Nat.le_trans h1 hm, h2⟩), h.mlow, h.wrow, h.wsep, h.isep, fun t ht => Nat.le_trans (h.qb t ht) (Nat.mul_le_mul_left 5 hm), h.oth⟩
theorem getElem_mem' {α : Type} {l : List α} {i : Nat} (h : i < l.length) : l[i] ∈ l := List.getElem_mem h
theorem runs_set {t' : TaskM} {i : Nat} (_hi : i < ts.length) : runsOf (ts.set i t') = (runsOf ts).set i t'.r := by simp [runsOf, List.map_set]
theorem asc_set {l : List RunX} {i : Nat} {r' : RunX} (h : AscX l) (hi : i < l.length) (hn : r'.name = l[i].name) : AscX (l.set i r') := by
  unfold AscX at h ⊢
  rw [List.pairwise_iff_getElem] at h ⊢
  intro p q hp hq hpq
  rw [List.length_set] at hp hq
  rw [List.getElem_set, List.getElem_set]
  have := h p q hp hq hpq
  split <;> split
  · omega
  · rename_i e _; subst e; rw [hn]; exact this
  · rename_i _ e; subst e; rw [hn]; exact this
  · exact this
theorem BM.turn {S : Nat → Prop} (h : BM G webl wz w bb a cap rd rn rc mb mx ts d dc f ws) {i : Nat} (hi : i < ts.length) (k : But S w w') (hS : ∀ b, S b → b = ts[i].tb ∨ b ∈ ts[i].own) {t' : TaskM} (ht : TaskAt wz.heap.size w' t') (e1 : t'.tb = ts[i].tb) (e2 : t'.r.name = ts[i].r.name) (e3 : t'.cost = ts[i].cost) (e4 : t'.steps = ts[i].steps) (e5 : t'.sa = ts[i].sa) (ho : ∀ x ∈ t'.own, x ∈ ts[i].own ∨ w.heap.size ≤ x) (hn : t'.own.Nodup) (hqb : t'.qs.length ≤ 5 * mx) : BM G webl wz w' bb a cap rd rn rc mb mx (ts.set i t') d dc f ws := by
  have hb := h.row.lt
  have hti := h.task ts[i] (getElem_mem' hi)
  have hl : (ts.set i t').length = ts.length := List.length_set ..
  have nS : ∀ {b : Nat} {u : TypeId}, TypeAt w b u → u ≠ 64 → u ≠ 9 → ¬ S b := fun hu h1 h2 hs => by
    rcases hS _ hs with e | e
    · exact type_ne hu hti.row.type h1 e
    · exact type_ne hu (hti.own_type e).1 h2 rfl
  have hm := h.map
  obtain ⟨N, D, hN, hM, hf⟩ := hm
  have sMb : ¬ S mb := fun hs => by
    rcases hS _ hs with e | e
    · exact map_ne hM hti.row.type e.symm
    · exact map_ne hM (hti.own_type e).1 rfl
  have sBb : ¬ S bb := nS h.row.type (by decide) (by decide)
  have other : ∀ (j : Nat) (hj : j < ts.length), j ≠ i → ¬ S ts[j].tb ∧ ∀ x ∈ ts[j].own, ¬ S x := fun j hj hji => by
    have htj := h.task ts[j] (getElem_mem' hj)
    refine ⟨fun hs => ?_, fun x hx hs => ?_⟩
    · rcases hS _ hs with e | e
      · have hnd := List.pairwise_iff_getElem.1 h.tbs
        rcases Nat.lt_or_gt_of_ne hji with hlt | hlt
        · have := hnd j i (by simpa using hj) (by simpa using hi) hlt
          simp at this
          exact this e
        · have := hnd i j (by simpa using hi) (by simpa using hj) hlt
          simp at this
          exact this e.symm
      · exact type_ne htj.row.type (hti.own_type e).1 (by decide) rfl
    · rcases hS _ hs with e | e
      · exact type_ne (htj.own_type hx).1 hti.row.type (by decide) e
      · have hsp := List.pairwise_iff_getElem.1 h.sep
        rcases Nat.lt_or_gt_of_ne hji with hlt | hlt
        · exact hsp j i hj hi hlt x hx e
        · exact hsp i j hi hj hlt x e hx
  have mem : ∀ u ∈ ts.set i t', u = t' ∨ ∃ (j : Nat) (hj : j < ts.length), j ≠ i ∧ u = ts[j] := fun u hu => by
    obtain ⟨j, hj, rfl⟩ := List.getElem_of_mem hu
    rw [hl] at hj
    rw [List.getElem_set]
    split
    · exact .inl rfl
    · rename_i e; exact .inr ⟨j, hj, Ne.symm e, rfl⟩
  have hsz : ∀ b, S b → wz.heap.size ≤ b := fun b hs => by
    rcases hS b hs with e | e
    · rw [e]; exact hti.low
    · exact (hti.own_type e).2.1
  have hKS : ∀ b, S b → ¬ G.K b := fun b hs => by
    rcases hS b hs with e | e
    · rw [e]; exact (h.oth.nt _ (getElem_mem' hi)).1
    · exact (h.oth.nt _ (getElem_mem' hi)).2 b e
  have hfen : Fen G w' bb mb (ts.set i t') f := by
    have h0 := h.oth.but k hKS
    refine ⟨h0.size, h0.lt, h0.same, h0.nb, h0.nm, fun u hu => ?_, h0.nf, fun p hp => ?_⟩
    rotate_left
    · obtain ⟨u, hu, g1, g2⟩ := h.oth.has p hp
      obtain ⟨j, hj, rfl⟩ := List.getElem_of_mem hu
      by_cases e : j = i
      · subst e
        exact ⟨t', List.mem_set hj _, by rw [e1]; exact g1, by rw [e2]; exact g2⟩
      · refine ⟨ts[j], ?_, g1, g2⟩
        have e3 : (ts.set i t')[j]'(by rw [hl]; exact hj) = ts[j] := by rw [List.getElem_set, if_neg (Ne.symm e)]
        rw [← e3]
        exact List.getElem_mem _
    rcases mem u hu with rfl | ⟨j, hj, hji, rfl⟩
    · refine ⟨by rw [e1]; exact (h.oth.nt _ (getElem_mem' hi)).1, fun x hx => ?_⟩
      rcases ho x hx with g | g
      · exact (h.oth.nt _ (getElem_mem' hi)).2 x g
      · exact h.oth.far g
    · exact h.oth.nt _ (getElem_mem' hj)
  refine ⟨k.kept h.kw hsz, k.row h.row sBb, (k.cell hb sBb).trans h.c0, (k.cell hb sBb).trans h.c1, (k.cell hb sBb).trans h.c2, by rw [hl]; exact (k.cell hb sBb).trans h.c3, (k.cell hb sBb).trans h.c4, (k.cell hb sBb).trans h.c5, h.low, ?_, ?_, ?_, ?_, ?_, ?_, ?_, ⟨N, D, hN, map_but hM k sMb, hf⟩, h.mlow, fun s => k.owns (h.wrow s) (fun b e => nS (owns_type (h.wrow s) e) (by decide) (by decide)), h.wsep, by rw [hl]; exact h.isep, fun u hu => by rcases mem u hu with rfl | ⟨j, hj, hji, rfl⟩; exact hqb; exact h.qb _ (getElem_mem' hj), hfen⟩
  · have e : (ts.set i t').map TaskM.ptr = ts.map TaskM.ptr := by
      rw [List.map_set]
      have e0 : t'.ptr = (ts.map TaskM.ptr)[i]'(by simpa using hi) := by simp [TaskM.ptr, e1]
      rw [e0, List.set_getElem_self]
    rw [hl, e]
    exact k.owns h.items (fun b e => nS (owns_type h.items e) (by decide) (by decide))
  · intro u hu
    rcases mem u hu with rfl | ⟨j, hj, hji, rfl⟩
    · exact ht
    · exact (h.task _ (getElem_mem' hj)).but k (other j hj hji).1 (other j hj hji).2
  · intro u hu
    rcases mem u hu with rfl | ⟨j, hj, hji, rfl⟩
    · rw [e2, e3, e4, e5]; exact h.act _ (getElem_mem' hi)
    · exact h.act _ (getElem_mem' hj)
  · rw [runs_set hi]
    exact asc_set h.asc (by simpa [runsOf] using hi) (by simp [runsOf, e2])
  · have e : (ts.set i t').map (·.tb) = ts.map (·.tb) := by
      rw [List.map_set]
      have e0 : t'.tb = (ts.map (·.tb))[i]'(by simpa using hi) := by simp [e1]
      rw [e0, List.set_getElem_self]
    rw [e]
    exact h.tbs
  · rw [List.pairwise_iff_getElem]
    have hsp := List.pairwise_iff_getElem.1 h.sep
    intro p q hp hq hpq x hx
    rw [hl] at hp hq
    rw [List.getElem_set] at hx ⊢
    split at hx
    · rename_i e
      subst e
      rw [if_neg (by omega)]
      rcases ho x hx with g | g
      · exact hsp i q hi hq hpq x g
      · intro g2
        have := ((h.task _ (getElem_mem' hq)).own_type g2).2.2
        omega
    · split
      · rename_i e
        subst e
        intro g
        rcases ho x g with g | g
        · exact hsp p i hp hi hpq x hx g
        · have := ((h.task _ (getElem_mem' hp)).own_type hx).2.2
          omega
      · exact hsp p q hp hq hpq x hx
  · intro u hu
    rcases mem u hu with rfl | ⟨j, hj, hji, rfl⟩
    · exact hn
    · exact h.sep2 _ (getElem_mem' hj)
end
def BlOk (W : Acts) (r : RunX) (bl : ByteArray) : Prop :=
  (bl = ⟨#[]⟩ ∧ (r.over = true → r.fail = true → r.text = spentB ∨ ∃ A, W r.name = some A ∧ (stepOf A r.at').fin = true)) ∨
  (r.over = true ∧ r.fail = true ∧ (∃ A, W r.name = some A ∧ (stepOf A r.at').fin = false ∧ bl ∈ (stepOf A r.at').asks) ∧ r.text = (⟨#[98, 101, 108, 111, 119, 32]⟩ : ByteArray) ++ bl)
theorem BlOk.open {W : Acts} {r : RunX} {bl : ByteArray} (h : BlOk W r bl) (ho : r.over = false) : bl = ⟨#[]⟩ := by
  rcases h with h | ⟨h, _⟩
  · exact h.1
  · rw [ho] at h; cases h
theorem BlOk.still {W : Acts} {r : RunX} {bl : ByteArray} (hb : bl = ⟨#[]⟩) (ho : r.over = false) : BlOk W r bl := .inl ⟨hb, fun h => by rw [ho] at h; cases h⟩
def QsOk (W : Acts) (σ : Env) (r : RunX) (qs : List Value) : Prop := ∃ L, Traj W σ r L ∧ qs = L.map Value.string
theorem QsOk.mono {W : Acts} {σ : Env} {m : ByteArray} {r : RunX} {qs : List Value} (h : QsOk W σ r qs) (hr : ReadyX W σ m) : QsOk W (doX W σ m) r qs := by
  obtain ⟨L, h1, h2⟩ := h
  exact ⟨L, h1.mono hr, h2⟩
theorem QsOk.unit {W : Acts} {σ : Env} {r : RunX} {qs : List Value} (h : QsOk W σ r qs) (hc : CanGo W σ r) : QsOk W σ (nextOf W σ r).1 (qs ++ (nextOf W σ r).2.map Value.string) := by
  obtain ⟨L, h1, h2⟩ := h
  exact ⟨_, h1.unit hc, by rw [h2, List.map_append]⟩
theorem QsOk.still {W : Acts} {σ : Env} {r : RunX} {qs : List Value} (hq : qs = []) (hr : r = RunX.fresh r.name) : QsOk W σ r qs := ⟨[], by rw [hr]; exact Traj.start _, hq⟩
def TaskM.bq (t : TaskM) : ByteArray × List Value := (t.bl, t.qs)
structure BS (webl : List NodeD) (ts : List TaskM) (ws : ByteArray → List Nat) : Prop where
  good : GoodL webl (runsOf ts)
  op : ∀ t ∈ ts, t.op = (pend (actsOf webl) (envOf (runsOf ts)) t.r).length
  wt : ∀ s, ∀ t ∈ ts, (t.tb ∈ ws s ↔ s ∈ pend (actsOf webl) (envOf (runsOf ts)) t.r)
  wn : ∀ s, (ws s).Nodup
  ww : ∀ s b, b ∈ ws s → ∃ t ∈ ts, t.tb = b
  bl : ∀ t ∈ ts, BlOk (actsOf webl) t.r t.bl
  qs : ∀ t ∈ ts, QsOk (actsOf webl) (envOf (runsOf ts)) t.r t.qs
end Go.Proofs.YtjhemildijapmaaGreatDoor
namespace Go.Proofs.YtjhemildijapmaaGreatDoor
open Go.RowKit
theorem web_len {webl : List NodeD} (h : WebCode webl 0) : webl.length ≤ 60 := by
  rcases h with ⟨_, h⟩ | ⟨_, _, h⟩ | ⟨_, _, _, h⟩ | ⟨_, _, _, _, h⟩ | ⟨h, _⟩
  · cases h
  · cases h
  · cases h
  · cases h
  · omega
theorem web_node {webl : List NodeD} (h : WebCode webl 0) {k : Nat} (hk : k < webl.length) : NameOk (webl.getD k NodeD.zero).name ∧ ActionOk ⟨(webl.getD k NodeD.zero).cost, (webl.getD k NodeD.zero).steps⟩ := by
  rcases h with ⟨_, h⟩ | ⟨_, _, h⟩ | ⟨_, _, _, h⟩ | ⟨_, _, _, _, h⟩ | ⟨_, h1, _, h2, _⟩
  · cases h
  · cases h
  · cases h
  · cases h
  · refine ⟨Classical.byContradiction fun hc => h1 ⟨k, hk, hc⟩, Classical.byContradiction fun hc => h2 ⟨k, hk, hc⟩⟩
theorem web_acts {webl : List NodeD} (h : WebCode webl 0) : ActsOk (actsOf webl) := fun n A hA => by
  obtain ⟨k, h1, h2, _, rfl⟩ := acts_first hA
  obtain ⟨g1, g2⟩ := web_node h h1
  rw [h2] at g1
  exact ⟨g2, g1⟩
theorem web_small {webl : List NodeD} (h : WebCode webl 0) : SmallAsks webl := fun y hy s hs => by
  obtain ⟨k, hk, rfl⟩ := List.getElem_of_mem hy
  have h1 := (web_node h hk).2
  simp only [List.getD, List.getElem?_eq_getElem hk, Option.getD_some] at h1
  obtain ⟨i, hi, rfl⟩ := List.getElem_of_mem hs
  have h2 := asks_ok (i := (i : Int)) h1 (by omega) (by show (i : Int) < ((webl[k].steps.length : Nat) : Int); omega)
  have e : stepOf ⟨webl[k].cost, webl[k].steps⟩ (i : Int) = webl[k].steps[i] := by simp [stepOf, List.getD, hi]
  rw [e] at h2
  exact ⟨by omega, fun x hx => by have := (h2.2 x hx).2.1; omega⟩
structure XVar (wr : World) (xb : Nat) (roots : List ByteArray) (L : List RunX) (ra : Option Addr) (rc : Nat) (d : Option Addr) (dc : Nat) : Prop where
  row : RowT wr xb 33 2
  c0 : wr.cell? ⟨xb, 0, none⟩ = some (.slice ra roots.length rc)
  c1 : wr.cell? ⟨xb, 1, none⟩ = some (.slice d L.length dc)
  rts : Strs wr ra roots
  rns : RunsX wr d L
theorem XVar.kept {w w' : World} {xb rc dc : Nat} {roots : List ByteArray} {L : List RunX} {ra d : Option Addr} (h : XVar w xb roots L ra rc d dc) (k : Kept w w') : XVar w' xb roots L ra rc d dc :=
  ⟨h.row.kept k, (k.cell h.row.lt).trans h.c0, (k.cell h.row.lt).trans h.c1, h.rts.kept k, h.rns.kept k⟩
theorem XVar.made {w : World} {rc dc : Nat} {roots : List ByteArray} {L : List RunX} {ra d : Option Addr} (hT : Strs w ra roots) (hS : RunsX w d L) : XVar (w.alloc (.cells #[.slice ra roots.length rc, .slice d L.length dc] 33)) w.heap.size roots L ra rc d dc :=
  ⟨RowT.made w _ _, range_new w #[.slice ra roots.length rc, .slice d L.length dc] 33 0 _ rfl, range_new w #[.slice ra roots.length rc, .slice d L.length dc] 33 1 _ rfl, hT.kept ((Kept.refl _).alloc _), hS.kept ((Kept.refl _).alloc _)⟩
theorem XVar.laid {W w' : World} {rc dc xb : Nat} {roots : List ByteArray} {L : List RunX} {ra d : Option Addr} {xs : List Value} (hx : xb < W.heap.size) (hr : RowT w' xb 33 2) (hT : w'.ownsRow W.heap.size 9 1 (.slice ra roots.length rc) roots.length (roots.map Value.string)) (hO : w'.ownsRow W.heap.size 59 7 (.slice d L.length dc) L.length xs) (hP : PackedX w' (fun b => W.heap.size ≤ b) xs L) : XVar (w'.setCells xb 0 [.slice ra roots.length rc, .slice d L.length dc]) xb roots L ra rc d dc := by
  have hR := World.rangeAt_setCells_same w' xb 0 [.slice ra roots.length rc, .slice d L.length dc] (hr.row.there (o := 0) (m := 2) (Nat.le_refl _))
  refine ⟨RowT.sets _ _ hr, hR 0 _ rfl, hR 1 _ rfl, ?_, ?_⟩
  · have h1 := owns_set (owns_set hT (p := ⟨xb, 0, none⟩) hx (.slice ra roots.length rc)) (p := ⟨xb, 1, none⟩) hx (.slice d L.length dc)
    obtain ⟨a9, c9, e9, h9⟩ := owned_strs h1
    simp only [Value.slice.injEq, true_and] at e9
    rw [← e9.1] at h9
    exact h9
  · have h1 := owns_set (owns_set hO (p := ⟨xb, 0, none⟩) hx (.slice ra roots.length rc)) (p := ⟨xb, 1, none⟩) hx (.slice d L.length dc)
    have h2 := (hP.set (c := xb) (p := 0) (fun b h => by omega) (.slice ra roots.length rc)).set (c := xb) (p := 1) (fun b h => by omega) (.slice d L.length dc)
    obtain ⟨_, a9, c9, e9, h9⟩ := PackedX.runs h1 h2 (Kept.refl _)
    simp only [Value.slice.injEq, true_and] at e9
    rw [← e9.1] at h9
    exact h9.runs
theorem StrsB.but {w w' : World} {xb : Nat} {a : Option Addr} {l : List ByteArray} (h : StrsB w xb a l) (k : KeptBut xb (xb + 1) w w') : StrsB w' xb a l := fun i hi => by
  obtain ⟨b, o, e, hb, h1, hc⟩ := h i hi
  exact ⟨b, o, e, Nat.lt_of_lt_of_le hb k.size, h1, by rw [World.cell?_of_block (w := w) (k.block b hb (by omega))]; exact hc⟩
theorem StrsB.strs {w : World} {xb : Nat} {a : Option Addr} {l : List ByteArray} (h : StrsB w xb a l) : Strs w a l := fun i hi => by
  obtain ⟨b, o, e, hb, _, hc⟩ := h i hi
  exact ⟨b, o, e, hb, hc⟩
theorem StrsB.owned {w : World} {base xb : Nat} {t : TypeId} {a : Option Addr} {c : Nat} {l : List ByteArray} (h : w.ownsRow base t 1 (.slice a l.length c) l.length (l.map Value.string)) (hx : xb < base) : StrsB w xb a l := by
  rcases h.2 with ⟨e, h0⟩ | ⟨g, cap, cur, e, hb, hg, hnc, _, _, _⟩
  · intro i hi; rw [h0] at hi; exact absurd hi (Nat.not_lt_zero _)
  · intro i hi
    simp only [Value.slice.injEq] at e
    obtain ⟨rfl, _, rfl⟩ := e
    refine ⟨g, 0, rfl, heap_lt hg, by omega, ?_⟩
    have := h.cells (g := g) rfl i (.string (l.getD i ByteArray.empty)) (by simp [List.getD, hi])
    rw [Addr.add_mid] at this
    exact this
theorem KeptBut.sets {lo hi : Nat} {a : World} {g : Nat} (h1 : lo ≤ g) (h2 : g < hi) : ∀ (vs : List Value) (o : Nat) {u : World}, KeptBut lo hi a u → KeptBut lo hi a (u.setCells g o vs)
  | [], _, _, h => h
  | v :: r, o, _, h => by rw [World.setCells]; exact KeptBut.sets h1 h2 r (o + 1) (h.setCell (p := ⟨g, o, none⟩) h1 h2 v)
def ValidX (webl : List NodeD) (roots : List ByteArray) (sl : List RunX) : Prop := WebCode webl 0 ∧ RootsOk roots ∧ sl.length ≤ webl.length ∧ GoalX webl roots sl
structure OutV (webl : List NodeD) (roots : List ByteArray) (sl : List RunX) (L : List RunX) (bb : Bool) (gg : Nat) : Prop where
  good : GoodL webl L
  led : ∃ k, Leads (Behind (W := actsOf webl) behindS (envOf sl)) (doX (actsOf webl)) (envOf (startL webl roots)) (envOf L) k
  fin : bb = false → AtEnd (Behind (W := actsOf webl) behindS (envOf sl)) (envOf L)
  pot : gg = 2 * potL webl L + (if bb = true then 1 else 0)
theorem OutV.begin {webl : List NodeD} (hw : WebCode webl 0) (roots : List ByteArray) (sl : List RunX) : OutV webl roots sl (startL webl roots) true (2 * potL webl (startL webl roots) + 1) :=
  ⟨startL_good (web_acts hw) roots, ⟨0, .here _⟩, fun h => (by cases h), rfl⟩
theorem OutV.next {webl : List NodeD} {roots : List ByteArray} {sl L0 L : List RunX} {ns : List ByteArray} {b : Bool} {gg : Nat} (h0 : OutV webl roots sl L0 true gg) (hn : ReadyL (actsOf webl) (envOf L0) L0 ns) (h : RoundX webl (envOf sl) (envOf (startL webl roots)) ns L0 L ns.length b) : OutV webl roots sl L b (2 * potL webl L + (if b = true then 1 else 0)) ∧ 2 * potL webl L + (if b = true then 1 else 0) < gg := by
  refine ⟨⟨h.good, h.led, fun hb => ?_, rfl⟩, ?_⟩
  · subst hb
    exact (h.atEnd h0.good hn).2
  · rw [h0.pot]
    cases b with
    | true => have := h.yes rfl; simp only [if_true]; omega
    | false => rw [(h.no rfl).1]; simp
theorem not_behind_none {webl : List NodeD} {G σ : Env} {n : ByteArray} (h : G n = none) : ¬ Behind (W := actsOf webl) behindS G σ n := fun hb => by
  obtain ⟨_, g, _, hg, _⟩ := hb.2
  rw [h] at hg
  cases hg
theorem not_behind {webl : List NodeD} {G σ : Env} {n : ByteArray} {r g : RunX} (hr : σ n = some r) (hg : G n = some g) (h : ¬ behindS r g) : ¬ Behind (W := actsOf webl) behindS G σ n := fun hb => by
  obtain ⟨r', g', hr', hg', hp⟩ := hb.2
  rw [hr] at hr'
  rw [hg] at hg'
  cases hr'
  cases hg'
  exact h hp
end Go.Proofs.YtjhemildijapmaaGreatDoor
