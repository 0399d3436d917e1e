import Derived.Test.YtjhemildijapmaaGreatDoorKBEnd
import Derived.Test.YtjhemildijapmaaGreatDoorKOConcat
import Derived.Deep.RegionHeld
import Derived.Deep.AppendLies
import Derived.Laws.OwnMore
namespace Go.Proofs.YtjhemildijapmaaGreatDoor
open Go.RowKit
theorem Tryz.infoPtrB : (Tryz.prog.info? 57).map (fun i => (i.zero, i.size, i.bytes)) = some (some (.pointer none), 1, 8) := by kernel_rfl
set_option maxRecDepth 100000 in
set_option maxHeartbeats 800000 in
theorem growB_any (w : World) (n : Nat) (hn : n ≤ 3145728) :
    Calls Tryz.prog 157 #[.slice none 0 0, .int .i64 n] w fun e w' => ∃ v, e = .returned v ∧ w'.ownsRow w.heap.size 57 1 v 0 [] ∧ Kept w w' := by
  by_cases h0 : n = 0
  · subst h0
    go_enter Tryz.func157, Tryz.ntmps157
    go_wp2
    go_ret
    exact ⟨_, rfl, World.ownsRow_nil _ _ _ _, Kept.refl _⟩
  · obtain ⟨i0, hi, hz0, hz1, hz2⟩ := info_parts Tryz.infoPtrB
    have hrun := fun ty => Lib.run_append_nil_zeros (P := Tryz.prog) w 105 3 ty 57 i0 _ .i64 .i64 Tryz.underlying105 Tryz.undInt hi hz0 n (by omega) (by rw [hz1]; omega) (by omega) (by rw [hz2]; omega)
    have hge := grownCap_ge w n 0 57
    have hle := grownCap_le_maxLen w n 0 57 (by unfold maxLen; omega)
    have HRun := hide hrun
    clear hrun
    have hp : (0 : Int) < (n : Int) := by omega
    go_enter Tryz.func157, Tryz.ntmps157
    go_wp2_with (at_builtin; refine Lib.wpList_append_run _ rfl (.tmp 20) (.tmp 21) _ _ rfl _ _ rfl rfl _ _ (HRun.out _) ?_)
    go_ret
    refine ⟨_, rfl, World.ownsRow.drew (World.ownsRow_made w _ _ (Nat.le_refl _) hle ?_), ((Kept.refl _).alloc _).drew⟩
    simp only [Array.size_append, size_zeroCells]
    have e3 : (#[Value.pointer none] : Array Value).size = 1 := rfl
    rw [e3, ← Nat.add_mul]
    congr 1
    omega
def RowsB (w : World) (b : Nat) (LL : List (List Value)) (P : Nat → Option Addr) (C : Nat → Nat) : Prop :=
  b < w.heap.size ∧ ∀ i, i < LL.length → w.cell? ⟨b, i, none⟩ = some (.slice (P i) (LL.getD i []).length (C i)) ∧ ((P i = none ∧ C i = 0 ∧ LL.getD i [] = []) ∨ ∃ p1 p2, P i = some ⟨p1, p2, none⟩ ∧ ∀ j u, (LL.getD i [])[j]? = some u → w.cell? ⟨p1, p2 + j, none⟩ = some u)
theorem RowsB.kept {w w' : World} {b : Nat} {LL : List (List Value)} {P : Nat → Option Addr} {C : Nat → Nat} (h : RowsB w b LL P C) (k : Kept w w') : RowsB w' b LL P C :=
  ⟨Nat.lt_of_lt_of_le h.1 k.size, fun i hi => ⟨by rw [k.cell h.1]; exact (h.2 i hi).1, by
    rcases (h.2 i hi).2 with g | ⟨p1, p2, e, g⟩
    · exact .inl g
    · exact .inr ⟨p1, p2, e, fun j u hu => by rw [k.cell (World.block_lt_of_cell? _ _ (g j u hu))]; exact g j u hu⟩⟩⟩
theorem flatB_succ (LL : List (List Value)) (k : Nat) (h : k < LL.length) : (LL.take (k + 1)).flatten = (LL.take k).flatten ++ LL.getD k [] := by
  rw [List.take_succ_eq_append_getElem h, List.flatten_append]
  simp [List.getD, h]
theorem flatB_len (LL : List (List Value)) (k : Nat) : (LL.take k).flatten.length = sumTo List.length LL k := by
  unfold sumTo
  rw [List.length_flatten]
set_option maxRecDepth 100000 in
set_option maxHeartbeats 1600000 in
theorem concatB_any (w : World) (b cap : Nat) (LL : List (List Value)) (P : Nat → Option Addr) (C : Nat → Nat) (hm : LL.length ≤ 3) (hn : (LL.map List.length).sum ≤ 3145728) (hone : ∀ l ∈ LL, ∀ u ∈ l, u.oneCell' = true) (hR : RowsB w b LL P C) :
    Calls Tryz.prog 141 #[.slice (some ⟨b, 0, none⟩) LL.length cap] w fun e w' => ∃ v, e = .returned v ∧ w'.ownsRow w.heap.size 57 1 v LL.flatten.length LL.flatten ∧ Kept w w' := by
  go_enter Tryz.func141, Tryz.ntmps141
  go_wp2
  go_loop [3, 11] (fun x i => ∃ k : Nat, k ≤ LL.length ∧ i = .int .i64 k ∧ x = .int .i64 (sumTo List.length LL k : Nat)) (fun _ i => LL.length - (intOf i).toNat)
  case atStart => exact ⟨0, Nat.zero_le _, rfl, by rw [sumTo_zero]; rfl⟩
  case round =>
    obtain ⟨k, hk, rfl, rfl⟩ := hrel
    by_cases hlt : k < LL.length
    · have hc := (hR.2 k hlt).1
      have HS : Hid (sumTo List.length LL (k + 1) = sumTo List.length LL k + (LL.getD k []).length) := sumTo_succ _ LL _ k hlt
      have HT := sumTo_le List.length LL (k + 1)
      have hst : sumTo List.length LL k + (LL.getD k []).length ≤ 3145728 := by have := HS.out; omega
      generalize sumTo List.length LL k = z at *
      generalize (LL.getD k []).length = y at *
      generalize P k = pk at *
      clear HT
      go_wp2
      go_round
      case rel => exact ⟨k + 1, by omega, by go_num, by rw [HS.out]; go_num⟩
      case measure => simp [intOf]; omega
    · have hkl : k = LL.length := by omega
      subst hkl
      have hz : sumTo List.length LL LL.length ≤ 3145728 := by rw [sumTo_all]; exact hn
      generalize sumTo List.length LL LL.length = z at *
      go_wp2_with fail
      refine (growB_any _ z hz).mono ?_
      rintro e w1 ⟨v1, rfl, hown, k1⟩
      go_wp2
      go_loopw [6, 27] (fun x i wr => ∃ (k : Nat), k ≤ LL.length ∧ i = .int .i64 k ∧ wr.ownsRow w.heap.size 57 1 x (LL.take k).flatten.length (LL.take k).flatten ∧ Kept w wr) (fun _ i _ => LL.length - (intOf i).toNat)
      case atStart => exact ⟨0, Nat.zero_le _, rfl, by simpa using hown, k1⟩
      case round =>
        obtain ⟨k, hk, rfl, hown, hw⟩ := hrel
        by_cases hlt : k < LL.length
        · have hc := ((hR.kept hw).2 k hlt).1
          have hbr := (hR.kept hw).1
          have hsrc := ((hR.kept hw).2 k hlt).2
          have hflat := flatB_succ LL k hlt
          have hln := flatB_len LL (k + 1)
          have hle := sumTo_le List.length LL (k + 1)
          rw [hflat, List.length_append] at hln
          have hon := hone (LL.getD k []) (by simp [List.getD, hlt])
          obtain ⟨y, hy⟩ : ∃ y, y = LL.getD k [] := ⟨_, rfl⟩
          obtain ⟨x0, hx0⟩ : ∃ x0, x0 = (LL.take k).flatten := ⟨_, rfl⟩
          rw [← hy] at hc hsrc hln hflat hon
          rw [← hx0] at hown hln hflat
          have hb1 : x0.length + y.length ≤ 3145728 := by omega
          have HFl := hide hflat
          have HOw := hide hown
          have hbase := hw.size
          clear hln hle hflat hy hx0
          rcases hsrc with ⟨e1, e2, e3⟩ | ⟨p1, p2, e1, hcs⟩
          · rw [e1, e2, e3] at hc
            rw [e3, List.append_nil] at HFl
            rcases hown.2 with ⟨ev, h0⟩ | ⟨g, cp, cur, ev, hb0, hg, hnc, _, _, _⟩
            · subst ev
              simp only [List.length_nil] at hc
              clear hown
              go_wp2
              go_roundw
              case rel => exact ⟨k + 1, by omega, by go_num, by rw [HFl.out]; exact HOw.out, hw⟩
              case measure => simp [intOf]; omega
            · subst ev
              simp only [List.length_nil] at hc
              have hnc' : (x0.length : Int) ≤ (cp : Int) := by omega
              have hgl := heap_lt hg
              clear hown hg
              go_wp2
              go_roundw
              case rel => exact ⟨k + 1, by omega, by go_num, by rw [HFl.out]; exact HOw.out, hw⟩
              case measure => simp [intOf]; omega
          · rw [e1] at hc
            have hnw : ∀ j u, y[j]? = some u → wr.cell? ((⟨p1, p2, none⟩ : Addr).add j) = some u := fun j u hu => by
              rw [Addr.add_mid]
              exact hcs j u hu
            obtain ⟨i0, hi, hz0, hz1, hz2⟩ := info_parts Tryz.infoPtrB
            have HN2 := hide hnw
            have HON := hide hon
            obtain ⟨m, hm'⟩ : ∃ m, m = y.length := ⟨_, rfl⟩
            rw [← hm'] at hc
            have HM := hide hm'
            clear hnw hon hcs hown hm'
            go_wp2_with (at_builtin; refine wpList_append_own _ rfl (.tmp 31) (.tmp 32) 105 rfl w.heap.size 57 i0 _ 1 8 Tryz.underlying105 hi hz0 hz1 hz2 rfl (by decide) _ x0.length x0 rfl HOw.out ⟨p1, p2, none⟩ m (C k) y rfl (by have := HM.out; omega) HN2.out HON.out (by have := HM.out; unfold maxLen; omega) (by have := HM.out; omega) hbase ?_; intro v' w2 hown2 hgr _)
            go_roundw
            case rel => exact ⟨k + 1, by omega, by go_num, by rw [HFl.out, List.length_append, ← HM.out]; exact hown2, kept_of_grown hw (Nat.le_refl _) HOw.out hgr⟩
            case measure => simp [intOf]; omega
        · have hkl : k = LL.length := by omega
          subst hkl
          rw [List.take_length] at hown
          have HOw := hide hown
          clear hown
          go_wp2
          go_ret
          exact ⟨_, rfl, HOw.out, hw⟩
theorem Tryz.sizeSortedB : (Tryz.prog.info? 108).map (·.size) = some 2 := by kernel_rfl
def PartB (w : World) (A : Option Addr) (c : Nat) (ys : List Value) : Prop := (A = none ∧ c = 0 ∧ ys = []) ∨ ∃ p1 p2, A = some ⟨p1, p2, none⟩ ∧ ∀ j u, ys[j]? = some u → w.cell? ⟨p1, p2 + j, none⟩ = some u
theorem concatB_with {w2 : World} {xs : List Value} {p n c1 c3 tb : Nat} {A1 A3 : Option Addr} (hn : xs.length = n) (hl : n ≤ 1000) (hp : p ≤ n) (hone : ∀ u ∈ xs, u.oneCell' = true) (h1 : PartB w2 A1 c1 (xs.take p)) (h3 : PartB w2 A3 c3 (xs.drop p)) {m : Nat} (hm : m = n + 1) :
    Calls Tryz.prog 141 #[.slice (some ⟨w2.heap.size + 1, 0, none⟩) 3 3] ((w2.alloc (.cells #[.pointer (some ⟨tb, 0, none⟩)] 57)).alloc (.cells #[.slice A1 p c1, .slice (some ⟨w2.heap.size, 0, none⟩) 1 1, .slice A3 (n - p) c3] 105)).drew
      fun e w' => ∃ a' cap' base, e = .returned (.slice a' m cap') ∧ w2.heap.size ≤ base ∧ w'.ownsRow base 57 1 (.slice a' m cap') m (xs.take p ++ .pointer (some ⟨tb, 0, none⟩) :: xs.drop p) ∧ Kept w2 w' := by
  have k1 : Kept w2 ((w2.alloc (.cells #[.pointer (some ⟨tb, 0, none⟩)] 57)).alloc (.cells #[.slice A1 p c1, .slice (some ⟨w2.heap.size, 0, none⟩) 1 1, .slice A3 (n - p) c3] 105)).drew := (((Kept.refl _).alloc _).alloc _).drew
  have a2 := xBoxCell (w := w2) (x := .pointer (some ⟨tb, 0, none⟩)) (t := 57) (((Kept.refl _).alloc (.cells #[.slice A1 p c1, .slice (some ⟨w2.heap.size, 0, none⟩) 1 1, .slice A3 (n - p) c3] 105)).drew)
  have part : ∀ {A c ys}, PartB w2 A c ys → ∀ W, Kept w2 W → (A = none ∧ c = 0 ∧ ys = []) ∨ ∃ p1 p2, A = some ⟨p1, p2, none⟩ ∧ ∀ j u, ys[j]? = some u → W.cell? ⟨p1, p2 + j, none⟩ = some u := by
    intro A c ys h W k
    rcases h with h | ⟨p1, p2, e, g⟩
    · exact .inl h
    · exact .inr ⟨p1, p2, e, fun j u hu => by rw [k.cell (World.block_lt_of_cell? _ _ (g j u hu))]; exact g j u hu⟩
  have hfl : ([xs.take p, [.pointer (some ⟨tb, 0, none⟩)], xs.drop p] : List (List Value)).flatten = xs.take p ++ .pointer (some ⟨tb, 0, none⟩) :: xs.drop p := by simp
  refine (concatB_any _ (w2.heap.size + 1) 3 [xs.take p, [.pointer (some ⟨tb, 0, none⟩)], xs.drop p] (fun i => if i = 0 then A1 else if i = 1 then some ⟨w2.heap.size, 0, none⟩ else A3) (fun i => if i = 0 then c1 else if i = 1 then 1 else c3) (by simp) (by simp [List.length_take, List.length_drop]; omega) ?_ ⟨?_, fun i hi => ?_⟩).mono ?_
  · intro l hl u hu
    simp only [List.mem_cons, List.not_mem_nil, or_false] at hl
    rcases hl with rfl | rfl | rfl
    · exact hone u (List.mem_of_mem_take hu)
    · simp at hu; subst hu; rfl
    · exact hone u (List.mem_of_mem_drop hu)
  · show w2.heap.size + 1 < ((w2.alloc _).alloc _).heap.size
    simp
  · match i, hi with
    | 0, _ => exact ⟨by simp [List.length_take, Nat.min_eq_left (hn ▸ hp)], part h1 _ k1⟩
    | 1, _ => exact ⟨by simp, .inr ⟨w2.heap.size, 0, rfl, fun j u hu => by
        match j, hu with
        | 0, hu => simp at hu; subst hu; exact a2
        | j + 1, hu => simp at hu⟩⟩
    | 2, _ => exact ⟨by simp [List.length_drop, hn], part h3 _ k1⟩
    | i + 3, hi => exfalso; simp at hi; omega
  · rintro e w' ⟨v, rfl, hO, k⟩
    rw [hfl] at hO
    have hlen : (xs.take p ++ .pointer (some ⟨tb, 0, none⟩) :: xs.drop p).length = m := by rw [List.length_append, List.length_cons, List.length_take, List.length_drop]; omega
    rw [hlen] at hO
    obtain ⟨a', cap', rfl⟩ := own_slice hO
    exact ⟨a', cap', _, rfl, k1.size, hO, k1.trans k⟩
def WithEndB (l : List NodeD) (n : ByteArray) (tb : Nat) (xs : List Value) (w w' : World) (e : Ending) : Prop :=
  ∃ (m : Nat) (a : Option Addr) (cap base p : Nat), m = l.length + 1 ∧ e = .returned (.agg #[.slice a m cap, .func (.func 88) #[] #[]]) ∧ w.heap.size ≤ base ∧ w'.ownsRow base 57 1 (.slice a m cap) m (xs.take p ++ .pointer (some ⟨tb, 0, none⟩) :: xs.drop p) ∧ Place l n.toList p ∧ Kept w w'
theorem xBoxCells2 {w wi : World} {x y : Value} {t : TypeId} (K : Kept (w.alloc (.cells #[x, y] t)) wi) : wi.cell? ⟨w.heap.size, 0, none⟩ = some x ∧ wi.cell? ⟨w.heap.size, 1, none⟩ = some y :=
  ⟨(K.cell (by simp)).trans (range_new w #[x, y] t 0 _ rfl), (K.cell (by simp)).trans (range_new w #[x, y] t 1 _ rfl)⟩
theorem PackedN.one {w : World} {xs : List Value} {l : List NodeD} (h : PackedN w xs l) : ∀ u ∈ xs, u.oneCell' = true := by
  intro u hu
  obtain ⟨i, hi, rfl⟩ := List.getElem_of_mem hu
  obtain ⟨tb, _, _, e, _⟩ := h.2 i (by rw [← h.1]; exact hi)
  rw [List.getElem?_eq_getElem hi] at e
  rw [Option.some.inj e]
  rfl
abbrev withBW (w : World) (a : Option Addr) (n cap : Nat) : World := (w.alloc (.cells #[.slice a n cap, .func (.func 88) #[] #[]] 108)).alloc (.cells #[.slice none 0 0, .nilFunc] 108)
set_option maxRecDepth 100000 in
set_option maxHeartbeats 1600000 in
theorem withB_any (w : World) (a : Option Addr) (cap : Nat) (l : List NodeD) (d : NodeD) (xs : List Value) (base0 tb : Nat) (hl : l.length ≤ 100) (hr : Rises l) (hno : ∀ j, j < l.length → nameAt l j ≠ d.name.toList) (hO0 : w.ownsRow base0 57 1 (.slice a l.length cap) l.length xs) (hP : PackedN w xs l) (htl : tb < w.heap.size) (htn : w.cell? ⟨tb, 0, none⟩ = some (.string d.name)) :
    Calls Tryz.prog 120 #[.agg #[.slice a l.length cap, .func (.func 88) #[] #[]], .pointer (some ⟨tb, 0, none⟩)] w fun e w' => WithEndB l d.name tb xs w w' e := by
  have hCells := cellsB_of_owned hO0
  have hxl : xs.length = l.length := by have := hO0.1; omega
  have K0 : Kept w (withBW w a l.length cap) := ((Kept.refl _).alloc _).alloc _
  have HSO : Hid (∀ w', Kept (withBW w a l.length cap) w' → (fun w' => w'.cell? ⟨w.heap.size, 0, none⟩ = some (.slice a l.length cap) ∧ w'.cell? ⟨w.heap.size, 1, none⟩ = some (.func (.func 88) #[] #[])) w') := fun w' kk => xBoxCells2 (w := w) (Kept.trans ((Kept.refl _).alloc _) kk)
  have HRo : Hid (Row (withBW w a l.length cap) (w.heap.size + 1) 2) := by have := Row.made (w.alloc (.cells #[.slice a l.length cap, .func (.func 88) #[] #[]] 108)) #[.slice none 0 0, .nilFunc] 108; show Row _ _ _; simpa using this
  go_enter Tryz.func120, Tryz.ntmps120
  go_wp2
  go_region_held (fun w' => w'.cell? ⟨w.heap.size, 0, none⟩ = some (.slice a l.length cap) ∧ w'.cell? ⟨w.heap.size, 1, none⟩ = some (.func (.func 88) #[] #[])) (exact unhide HSO _ (by repeat (first | (with_reducible exact Kept.refl _) | (with_reducible assumption) | apply Kept.drew))) ((first | (go_at_call 88; refine (taskName_b _ tb d.name ((Kept.cell (K0.trans (by repeat (first | (with_reducible exact Kept.refl _) | (with_reducible assumption) | apply Kept.drew))) htl).trans htn)).mono ?_; rintro e w1 ⟨rfl, rfl⟩) | (go_at_call 140; refine (findB_any _ a cap l d.name (by omega) hr xs (hP.kept (K0.trans (by repeat (first | (with_reducible exact Kept.refl _) | (with_reducible assumption) | apply Kept.drew)))) (hCells.kept (K0.trans (by repeat (first | (with_reducible exact Kept.refl _) | (with_reducible assumption) | apply Kept.drew))))).mono ?_; rintro e w2 ⟨hfo, hk2⟩; obtain ⟨p, f, rfl, hp, hf⟩ := hfo; have k2 : Kept (withBW w a l.length cap) w2 := Kept.trans (by repeat (first | (with_reducible exact Kept.refl _) | (with_reducible assumption) | apply Kept.drew)) hk2; have HP := hide hp; have HF := hide hf; clear hp hf hk2)))
  all_goals
    have hff : f = false := by
      cases f
      · rfl
      · have := HF.out.1 rfl
        exact absurd this.2 (hno p this.1)
    subst hff
    have z2 := k2.size
    simp only [withBW, World.size_alloc] at z2
    have K2 := K0.trans k2
    have S2 := HSO.out w2 k2
    have hrow := HRo.out.kept k2
    obtain ⟨⟨_, x0⟩, g0⟩ := hrow.at (i := 0) (by omega)
    obtain ⟨⟨_, x1⟩, g1⟩ := hrow.at (i := 1) (by omega)
    have HR2 := hide hrow
    have hple := HP.out.le
    clear hrow
    obtain ⟨m, hm⟩ : ∃ m, m = l.length + 1 := ⟨_, rfl⟩
    have HM := hide hm
    have HSO2 : Hid (∀ w', KeptBut (w.heap.size + 1) (w.heap.size + 2) w2 w' → (fun w' => w'.cell? ⟨w.heap.size, 0, none⟩ = some (.slice a l.length cap) ∧ w'.cell? ⟨w.heap.size, 1, none⟩ = some (.func (.func 88) #[] #[])) w') := fun w' kk =>
      have ks := kk.same (l2 := w.heap.size) (h2 := w.heap.size + 1) (by omega)
      ⟨(ks.cell (Nat.le_refl _) (by omega) (by omega)).trans S2.1, (ks.cell (Nat.le_refl _) (by omega) (by omega)).trans S2.2⟩
    obtain ⟨s1, s2⟩ := S2
    have hone := hP.one
    have hCs := hCells.kept K2
    have u0 : w.heap.size < w2.heap.size := by omega
    have u2 : w.heap.size + 1 < w2.heap.size := by omega
    rcases hO0.2 with ⟨ev, h0⟩ | ⟨g, cp, cu2, ev, _, hg, hncp, _, _, _⟩
    · simp only [Value.slice.injEq] at ev
      obtain ⟨ea, _, ec⟩ := ev
      subst ea ec
      have hp0 : p = 0 := by omega
      subst hp0
      have hx0 : xs = [] := List.eq_nil_of_length_eq_zero (by omega)
      have hC := concatB_with (w2 := w2) (c1 := 0) (c3 := 0) (tb := tb) (A1 := none) (A3 := none) hxl (by omega) hple hone (.inl ⟨rfl, rfl, by rw [hx0]; rfl⟩) (.inl ⟨rfl, rfl, by rw [hx0]; rfl⟩) hm
      obtain rfl : l = [] := List.eq_nil_of_length_eq_zero h0
      simp only [List.length_nil, Nat.zero_sub] at hC s1
      have HC := hide hC
      clear hC hx0 hone hCs hm
      go_wp2
      go_region_held (fun w' => w'.cell? ⟨w.heap.size, 0, none⟩ = some (.slice none 0 0) ∧ w'.cell? ⟨w.heap.size, 1, none⟩ = some (.func (.func 88) #[] #[])) (exact unhide HSO2 _ (by repeat (first | exact KeptBut.refl _ _ _ | exact KeptBut.of_kept (by assumption) | apply KeptBut.drew | (refine KeptBut.setCell ?_ (by simp) (by simp) _) | apply KeptBut.alloc))) ((go_at_call 141; refine (unhide HC).mono ?_; rintro e w3 ⟨a', cap', base, rfl, hbase, hO, kk⟩; have HR3 := hide (HR2.out.kept kk); obtain ⟨⟨_, y0⟩, e0⟩ := HR3.out.at (i := 0) (by omega); obtain ⟨⟨_, y1⟩, e1⟩ := HR3.out.at (i := 1) (by omega); have HO := hide hO; clear hO))
      all_goals
        go_wp2
        have hR := World.rangeAt_setCells_same w3 (w.heap.size + 1) 0 [.slice a' m cap', .func (.func 88) #[] #[]] (HR3.out.there (o := 0) (m := 2) (Nat.le_refl _))
        have kf : Kept w ((w3.setCell ⟨w.heap.size + 1, 0, none⟩ (.slice a' m cap')).setCell ⟨w.heap.size + 1, 1, none⟩ (.func (.func 88) #[] #[])) := ((K2.trans kk).setCell (by simp) _).setCell (by simp) _
        have hO2 := owns_set (owns_set HO.out (p := ⟨w.heap.size + 1, 0, none⟩) (by simp <;> omega) (.slice a' m cap')) (p := ⟨w.heap.size + 1, 1, none⟩) (by simp <;> omega) (.func (.func 88) #[] #[])
        exact bodyPost_ret_cell [.slice a' m cap', .func (.func 88) #[] #[]] _ Tryz.results120 rfl hR Tryz.underlying108 rfl Tryz.sizeSortedB rfl ⟨m, a', cap', base, _, HM.out, rfl, by omega, hO2, HP.out, kf⟩
    · simp only [Value.slice.injEq] at ev
      obtain ⟨ea, _, ec⟩ := ev
      subst ea ec
      have hsrc : ∀ j u, xs[j]? = some u → w2.cell? ⟨g, 0 + j, none⟩ = some u := fun j u hu => by
        obtain ⟨b', o', e', _, hc'⟩ := hCs j (List.getElem?_eq_some_iff.1 hu).1
        simp only [Option.some.injEq, Addr.mk.injEq, and_true] at e'
        obtain ⟨rfl, rfl⟩ := e'
        exact hc' j u hu
      have hp1 : PartB w2 (some ⟨g, 0, none⟩) cap (xs.take p) := .inr ⟨g, 0, rfl, fun j u hu => hsrc j u (by rw [List.getElem?_take] at hu; split at hu; exact hu; cases hu)⟩
      have i1 : (p : Int) ≤ (cap : Int) := by omega
      have i2 : (p : Int) ≤ (l.length : Int) := by omega
      by_cases hce : cap = p
      · have hlp : l.length = p := by omega
        have hC := concatB_with (w2 := w2) (c1 := p) (c3 := 0) (tb := tb) (A1 := some ⟨g, 0, none⟩) (A3 := some ⟨g, 0, none⟩) hxl (by omega) hple hone (hce ▸ hp1) (.inr ⟨g, 0, rfl, fun j u hu => by rw [List.drop_eq_nil_of_le (by omega)] at hu; simp at hu⟩) hm
        rw [show l.length - p = 0 by omega] at hC
        have HC := hide hC
        clear hC hone hCs hsrc hp1 hm
        go_wp2
        go_region_held (fun w' => w'.cell? ⟨w.heap.size, 0, none⟩ = some (.slice (some ⟨g, 0, none⟩) l.length cap) ∧ w'.cell? ⟨w.heap.size, 1, none⟩ = some (.func (.func 88) #[] #[])) (exact unhide HSO2 _ (by repeat (first | exact KeptBut.refl _ _ _ | exact KeptBut.of_kept (by assumption) | apply KeptBut.drew | (refine KeptBut.setCell ?_ (by simp) (by simp) _) | apply KeptBut.alloc))) ((go_at_call 141; refine (unhide HC).mono ?_; rintro e w3 ⟨a', cap', base, rfl, hbase, hO, kk⟩; have HR3 := hide (HR2.out.kept kk); obtain ⟨⟨_, y0⟩, e0⟩ := HR3.out.at (i := 0) (by omega); obtain ⟨⟨_, y1⟩, e1⟩ := HR3.out.at (i := 1) (by omega); have HO := hide hO; clear hO))
        all_goals
          go_wp2
          have hR := World.rangeAt_setCells_same w3 (w.heap.size + 1) 0 [.slice a' m cap', .func (.func 88) #[] #[]] (HR3.out.there (o := 0) (m := 2) (Nat.le_refl _))
          have kf : Kept w ((w3.setCell ⟨w.heap.size + 1, 0, none⟩ (.slice a' m cap')).setCell ⟨w.heap.size + 1, 1, none⟩ (.func (.func 88) #[] #[])) := ((K2.trans kk).setCell (by simp) _).setCell (by simp) _
          have hO2 := owns_set (owns_set HO.out (p := ⟨w.heap.size + 1, 0, none⟩) (by simp <;> omega) (.slice a' m cap')) (p := ⟨w.heap.size + 1, 1, none⟩) (by simp <;> omega) (.func (.func 88) #[] #[])
          exact bodyPost_ret_cell [.slice a' m cap', .func (.func 88) #[] #[]] _ Tryz.results120 rfl hR Tryz.underlying108 rfl Tryz.sizeSortedB rfl ⟨m, a', cap', base, _, HM.out, rfl, by omega, hO2, HP.out, kf⟩
      · have hC := concatB_with (w2 := w2) (c1 := cap) (c3 := cap - p) (tb := tb) (A1 := some ⟨g, 0, none⟩) (A3 := some ⟨g, 0 + p * 1, none⟩) hxl (by omega) hple hone hp1 (.inr ⟨g, 0 + p * 1, rfl, fun j u hu => by rw [List.getElem?_drop] at hu; have := hsrc _ u hu; rw [show 0 + p * 1 + j = 0 + (p + j) by omega]; exact this⟩) hm
        simp only [Nat.mul_one, Nat.zero_add] at hC
        have HC := hide hC
        clear hC hone hCs hsrc hp1 hm
        go_wp2
        go_region_held (fun w' => w'.cell? ⟨w.heap.size, 0, none⟩ = some (.slice (some ⟨g, 0, none⟩) l.length cap) ∧ w'.cell? ⟨w.heap.size, 1, none⟩ = some (.func (.func 88) #[] #[])) (exact unhide HSO2 _ (by repeat (first | exact KeptBut.refl _ _ _ | exact KeptBut.of_kept (by assumption) | apply KeptBut.drew | (refine KeptBut.setCell ?_ (by simp) (by simp) _) | apply KeptBut.alloc))) ((go_at_call 141; refine (unhide HC).mono ?_; rintro e w3 ⟨a', cap', base, rfl, hbase, hO, kk⟩; have HR3 := hide (HR2.out.kept kk); obtain ⟨⟨_, y0⟩, e0⟩ := HR3.out.at (i := 0) (by omega); obtain ⟨⟨_, y1⟩, e1⟩ := HR3.out.at (i := 1) (by omega); have HO := hide hO; clear hO))
        all_goals
          go_wp2
          have hR := World.rangeAt_setCells_same w3 (w.heap.size + 1) 0 [.slice a' m cap', .func (.func 88) #[] #[]] (HR3.out.there (o := 0) (m := 2) (Nat.le_refl _))
          have kf : Kept w ((w3.setCell ⟨w.heap.size + 1, 0, none⟩ (.slice a' m cap')).setCell ⟨w.heap.size + 1, 1, none⟩ (.func (.func 88) #[] #[])) := ((K2.trans kk).setCell (by simp) _).setCell (by simp) _
          have hO2 := owns_set (owns_set HO.out (p := ⟨w.heap.size + 1, 0, none⟩) (by simp <;> omega) (.slice a' m cap')) (p := ⟨w.heap.size + 1, 1, none⟩) (by simp <;> omega) (.func (.func 88) #[] #[])
          exact bodyPost_ret_cell [.slice a' m cap', .func (.func 88) #[] #[]] _ Tryz.results120 rfl hR Tryz.underlying108 rfl Tryz.sizeSortedB rfl ⟨m, a', cap', base, _, HM.out, rfl, by omega, hO2, HP.out, kf⟩
def TaskM.fresh (nb : Nat) (n : ByteArray) (cost : Int) (steps : List StepD) (sa : Option Addr) (sc : Nat) : TaskM := ⟨nb, RunX.fresh n, cost, steps, sa, sc, 0, .slice none 0 0, .slice none 0 0, [], ⟨#[]⟩⟩
def WantR (webl : List NodeD) (ts : List TaskM) (n : ByteArray) (ts' : List TaskM) : Prop :=
  (ts' = ts ∧ (actsOf webl n = none ∨ ∃ t ∈ ts, t.r.name = n)) ∨ (∃ p new, ts' = ts.take p ++ new :: ts.drop p ∧ new.r = RunX.fresh n ∧ (new.op = 0 ∧ new.bq = (⟨#[]⟩, [])) ∧ (∀ t ∈ ts, t.r.name ≠ n) ∧ (actsOf webl n).isSome = true)
theorem asc_insert {l : List RunX} {p : Nat} {r : RunX} (h : AscX l) (h1 : ∀ x ∈ l.take p, lessX x.name r.name) (h2 : ∀ x ∈ l.drop p, lessX r.name x.name) : AscX (l.take p ++ r :: l.drop p) := by
  have h3 : AscX (l.take p ++ l.drop p) := by rw [List.take_append_drop]; exact h
  unfold AscX at h3 ⊢
  rw [List.pairwise_append] at h3 ⊢
  refine ⟨h3.1, List.pairwise_cons.2 ⟨h2, h3.2.1⟩, fun x hx y hy => ?_⟩
  rcases List.mem_cons.1 hy with rfl | hy
  · exact h1 x hx
  · exact h3.2.2 x hx y hy
section
variable {G : Ghost} {webl : List NodeD} {wz w w' : World} {bb : Nat} {a : Option Addr} {cap : Nat} {rd : Option Addr} {rn rc : Nat} {mb mx : Nat} {ts : List TaskM} {d : Option Addr} {dc : Nat} {f : ByteArray → Value} {ws : ByteArray → List Nat}
theorem BM.insert (h : BM G webl wz w bb a cap rd rn rc mb mx ts d dc f ws) {w8 : World} {n : ByteArray} {new : TaskM} (k : Kept w w8) (hT : TaskAt wz.heap.size w8 new) (hnm : new.r.name = n) (hact : actsOf webl n = some ⟨new.cost, new.steps⟩) (hst : Steps wz new.sa new.steps) (hno : ∀ t ∈ ts, t.r.name ≠ n) (hnb : w.heap.size ≤ new.tb) (hown : new.own = []) (hqs : new.qs = []) {a8 : Option Addr} {cap8 base m q : Nat} (hbase : w.heap.size ≤ base) (hm : m = ts.length + 1) (hO : w8.ownsRow base 57 1 (.slice a8 m cap8) m ((ts.map TaskM.ptr).take q ++ .pointer (some ⟨new.tb, 0, none⟩) :: (ts.map TaskM.ptr).drop q)) (hq : Place (namesN ts) n.toList q) :
    BM G webl wz ((w8.setCell ⟨bb, 3, none⟩ (.slice a8 m cap8)).setCell ⟨bb, 4, none⟩ (.func (.func 88) #[] #[])) bb a cap rd rn rc mb mx (ts.take q ++ new :: ts.drop q) a8 cap8 f ws := by
  have h8 := h.kept k
  have zb := h.row.lt
  have kb : But (fun b => b = bb) w8 ((w8.setCell ⟨bb, 3, none⟩ (.slice a8 m cap8)).setCell ⟨bb, 4, none⟩ (.func (.func 88) #[] #[])) := But.set (S := fun b => b = bb) (But.set (S := fun b => b = bb) (But.of_kept (Kept.refl w8)) (p := ⟨bb, 3, none⟩) rfl _) (p := ⟨bb, 4, none⟩) rfl _
  have hlen : (ts.take q ++ new :: ts.drop q).length = m := by have := hq.le; rw [namesN_len] at this; simp [List.length_take, List.length_drop]; omega
  have hmem : ∀ u, u ∈ ts.take q ++ new :: ts.drop q ↔ u = new ∨ u ∈ ts := fun u => by
    rw [List.mem_append, List.mem_cons]
    constructor
    · rintro (h | h | h)
      · exact .inr (List.mem_of_mem_take h)
      · exact .inl h
      · exact .inr (List.mem_of_mem_drop h)
    · rintro (h | h)
      · exact .inr (.inl h)
      · rw [← List.take_append_drop q ts] at h
        rcases List.mem_append.1 h with h | h
        · exact .inl h
        · exact .inr (.inr h)
  have nb : ∀ {b : Nat} {t : TypeId}, TypeAt w8 b t → t ≠ 114 → ¬ b = bb := fun hu hn e => type_ne hu h8.row.type hn e
  obtain ⟨N, D, hN, hM, hf⟩ := h8.map
  have nm : ¬ mb = bb := fun e => map_ne hM h8.row.type e.symm
  have task : ∀ u ∈ ts.take q ++ new :: ts.drop q, TaskAt wz.heap.size ((w8.setCell ⟨bb, 3, none⟩ (.slice a8 m cap8)).setCell ⟨bb, 4, none⟩ (.func (.func 88) #[] #[])) u := fun u hu => by
    rcases (hmem u).1 hu with rfl | hu
    · exact hT.but kb (nb hT.row.type (by decide)) (fun x hx => nb (hT.own_type hx).1 (by decide))
    · have ht := h8.task u hu
      exact ht.but kb (nb ht.row.type (by decide)) (fun x hx => nb (ht.own_type hx).1 (by decide))
  have hfen : Fen G ((w8.setCell ⟨bb, 3, none⟩ (.slice a8 m cap8)).setCell ⟨bb, 4, none⟩ (.func (.func 88) #[] #[])) bb mb (ts.take q ++ new :: ts.drop q) f := by
    have h0 := h8.oth.but kb (fun b e => by rw [e]; exact h.oth.nb)
    refine ⟨h0.size, h0.lt, h0.same, h0.nb, h0.nm, fun u hu => ?_, h0.nf, fun p hp => by obtain ⟨u, hu, g⟩ := h.oth.has p hp; exact ⟨u, (hmem u).2 (.inr hu), g⟩⟩
    rcases (hmem u).1 hu with rfl | hu
    · exact ⟨h.oth.far hnb, fun x hx => by rw [hown] at hx; cases hx⟩
    · exact h.oth.nt u hu
  refine ⟨kb.kept h8.kw (fun b e => by rw [e]; exact h.low), (h8.row.set _).set _, ?_, ?_, ?_, ?_, set_hit (h8.row.set _).row (by omega) _, ?_, h.low, ?_, task, ?_, ?_, ?_, ?_, ?_, ⟨N, D, hN, map_but hM kb nm, hf⟩, h.mlow, fun s => kb.owns (h8.wrow s) (fun b e => nb (owns_type (h8.wrow s) e) (by decide)), h.wsep, fun s x hx e => ?_, fun u hu => by rcases (hmem u).1 hu with rfl | hu; rw [hqs]; exact Nat.zero_le _; exact h.qb u hu, hfen⟩
  · rw [set_miss (by omega), set_miss (by omega)]; exact h8.c0
  · rw [set_miss (by omega), set_miss (by omega)]; exact h8.c1
  · rw [set_miss (by omega), set_miss (by omega)]; exact h8.c2
  · rw [set_miss (by omega), hlen]; exact set_hit h8.row.row (by omega) _
  · rw [set_miss (by omega), set_miss (by omega)]; exact h8.c5
  · rw [hlen]
    have e : (ts.take q ++ new :: ts.drop q).map TaskM.ptr = (ts.map TaskM.ptr).take q ++ .pointer (some ⟨new.tb, 0, none⟩) :: (ts.map TaskM.ptr).drop q := by simp [List.map_take, List.map_drop, TaskM.ptr]
    rw [e]
    exact kb.owns (owns_base hO (Nat.le_trans h.kw.size hbase)) (fun b e => nb (owns_type hO e) (by decide))
  · intro u hu
    rcases (hmem u).1 hu with rfl | hu
    · rw [hnm]; exact ⟨hact, hst⟩
    · exact h.act u hu
  · have e : runsOf (ts.take q ++ new :: ts.drop q) = (runsOf ts).take q ++ new.r :: (runsOf ts).drop q := by simp [runsOf, List.map_take, List.map_drop]
    rw [e]
    refine asc_insert h.asc (fun x hx => ?_) (fun x hx => ?_)
    · obtain ⟨j, hj, rfl⟩ := List.getElem_of_mem hx
      rw [List.length_take] at hj
      rw [List.getElem_take]
      have hjt : j < ts.length := by simp [runsOf] at hj; omega
      have := hq.before j (by omega)
      unfold nameAt at this
      rw [namesN_at hjt] at this
      rw [hnm]
      simpa [runsOf, lessX] using this
    · obtain ⟨j, hj, rfl⟩ := List.getElem_of_mem hx
      rw [List.length_drop] at hj
      rw [List.getElem_drop]
      have hjt : q + j < ts.length := by simp [runsOf] at hj; omega
      have := hq.behind (q + j) (by omega) (by rw [namesN_len]; exact hjt)
      unfold nameAt at this
      rw [namesN_at hjt] at this
      rw [hnm]
      have e2 : (runsOf ts)[q + j] = ts[q + j].r := by simp [runsOf]
      rw [e2]
      rcases lessX_total n ts[q + j].r.name with g | g | g
      · exact g
      · exact absurd g.symm (hno _ (List.getElem_mem hjt))
      · unfold lessX at g; rw [this] at g; cases g
  · have e : (ts.take q ++ new :: ts.drop q).map (·.tb) = (ts.map (·.tb)).take q ++ new.tb :: (ts.map (·.tb)).drop q := by simp [List.map_take, List.map_drop]
    rw [e]
    have hlt : ∀ x ∈ ts.map (·.tb), x < new.tb := fun x hx => by
      obtain ⟨t, ht, rfl⟩ := List.mem_map.1 hx
      have := (h.task t ht).row.lt
      omega
    have h3 : ((ts.map (·.tb)).take q ++ (ts.map (·.tb)).drop q).Nodup := by rw [List.take_append_drop]; exact h.tbs
    rw [List.nodup_append] at h3 ⊢
    refine ⟨h3.1, List.nodup_cons.2 ⟨fun hx => ?_, h3.2.1⟩, fun x hx y hy => ?_⟩
    · have := hlt _ (List.mem_of_mem_drop hx); omega
    · rcases List.mem_cons.1 hy with rfl | hy
      · have := hlt _ (List.mem_of_mem_take hx); omega
      · exact h3.2.2 x hx y hy
  · have h3 : (ts.take q ++ ts.drop q).Pairwise fun t u => ∀ x ∈ t.own, x ∉ u.own := by rw [List.take_append_drop]; exact h.sep
    rw [List.pairwise_append] at h3 ⊢
    refine ⟨h3.1, List.pairwise_cons.2 ⟨fun u _ x hx => (by rw [hown] at hx; cases hx), h3.2.1⟩, fun t ht u hu x hx => ?_⟩
    rcases List.mem_cons.1 hu with rfl | hu
    · rw [hown]; simp
    · exact h3.2.2 t ht u hu x hx
  · intro u hu
    rcases (hmem u).1 hu with rfl | hu
    · rw [hown]; exact List.nodup_nil
    · exact h.sep2 u hu
  · have h1 := ((h.wrow s).lt x hx).2
    rw [hlen] at e
    have h2 := (hO.lt x e).1
    omega
set_option maxRecDepth 100000 in
set_option maxHeartbeats 6400000 in
theorem benchWant_b (hB : BM G webl wz w bb a cap rd rn rc mb mx ts d dc f ws) (n : ByteArray) (hl : ts.length ≤ 90) (hwl : webl.length ≤ 1048576) (hwr : Rises webl) (hN : Nodes wz a webl) :
    Calls Tryz.prog 89 #[.pointer (some ⟨bb, 0, none⟩), .string n] w fun e w' => e = .returned (.tuple #[]) ∧ ∃ ts' d' dc', BM G webl wz w' bb a cap rd rn rc mb mx ts' d' dc' f ws ∧ WantR webl ts n ts' := by
  have b0 := hB.c0
  have b1 := hB.c1
  have zk := hB.row.lt
  have HB := hide hB
  clear hB
  go_enter Tryz.func89, Tryz.ntmps89
  go_wp2_with fail
  refine (find_any _ a cap webl n hwl hwr (hN.kept HB.out.kw)).mono ?_
  rintro e w1 ⟨⟨p, fd, rfl, hp, hf⟩, k1⟩
  have HP := hide hp
  have HF := hide hf
  have zk1 := (HB.out.kept k1).row.lt
  clear hp hf b0 b1
  cases fd
  · go_wp2_with fail
    refine bodyPost_ret (results_none rfl _ _ _) rfl ?_
    refine ⟨rfl, ts, d, dc, HB.out.kept k1, .inl ⟨rfl, .inl (acts_none fun j hj e => ?_)⟩⟩
    have hna : nameAt webl j = n.toList := by unfold nameAt; rw [e]
    have e2 := Place.only hwr HP.out hj hna
    rw [e2] at hj hna
    have := HF.out.2 ⟨hj, hna⟩
    cases this
  have hpl := (HF.out.1 rfl).1
  have HAct : Hid (actsOf webl n = some ⟨(webl.getD p NodeD.zero).cost, (webl.getD p NodeD.zero).steps⟩) := acts_at hpl (toList_inj.1 (HF.out.1 rfl).2) (fun j hj e => by
    have hna : nameAt webl j = n.toList := by unfold nameAt; rw [e]
    have := Place.only hwr HP.out (by omega) hna
    omega)
  go_wp2_with fail
  refine (benchTask_any (HB.out.kept k1) n (by omega)).mono ?_
  rintro e w2 ⟨⟨i, hi, hin, rfl⟩ | ⟨hno, rfl⟩, k2⟩
  · have hpt : ts[i].ptr = .pointer (some ⟨ts[i].tb, 0, none⟩) := rfl
    rw [hpt]
    clear hpt
    go_wp2_with fail
    refine bodyPost_ret (results_none rfl _ _ _) rfl ?_
    exact ⟨rfl, ts, d, dc, HB.out.kept (k1.trans k2), .inl ⟨rfl, .inr ⟨ts[i], List.getElem_mem hi, hin⟩⟩⟩
  have k12 := k1.trans k2
  have hB2 := HB.out.kept k12
  obtain ⟨b, o, cs, rfl, hb0, hcs, aa, ca, rfl, hA⟩ := hN p hpl
  obtain ⟨y, hy⟩ : ∃ y, y = webl.getD p NodeD.zero := ⟨_, rfl⟩
  rw [← hy] at hcs hA HAct
  have hb : b < w2.heap.size := Nat.lt_of_lt_of_le hb0 hB2.kw.size
  have c1 : w2.cell? ⟨b, o + p * 3 + 1, none⟩ = some (.int .i64 y.cost) := (hB2.kw.cell hb0).trans (hcs 1 _ rfl)
  have c2 : w2.cell? ⟨b, o + p * 3 + 2, none⟩ = some (.slice aa y.steps.length ca) := (hB2.kw.cell hb0).trans (hcs 2 _ rfl)
  have m0 := hB2.c0
  have m3 := hB2.c3
  have m4 := hB2.c4
  have zb := hB2.row.lt
  have HB2 := hide hB2
  have HNo := hide hno
  have HA := hide hA
  have HSO : Hid (∀ w', Kept w2 w' → w'.cell? ⟨bb, 0, none⟩ = some (.slice (some ⟨b, o, none⟩) webl.length cap) ∧ w'.cell? ⟨bb, 3, none⟩ = some (.slice d ts.length dc) ∧ w'.cell? ⟨bb, 4, none⟩ = some (.func (.func 88) #[] #[]) ∧ w'.cell? ⟨b, o + p * 3 + 1, none⟩ = some (.int .i64 y.cost) ∧ w'.cell? ⟨b, o + p * 3 + 2, none⟩ = some (.slice aa y.steps.length ca)) := fun w' kk => ⟨(kk.cell zb).trans m0, (kk.cell zb).trans m3, (kk.cell zb).trans m4, (kk.cell hb).trans c1, (kk.cell hb).trans c2⟩
  have hpi : (p : Int) < (webl.length : Int) := by omega
  clear hcs hA hy hB2 hno c1 c2 m0 m3 m4
  go_upto_region 2 with fail
  refine UpTo.rg 21 HSO.out fun wd KD hHeld => ?_
  refine UpTo.tk 0 hHeld ?_
  refine UpTo.tk 1 hHeld ?_
  refine UpTo.tk 2 hHeld ?_
  refine UpTo.tk 3 hHeld ?_
  refine UpTo.tk 4 hHeld ?_
  refine UpTo.tk 5 hHeld ?_
  refine UpTo.tk 6 hHeld ?_
  refine UpTo.tk 7 hHeld ?_
  refine UpTo.tk 8 hHeld ?_
  refine UpTo.tk 9 hHeld ?_
  refine UpTo.tk 10 hHeld ?_
  refine UpTo.tk 11 hHeld ?_
  refine UpTo.tk 12 hHeld ?_
  refine UpTo.tk 13 hHeld ?_
  refine UpTo.tk 14 hHeld ?_
  refine UpTo.tk 15 hHeld ?_
  refine UpTo.tk 16 hHeld ?_
  refine UpTo.nx 17 (fun K hK => ?_)
  go_simp
  have K3 : Kept wd (wd.alloc (.cells #[.string n, .bool false, .bool false, .string ⟨#[]⟩, .int .i64 0, .int .i64 0, .slice none 0 0, .int .i64 y.cost, .slice aa y.steps.length ca, .int .i64 0, .slice none 0 0, .string ⟨#[]⟩] 64)) := (Kept.refl _).alloc _
  have hRw : RowT (wd.alloc (.cells #[.string n, .bool false, .bool false, .string ⟨#[]⟩, .int .i64 0, .int .i64 0, .slice none 0 0, .int .i64 y.cost, .slice aa y.steps.length ca, .int .i64 0, .slice none 0 0, .string ⟨#[]⟩] 64)) wd.heap.size 64 12 := RowT.made wd _ _
  have hRg : (wd.alloc (.cells #[.string n, .bool false, .bool false, .string ⟨#[]⟩, .int .i64 0, .int .i64 0, .slice none 0 0, .int .i64 y.cost, .slice aa y.steps.length ca, .int .i64 0, .slice none 0 0, .string ⟨#[]⟩] 64)).rangeAt wd.heap.size 0 [.string n, .bool false, .bool false, .string ⟨#[]⟩, .int .i64 0, .int .i64 0, .slice none 0 0, .int .i64 y.cost, .slice aa y.steps.length ca, .int .i64 0, .slice none 0 0, .string ⟨#[]⟩] := range_new wd _ _
  have KF := KD.trans K3
  refine hK.out _ _ (fun _ => HSO.out _ KF) ?_
  clear hK K hHeld
  have zd := KD.size
  obtain ⟨nb, hnb⟩ : ∃ nb, nb = wd.heap.size := ⟨_, rfl⟩
  have hnz : w2.heap.size ≤ nb := by omega
  rw [← hnb] at hRw hRg ⊢
  generalize hwe : wd.alloc (.cells #[.string n, .bool false, .bool false, .string ⟨#[]⟩, .int .i64 0, .int .i64 0, .slice none 0 0, .int .i64 y.cost, .slice aa y.steps.length ca, .int .i64 0, .slice none 0 0, .string ⟨#[]⟩] 64) = w3 at hRw hRg KF ⊢
  clear hwe K3 hnb
  have htn : w3.cell? ⟨nb, 0, none⟩ = some (.string n) := hRg 0 _ rfl
  have HWi := hide (withB_any w3 d dc (namesN ts) ⟨n, 0, []⟩ (ts.map TaskM.ptr) wz.heap.size nb (by rw [namesN_len]; omega) (rises_asc HB2.out.asc) (fun j hj e => by rw [namesN_len] at hj; unfold nameAt at e; rw [namesN_at hj] at e; exact HNo.out _ (List.getElem_mem hj) (toList_inj.1 e)) (by rw [namesN_len]; exact (HB2.out.kept KF).items) (HB2.out.kept KF).packed hRw.lt htn)
  rw [namesN_len] at HWi
  have HTn : Hid (TaskAt wz.heap.size w3 (TaskM.fresh nb n y.cost y.steps aa ca)) := ⟨hRw, hRg, World.ownsRow_nil _ _ _ _, World.ownsRow_nil _ _ _ _, by have := HB2.out.kw.size; show wz.heap.size ≤ nb; omega⟩
  clear htn hRg hRw
  try simp only [Act.put, upA, upB, upC]
  refine UpTo.nx 18 (fun K hK => ?_)
  rw [if_pos (by rfl)]
  go_simp
  go_at_call 120
  refine HWi.out.mono ?_
  rintro e w8 ⟨m, a8, cap8, base, q, hm, rfl, hbase, hO8, hq, k8⟩
  have K8 := KF.trans k8
  have hB8 := HB2.out.kept K8
  obtain ⟨⟨_, x3⟩, f3⟩ := hB8.row.row.at (i := 3) (by omega)
  obtain ⟨⟨_, x4⟩, f4⟩ := hB8.row.row.at (i := 4) (by omega)
  have zb8 := hB8.row.lt
  have HI := hide (HB2.out.insert (n := n) (new := TaskM.fresh nb n y.cost y.steps aa ca) K8 (HTn.out.but (S := fun _ => False) (But.of_kept k8) id (fun _ _ => id)) rfl HAct.out HA.out HNo.out hnz rfl rfl (by have h1 := KF.size; exact Nat.le_trans h1 hbase) (by rw [← namesN_len ts]; exact hm) hO8 hq)
  clear hO8 hB8 hq hm HWi HTn
  refine hK.out _ _ (fun _ => HSO.out _ K8) ?_
  clear hK K
  have hHeld := HSO.out _ K8
  try simp only [Act.put, upA, upB, upC]
  refine UpTo.tk 19 hHeld ?_
  refine UpTo.tk 20 hHeld ?_
  refine UpTo.nx 21 (fun K hK => ?_)
  go_simp
  refine hK.out _ _ (fun h => absurd rfl h) ?_
  clear hK K
  try simp only [Act.put, upA, upB, upC]
  refine UpTo.dn ?_
  go_wp2
  go_end0
  exact ⟨rfl, _, a8, cap8, HI.out, .inr ⟨q, TaskM.fresh nb n y.cost y.steps aa ca, rfl, rfl, ⟨rfl, rfl⟩, HNo.out, by rw [HAct.out]; rfl⟩⟩
end
end Go.Proofs.YtjhemildijapmaaGreatDoor
namespace Go.Proofs.YtjhemildijapmaaGreatDoor
open Go.RowKit
section
variable {P : Program} {w : World}
theorem run_append_zero (base : Nat) (t ty e : TypeId) (i : TypeInfo) (size : Nat) (ht : P.underlying t = some (.slice e)) (hi : P.info? e = some i)
    (v : Value) (n : Nat) (xs : List Value) (hown : w.ownsRow base e size v n xs) (x : Option Addr) (c : Nat) :
    (Builtin.append_ #[t, t] ty #[v, .slice x 0 c]).run P w = .ok v w := by
  rcases hown.2 with ⟨rfl, rfl⟩ | ⟨g, cap, cur, rfl, _, _, hnc, _⟩
  · cases x <;> simp [Builtin.append_, run_underlying ht, sizeOf, typeInfo, hi, Builtin.lenOf, Builtin.firstCells, loadCells, loadCellsFrom]
  · cases x <;> simp [Builtin.append_, run_underlying ht, sizeOf, typeInfo, hi, Builtin.lenOf, Builtin.firstCells, hnc, storeCells, loadCells, loadCellsFrom]
theorem wp_append_strs {o : Oper} {a : Act} {K : Act → World → Prop} {Q : Exit → Act → World → Prop} (s x : Operand) (t : TypeId)
    (ho : o.op = .call { callee := .builtin .append, args := #[s, x], argTypes := #[t, t] })
    (base : Nat) (e : TypeId) (i : TypeInfo) (z : Value) (bytes : Nat) (ht : P.underlying t = some (.slice e)) (hi : P.info? e = some i) (hz : i.zero = some z)
    (hsize : i.size = 1) (hby : i.bytes = bytes) (hzs : z.cells.size = 1)
    (v : Value) (n : Nat) (xs : List Value) (hs : a.eval s = v) (hown : w.ownsRow base e 1 v n xs)
    (ad : Option Addr) (c : Nat) (l : List ByteArray) (hx : a.eval x = .slice ad l.length c) (hl : Strs w ad l)
    (h63 : n + l.length ≤ maxLen) (hbytes : (n + l.length) * bytes ≤ 140737488355328) (hbase : base ≤ w.heap.size)
    (h : ∀ v' w', w'.ownsRow base e 1 v' (n + l.length) (xs ++ l.map Value.string) → w.grownBy w' v.ownBlock → (∀ g, v'.ownBlock = some g → v.ownBlock = some g ∨ w.heap.size ≤ g) → K (a.put o.dst v') w') : o.wp P a w K Q := by
  by_cases h0 : l.length = 0
  · have hl0 := List.length_eq_zero_iff.1 h0
    rw [h0] at hx
    refine Go.Lib.wp_append_run w s x t t ho v _ hs hx v w (run_append_zero base t o.type e i 1 ht hi v n xs hown ad c) (h v w ?_ ⟨rfl, rfl, rfl, Nat.le_refl _, fun _ _ _ => rfl⟩ (fun g e => .inl e))
    rw [hl0]
    simpa using hown
  · obtain ⟨b, q, e1, hb, _⟩ := hl 0 (by omega)
    refine wp_append_lies w s x t ho base e i z 1 bytes ht hi hz hsize hby hzs (by decide) v n xs hs hown ⟨b, q, none⟩ l.length c (l.map Value.string) (by rw [hx, e1]) (by simp) (fun j u hu => ?_) (fun u hu => by obtain ⟨x, _, rfl⟩ := List.mem_map.1 hu; rfl) (by omega) h63 hbytes hbase w.heap.size rfl (fun g cap w' h1 h2 h3 h4 => h _ w' h1 h2 (fun g' e => ?_))
    · have hj : j < l.length := by have := (List.getElem?_eq_some_iff.1 hu).1; simpa using this
      obtain ⟨b', q', e2, _, hc⟩ := hl j hj
      rw [e1] at e2
      simp only [Option.some.injEq, Addr.mk.injEq, and_true] at e2
      obtain ⟨rfl, rfl⟩ := e2
      rw [Addr.add_mid, hc]
      simp [hj] at hu
      simp [List.getD, hj, hu]
    · simp only [Value.ownBlock, Option.some.injEq] at e
      subst e
      rcases h3 with h3 | h3
      · exact .inl h3
      · exact .inr (Nat.le_of_eq h3.symm)
theorem wpList_append_strs {ops : Array Oper} {rest : List Oper} {o : Oper} {a : Act} {Q : Exit → Act → World → Prop} (hgd : o.guard = none) (s x : Operand) (t : TypeId)
    (ho : o.op = .call { callee := .builtin .append, args := #[s, x], argTypes := #[t, t] })
    (base : Nat) (e : TypeId) (i : TypeInfo) (z : Value) (bytes : Nat) (ht : P.underlying t = some (.slice e)) (hi : P.info? e = some i) (hz : i.zero = some z)
    (hsize : i.size = 1) (hby : i.bytes = bytes) (hzs : z.cells.size = 1)
    (v : Value) (n : Nat) (xs : List Value) (hs : a.eval s = v) (hown : w.ownsRow base e 1 v n xs)
    (ad : Option Addr) (c : Nat) (l : List ByteArray) (hx : a.eval x = .slice ad l.length c) (hl : Strs w ad l)
    (h63 : n + l.length ≤ maxLen) (hbytes : (n + l.length) * bytes ≤ 140737488355328) (hbase : base ≤ w.heap.size)
    (h : ∀ v' w', w'.ownsRow base e 1 v' (n + l.length) (xs ++ l.map Value.string) → w.grownBy w' v.ownBlock → (∀ g, v'.ownBlock = some g → v.ownBlock = some g ∨ w.heap.size ≤ g) → wpList P ops Q rest (a.put o.dst v') w') : wpList P ops Q (o :: rest) a w :=
  wpList_plain hgd fun _ hK => wp_append_strs s x t ho base e i z bytes ht hi hz hsize hby hzs v n xs hs hown ad c l hx hl h63 hbytes hbase fun v' w' h2 h3 h4 => hK _ _ (h v' w' h2 h3 h4)
end
section
variable {G : Ghost} {webl : List NodeD} {wz w w' : World} {bb : Nat} {a : Option Addr} {cap : Nat} {rd : Option Addr} {rn rc : Nat} {mb mx : Nat} {ts : List TaskM} {d : Option Addr} {dc : Nat} {f : ByteArray → Value} {ws : ByteArray → List Nat}
theorem BM.asked (h : BM G webl wz w bb a cap rd rn rc mb mx ts d dc f ws) {i : Nat} {t : TaskM} (hi : ts[i]? = some t) {w1 : World} {v' : Value} {l : List Value} (ho : w1.ownsRow wz.heap.size 9 1 v' (t.qs.length + l.length) (t.qs ++ l)) (hg : w.grownBy w1 t.qv.ownBlock) (hv : ∀ g, v'.ownBlock = some g → t.qv.ownBlock = some g ∨ w.heap.size ≤ g) (hl5 : l.length ≤ 5) :
    BM G webl wz (w1.setCell ⟨t.tb, 10, none⟩ v') bb a cap rd rn rc mb (mx + 1) (ts.set i { t with qv := v', qs := t.qs ++ l }) d dc f ws := by
  obtain ⟨hl, rfl⟩ := List.getElem?_eq_some_iff.1 hi
  have hT := h.task _ (List.getElem_mem hl)
  have hn := h.sep2 _ (List.getElem_mem hl)
  have k1 : But (fun b => b = ts[i].tb ∨ b ∈ ts[i].own) w w1 := But.of_grown hg (fun b e => .inr (List.mem_append.2 (.inr (Option.mem_toList.2 e))))
  have k : But (fun b => b = ts[i].tb ∨ b ∈ ts[i].own) w (w1.setCell ⟨ts[i].tb, 10, none⟩ v') := But.set k1 (p := ⟨ts[i].tb, 10, none⟩) (.inl rfl) v'
  have hq : ∀ b, ts[i].qv.ownBlock = some b → ts[i].tb ≠ b := fun b e => type_ne hT.row.type (owns_type hT.ask e) (by decide)
  have hb1 : w1.heap[ts[i].tb]? = w.heap[ts[i].tb]? := hg.block _ hT.row.lt (fun e => hq _ e.symm rfl)
  have hr1 : RowT w1 ts[i].tb 64 12 := hT.row.block hb1
  have hc1 : w1.rangeAt ts[i].tb 0 ts[i].cells := fun j u hu => (World.cell?_of_block (w := w) hb1).trans (hT.rng j u hu)
  have ne1 : ∀ {b : Nat}, TypeAt w1 b 9 → b ≠ ts[i].tb := fun hu => type_ne hu hr1.type (by decide)
  have kt : But (fun b => b = ts[i].tb) w1 (w1.setCell ⟨ts[i].tb, 10, none⟩ v') := But.set (S := fun b => b = ts[i].tb) (But.of_kept (Kept.refl w1)) (p := ⟨ts[i].tb, 10, none⟩) rfl v'
  have txt1 : w1.ownsRow wz.heap.size 9 1 ts[i].tv ts[i].r.texts.length (ts[i].r.texts.map Value.string) := (But.of_grown (S := fun b => ts[i].qv.ownBlock = some b) hg (fun b e => e)).owns hT.txt (fun b e e2 => by
    have h1 : b ∈ ts[i].tv.ownBlock.toList := Option.mem_toList.2 e
    have h2 : b ∈ ts[i].qv.ownBlock.toList := Option.mem_toList.2 e2
    unfold TaskM.own at hn
    exact (List.nodup_append.1 hn).2.2 b h1 b h2 rfl)
  refine (h.more (Nat.le_succ mx)).turn hl k (fun b hb => hb) ⟨hr1.set v', range_set hc1 hr1.row (by omega) v', kt.owns txt1 (fun b e => ne1 (owns_type txt1 e)), ?_, hT.low⟩ rfl rfl rfl rfl rfl (fun x hx => ?_) ?_ (by have := h.qb _ (List.getElem_mem hl); show (ts[i].qs ++ l).length ≤ 5 * (mx + 1); rw [List.length_append]; omega)
  · have e : ({ ts[i] with qv := v', qs := ts[i].qs ++ l } : TaskM).qs.length = ts[i].qs.length + l.length := by simp
    rw [e]
    exact kt.owns ho (fun b e => ne1 (owns_type ho e))
  · unfold TaskM.own at hx ⊢
    rcases List.mem_append.1 hx with hx | hx
    · exact .inl (List.mem_append.2 (.inl hx))
    · rcases hv x (Option.mem_toList.1 hx) with e | e
      · exact .inl (List.mem_append.2 (.inr (Option.mem_toList.2 e)))
      · exact .inr e
  · unfold TaskM.own at hn ⊢
    rw [List.nodup_append] at hn ⊢
    refine ⟨hn.1, ?_, fun x hx y hy => ?_⟩
    · show (v'.ownBlock.toList).Nodup
      cases v'.ownBlock <;> simp
    · rcases hv y (Option.mem_toList.1 hy) with e | e
      · exact hn.2.2 x hx y (Option.mem_toList.2 e)
      · have := (hT.txt.lt x (Option.mem_toList.1 hx)).2
        omega
end
end Go.Proofs.YtjhemildijapmaaGreatDoor
namespace Go.Proofs.YtjhemildijapmaaGreatDoor
open Go.RowKit
section
variable {G : Ghost} {webl : List NodeD} {wz w w' : World} {bb : Nat} {a : Option Addr} {cap : Nat} {rd : Option Addr} {rn rc : Nat} {mb mx : Nat} {ts : List TaskM} {d : Option Addr} {dc : Nat} {f : ByteArray → Value} {ws : ByteArray → List Nat}
theorem BM.grown_look (h : BM G webl wz w bb a cap rd rn rc mb mx ts d dc f ws) {s : ByteArray} (hs : s.size ≤ maxLen) {w1 : World} (hg : w.grownBy w1 (f s).ownBlock) : (Instr.lookup 112 (.map (some mb)) (.string s) false).run Tryz.prog w1 = .ok (f s) w1 := by
  obtain ⟨N, D, _, hM, hf⟩ := h.map
  have hM1 : w1.ownsMap Tryz.prog 9 asIs mb N D := map_but (S := fun b => (f s).ownBlock = some b) hM (But.of_grown hg (fun b e => e)) (fun e => map_ne hM (owns_type (h.wrow s) e) rfl)
  obtain ⟨v, ps, hrun, hv⟩ := hM1.lookup Tryz.keyed Tryz.underlying112 (Tryz.zeroW w1) (zd := .held (.slice none 0 0)) (zp := []) rfl (WideMaps.keyOf_string_mk Tryz.underlying9 hs)
  have e := hf s hs
  unfold asIs at hv
  simp only [Option.some.injEq, Prod.mk.injEq] at hv
  have e2 : (DataW.held v : DataW Value) = .held (f s) := hv.1.trans e
  cases e2
  exact hrun
theorem BM.wait (h : BM G webl wz w bb a cap rd rn rc mb mx ts d dc f ws) {s : ByteArray} (hs : s.size ≤ maxLen) {tb : Nat} {w1 : World} {v' : Value} (ho : w1.ownsRow wz.heap.size 57 1 v' ((ws s).length + 1) ((ws s).map ptrB ++ [ptrB tb])) (hg : w.grownBy w1 (f s).ownBlock) (hv : ∀ g, v'.ownBlock = some g → (f s).ownBlock = some g ∨ w.heap.size ≤ g) (hmx : mx ≤ 1000000) :
    ∃ w2, (Instr.mapUpdate 112 (.map (some mb)) (.string s) v').run Tryz.prog w1 = .ok () w2 ∧ BM G webl wz w2 bb a cap rd rn rc mb (mx + 1) ts d dc (fun n => if n = s then v' else f n) (fun n => if n = s then ws s ++ [tb] else ws n) := by
  obtain ⟨N, D, hNl, hM, hf⟩ := h.map
  have k1 : But (fun b => (f s).ownBlock = some b) w w1 := But.of_grown hg (fun b e => e)
  have hM1 := map_but hM k1 (fun e => map_ne hM (owns_type (h.wrow s) e) rfl)
  obtain ⟨w2, hrun, hM2, hg2⟩ := hM1.update Tryz.keyed Tryz.underlying112 (by unfold maxLen; omega) (WideMaps.keyOf_string_mk Tryz.underlying9 hs) (d := .held v') (ps := []) rfl
  refine ⟨w2, hrun, ?_⟩
  have kS : But (fun b => (f s).ownBlock = some b ∨ b = mb) w w2 := (k1.mono (fun b _ e => .inl e)).trans (But.of_grown hg2 (fun b e => .inr (Option.some.inj e).symm))
  have k2 : But (fun b => b = mb) w1 w2 := But.of_grown hg2 (fun b e => (Option.some.inj e).symm)
  have ne : ∀ {b : Nat} {t : TypeId}, TypeAt w b t → t ≠ 57 → ¬ ((f s).ownBlock = some b ∨ b = mb) := fun hu hn e => by
    rcases e with e | e
    · exact type_ne hu (owns_type (h.wrow s) e) hn rfl
    · exact map_ne hM hu e
  have ne1 : ∀ {b : Nat} {t : TypeId}, TypeAt w1 b t → ¬ b = mb := fun hu e => map_ne hM1 hu e
  have hb := h.row.lt
  have nb := ne h.row.type (by decide)
  have hmp : Maps.IsMap D := by obtain ⟨es, clock, _, _, _, rfl⟩ := hM; exact ⟨_, rfl⟩
  have hfen : Fen G w2 bb mb ts (fun n => if n = s then v' else f n) := by
    have h0 := h.oth.but kS (fun b e => by
      rcases e with e | e
      · exact h.oth.nf s b e
      · rw [e]; exact h.oth.nm)
    refine ⟨h0.size, h0.lt, h0.same, h0.nb, h0.nm, h0.nt, fun n x hx => ?_, h0.has⟩
    by_cases e : n = s
    · simp only [if_pos e] at hx
      rcases hv x hx with g | g
      · exact h.oth.nf s x g
      · exact h.oth.far g
    · simp only [if_neg e] at hx
      exact h.oth.nf n x hx
  refine ⟨kS.kept h.kw (fun b e => ?_), kS.row h.row nb, (kS.cell hb nb).trans h.c0, (kS.cell hb nb).trans h.c1, (kS.cell hb nb).trans h.c2, (kS.cell hb nb).trans h.c3, (kS.cell hb nb).trans h.c4, (kS.cell hb nb).trans h.c5, h.low, kS.owns h.items (fun b e e2 => ?_), fun t ht => (h.task t ht).but kS (ne (h.task t ht).row.type (by decide)) (fun x hx => ne ((h.task t ht).own_type hx).1 (by decide)), h.act, h.asc, h.tbs, h.sep, h.sep2, ⟨N + 1, _, by omega, hM2, fun n hn => ?_⟩, h.mlow, fun n => ?_, fun n n' hnn x hx hx' => ?_, fun n x hx e => ?_, fun t ht => Nat.le_trans (h.qb t ht) (by omega), hfen⟩
  · rcases e with e | e
    · exact ((h.wrow s).lt b e).1
    · rw [e]; exact h.mlow
  · rcases e2 with e2 | e2
    · exact h.isep s b e2 e
    · exact map_ne hM (owns_type h.items e) e2
  · by_cases e : n = s
    · rw [if_pos e, e]
      exact Maps.atKey_put_same (k := keyLit s) hmp (by show WideAt.IsKeyLit (.string _); exact trivial) _ _
    · rw [if_neg e, ← hf n hn]
      exact Maps.atKey_put_other (keyLit_ne e) _ _
  · by_cases e : n = s
    · simp only [if_pos e]
      have e1 : (ws s ++ [tb]).length = (ws s).length + 1 := by simp
      have e2 : (ws s ++ [tb]).map ptrB = (ws s).map ptrB ++ [ptrB tb] := by simp
      rw [e1, e2]
      exact k2.owns ho (fun b e => ne1 (owns_type ho e))
    · simp only [if_neg e]
      refine kS.owns (h.wrow n) (fun b e1 e2 => ?_)
      rcases e2 with e2 | e2
      · exact h.wsep n s e b e1 e2
      · exact map_ne hM (owns_type (h.wrow n) e1) e2
  · by_cases e : n = s
    · rw [if_pos e] at hx
      rw [if_neg (fun e' => hnn (e.trans e'.symm))] at hx'
      rcases hv x hx with g | g
      · exact h.wsep s n' (fun e' => hnn (e.trans e')) x g hx'
      · have := ((h.wrow n').lt x hx').2; omega
    · rw [if_neg e] at hx
      by_cases e' : n' = s
      · rw [if_pos e'] at hx'
        rcases hv x hx' with g | g
        · exact h.wsep n s e x hx g
        · have := ((h.wrow n).lt x hx).2; omega
      · rw [if_neg e'] at hx'
        exact h.wsep n n' hnn x hx hx'
  · by_cases e' : n = s
    · rw [if_pos e'] at hx
      rcases hv x hx with g | g
      · exact h.isep s x g e
      · have := (h.items.lt x e).2; omega
    · rw [if_neg e'] at hx
      exact h.isep n x hx e
end
def unans (webl : List NodeD) (ts : List TaskM) (l : List ByteArray) : List ByteArray := l.filter fun a => (ansOf (actsOf webl) (envOf (runsOf ts)) a).isNone
structure AskI (webl : List NodeD) (ts0 : List TaskM) (ws0 : ByteArray → List Nat) (tb : Nat) (L1 L2 : List ByteArray) (ts : List TaskM) (ws : ByteArray → List Nat) : Prop where
  env : ∀ n, envOf (runsOf ts) n = match envOf (runsOf ts0) n with | some x => some x | none => if hasN L1 n = true ∧ (actsOf webl n).isSome = true then some (RunX.fresh n) else none
  me : ∃ t0 ∈ ts0, ∃ t ∈ ts, t0.tb = tb ∧ t.tb = tb ∧ t.r = t0.r ∧ t.op = t0.op + (unans webl ts0 L2).length ∧ t.bq = t0.bq
  other : ∀ t ∈ ts, t.tb ≠ tb → (∃ t0 ∈ ts0, t0.tb = t.tb ∧ t0.r = t.r ∧ t0.op = t.op ∧ t0.bq = t.bq) ∨ (t.r = RunX.fresh t.r.name ∧ (t.op = 0 ∧ t.bq = (⟨#[]⟩, [])) ∧ envOf (runsOf ts0) t.r.name = none)
  old : ∀ t0 ∈ ts0, ∃ t ∈ ts, t.tb = t0.tb ∧ t.r = t0.r
  wt : ∀ s, ws s = if hasN (unans webl ts0 L2) s = true then ws0 s ++ [tb] else ws0 s
theorem AskI.start {webl : List NodeD} {ts0 : List TaskM} {ws0 : ByteArray → List Nat} {t : TaskM} (h : t ∈ ts0) : AskI webl ts0 ws0 t.tb [] [] ts0 ws0 :=
  ⟨fun n => by cases envOf (runsOf ts0) n <;> simp [hasN], ⟨t, h, t, h, rfl, rfl, rfl, rfl, rfl⟩, fun u hu _ => .inl ⟨u, hu, rfl, rfl, rfl, rfl⟩, fun u hu => ⟨u, hu, rfl, rfl⟩, fun s => by simp [unans, hasN]⟩
theorem env_none_iff {ts : List TaskM} {n : ByteArray} : envOf (runsOf ts) n = none ↔ ∀ t ∈ ts, t.r.name ≠ n := by
  unfold envOf
  rw [List.find?_eq_none]
  simp [runsOf]
theorem AskI.want {webl : List NodeD} {ts0 ts ts' : List TaskM} {ws0 ws : ByteArray → List Nat} {tb : Nat} {L1 L2 : List ByteArray} (h : AskI webl ts0 ws0 tb L1 L2 ts ws) {n : ByteArray} (ha : AscX (runsOf ts)) (ha' : AscX (runsOf ts')) (hn : (ts'.map (·.tb)).Nodup) (hw : WantR webl ts n ts') : AskI webl ts0 ws0 tb (L1 ++ [n]) L2 ts' ws := by
  have hL : ∀ m, hasN (L1 ++ [n]) m = true ↔ hasN L1 m = true ∨ m = n := fun m => by simp [hasN_iff]
  rcases hw with ⟨rfl, hw⟩ | ⟨p, new, rfl, hr, hop, hno, hsome⟩
  · refine ⟨fun m => ?_, h.me, h.other, h.old, h.wt⟩
    rw [h.env m]
    cases h0 : envOf (runsOf ts0) m with
    | some x => rfl
    | none =>
      simp only
      by_cases e : m = n
      · subst e
        rcases hw with hw | ⟨t, ht, e⟩
        · rw [if_neg (by rw [hw]; simp), if_neg (by rw [hw]; simp)]
        · by_cases hc : hasN L1 m = true ∧ (actsOf webl m).isSome = true
          · rw [if_pos hc, if_pos ⟨(hL m).2 (.inl hc.1), hc.2⟩]
          · have := h.env m
            rw [h0] at this
            simp only at this
            rw [if_neg hc] at this
            exact absurd e (env_none_iff.1 this t ht)
      · by_cases hc : hasN L1 m = true ∧ (actsOf webl m).isSome = true
        · rw [if_pos hc, if_pos ⟨(hL m).2 (.inl hc.1), hc.2⟩]
        · rw [if_neg hc, if_neg]
          rintro ⟨h1, h2⟩
          rcases (hL m).1 h1 with g | g
          · exact hc ⟨g, h2⟩
          · exact e g
  · have hmem : ∀ u, u ∈ ts.take p ++ new :: ts.drop p ↔ u = new ∨ u ∈ ts := fun u => by
      rw [List.mem_append, List.mem_cons]
      constructor
      · rintro (h | h | h)
        · exact .inr (List.mem_of_mem_take h)
        · exact .inl h
        · exact .inr (List.mem_of_mem_drop h)
      · rintro (h | h)
        · exact .inr (.inl h)
        · rw [← List.take_append_drop p ts] at h
          rcases List.mem_append.1 h with h | h
          · exact .inl h
          · exact .inr (.inr h)
    have hnone : envOf (runsOf ts) n = none := env_none_iff.2 hno
    have h0n : envOf (runsOf ts0) n = none := by
      have := h.env n
      rw [hnone] at this
      cases h0 : envOf (runsOf ts0) n with
      | none => rfl
      | some x => rw [h0] at this; cases this
    have henv : ∀ m, envOf (runsOf (ts.take p ++ new :: ts.drop p)) m = if m = n then some (RunX.fresh n) else envOf (runsOf ts) m := fun m => by
      by_cases e : m = n
      · rw [if_pos e, e]
        have := asc_env ha' (r := new.r) (List.mem_map_of_mem ((hmem new).2 (.inl rfl)))
        rw [hr] at this
        exact this
      · rw [if_neg e]
        cases h1 : envOf (runsOf ts) m with
        | some x =>
          obtain ⟨g1, g2⟩ := env_mem h1
          obtain ⟨u, hu, rfl⟩ := List.mem_map.1 g1
          have := asc_env ha' (r := u.r) (List.mem_map_of_mem ((hmem u).2 (.inr hu)))
          rw [g2] at this
          exact this
        | none =>
          rw [env_none_iff] at h1 ⊢
          intro u hu
          rcases (hmem u).1 hu with rfl | hu
          · rw [hr]; exact fun e2 => e e2.symm
          · exact h1 u hu
    have htb : ∀ u ∈ ts, u.tb ≠ new.tb := fun u hu e => by
      have e1 : (ts.take p ++ new :: ts.drop p).map (·.tb) = (ts.take p).map (·.tb) ++ new.tb :: (ts.drop p).map (·.tb) := by simp
      rw [e1] at hn
      have h2 := List.nodup_append.1 hn
      rw [← List.take_append_drop p ts] at hu
      rcases List.mem_append.1 hu with hu | hu
      · exact h2.2.2 _ (List.mem_map_of_mem hu) _ (by simp) e
      · exact (List.nodup_cons.1 h2.2.1).1 (by rw [← e]; exact List.mem_map_of_mem hu)
    refine ⟨fun m => ?_, ?_, fun u hu hne => ?_, fun t0 ht0 => ?_, h.wt⟩
    · rw [henv m]
      by_cases e : m = n
      · rw [if_pos e, e, h0n]
        simp only
        rw [if_pos ⟨(hL n).2 (.inr rfl), hsome⟩]
      · rw [if_neg e, h.env m]
        cases h0 : envOf (runsOf ts0) m with
        | some x => rfl
        | none =>
          simp only
          by_cases hc : hasN L1 m = true ∧ (actsOf webl m).isSome = true
          · rw [if_pos hc, if_pos ⟨(hL m).2 (.inl hc.1), hc.2⟩]
          · rw [if_neg hc, if_neg]
            rintro ⟨h1, h2⟩
            rcases (hL m).1 h1 with g | g
            · exact hc ⟨g, h2⟩
            · exact e g
    · obtain ⟨t0, h1, t, h2, h3⟩ := h.me
      exact ⟨t0, h1, t, (hmem t).2 (.inr h2), h3⟩
    · rcases (hmem u).1 hu with rfl | hu
      · exact .inr ⟨by rw [hr]; rfl, hop, by rw [hr]; exact h0n⟩
      · exact h.other u hu hne
    · obtain ⟨t, h1, h2⟩ := h.old t0 ht0
      exact ⟨t, (hmem t).2 (.inr h1), h2⟩
theorem AskI.ans {webl : List NodeD} {ts0 ts : List TaskM} {ws0 ws : ByteArray → List Nat} {tb : Nat} {L1 L2 : List ByteArray} (h : AskI webl ts0 ws0 tb L1 L2 ts ws) (n : ByteArray) : ansOf (actsOf webl) (envOf (runsOf ts)) n = ansOf (actsOf webl) (envOf (runsOf ts0)) n := by
  unfold ansOf
  cases hA : actsOf webl n with
  | none => rfl
  | some A =>
    simp only
    rw [h.env n]
    cases h0 : envOf (runsOf ts0) n with
    | some x => rfl
    | none =>
      simp only
      split
      · rename_i r hr
        split at hr
        · cases hr; rfl
        · cases hr
      · rfl
theorem AskI.skip {webl : List NodeD} {ts0 ts : List TaskM} {ws0 ws : ByteArray → List Nat} {tb : Nat} {L1 L2 : List ByteArray} (h : AskI webl ts0 ws0 tb L1 L2 ts ws) {n : ByteArray} (hn : (ansOf (actsOf webl) (envOf (runsOf ts0)) n).isSome = true) : AskI webl ts0 ws0 tb L1 (L2 ++ [n]) ts ws := by
  have e : unans webl ts0 (L2 ++ [n]) = unans webl ts0 L2 := by
    unfold unans
    rw [List.filter_append]
    cases ha : ansOf (actsOf webl) (envOf (runsOf ts0)) n with
    | none => rw [ha] at hn; cases hn
    | some x => simp [ha]
  exact ⟨h.env, by rw [e]; exact h.me, h.other, h.old, by rw [e]; exact h.wt⟩
theorem AskI.wait {webl : List NodeD} {ts0 ts : List TaskM} {ws0 ws : ByteArray → List Nat} {tb : Nat} {L1 L2 : List ByteArray} (h : AskI webl ts0 ws0 tb L1 L2 ts ws) {n : ByteArray} (hn : ansOf (actsOf webl) (envOf (runsOf ts0)) n = none) (hni : n ∉ L2) {i : Nat} {t t' : TaskM} (hi : ts[i]? = some t) (ht : t.tb = tb) (hnd : (ts.map (·.tb)).Nodup) (e1 : t'.tb = tb) (e2 : t'.r = t.r) (e3 : t'.op = t.op + 1) (e0 : t'.bq = t.bq) : AskI webl ts0 ws0 tb L1 (L2 ++ [n]) (ts.set i t') (fun m => if m = n then ws n ++ [tb] else ws m) := by
  obtain ⟨hl, rfl⟩ := List.getElem?_eq_some_iff.1 hi
  have e : unans webl ts0 (L2 ++ [n]) = unans webl ts0 L2 ++ [n] := by
    unfold unans
    rw [List.filter_append]
    simp [hn]
  have hni2 : n ∉ unans webl ts0 L2 := fun h => hni (List.mem_filter.1 h).1
  have hru : runsOf (ts.set i t') = runsOf ts := by
    rw [runs_set hl, e2]
    have e0 : ts[i].r = (runsOf ts)[i]'(by simpa [runsOf] using hl) := by simp [runsOf]
    rw [e0, List.set_getElem_self]
  have mem : ∀ u ∈ ts.set i t', u = t' ∨ (u ∈ ts ∧ u.tb ≠ tb) := fun u hu => by
    obtain ⟨j, hj, rfl⟩ := List.getElem_of_mem hu
    rw [List.length_set] at hj
    rw [List.getElem_set]
    split
    · exact .inl rfl
    · rename_i hne
      refine .inr ⟨List.getElem_mem hj, fun e => ?_⟩
      have hnd2 := List.pairwise_iff_getElem.1 hnd
      rcases Nat.lt_or_gt_of_ne hne with g | g
      · have := hnd2 i j (by simpa using hl) (by simpa using hj) g
        simp at this
        exact this (ht.trans e.symm)
      · have := hnd2 j i (by simpa using hj) (by simpa using hl) g
        simp at this
        exact this (e.trans ht.symm)
  have one : ∀ u ∈ ts, u.tb = tb → u = ts[i] := fun u hu e => by
    obtain ⟨j, hj, rfl⟩ := List.getElem_of_mem hu
    by_cases hij : i = j
    · subst hij; rfl
    · have hnd2 := List.pairwise_iff_getElem.1 hnd
      rcases Nat.lt_or_gt_of_ne hij with g | g
      · have := hnd2 i j (by simpa using hl) (by simpa using hj) g
        simp at this
        exact absurd (ht.trans e.symm) this
      · have := hnd2 j i (by simpa using hj) (by simpa using hl) g
        simp at this
        exact absurd (e.trans ht.symm) this
  have hin : t' ∈ ts.set i t' := List.mem_iff_getElem.2 ⟨i, by rw [List.length_set]; exact hl, by simp⟩
  have keep : ∀ u ∈ ts, u.tb ≠ tb → u ∈ ts.set i t' := fun u hu hne => by
    obtain ⟨j, hj, rfl⟩ := List.getElem_of_mem hu
    refine List.mem_iff_getElem.2 ⟨j, by rw [List.length_set]; exact hj, ?_⟩
    rw [List.getElem_set, if_neg (fun e => hne (by subst e; exact ht))]
  refine ⟨by rw [hru]; exact h.env, ?_, fun u hu hne => ?_, fun t0 ht0 => ?_, fun s => ?_⟩
  · obtain ⟨t0, h1, t, h2, h3, h4, h5, h6, h7⟩ := h.me
    have := one t h2 h4
    subst this
    exact ⟨t0, h1, t', hin, h3, e1, by rw [e2, h5], by rw [e3, h6, e]; simp; omega, e0.trans h7⟩
  · rcases mem u hu with rfl | ⟨hu, _⟩
    · exact absurd e1 hne
    · exact h.other u hu hne
  · obtain ⟨t, h1, h2, h3⟩ := h.old t0 ht0
    by_cases e4 : t.tb = tb
    · have := one t h1 e4
      subst this
      exact ⟨t', hin, by rw [e1, ← e4, h2], by rw [e2, h3]⟩
    · exact ⟨t, keep t h1 e4, h2, h3⟩
  · rw [e]
    by_cases e4 : s = n
    · subst e4
      rw [if_pos rfl, if_pos (hasN_iff.2 (by simp)), h.wt s, if_neg (fun g => hni2 (hasN_iff.1 g))]
    · rw [if_neg e4, h.wt s]
      by_cases h5 : hasN (unans webl ts0 L2) s = true
      · rw [if_pos h5, if_pos (hasN_iff.2 (List.mem_append.2 (.inl (hasN_iff.1 h5))))]
      · rw [if_neg h5, if_neg (fun g => by
          rcases List.mem_append.1 (hasN_iff.1 g) with g | g
          · exact h5 (hasN_iff.2 g)
          · exact e4 (List.mem_singleton.1 g))]
end Go.Proofs.YtjhemildijapmaaGreatDoor
namespace Go.Proofs.YtjhemildijapmaaGreatDoor
open Go.RowKit
section
variable {G : Ghost} {webl : List NodeD} {wz w w' : World} {bb : Nat} {a : Option Addr} {cap : Nat} {rd : Option Addr} {rn rc : Nat} {mb mx : Nat} {ts : List TaskM} {d : Option Addr} {dc : Nat} {f : ByteArray → Value} {ws : ByteArray → List Nat}
theorem BM.len (h : BM G webl wz w bb a cap rd rn rc mb mx ts d dc f ws) (hw : webl.length ≤ 60) : ts.length ≤ 60 := by
  have h1 := List.Nodup.length_le_of_subset (asc_nodup h.asc) (l₂ := webl.map (·.name)) (fun n hn => by
    obtain ⟨r, hr, rfl⟩ := List.mem_map.1 hn
    obtain ⟨t, ht, rfl⟩ := List.mem_map.1 hr
    exact acts_in (by rw [(h.act t ht).1]; rfl))
  simp [runsOf] at h1
  omega
def AskEnd (G : Ghost) (webl : List NodeD) (wz : World) (bb : Nat) (a : Option Addr) (cap : Nat) (rd : Option Addr) (rn rc mb mx : Nat) (ts0 : List TaskM) (ws0 : ByteArray → List Nat) (i : Nat) (t : TaskM) (asks : List ByteArray) (w' : World) : Prop :=
  ∃ (ts0' ts : List TaskM) (d : Option Addr) (dc : Nat) (f : ByteArray → Value) (ws : ByteArray → List Nat), (ts0'.map fun t => (t.tb, t.r, t.op, t.bq)) = ((ts0.set i { t with qs := t.qs ++ asks.map Value.string }).map fun t => (t.tb, t.r, t.op, t.bq)) ∧ BM G webl wz w' bb a cap rd rn rc mb (mx + 6) ts d dc f ws ∧ AskI webl ts0' ws0 t.tb asks asks ts ws
set_option maxRecDepth 100000 in
set_option maxHeartbeats 6400000 in
theorem benchAsk_any (hB : BM G webl wz w bb a cap rd rn rc mb mx ts d dc f ws) {i : Nat} {t : TaskM} (hi : ts[i]? = some t) (aa : Option Addr) (ca : Nat) (asks : List ByteArray) (hal : asks.length ≤ 5) (hsz : ∀ x ∈ asks, x.size ≤ 20) (hnd : asks.Nodup) (hA : Strs wz aa asks) (hmx : mx ≤ 100000) (hwl : webl.length ≤ 60) (hwr : Rises webl) (hN : Nodes wz a webl) (_hww : ∀ s b, b ∈ ws s → ∃ t ∈ ts, t.tb = b) (hwn : ∀ s, (ws s).length ≤ 1000) (hop0 : t.op ≤ 1000) :
    Calls Tryz.prog 61 #[.pointer (some ⟨bb, 0, none⟩), .pointer (some ⟨t.tb, 0, none⟩), .slice aa asks.length ca] w fun e w' => e = .returned (.tuple #[]) ∧ AskEnd G webl wz bb a cap rd rn rc mb mx ts ws i t asks w' := by
  obtain ⟨is, hst0, hst1, hst2, hst3⟩ := xInfo_parts Tryz.xInfoStr
  obtain ⟨ip, hp0, hp1, hp2, hp3⟩ := xInfo_parts Tryz.infoPtrB
  have hT := hB.at hi
  have q10 : w.cell? ⟨t.tb, 10, none⟩ = some t.qv := hT.rng 10 _ rfl
  have tz := hT.row.lt
  have hqb := hB.qb t (List.mem_of_getElem? hi)
  have hzw := hB.kw.size
  have HB := hide hB
  have HI := hide hi
  have HT := hide hT
  clear hB hi hT
  go_enter Tryz.func61, Tryz.ntmps61
  go_wp2_with (at_builtin; refine wpList_append_strs rfl (.tmp 14) (.tmp 15) 25 rfl wz.heap.size 9 is _ 16 Tryz.underlying25 hst0 hst1 hst2 hst3 rfl t.qv t.qs.length t.qs rfl HT.out.ask aa ca asks rfl (hA.kept HB.out.kw) (by unfold maxLen; omega) (by omega) hzw ?_; intro v1 w1 ho1 hg1 hv1; obtain ⟨av1, cv1, rfl⟩ := own_slice ho1; have hb1 : w1.heap[t.tb]? = w.heap[t.tb]? := hg1.block _ tz (fun e => type_ne HT.out.row.type (owns_type HT.out.ask e.symm) (by decide) rfl); have hr1 := HT.out.row.block hb1; obtain ⟨⟨_, x10⟩, f10⟩ := hr1.row.at (i := 10) (by omega); have tz1 := hr1.lt; have HB1 := hide (HB.out.asked HI.out (l := asks.map Value.string) (by rw [List.length_map]; exact ho1) hg1 hv1 (by simpa using hal)); clear ho1 hg1 hv1 hb1 hr1)
  obtain ⟨n0, hn0⟩ : ∃ n0, n0 = asks.length := ⟨_, rfl⟩
  obtain ⟨ts1, hts1⟩ : ∃ ts1, ts1 = ts.set i { t with qv := .slice av1 (t.qs.length + asks.length) cv1, qs := t.qs ++ asks.map Value.string } := ⟨_, rfl⟩
  rw [← hts1] at HB1
  have HMp : Hid ((ts1.map fun t => (t.tb, t.r, t.op, t.bq)) = ((ts.set i { t with qs := t.qs ++ asks.map Value.string }).map fun t => (t.tb, t.r, t.op, t.bq))) := by
    show _ = _
    rw [hts1, List.map_set, List.map_set]
    rfl
  have HNd : Hid (ts1.map (·.tb)).Nodup := HB1.out.tbs
  have HT1 : Hid (∃ u ∈ ts1, u.tb = t.tb ∧ u.op = t.op) := by
    obtain ⟨hl, rfl⟩ := List.getElem?_eq_some_iff.1 HI.out
    exact ⟨{ ts[i] with qv := .slice av1 (ts[i].qs.length + asks.length) cv1, qs := ts[i].qs ++ asks.map Value.string }, by rw [hts1]; exact List.mem_iff_getElem.2 ⟨i, by rw [List.length_set]; exact hl, by rw [List.getElem_set_self]⟩, rfl, rfl⟩
  obtain ⟨W1, hW1⟩ : ∃ W1, W1 = w1.setCell ⟨t.tb, 10, none⟩ (.slice av1 (t.qs.length + asks.length) cv1) := ⟨_, rfl⟩
  rw [← hW1] at HB1 ⊢
  obtain ⟨tb, htb⟩ : ∃ tb, tb = t.tb := ⟨_, rfl⟩
  rw [← htb] at HT1 ⊢
  have HTB := hide htb
  have hop : t.op ≤ 1000 := hop0
  obtain ⟨op0, hop1⟩ : ∃ op0, op0 = t.op := ⟨_, rfl⟩
  rw [← hop1] at HT1 hop
  have Hn0 := hide hn0
  rw [← hn0]
  have hn5 : n0 ≤ 5 := by omega
  clear hW1 hts1 htb x10 f10 tz1 q10 tz HT HI HB hqb hzw hop1 hn0
  go_wp2
  go_loopw [21] (fun x wr => ∃ (k : Nat) (ts2 : List TaskM) (d2 : Option Addr) (dc2 : Nat) (f2 : ByteArray → Value) (ws2 : ByteArray → List Nat), k ≤ n0 ∧ x = .int .i64 k ∧ BM G webl wz wr bb a cap rd rn rc mb (mx + 1 + k) ts2 d2 dc2 f2 ws2 ∧ AskI webl ts1 ws tb (asks.take k) (asks.take k) ts2 ws2) (fun x _ => n0 - (intOf x).toNat)
  case atStart =>
    obtain ⟨u, hu, e1, _⟩ := HT1.out
    exact ⟨0, ts1, d, dc, f, ws, Nat.zero_le _, rfl, HB1.out, by rw [← e1]; exact AskI.start hu⟩
  case round =>
    clear HB1
    obtain ⟨k, ts2, d2, dc2, f2, ws2, hk, rfl, hB2, hI2⟩ := hrel
    by_cases hlt : k < n0
    rotate_left
    · obtain rfl : k = n0 := by omega
      have htk : asks.take k = asks := by rw [Hn0.out]; exact List.take_length
      rw [htk] at hI2
      go_wp2
      go_end0
      exact ⟨rfl, ts1, ts2, d2, dc2, f2, ws2, HMp.out, hB2.more (by omega), by rw [← HTB.out]; exact hI2⟩
    obtain ⟨n, hn⟩ : ∃ n, asks[k]? = some n := ⟨_, List.getElem?_eq_getElem (by have := Hn0.out; omega)⟩
    have hmem : n ∈ asks := List.mem_of_getElem? hn
    have hnsz := hsz n hmem
    have htk : asks.take (k + 1) = asks.take k ++ [n] := by
      obtain ⟨h1, h2⟩ := List.getElem?_eq_some_iff.1 hn
      rw [List.take_succ_eq_append_getElem h1, h2]
    have hni : n ∉ asks.take k := fun h => by
      obtain ⟨h1, h2⟩ := List.getElem?_eq_some_iff.1 hn
      obtain ⟨q, hq, e⟩ := List.getElem_of_mem h
      rw [List.length_take] at hq
      rw [List.getElem_take] at e
      exact List.pairwise_iff_getElem.1 hnd q k (by omega) h1 (by omega) (e.trans h2.symm)
    obtain ⟨b, o, rfl, hb0, hc0⟩ := hA k (by have := Hn0.out; omega)
    have c0 : wr.cell? ⟨b, o + k, none⟩ = some (.string n) := by
      rw [hB2.kw.cell hb0, hc0]
      simp [List.getD, hn]
    have hl2 := hB2.len hwl
    have i0 : (k : Int) < (n0 : Int) := by omega
    have HTk := hide htk
    have HNi := hide hni
    have HB2 := hide hB2
    have HI2 := hide hI2
    clear hn htk hni hc0 hB2 hI2
    go_wp2_with fail
    refine (benchWant_b HB2.out n (by omega) (by omega) hwr hN).mono ?_
    rintro e w3 ⟨rfl, ts3, d3, dc3, hB3, hw3⟩
    have hl3 := hB3.len hwl
    have HI3 := hide (HI2.out.want HB2.out.asc hB3.asc hB3.tbs hw3)
    have HAn : Hid ((∃ t ∈ ts3, t.r.name = n) ∨ actsOf webl n = none) := by
      rcases hw3 with ⟨rfl, h | h⟩ | ⟨p, new, rfl, hr, _⟩
      · exact .inr h
      · exact .inl h
      · exact .inl ⟨new, List.mem_append.2 (.inr (by simp)), by rw [hr]; rfl⟩
    have HB3 := hide hB3
    clear hB3 hw3 c0
    go_wp2_with fail
    refine (benchAnswer_any HB3.out n (by omega) (by omega) HAn.out).mono ?_
    rintro e w4 ⟨⟨fa, tx, ok, rfl, hans⟩, k4⟩
    rw [HI3.out.ans n] at hans
    have HAns := hide hans
    have HB4 := hide (HB3.out.kept k4)
    clear hans
    cases ok
    rotate_left
    · go_wp2
      go_roundw
      case rel => exact ⟨k + 1, ts3, d3, dc3, f2, ws2, by omega, by go_num, (HB4.out.more (by omega)).kept ((Kept.refl _).alloc _), by rw [HTk.out]; exact HI3.out.skip (by rw [HAns.out]; rfl)⟩
      case measure => simp [intOf]; omega
    obtain ⟨va, vc, hf⟩ := own_slice (HB4.out.wrow n)
    obtain ⟨j, t4, hj4, htb4, hop4⟩ : ∃ (j : Nat) (t4 : TaskM), ts3[j]? = some t4 ∧ t4.tb = tb ∧ t4.op ≤ 2000 := by
      obtain ⟨t0, h0, t4, h4, e1, e2, e3, e4⟩ := HI3.out.me
      obtain ⟨j, hj, rfl⟩ := List.getElem_of_mem h4
      refine ⟨j, ts3[j], List.getElem?_eq_getElem hj, e2, ?_⟩
      obtain ⟨u, hu, g1, g2⟩ := HT1.out
      have hun : (unans webl ts1 (asks.take k)).length ≤ 5 := Nat.le_trans (List.length_filter_le _ _) (by rw [List.length_take]; omega)
      have h01 : t0.op = op0 := by
        rw [← g2]
        have hnd1 := HNd.out
        obtain ⟨p1, hp1', rfl⟩ := List.getElem_of_mem h0
        obtain ⟨p2, hp2', rfl⟩ := List.getElem_of_mem hu
        have : p1 = p2 := by
          rcases Nat.lt_trichotomy p1 p2 with g | g | g
          · have := List.pairwise_iff_getElem.1 hnd1 p1 p2 (by simpa using hp1') (by simpa using hp2') g
            simp at this
            exact absurd (e1.trans g1.symm) this
          · exact g
          · have := List.pairwise_iff_getElem.1 hnd1 p2 p1 (by simpa using hp2') (by simpa using hp1') g
            simp at this
            exact absurd (g1.trans e1.symm) this
        subst this
        rfl
      omega
    have hwn2 : (ws2 n).length ≤ 1001 := by
      rw [HI3.out.wt n]
      have := hwn n
      split
      · rw [List.length_append]; simp; omega
      · omega
    have Hf := hide hf
    have HJ4 := hide hj4
    have HTb := hide htb4
    clear hf hj4 htb4
    obtain ⟨W4, hW4⟩ : ∃ W4, W4 = w4.alloc (.cells #[.bool fa, .string tx] 151) := ⟨_, rfl⟩
    have HB5 : Hid (BM G webl wz W4 bb a cap rd rn rc mb (mx + 1 + k) ts3 d3 dc3 f2 ws2) := by rw [hW4]; exact HB4.out.kept ((Kept.refl _).alloc _)
    have HSO : Hid (∀ w', Kept W4 w' → w'.cell? ⟨bb, 5, none⟩ = some (.map (some mb)) ∧ (Instr.lookup 112 (.map (some mb)) (.string n) false).run Tryz.prog w' = .ok (.slice va (ws2 n).length vc) w') := fun w' K => ⟨(HB5.out.kept K).c5, by rw [← Hf.out]; exact (HB5.out.kept K).look (by unfold maxLen; omega)⟩
    go_upto_region 7 with fail
    rw [← hW4]
    clear hW4 k4
    refine UpTo.rg 14 HSO.out fun wd KD hHeld => ?_
    refine UpTo.tk 0 hHeld ?_
    refine UpTo.tk 1 hHeld ?_
    refine UpTo.tk 2 hHeld ?_
    refine UpTo.tk 3 hHeld ?_
    refine UpTo.tk 4 hHeld ?_
    refine UpTo.tk 5 hHeld ?_
    refine UpTo.tk 6 hHeld ?_
    refine UpTo.tk 7 hHeld ?_
    refine UpTo.tk 8 hHeld ?_
    refine UpTo.tk 9 hHeld ?_
    refine UpTo.tk 10 hHeld ?_
    refine UpTo.tk 11 hHeld ?_
    refine UpTo.nx 12 (fun K hK => ?_)
    go_simp
    have K5 : Kept wd (wd.alloc (.cells #[.pointer (some ⟨tb, 0, none⟩)] 57)) := (Kept.refl _).alloc _
    have hc5 : (wd.alloc (.cells #[.pointer (some ⟨tb, 0, none⟩)] 57)).cell? ⟨wd.heap.size, 0, none⟩ = some (.pointer (some ⟨tb, 0, none⟩)) := range_new wd #[.pointer (some ⟨tb, 0, none⟩)] 57 0 _ rfl
    have K5b := KD.trans K5
    refine hK.out _ _ (fun _ => HSO.out _ K5b) ?_
    clear hK K hHeld
    have HB6 := hide (HB5.out.kept K5b)
    obtain ⟨eb, heb⟩ : ∃ eb, eb = wd.heap.size := ⟨_, rfl⟩
    rw [← heb] at hc5 ⊢
    generalize hwe : wd.alloc (.cells #[.pointer (some ⟨tb, 0, none⟩)] 57) = w6 at hc5 K5b HB6 ⊢
    clear hwe K5 heb
    have hrow6 := HB6.out.wrow n
    rw [Hf.out] at hrow6
    have HR6 := hide hrow6
    have hz6 := HB6.out.kw.size
    clear hrow6
    try simp only [Act.put, upA, upB, upC]
    refine UpTo.nx 13 (fun K hK => ?_)
    refine step_append_lies _ rfl (.tmp 46) (.tmp 48) 105 rfl wz.heap.size 57 ip _ 1 8 Tryz.underlying105 hp0 hp1 hp2 hp3 rfl (by decide) (.slice va (ws2 n).length vc) (ws2 n).length ((ws2 n).map ptrB) rfl HR6.out ⟨eb, 0, none⟩ 1 1 [ptrB tb] rfl rfl (fun j u hu => ?_) (fun u hu => ?_) (by decide) (by unfold maxLen; omega) (by omega) hz6 w6.heap.size rfl ?_
    · match j, hu with
      | 0, hu => simp at hu; subst hu; rw [Addr.add_mid]; exact hc5
      | j + 1, hu => simp at hu
    · simp at hu; subst hu; rfl
    intro g gc w7 ho7 hg7 hv7 hgz7
    rw [← Hf.out] at hg7 hv7
    obtain ⟨w8, hrun, hB8⟩ := HB6.out.wait (s := n) (tb := tb) (by unfold maxLen; omega) ho7 hg7 (fun x e => by simp only [Value.ownBlock, Option.some.injEq] at e; subst e; rcases hv7 with h | h; exact .inl h; exact .inr (Nat.le_of_eq h.symm)) (by omega)
    have HB8 := hide hB8
    have k67 : But (fun b => (f2 n).ownBlock = some b) w6 w7 := But.of_grown hg7 (fun b e => e)
    have HS7b : Hid (w7.cell? ⟨bb, 5, none⟩ = some (.map (some mb)) ∧ (Instr.lookup 112 (.map (some mb)) (.string n) false).run Tryz.prog w7 = .ok (.slice va (ws2 n).length vc) w7) := by
      have w' := w7
      exact ⟨(k67.cell HB6.out.row.lt (fun e => type_ne HB6.out.row.type (owns_type (HB6.out.wrow n) e) (by decide) rfl)).trans HB6.out.c5, by have h := HB6.out.grown_look (s := n) (by unfold maxLen; omega) hg7; rw [Hf.out] at h; exact h⟩
    refine hK.out _ _ (fun _ => HS7b.out) ?_
    clear hK K hB8 ho7 hg7 hv7 k67
    try simp only [Act.put, upA, upB, upC]
    refine UpTo.nx 14 (fun K hK => ?_)
    go_simp
    refine hK.out _ _ (fun h => absurd rfl h) ?_
    clear hK K
    try simp only [Act.put, upA, upB, upC]
    refine UpTo.dn ?_
    have hT8 := HB8.out.at HJ4.out
    have o9 : w8.cell? ⟨tb, 9, none⟩ = some (.int .i64 (t4.op : Int)) := by rw [← HTb.out]; exact hT8.rng 9 _ rfl
    have uz : tb < w8.heap.size := by rw [← HTb.out]; exact hT8.row.lt
    obtain ⟨_, g9⟩ := hT8.row.row.at (i := 9) (by omega)
    rw [HTb.out] at g9
    have HSt := hide (HB8.out.store (t' := { t4 with op := t4.op + 1 }) HJ4.out (o := 9) (v := .int .i64 ((t4.op + 1 : Nat) : Int)) (by omega) rfl rfl rfl rfl rfl rfl rfl rfl rfl rfl)
    have hnum : ((t4.op + 1 : Nat) : Int) = (t4.op : Int) + 1 := by omega
    rw [hnum, HTb.out] at HSt
    have HFi := hide (HI3.out.wait (n := n) (by rw [HAns.out]; rfl) HNi.out HJ4.out HTb.out HB5.out.tbs (t' := { t4 with op := t4.op + 1 }) HTb.out rfl rfl rfl)
    rw [HTb.out] at HFi
    clear hT8 hnum
    go_wp2
    go_roundw
    case rel => exact ⟨k + 1, _, d3, dc3, _, _, by omega, by go_num, HSt.out, by rw [HTk.out]; exact HFi.out⟩
    case measure => simp [intOf]; omega
end
end Go.Proofs.YtjhemildijapmaaGreatDoor
