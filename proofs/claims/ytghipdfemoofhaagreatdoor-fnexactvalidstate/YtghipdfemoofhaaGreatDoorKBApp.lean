import Derived.Test.YtghipdfemoofhaaGreatDoorKBEnd
import Derived.Test.YtghipdfemoofhaaGreatDoorKOConcat
import Derived.Deep.RegionHeld
import Derived.Deep.AppendLies
import Derived.Laws.OwnMore

namespace Go.Proofs.YtghipdfemoofhaaGreatDoor
open Go.RowKit

theorem Tryz.infoPtrB : (Tryz.prog.info? 70).map (fun i => (i.zero, i.size, i.bytes)) = some (some (.pointer none), 1, 8) := by kernel_rfl

set_option maxRecDepth 100000 in
set_option maxHeartbeats 800000 in
theorem growB_any (w : World) (n : Nat) (hn : n ≤ 3145728) :
    Calls Tryz.prog 201 #[.slice none 0 0, .int .i64 n] w fun e w' => ∃ v, e = .returned v ∧ w'.ownsRow w.heap.size 70 1 v 0 [] ∧ Kept w w' := by
  by_cases h0 : n = 0
  · subst h0
    go_enter Tryz.func201, Tryz.ntmps201
    go_wp2
    go_ret
    exact ⟨_, rfl, World.ownsRow_nil _ _ _ _, Kept.refl _⟩
  · obtain ⟨i0, hi, hz0, hz1, hz2⟩ := info_parts Tryz.infoPtrB
    have hrun := fun ty => Lib.run_append_nil_zeros (P := Tryz.prog) w 124 3 ty 70 i0 _ .i64 .i64 Tryz.underlying124 Tryz.undInt hi hz0 n (by omega) (by rw [hz1]; omega) (by omega) (by rw [hz2]; omega)
    have hge := grownCap_ge w n 0 70
    have hle := grownCap_le_maxLen w n 0 70 (by unfold maxLen; omega)
    have HRun := hide hrun
    clear hrun
    have hp : (0 : Int) < (n : Int) := by omega
    go_enter Tryz.func201, Tryz.ntmps201
    go_wp2_with (at_builtin; refine Lib.wpList_append_run _ rfl (.tmp 20) (.tmp 21) _ _ rfl _ _ rfl rfl _ _ (HRun.out _) ?_)
    go_ret
    refine ⟨_, rfl, World.ownsRow.drew (World.ownsRow_made w _ _ (Nat.le_refl _) hle ?_), ((Kept.refl _).alloc _).drew⟩
    simp only [Array.size_append, size_zeroCells]
    have e3 : (#[Value.pointer none] : Array Value).size = 1 := rfl
    rw [e3, ← Nat.add_mul]
    congr 1
    omega

def RowsB (w : World) (b : Nat) (LL : List (List Value)) (P : Nat → Option Addr) (C : Nat → Nat) : Prop :=
  b < w.heap.size ∧ ∀ i, i < LL.length → w.cell? ⟨b, i, none⟩ = some (.slice (P i) (LL.getD i []).length (C i)) ∧ ((P i = none ∧ C i = 0 ∧ LL.getD i [] = []) ∨ ∃ p1 p2, P i = some ⟨p1, p2, none⟩ ∧ ∀ j u, (LL.getD i [])[j]? = some u → w.cell? ⟨p1, p2 + j, none⟩ = some u)
theorem RowsB.kept {w w' : World} {b : Nat} {LL : List (List Value)} {P : Nat → Option Addr} {C : Nat → Nat} (h : RowsB w b LL P C) (k : Kept w w') : RowsB w' b LL P C :=
  ⟨Nat.lt_of_lt_of_le h.1 k.size, fun i hi => ⟨by rw [k.cell h.1]; exact (h.2 i hi).1, by
    rcases (h.2 i hi).2 with g | ⟨p1, p2, e, g⟩
    · exact .inl g
    · exact .inr ⟨p1, p2, e, fun j u hu => by rw [k.cell (World.block_lt_of_cell? _ _ (g j u hu))]; exact g j u hu⟩⟩⟩

theorem flatB_succ (LL : List (List Value)) (k : Nat) (h : k < LL.length) : (LL.take (k + 1)).flatten = (LL.take k).flatten ++ LL.getD k [] := by
  rw [List.take_succ_eq_append_getElem h, List.flatten_append]
  simp [List.getD, h]
theorem flatB_len (LL : List (List Value)) (k : Nat) : (LL.take k).flatten.length = sumTo List.length LL k := by
  unfold sumTo
  rw [List.length_flatten]

set_option maxRecDepth 100000 in
set_option maxHeartbeats 1600000 in
theorem concatB_any (w : World) (b cap : Nat) (LL : List (List Value)) (P : Nat → Option Addr) (C : Nat → Nat) (hm : LL.length ≤ 3) (hn : (LL.map List.length).sum ≤ 3145728) (hone : ∀ l ∈ LL, ∀ u ∈ l, u.oneCell' = true) (hR : RowsB w b LL P C) :
    Calls Tryz.prog 174 #[.slice (some ⟨b, 0, none⟩) LL.length cap] w fun e w' => ∃ v, e = .returned v ∧ w'.ownsRow w.heap.size 70 1 v LL.flatten.length LL.flatten ∧ Kept w w' := by
  go_enter Tryz.func174, Tryz.ntmps174
  go_wp2
  go_loop [3, 11] (fun x i => ∃ k : Nat, k ≤ LL.length ∧ i = .int .i64 k ∧ x = .int .i64 (sumTo List.length LL k : Nat)) (fun _ i => LL.length - (intOf i).toNat)
  case atStart => exact ⟨0, Nat.zero_le _, rfl, by rw [sumTo_zero]; rfl⟩
  case round =>
    obtain ⟨k, hk, rfl, rfl⟩ := hrel
    by_cases hlt : k < LL.length
    · have hc := (hR.2 k hlt).1
      have HS : Hid (sumTo List.length LL (k + 1) = sumTo List.length LL k + (LL.getD k []).length) := sumTo_succ _ LL _ k hlt
      have HT := sumTo_le List.length LL (k + 1)
      have hst : sumTo List.length LL k + (LL.getD k []).length ≤ 3145728 := by have := HS.out; omega
      generalize sumTo List.length LL k = z at *
      generalize (LL.getD k []).length = y at *
      generalize P k = pk at *
      clear HT
      go_wp2
      go_round
      case rel => exact ⟨k + 1, by omega, by go_num, by rw [HS.out]; go_num⟩
      case measure => simp [intOf]; omega
    · have hkl : k = LL.length := by omega
      subst hkl
      have hz : sumTo List.length LL LL.length ≤ 3145728 := by rw [sumTo_all]; exact hn
      generalize sumTo List.length LL LL.length = z at *
      go_wp2_with fail
      refine (growB_any _ z hz).mono ?_
      rintro e w1 ⟨v1, rfl, hown, k1⟩
      go_wp2
      go_loopw [6, 27] (fun x i wr => ∃ (k : Nat), k ≤ LL.length ∧ i = .int .i64 k ∧ wr.ownsRow w.heap.size 70 1 x (LL.take k).flatten.length (LL.take k).flatten ∧ Kept w wr) (fun _ i _ => LL.length - (intOf i).toNat)
      case atStart => exact ⟨0, Nat.zero_le _, rfl, by simpa using hown, k1⟩
      case round =>
        obtain ⟨k, hk, rfl, hown, hw⟩ := hrel
        by_cases hlt : k < LL.length
        · have hc := ((hR.kept hw).2 k hlt).1
          have hbr := (hR.kept hw).1
          have hsrc := ((hR.kept hw).2 k hlt).2
          have hflat := flatB_succ LL k hlt
          have hln := flatB_len LL (k + 1)
          have hle := sumTo_le List.length LL (k + 1)
          rw [hflat, List.length_append] at hln
          have hon := hone (LL.getD k []) (by simp [List.getD, hlt])
          obtain ⟨y, hy⟩ : ∃ y, y = LL.getD k [] := ⟨_, rfl⟩
          obtain ⟨x0, hx0⟩ : ∃ x0, x0 = (LL.take k).flatten := ⟨_, rfl⟩
          rw [← hy] at hc hsrc hln hflat hon
          rw [← hx0] at hown hln hflat
          have hb1 : x0.length + y.length ≤ 3145728 := by omega
          have HFl := hide hflat
          have HOw := hide hown
          have hbase := hw.size
          clear hln hle hflat hy hx0
          rcases hsrc with ⟨e1, e2, e3⟩ | ⟨p1, p2, e1, hcs⟩
          · rw [e1, e2, e3] at hc
            rw [e3, List.append_nil] at HFl
            rcases hown.2 with ⟨ev, h0⟩ | ⟨g, cp, cur, ev, hb0, hg, hnc, _, _, _⟩
            · subst ev
              simp only [List.length_nil] at hc
              clear hown
              go_wp2
              go_roundw
              case rel => exact ⟨k + 1, by omega, by go_num, by rw [HFl.out]; exact HOw.out, hw⟩
              case measure => simp [intOf]; omega
            · subst ev
              simp only [List.length_nil] at hc
              have hnc' : (x0.length : Int) ≤ (cp : Int) := by omega
              have hgl := heap_lt hg
              clear hown hg
              go_wp2
              go_roundw
              case rel => exact ⟨k + 1, by omega, by go_num, by rw [HFl.out]; exact HOw.out, hw⟩
              case measure => simp [intOf]; omega
          · rw [e1] at hc
            have hnw : ∀ j u, y[j]? = some u → wr.cell? ((⟨p1, p2, none⟩ : Addr).add j) = some u := fun j u hu => by
              rw [Addr.add_mid]
              exact hcs j u hu
            obtain ⟨i0, hi, hz0, hz1, hz2⟩ := info_parts Tryz.infoPtrB
            have HN2 := hide hnw
            have HON := hide hon
            obtain ⟨m, hm'⟩ : ∃ m, m = y.length := ⟨_, rfl⟩
            rw [← hm'] at hc
            have HM := hide hm'
            clear hnw hon hcs hown hm'
            go_wp2_with (at_builtin; refine wpList_append_own _ rfl (.tmp 31) (.tmp 32) 124 rfl w.heap.size 70 i0 _ 1 8 Tryz.underlying124 hi hz0 hz1 hz2 rfl (by decide) _ x0.length x0 rfl HOw.out ⟨p1, p2, none⟩ m (C k) y rfl (by have := HM.out; omega) HN2.out HON.out (by have := HM.out; unfold maxLen; omega) (by have := HM.out; omega) hbase ?_; intro v' w2 hown2 hgr _)
            go_roundw
            case rel => exact ⟨k + 1, by omega, by go_num, by rw [HFl.out, List.length_append, ← HM.out]; exact hown2, kept_of_grown hw (Nat.le_refl _) HOw.out hgr⟩
            case measure => simp [intOf]; omega
        · have hkl : k = LL.length := by omega
          subst hkl
          rw [List.take_length] at hown
          have HOw := hide hown
          clear hown
          go_wp2
          go_ret
          exact ⟨_, rfl, HOw.out, hw⟩

end Go.Proofs.YtghipdfemoofhaaGreatDoor

namespace Go.Proofs.YtghipdfemoofhaaGreatDoor
open Go.RowKit

theorem Tryz.sizeSortedB : (Tryz.prog.info? 127).map (·.size) = some 2 := by kernel_rfl

def PartB (w : World) (A : Option Addr) (c : Nat) (ys : List Value) : Prop := (A = none ∧ c = 0 ∧ ys = []) ∨ ∃ p1 p2, A = some ⟨p1, p2, none⟩ ∧ ∀ j u, ys[j]? = some u → w.cell? ⟨p1, p2 + j, none⟩ = some u

theorem concatB_with {w2 : World} {xs : List Value} {p n c1 c3 tb : Nat} {A1 A3 : Option Addr} (hn : xs.length = n) (hl : n ≤ 1000) (hp : p ≤ n) (hone : ∀ u ∈ xs, u.oneCell' = true) (h1 : PartB w2 A1 c1 (xs.take p)) (h3 : PartB w2 A3 c3 (xs.drop p)) {m : Nat} (hm : m = n + 1) :
    Calls Tryz.prog 174 #[.slice (some ⟨w2.heap.size + 1, 0, none⟩) 3 3] ((w2.alloc (.cells #[.pointer (some ⟨tb, 0, none⟩)] 70)).alloc (.cells #[.slice A1 p c1, .slice (some ⟨w2.heap.size, 0, none⟩) 1 1, .slice A3 (n - p) c3] 124)).drew
      fun e w' => ∃ a' cap' base, e = .returned (.slice a' m cap') ∧ w2.heap.size ≤ base ∧ w'.ownsRow base 70 1 (.slice a' m cap') m (xs.take p ++ .pointer (some ⟨tb, 0, none⟩) :: xs.drop p) ∧ Kept w2 w' := by
  have k1 : Kept w2 ((w2.alloc (.cells #[.pointer (some ⟨tb, 0, none⟩)] 70)).alloc (.cells #[.slice A1 p c1, .slice (some ⟨w2.heap.size, 0, none⟩) 1 1, .slice A3 (n - p) c3] 124)).drew := (((Kept.refl _).alloc _).alloc _).drew
  have a2 := xBoxCell (w := w2) (x := .pointer (some ⟨tb, 0, none⟩)) (t := 70) (((Kept.refl _).alloc (.cells #[.slice A1 p c1, .slice (some ⟨w2.heap.size, 0, none⟩) 1 1, .slice A3 (n - p) c3] 124)).drew)
  have part : ∀ {A c ys}, PartB w2 A c ys → ∀ W, Kept w2 W → (A = none ∧ c = 0 ∧ ys = []) ∨ ∃ p1 p2, A = some ⟨p1, p2, none⟩ ∧ ∀ j u, ys[j]? = some u → W.cell? ⟨p1, p2 + j, none⟩ = some u := by
    intro A c ys h W k
    rcases h with h | ⟨p1, p2, e, g⟩
    · exact .inl h
    · exact .inr ⟨p1, p2, e, fun j u hu => by rw [k.cell (World.block_lt_of_cell? _ _ (g j u hu))]; exact g j u hu⟩
  have hfl : ([xs.take p, [.pointer (some ⟨tb, 0, none⟩)], xs.drop p] : List (List Value)).flatten = xs.take p ++ .pointer (some ⟨tb, 0, none⟩) :: xs.drop p := by simp
  refine (concatB_any _ (w2.heap.size + 1) 3 [xs.take p, [.pointer (some ⟨tb, 0, none⟩)], xs.drop p] (fun i => if i = 0 then A1 else if i = 1 then some ⟨w2.heap.size, 0, none⟩ else A3) (fun i => if i = 0 then c1 else if i = 1 then 1 else c3) (by simp) (by simp [List.length_take, List.length_drop]; omega) ?_ ⟨?_, fun i hi => ?_⟩).mono ?_
  · intro l hl u hu
    simp only [List.mem_cons, List.not_mem_nil, or_false] at hl
    rcases hl with rfl | rfl | rfl
    · exact hone u (List.mem_of_mem_take hu)
    · simp at hu; subst hu; rfl
    · exact hone u (List.mem_of_mem_drop hu)
  · show w2.heap.size + 1 < ((w2.alloc _).alloc _).heap.size
    simp
  · match i, hi with
    | 0, _ => exact ⟨by simp [List.length_take, Nat.min_eq_left (hn ▸ hp)], part h1 _ k1⟩
    | 1, _ => exact ⟨by simp, .inr ⟨w2.heap.size, 0, rfl, fun j u hu => by
        match j, hu with
        | 0, hu => simp at hu; subst hu; exact a2
        | j + 1, hu => simp at hu⟩⟩
    | 2, _ => exact ⟨by simp [List.length_drop, hn], part h3 _ k1⟩
    | i + 3, hi => exfalso; simp at hi; omega
  · rintro e w' ⟨v, rfl, hO, k⟩
    rw [hfl] at hO
    have hlen : (xs.take p ++ .pointer (some ⟨tb, 0, none⟩) :: xs.drop p).length = m := by rw [List.length_append, List.length_cons, List.length_take, List.length_drop]; omega
    rw [hlen] at hO
    obtain ⟨a', cap', rfl⟩ := own_slice hO
    exact ⟨a', cap', _, rfl, k1.size, hO, k1.trans k⟩

def WithEndB (l : List NodeD) (n : ByteArray) (tb : Nat) (xs : List Value) (w w' : World) (e : Ending) : Prop :=
  ∃ (m : Nat) (a : Option Addr) (cap base p : Nat), m = l.length + 1 ∧ e = .returned (.agg #[.slice a m cap, .func (.func 107) #[] #[]]) ∧ w.heap.size ≤ base ∧ w'.ownsRow base 70 1 (.slice a m cap) m (xs.take p ++ .pointer (some ⟨tb, 0, none⟩) :: xs.drop p) ∧ Place l n.toList p ∧ Kept w w'
theorem xBoxCells2 {w wi : World} {x y : Value} {t : TypeId} (K : Kept (w.alloc (.cells #[x, y] t)) wi) : wi.cell? ⟨w.heap.size, 0, none⟩ = some x ∧ wi.cell? ⟨w.heap.size, 1, none⟩ = some y :=
  ⟨(K.cell (by simp)).trans (range_new w #[x, y] t 0 _ rfl), (K.cell (by simp)).trans (range_new w #[x, y] t 1 _ rfl)⟩
theorem PackedN.one {w : World} {xs : List Value} {l : List NodeD} (h : PackedN w xs l) : ∀ u ∈ xs, u.oneCell' = true := by
  intro u hu
  obtain ⟨i, hi, rfl⟩ := List.getElem_of_mem hu
  obtain ⟨tb, _, _, e, _⟩ := h.2 i (by rw [← h.1]; exact hi)
  rw [List.getElem?_eq_getElem hi] at e
  rw [Option.some.inj e]
  rfl

abbrev withBW (w : World) (a : Option Addr) (n cap : Nat) : World := (w.alloc (.cells #[.slice a n cap, .func (.func 107) #[] #[]] 127)).alloc (.cells #[.slice none 0 0, .nilFunc] 127)

set_option maxRecDepth 100000 in
set_option maxHeartbeats 1600000 in
theorem withB_any (w : World) (a : Option Addr) (cap : Nat) (l : List NodeD) (d : NodeD) (xs : List Value) (base0 tb : Nat) (hl : l.length ≤ 100) (hr : Rises l) (hno : ∀ j, j < l.length → nameAt l j ≠ d.name.toList) (hO0 : w.ownsRow base0 70 1 (.slice a l.length cap) l.length xs) (hP : PackedN w xs l) (htl : tb < w.heap.size) (htn : w.cell? ⟨tb, 0, none⟩ = some (.string d.name)) :
    Calls Tryz.prog 149 #[.agg #[.slice a l.length cap, .func (.func 107) #[] #[]], .pointer (some ⟨tb, 0, none⟩)] w fun e w' => WithEndB l d.name tb xs w w' e := by
  have hCells := cellsB_of_owned hO0
  have hxl : xs.length = l.length := by have := hO0.1; omega
  have K0 : Kept w (withBW w a l.length cap) := ((Kept.refl _).alloc _).alloc _
  have HSO : Hid (∀ w', Kept (withBW w a l.length cap) w' → (fun w' => w'.cell? ⟨w.heap.size, 0, none⟩ = some (.slice a l.length cap) ∧ w'.cell? ⟨w.heap.size, 1, none⟩ = some (.func (.func 107) #[] #[])) w') := fun w' kk => xBoxCells2 (w := w) (Kept.trans ((Kept.refl _).alloc _) kk)
  have HRo : Hid (Row (withBW w a l.length cap) (w.heap.size + 1) 2) := by have := Row.made (w.alloc (.cells #[.slice a l.length cap, .func (.func 107) #[] #[]] 127)) #[.slice none 0 0, .nilFunc] 127; show Row _ _ _; simpa using this
  go_enter Tryz.func149, Tryz.ntmps149
  go_wp2
  go_region_held (fun w' => w'.cell? ⟨w.heap.size, 0, none⟩ = some (.slice a l.length cap) ∧ w'.cell? ⟨w.heap.size, 1, none⟩ = some (.func (.func 107) #[] #[])) (exact unhide HSO _ (by repeat (first | (with_reducible exact Kept.refl _) | (with_reducible assumption) | apply Kept.drew))) ((first | (go_at_call 107; refine (taskName_b _ tb d.name ((Kept.cell (K0.trans (by repeat (first | (with_reducible exact Kept.refl _) | (with_reducible assumption) | apply Kept.drew))) htl).trans htn)).mono ?_; rintro e w1 ⟨rfl, rfl⟩) | (go_at_call 150; refine (findB_any _ a cap l d.name (by omega) hr xs (hP.kept (K0.trans (by repeat (first | (with_reducible exact Kept.refl _) | (with_reducible assumption) | apply Kept.drew)))) (hCells.kept (K0.trans (by repeat (first | (with_reducible exact Kept.refl _) | (with_reducible assumption) | apply Kept.drew))))).mono ?_; rintro e w2 ⟨hfo, hk2⟩; obtain ⟨p, f, rfl, hp, hf⟩ := hfo; have k2 : Kept (withBW w a l.length cap) w2 := Kept.trans (by repeat (first | (with_reducible exact Kept.refl _) | (with_reducible assumption) | apply Kept.drew)) hk2; have HP := hide hp; have HF := hide hf; clear hp hf hk2)))
  all_goals
    have hff : f = false := by
      cases f
      · rfl
      · have := HF.out.1 rfl
        exact absurd this.2 (hno p this.1)
    subst hff
    have z2 := k2.size
    simp only [withBW, World.size_alloc] at z2
    have K2 := K0.trans k2
    have S2 := HSO.out w2 k2
    have hrow := HRo.out.kept k2
    obtain ⟨⟨_, x0⟩, g0⟩ := hrow.at (i := 0) (by omega)
    obtain ⟨⟨_, x1⟩, g1⟩ := hrow.at (i := 1) (by omega)
    have HR2 := hide hrow
    have hple := HP.out.le
    clear hrow
    obtain ⟨m, hm⟩ : ∃ m, m = l.length + 1 := ⟨_, rfl⟩
    have HM := hide hm
    have HSO2 : Hid (∀ w', KeptBut (w.heap.size + 1) (w.heap.size + 2) w2 w' → (fun w' => w'.cell? ⟨w.heap.size, 0, none⟩ = some (.slice a l.length cap) ∧ w'.cell? ⟨w.heap.size, 1, none⟩ = some (.func (.func 107) #[] #[])) w') := fun w' kk =>
      have ks := kk.same (l2 := w.heap.size) (h2 := w.heap.size + 1) (by omega)
      ⟨(ks.cell (Nat.le_refl _) (by omega) (by omega)).trans S2.1, (ks.cell (Nat.le_refl _) (by omega) (by omega)).trans S2.2⟩
    obtain ⟨s1, s2⟩ := S2
    have hone := hP.one
    have hCs := hCells.kept K2
    have u0 : w.heap.size < w2.heap.size := by omega
    have u2 : w.heap.size + 1 < w2.heap.size := by omega
    rcases hO0.2 with ⟨ev, h0⟩ | ⟨g, cp, cu2, ev, _, hg, hncp, _, _, _⟩
    · simp only [Value.slice.injEq] at ev
      obtain ⟨ea, _, ec⟩ := ev
      subst ea ec
      have hp0 : p = 0 := by omega
      subst hp0
      have hx0 : xs = [] := List.eq_nil_of_length_eq_zero (by omega)
      have hC := concatB_with (w2 := w2) (c1 := 0) (c3 := 0) (tb := tb) (A1 := none) (A3 := none) hxl (by omega) hple hone (.inl ⟨rfl, rfl, by rw [hx0]; rfl⟩) (.inl ⟨rfl, rfl, by rw [hx0]; rfl⟩) hm
      obtain rfl : l = [] := List.eq_nil_of_length_eq_zero h0
      simp only [List.length_nil, Nat.zero_sub] at hC s1
      have HC := hide hC
      clear hC hx0 hone hCs hm
      go_wp2
      go_region_held (fun w' => w'.cell? ⟨w.heap.size, 0, none⟩ = some (.slice none 0 0) ∧ w'.cell? ⟨w.heap.size, 1, none⟩ = some (.func (.func 107) #[] #[])) (exact unhide HSO2 _ (by repeat (first | exact KeptBut.refl _ _ _ | exact KeptBut.of_kept (by assumption) | apply KeptBut.drew | (refine KeptBut.setCell ?_ (by simp) (by simp) _) | apply KeptBut.alloc))) ((go_at_call 174; refine (unhide HC).mono ?_; rintro e w3 ⟨a', cap', base, rfl, hbase, hO, kk⟩; have HR3 := hide (HR2.out.kept kk); obtain ⟨⟨_, y0⟩, e0⟩ := HR3.out.at (i := 0) (by omega); obtain ⟨⟨_, y1⟩, e1⟩ := HR3.out.at (i := 1) (by omega); have HO := hide hO; clear hO))
      all_goals
        go_wp2
        have hR := World.rangeAt_setCells_same w3 (w.heap.size + 1) 0 [.slice a' m cap', .func (.func 107) #[] #[]] (HR3.out.there (o := 0) (m := 2) (Nat.le_refl _))
        have kf : Kept w ((w3.setCell ⟨w.heap.size + 1, 0, none⟩ (.slice a' m cap')).setCell ⟨w.heap.size + 1, 1, none⟩ (.func (.func 107) #[] #[])) := ((K2.trans kk).setCell (by simp) _).setCell (by simp) _
        have hO2 := owns_set (owns_set HO.out (p := ⟨w.heap.size + 1, 0, none⟩) (by simp <;> omega) (.slice a' m cap')) (p := ⟨w.heap.size + 1, 1, none⟩) (by simp <;> omega) (.func (.func 107) #[] #[])
        exact bodyPost_ret_cell [.slice a' m cap', .func (.func 107) #[] #[]] _ Tryz.results149 rfl hR Tryz.underlying127 rfl Tryz.sizeSortedB rfl ⟨m, a', cap', base, _, HM.out, rfl, by omega, hO2, HP.out, kf⟩
    · simp only [Value.slice.injEq] at ev
      obtain ⟨ea, _, ec⟩ := ev
      subst ea ec
      have hsrc : ∀ j u, xs[j]? = some u → w2.cell? ⟨g, 0 + j, none⟩ = some u := fun j u hu => by
        obtain ⟨b', o', e', _, hc'⟩ := hCs j (List.getElem?_eq_some_iff.1 hu).1
        simp only [Option.some.injEq, Addr.mk.injEq, and_true] at e'
        obtain ⟨rfl, rfl⟩ := e'
        exact hc' j u hu
      have hp1 : PartB w2 (some ⟨g, 0, none⟩) cap (xs.take p) := .inr ⟨g, 0, rfl, fun j u hu => hsrc j u (by rw [List.getElem?_take] at hu; split at hu; exact hu; cases hu)⟩
      have i1 : (p : Int) ≤ (cap : Int) := by omega
      have i2 : (p : Int) ≤ (l.length : Int) := by omega
      by_cases hce : cap = p
      · have hlp : l.length = p := by omega
        have hC := concatB_with (w2 := w2) (c1 := p) (c3 := 0) (tb := tb) (A1 := some ⟨g, 0, none⟩) (A3 := some ⟨g, 0, none⟩) hxl (by omega) hple hone (hce ▸ hp1) (.inr ⟨g, 0, rfl, fun j u hu => by rw [List.drop_eq_nil_of_le (by omega)] at hu; simp at hu⟩) hm
        rw [show l.length - p = 0 by omega] at hC
        have HC := hide hC
        clear hC hone hCs hsrc hp1 hm
        go_wp2
        go_region_held (fun w' => w'.cell? ⟨w.heap.size, 0, none⟩ = some (.slice (some ⟨g, 0, none⟩) l.length cap) ∧ w'.cell? ⟨w.heap.size, 1, none⟩ = some (.func (.func 107) #[] #[])) (exact unhide HSO2 _ (by repeat (first | exact KeptBut.refl _ _ _ | exact KeptBut.of_kept (by assumption) | apply KeptBut.drew | (refine KeptBut.setCell ?_ (by simp) (by simp) _) | apply KeptBut.alloc))) ((go_at_call 174; refine (unhide HC).mono ?_; rintro e w3 ⟨a', cap', base, rfl, hbase, hO, kk⟩; have HR3 := hide (HR2.out.kept kk); obtain ⟨⟨_, y0⟩, e0⟩ := HR3.out.at (i := 0) (by omega); obtain ⟨⟨_, y1⟩, e1⟩ := HR3.out.at (i := 1) (by omega); have HO := hide hO; clear hO))
        all_goals
          go_wp2
          have hR := World.rangeAt_setCells_same w3 (w.heap.size + 1) 0 [.slice a' m cap', .func (.func 107) #[] #[]] (HR3.out.there (o := 0) (m := 2) (Nat.le_refl _))
          have kf : Kept w ((w3.setCell ⟨w.heap.size + 1, 0, none⟩ (.slice a' m cap')).setCell ⟨w.heap.size + 1, 1, none⟩ (.func (.func 107) #[] #[])) := ((K2.trans kk).setCell (by simp) _).setCell (by simp) _
          have hO2 := owns_set (owns_set HO.out (p := ⟨w.heap.size + 1, 0, none⟩) (by simp <;> omega) (.slice a' m cap')) (p := ⟨w.heap.size + 1, 1, none⟩) (by simp <;> omega) (.func (.func 107) #[] #[])
          exact bodyPost_ret_cell [.slice a' m cap', .func (.func 107) #[] #[]] _ Tryz.results149 rfl hR Tryz.underlying127 rfl Tryz.sizeSortedB rfl ⟨m, a', cap', base, _, HM.out, rfl, by omega, hO2, HP.out, kf⟩
      · have hC := concatB_with (w2 := w2) (c1 := cap) (c3 := cap - p) (tb := tb) (A1 := some ⟨g, 0, none⟩) (A3 := some ⟨g, 0 + p * 1, none⟩) hxl (by omega) hple hone hp1 (.inr ⟨g, 0 + p * 1, rfl, fun j u hu => by rw [List.getElem?_drop] at hu; have := hsrc _ u hu; rw [show 0 + p * 1 + j = 0 + (p + j) by omega]; exact this⟩) hm
        simp only [Nat.mul_one, Nat.zero_add] at hC
        have HC := hide hC
        clear hC hone hCs hsrc hp1 hm
        go_wp2
        go_region_held (fun w' => w'.cell? ⟨w.heap.size, 0, none⟩ = some (.slice (some ⟨g, 0, none⟩) l.length cap) ∧ w'.cell? ⟨w.heap.size, 1, none⟩ = some (.func (.func 107) #[] #[])) (exact unhide HSO2 _ (by repeat (first | exact KeptBut.refl _ _ _ | exact KeptBut.of_kept (by assumption) | apply KeptBut.drew | (refine KeptBut.setCell ?_ (by simp) (by simp) _) | apply KeptBut.alloc))) ((go_at_call 174; refine (unhide HC).mono ?_; rintro e w3 ⟨a', cap', base, rfl, hbase, hO, kk⟩; have HR3 := hide (HR2.out.kept kk); obtain ⟨⟨_, y0⟩, e0⟩ := HR3.out.at (i := 0) (by omega); obtain ⟨⟨_, y1⟩, e1⟩ := HR3.out.at (i := 1) (by omega); have HO := hide hO; clear hO))
        all_goals
          go_wp2
          have hR := World.rangeAt_setCells_same w3 (w.heap.size + 1) 0 [.slice a' m cap', .func (.func 107) #[] #[]] (HR3.out.there (o := 0) (m := 2) (Nat.le_refl _))
          have kf : Kept w ((w3.setCell ⟨w.heap.size + 1, 0, none⟩ (.slice a' m cap')).setCell ⟨w.heap.size + 1, 1, none⟩ (.func (.func 107) #[] #[])) := ((K2.trans kk).setCell (by simp) _).setCell (by simp) _
          have hO2 := owns_set (owns_set HO.out (p := ⟨w.heap.size + 1, 0, none⟩) (by simp <;> omega) (.slice a' m cap')) (p := ⟨w.heap.size + 1, 1, none⟩) (by simp <;> omega) (.func (.func 107) #[] #[])
          exact bodyPost_ret_cell [.slice a' m cap', .func (.func 107) #[] #[]] _ Tryz.results149 rfl hR Tryz.underlying127 rfl Tryz.sizeSortedB rfl ⟨m, a', cap', base, _, HM.out, rfl, by omega, hO2, HP.out, kf⟩

end Go.Proofs.YtghipdfemoofhaaGreatDoor

namespace Go.Proofs.YtghipdfemoofhaaGreatDoor
open Go.RowKit

def TaskM.fresh (nb : Nat) (n : ByteArray) (cost : Int) (steps : List StepD) (sa : Option Addr) (sc : Nat) : TaskM := ⟨nb, RunX.fresh n, cost, steps, sa, sc, 0, .slice none 0 0, .slice none 0 0, [], ⟨#[]⟩⟩
def WantR (webl : List NodeD) (ts : List TaskM) (n : ByteArray) (ts' : List TaskM) : Prop :=
  (ts' = ts ∧ (actsOf webl n = none ∨ ∃ t ∈ ts, t.r.name = n)) ∨ (∃ p new, ts' = ts.take p ++ new :: ts.drop p ∧ new.r = RunX.fresh n ∧ (new.op = 0 ∧ new.bq = (⟨#[]⟩, [])) ∧ (∀ t ∈ ts, t.r.name ≠ n) ∧ (actsOf webl n).isSome = true)

theorem asc_insert {l : List RunX} {p : Nat} {r : RunX} (h : AscX l) (h1 : ∀ x ∈ l.take p, lessX x.name r.name) (h2 : ∀ x ∈ l.drop p, lessX r.name x.name) : AscX (l.take p ++ r :: l.drop p) := by
  have h3 : AscX (l.take p ++ l.drop p) := by rw [List.take_append_drop]; exact h
  unfold AscX at h3 ⊢
  rw [List.pairwise_append] at h3 ⊢
  refine ⟨h3.1, List.pairwise_cons.2 ⟨h2, h3.2.1⟩, fun x hx y hy => ?_⟩
  rcases List.mem_cons.1 hy with rfl | hy
  · exact h1 x hx
  · exact h3.2.2 x hx y hy

section
variable {G : Ghost} {webl : List NodeD} {wz w w' : World} {bb : Nat} {a : Option Addr} {cap : Nat} {rd : Option Addr} {rn rc : Nat} {mb mx : Nat} {ts : List TaskM} {d : Option Addr} {dc : Nat} {f : ByteArray → Value} {ws : ByteArray → List Nat}
theorem BM.insert (h : BM G webl wz w bb a cap rd rn rc mb mx ts d dc f ws) {w8 : World} {n : ByteArray} {new : TaskM} (k : Kept w w8) (hT : TaskAt wz.heap.size w8 new) (hnm : new.r.name = n) (hact : actsOf webl n = some ⟨new.cost, new.steps⟩) (hst : Steps wz new.sa new.steps) (hno : ∀ t ∈ ts, t.r.name ≠ n) (hnb : w.heap.size ≤ new.tb) (hown : new.own = []) (hqs : new.qs = []) {a8 : Option Addr} {cap8 base m q : Nat} (hbase : w.heap.size ≤ base) (hm : m = ts.length + 1) (hO : w8.ownsRow base 70 1 (.slice a8 m cap8) m ((ts.map TaskM.ptr).take q ++ .pointer (some ⟨new.tb, 0, none⟩) :: (ts.map TaskM.ptr).drop q)) (hq : Place (namesN ts) n.toList q) :
    BM G webl wz ((w8.setCell ⟨bb, 3, none⟩ (.slice a8 m cap8)).setCell ⟨bb, 4, none⟩ (.func (.func 107) #[] #[])) bb a cap rd rn rc mb mx (ts.take q ++ new :: ts.drop q) a8 cap8 f ws := by
  have h8 := h.kept k
  have zb := h.row.lt
  have kb : But (fun b => b = bb) w8 ((w8.setCell ⟨bb, 3, none⟩ (.slice a8 m cap8)).setCell ⟨bb, 4, none⟩ (.func (.func 107) #[] #[])) := But.set (S := fun b => b = bb) (But.set (S := fun b => b = bb) (But.of_kept (Kept.refl w8)) (p := ⟨bb, 3, none⟩) rfl _) (p := ⟨bb, 4, none⟩) rfl _
  have hlen : (ts.take q ++ new :: ts.drop q).length = m := by have := hq.le; rw [namesN_len] at this; simp [List.length_take, List.length_drop]; omega
  have hmem : ∀ u, u ∈ ts.take q ++ new :: ts.drop q ↔ u = new ∨ u ∈ ts := fun u => by
    rw [List.mem_append, List.mem_cons]
    constructor
    · rintro (h | h | h)
      · exact .inr (List.mem_of_mem_take h)
      · exact .inl h
      · exact .inr (List.mem_of_mem_drop h)
    · rintro (h | h)
      · exact .inr (.inl h)
      · rw [← List.take_append_drop q ts] at h
        rcases List.mem_append.1 h with h | h
        · exact .inl h
        · exact .inr (.inr h)
  have nb : ∀ {b : Nat} {t : TypeId}, TypeAt w8 b t → t ≠ 133 → ¬ b = bb := fun hu hn e => type_ne hu h8.row.type hn e
  obtain ⟨N, D, hN, hM, hf⟩ := h8.map
  have nm : ¬ mb = bb := fun e => map_ne hM h8.row.type e.symm
  have task : ∀ u ∈ ts.take q ++ new :: ts.drop q, TaskAt wz.heap.size ((w8.setCell ⟨bb, 3, none⟩ (.slice a8 m cap8)).setCell ⟨bb, 4, none⟩ (.func (.func 107) #[] #[])) u := fun u hu => by
    rcases (hmem u).1 hu with rfl | hu
    · exact hT.but kb (nb hT.row.type (by decide)) (fun x hx => nb (hT.own_type hx).1 (by decide))
    · have ht := h8.task u hu
      exact ht.but kb (nb ht.row.type (by decide)) (fun x hx => nb (ht.own_type hx).1 (by decide))
  have hfen : Fen G ((w8.setCell ⟨bb, 3, none⟩ (.slice a8 m cap8)).setCell ⟨bb, 4, none⟩ (.func (.func 107) #[] #[])) bb mb (ts.take q ++ new :: ts.drop q) f := by
    have h0 := h8.oth.but kb (fun b e => by rw [e]; exact h.oth.nb)
    refine ⟨h0.size, h0.lt, h0.same, h0.nb, h0.nm, fun u hu => ?_, h0.nf, fun p hp => by obtain ⟨u, hu, g⟩ := h.oth.has p hp; exact ⟨u, (hmem u).2 (.inr hu), g⟩⟩
    rcases (hmem u).1 hu with rfl | hu
    · exact ⟨h.oth.far hnb, fun x hx => by rw [hown] at hx; cases hx⟩
    · exact h.oth.nt u hu
  refine ⟨kb.kept h8.kw (fun b e => by rw [e]; exact h.low), (h8.row.set _).set _, ?_, ?_, ?_, ?_, set_hit (h8.row.set _).row (by omega) _, ?_, h.low, ?_, task, ?_, ?_, ?_, ?_, ?_, ⟨N, D, hN, map_but hM kb nm, hf⟩, h.mlow, fun s => kb.owns (h8.wrow s) (fun b e => nb (owns_type (h8.wrow s) e) (by decide)), h.wsep, fun s x hx e => ?_, fun u hu => by rcases (hmem u).1 hu with rfl | hu; rw [hqs]; exact Nat.zero_le _; exact h.qb u hu, hfen⟩
  · rw [set_miss (by omega), set_miss (by omega)]; exact h8.c0
  · rw [set_miss (by omega), set_miss (by omega)]; exact h8.c1
  · rw [set_miss (by omega), set_miss (by omega)]; exact h8.c2
  · rw [set_miss (by omega), hlen]; exact set_hit h8.row.row (by omega) _
  · rw [set_miss (by omega), set_miss (by omega)]; exact h8.c5
  · rw [hlen]
    have e : (ts.take q ++ new :: ts.drop q).map TaskM.ptr = (ts.map TaskM.ptr).take q ++ .pointer (some ⟨new.tb, 0, none⟩) :: (ts.map TaskM.ptr).drop q := by simp [List.map_take, List.map_drop, TaskM.ptr]
    rw [e]
    exact kb.owns (owns_base hO (Nat.le_trans h.kw.size hbase)) (fun b e => nb (owns_type hO e) (by decide))
  · intro u hu
    rcases (hmem u).1 hu with rfl | hu
    · rw [hnm]; exact ⟨hact, hst⟩
    · exact h.act u hu
  · have e : runsOf (ts.take q ++ new :: ts.drop q) = (runsOf ts).take q ++ new.r :: (runsOf ts).drop q := by simp [runsOf, List.map_take, List.map_drop]
    rw [e]
    refine asc_insert h.asc (fun x hx => ?_) (fun x hx => ?_)
    · obtain ⟨j, hj, rfl⟩ := List.getElem_of_mem hx
      rw [List.length_take] at hj
      rw [List.getElem_take]
      have hjt : j < ts.length := by simp [runsOf] at hj; omega
      have := hq.before j (by omega)
      unfold nameAt at this
      rw [namesN_at hjt] at this
      rw [hnm]
      simpa [runsOf, lessX] using this
    · obtain ⟨j, hj, rfl⟩ := List.getElem_of_mem hx
      rw [List.length_drop] at hj
      rw [List.getElem_drop]
      have hjt : q + j < ts.length := by simp [runsOf] at hj; omega
      have := hq.behind (q + j) (by omega) (by rw [namesN_len]; exact hjt)
      unfold nameAt at this
      rw [namesN_at hjt] at this
      rw [hnm]
      have e2 : (runsOf ts)[q + j] = ts[q + j].r := by simp [runsOf]
      rw [e2]
      rcases lessX_total n ts[q + j].r.name with g | g | g
      · exact g
      · exact absurd g.symm (hno _ (List.getElem_mem hjt))
      · unfold lessX at g; rw [this] at g; cases g
  · have e : (ts.take q ++ new :: ts.drop q).map (·.tb) = (ts.map (·.tb)).take q ++ new.tb :: (ts.map (·.tb)).drop q := by simp [List.map_take, List.map_drop]
    rw [e]
    have hlt : ∀ x ∈ ts.map (·.tb), x < new.tb := fun x hx => by
      obtain ⟨t, ht, rfl⟩ := List.mem_map.1 hx
      have := (h.task t ht).row.lt
      omega
    have h3 : ((ts.map (·.tb)).take q ++ (ts.map (·.tb)).drop q).Nodup := by rw [List.take_append_drop]; exact h.tbs
    rw [List.nodup_append] at h3 ⊢
    refine ⟨h3.1, List.nodup_cons.2 ⟨fun hx => ?_, h3.2.1⟩, fun x hx y hy => ?_⟩
    · have := hlt _ (List.mem_of_mem_drop hx); omega
    · rcases List.mem_cons.1 hy with rfl | hy
      · have := hlt _ (List.mem_of_mem_take hx); omega
      · exact h3.2.2 x hx y hy
  · have h3 : (ts.take q ++ ts.drop q).Pairwise fun t u => ∀ x ∈ t.own, x ∉ u.own := by rw [List.take_append_drop]; exact h.sep
    rw [List.pairwise_append] at h3 ⊢
    refine ⟨h3.1, List.pairwise_cons.2 ⟨fun u _ x hx => (by rw [hown] at hx; cases hx), h3.2.1⟩, fun t ht u hu x hx => ?_⟩
    rcases List.mem_cons.1 hu with rfl | hu
    · rw [hown]; simp
    · exact h3.2.2 t ht u hu x hx
  · intro u hu
    rcases (hmem u).1 hu with rfl | hu
    · rw [hown]; exact List.nodup_nil
    · exact h.sep2 u hu
  · have h1 := ((h.wrow s).lt x hx).2
    rw [hlen] at e
    have h2 := (hO.lt x e).1
    omega

set_option maxRecDepth 100000 in
set_option maxHeartbeats 6400000 in
theorem benchWant_b (hB : BM G webl wz w bb a cap rd rn rc mb mx ts d dc f ws) (n : ByteArray) (hl : ts.length ≤ 90) (hwl : webl.length ≤ 1048576) (hwr : Rises webl) (hN : Nodes wz a webl) :
    Calls Tryz.prog 108 #[.pointer (some ⟨bb, 0, none⟩), .string n] w fun e w' => e = .returned (.tuple #[]) ∧ ∃ ts' d' dc', BM G webl wz w' bb a cap rd rn rc mb mx ts' d' dc' f ws ∧ WantR webl ts n ts' := by
  have b0 := hB.c0
  have b1 := hB.c1
  have zk := hB.row.lt
  have HB := hide hB
  clear hB
  go_enter Tryz.func108, Tryz.ntmps108
  go_wp2_with fail
  refine (find_any _ a cap webl n hwl hwr (hN.kept HB.out.kw)).mono ?_
  rintro e w1 ⟨⟨p, fd, rfl, hp, hf⟩, k1⟩
  have HP := hide hp
  have HF := hide hf
  have zk1 := (HB.out.kept k1).row.lt
  clear hp hf b0 b1
  cases fd
  · go_wp2_with fail
    refine bodyPost_ret (results_none rfl _ _ _) rfl ?_
    refine ⟨rfl, ts, d, dc, HB.out.kept k1, .inl ⟨rfl, .inl (acts_none fun j hj e => ?_)⟩⟩
    have hna : nameAt webl j = n.toList := by unfold nameAt; rw [e]
    have e2 := Place.only hwr HP.out hj hna
    rw [e2] at hj hna
    have := HF.out.2 ⟨hj, hna⟩
    cases this
  have hpl := (HF.out.1 rfl).1
  have HAct : Hid (actsOf webl n = some ⟨(webl.getD p NodeD.zero).cost, (webl.getD p NodeD.zero).steps⟩) := acts_at hpl (toList_inj.1 (HF.out.1 rfl).2) (fun j hj e => by
    have hna : nameAt webl j = n.toList := by unfold nameAt; rw [e]
    have := Place.only hwr HP.out (by omega) hna
    omega)
  go_wp2_with fail
  refine (benchTask_any (HB.out.kept k1) n (by omega)).mono ?_
  rintro e w2 ⟨⟨i, hi, hin, rfl⟩ | ⟨hno, rfl⟩, k2⟩
  · have hpt : ts[i].ptr = .pointer (some ⟨ts[i].tb, 0, none⟩) := rfl
    rw [hpt]
    clear hpt
    go_wp2_with fail
    refine bodyPost_ret (results_none rfl _ _ _) rfl ?_
    exact ⟨rfl, ts, d, dc, HB.out.kept (k1.trans k2), .inl ⟨rfl, .inr ⟨ts[i], List.getElem_mem hi, hin⟩⟩⟩
  have k12 := k1.trans k2
  have hB2 := HB.out.kept k12
  obtain ⟨b, o, cs, rfl, hb0, hcs, aa, ca, rfl, hA⟩ := hN p hpl
  obtain ⟨y, hy⟩ : ∃ y, y = webl.getD p NodeD.zero := ⟨_, rfl⟩
  rw [← hy] at hcs hA HAct
  have hb : b < w2.heap.size := Nat.lt_of_lt_of_le hb0 hB2.kw.size
  have c1 : w2.cell? ⟨b, o + p * 3 + 1, none⟩ = some (.int .i64 y.cost) := (hB2.kw.cell hb0).trans (hcs 1 _ rfl)
  have c2 : w2.cell? ⟨b, o + p * 3 + 2, none⟩ = some (.slice aa y.steps.length ca) := (hB2.kw.cell hb0).trans (hcs 2 _ rfl)
  have m0 := hB2.c0
  have m3 := hB2.c3
  have m4 := hB2.c4
  have zb := hB2.row.lt
  have HB2 := hide hB2
  have HNo := hide hno
  have HA := hide hA
  have HSO : Hid (∀ w', Kept w2 w' → w'.cell? ⟨bb, 0, none⟩ = some (.slice (some ⟨b, o, none⟩) webl.length cap) ∧ w'.cell? ⟨bb, 3, none⟩ = some (.slice d ts.length dc) ∧ w'.cell? ⟨bb, 4, none⟩ = some (.func (.func 107) #[] #[]) ∧ w'.cell? ⟨b, o + p * 3 + 1, none⟩ = some (.int .i64 y.cost) ∧ w'.cell? ⟨b, o + p * 3 + 2, none⟩ = some (.slice aa y.steps.length ca)) := fun w' kk => ⟨(kk.cell zb).trans m0, (kk.cell zb).trans m3, (kk.cell zb).trans m4, (kk.cell hb).trans c1, (kk.cell hb).trans c2⟩
  have hpi : (p : Int) < (webl.length : Int) := by omega
  clear hcs hA hy hB2 hno c1 c2 m0 m3 m4
  go_upto_region 2 with fail
  refine UpTo.region (by kernel_rfl) (fun w' => w'.cell? ⟨bb, 0, none⟩ = some (.slice (some ⟨b, o, none⟩) webl.length cap) ∧ w'.cell? ⟨bb, 3, none⟩ = some (.slice d ts.length dc) ∧ w'.cell? ⟨bb, 4, none⟩ = some (.func (.func 107) #[] #[]) ∧ w'.cell? ⟨b, o + p * 3 + 1, none⟩ = some (.int .i64 y.cost) ∧ w'.cell? ⟨b, o + p * 3 + 2, none⟩ = some (.slice aa y.steps.length ca)) 21 (HSO.out _ ((Kept.refl w2).drew)) (fun hHeld => ?_)
  have KD : Kept w2 w2.drew := (Kept.refl w2).drew
  generalize hwd : w2.drew = wd at hHeld KD ⊢
  clear hwd
  refine UpTo.take 0 [19, 20, 21] (v := ?_) (by (simp only [List.getElem?_toArray, List.getElem?_cons_zero]; rfl)) (by kernel_rfl) (by kernel_rfl) (by kernel_rfl) (by kernel_rfl) (by exact fun _ _ _ h => h) (Or.inl ⟨by rfl, ?_⟩) hHeld ?_
  rotate_left
  · intro u hu
    try dsimp only at hu
    go_simp
    try with_reducible rfl
  try simp only [Act.put, List.setIfInBounds_toArray, List.set_cons_zero, List.set_cons_succ]
  refine UpTo.take 1 [2, 3, 4, 18, 19, 20, 21] (v := ?_) (by (simp only [List.getElem?_toArray, List.getElem?_cons_succ, List.getElem?_cons_zero]; rfl)) (by kernel_rfl) (by kernel_rfl) (by kernel_rfl) (by kernel_rfl) (by exact fun _ _ _ h => h) (Or.inl ⟨by rfl, ?_⟩) hHeld ?_
  rotate_left
  · intro u hu
    try dsimp only at hu
    go_simp
    try with_reducible rfl
  try simp only [Act.put, List.setIfInBounds_toArray, List.set_cons_zero, List.set_cons_succ]
  refine UpTo.take 2 [3, 4, 18, 19, 20, 21] (v := ?_) (by (simp only [List.getElem?_toArray, List.getElem?_cons_succ, List.getElem?_cons_zero]; rfl)) (by kernel_rfl) (by kernel_rfl) (by kernel_rfl) (by kernel_rfl) (by exact fun _ _ _ h => h) (Or.inl ⟨by rfl, ?_⟩) hHeld ?_
  rotate_left
  · intro u hu
    try dsimp only at hu
    go_simp
    try with_reducible rfl
  try simp only [Act.put, List.setIfInBounds_toArray, List.set_cons_zero, List.set_cons_succ]
  refine UpTo.take 3 [4, 18, 19, 20, 21] (v := ?_) (by (simp only [List.getElem?_toArray, List.getElem?_cons_succ, List.getElem?_cons_zero]; rfl)) (by kernel_rfl) (by kernel_rfl) (by kernel_rfl) (by kernel_rfl) (by exact fun _ _ _ h => h) (Or.inl ⟨by rfl, ?_⟩) hHeld ?_
  rotate_left
  · intro u hu
    try dsimp only at hu
    go_simp
    try with_reducible rfl
  try simp only [Act.put, List.setIfInBounds_toArray, List.set_cons_zero, List.set_cons_succ]
  refine UpTo.take 4 [18, 19, 20, 21] (v := ?_) (by (simp only [List.getElem?_toArray, List.getElem?_cons_succ, List.getElem?_cons_zero]; rfl)) (by kernel_rfl) (by kernel_rfl) (by kernel_rfl) (by kernel_rfl) (by exact fun _ _ _ h => h) (Or.inl ⟨by rfl, ?_⟩) hHeld ?_
  rotate_left
  · intro u hu
    try dsimp only at hu
    go_simp
    try with_reducible rfl
  try simp only [Act.put, List.setIfInBounds_toArray, List.set_cons_zero, List.set_cons_succ]
  refine UpTo.take 5 [6, 16, 17, 18, 19, 20, 21] (v := ?_) (by (simp only [List.getElem?_toArray, List.getElem?_cons_succ, List.getElem?_cons_zero]; rfl)) (by kernel_rfl) (by kernel_rfl) (by kernel_rfl) (by kernel_rfl) (by exact fun _ _ _ h => h) (Or.inl ⟨by rfl, ?_⟩) hHeld ?_
  rotate_left
  · intro u hu
    try dsimp only at hu
    go_simp
    try with_reducible rfl
  try simp only [Act.put, List.setIfInBounds_toArray, List.set_cons_zero, List.set_cons_succ]
  refine UpTo.take 6 [16, 17, 18, 19, 20, 21] (v := ?_) (by (simp only [List.getElem?_toArray, List.getElem?_cons_succ, List.getElem?_cons_zero]; rfl)) (by kernel_rfl) (by kernel_rfl) (by kernel_rfl) (by kernel_rfl) (by exact fun _ _ _ h => h) (Or.inl ⟨by rfl, ?_⟩) hHeld ?_
  rotate_left
  · intro u hu
    try dsimp only at hu
    go_simp
    try with_reducible rfl
  try simp only [Act.put, List.setIfInBounds_toArray, List.set_cons_zero, List.set_cons_succ]
  refine UpTo.take 7 [8, 9, 10, 11, 13, 14, 15, 16, 17, 18, 19, 20, 21] (v := ?_) (by (simp only [List.getElem?_toArray, List.getElem?_cons_succ, List.getElem?_cons_zero]; rfl)) (by kernel_rfl) (by kernel_rfl) (by kernel_rfl) (by kernel_rfl) (by exact fun _ _ _ h => h) (Or.inl ⟨by rfl, ?_⟩) hHeld ?_
  rotate_left
  · intro u hu
    try dsimp only at hu
    go_simp
    try with_reducible rfl
  try simp only [Act.put, List.setIfInBounds_toArray, List.set_cons_zero, List.set_cons_succ]
  refine UpTo.take 8 [9, 10, 11, 13, 14, 15, 16, 17, 18, 19, 20, 21] (v := ?_) (by (simp only [List.getElem?_toArray, List.getElem?_cons_succ, List.getElem?_cons_zero]; rfl)) (by kernel_rfl) (by kernel_rfl) (by kernel_rfl) (by kernel_rfl) (by exact fun _ _ _ h => h) (Or.inl ⟨by rfl, ?_⟩) hHeld ?_
  rotate_left
  · intro u hu
    try dsimp only at hu
    go_simp
    try with_reducible rfl
  try simp only [Act.put, List.setIfInBounds_toArray, List.set_cons_zero, List.set_cons_succ]
  refine UpTo.take 9 [10, 11, 13, 14, 15, 16, 17, 18, 19, 20, 21] (v := ?_) (by (simp only [List.getElem?_toArray, List.getElem?_cons_succ, List.getElem?_cons_zero]; rfl)) (by kernel_rfl) (by kernel_rfl) (by kernel_rfl) (by kernel_rfl) (by exact fun _ _ _ h => h) (Or.inl ⟨by rfl, ?_⟩) hHeld ?_
  rotate_left
  · intro u hu
    try dsimp only at hu
    go_simp
    try with_reducible rfl
  try simp only [Act.put, List.setIfInBounds_toArray, List.set_cons_zero, List.set_cons_succ]
  refine UpTo.take 10 [11, 13, 14, 15, 16, 17, 18, 19, 20, 21] (v := ?_) (by (simp only [List.getElem?_toArray, List.getElem?_cons_succ, List.getElem?_cons_zero]; rfl)) (by kernel_rfl) (by kernel_rfl) (by kernel_rfl) (by kernel_rfl) (by exact fun _ _ _ h => h) (Or.inl ⟨by rfl, ?_⟩) hHeld ?_
  rotate_left
  · intro u hu
    try dsimp only at hu
    go_simp
    try with_reducible rfl
  try simp only [Act.put, List.setIfInBounds_toArray, List.set_cons_zero, List.set_cons_succ]
  refine UpTo.take 11 [13, 14, 15, 16, 17, 18, 19, 20, 21] (v := ?_) (by (simp only [List.getElem?_toArray, List.getElem?_cons_succ, List.getElem?_cons_zero]; rfl)) (by kernel_rfl) (by kernel_rfl) (by kernel_rfl) (by kernel_rfl) (by exact fun _ _ _ h => h) (Or.inl ⟨by rfl, ?_⟩) hHeld ?_
  rotate_left
  · intro u hu
    try dsimp only at hu
    go_simp
    try with_reducible rfl
  try simp only [Act.put, List.setIfInBounds_toArray, List.set_cons_zero, List.set_cons_succ]
  refine UpTo.take 12 [13, 14, 15, 16, 17, 18, 19, 20, 21] (v := ?_) (by (simp only [List.getElem?_toArray, List.getElem?_cons_succ, List.getElem?_cons_zero]; rfl)) (by kernel_rfl) (by kernel_rfl) (by kernel_rfl) (by kernel_rfl) (by exact fun _ _ _ h => h) (Or.inl ⟨by rfl, ?_⟩) hHeld ?_
  rotate_left
  · intro u hu
    try dsimp only at hu
    go_simp
    try with_reducible rfl
  try simp only [Act.put, List.setIfInBounds_toArray, List.set_cons_zero, List.set_cons_succ]
  refine UpTo.take 13 [14, 15, 16, 17, 18, 19, 20, 21] (v := ?_) (by (simp only [List.getElem?_toArray, List.getElem?_cons_succ, List.getElem?_cons_zero]; rfl)) (by kernel_rfl) (by kernel_rfl) (by kernel_rfl) (by kernel_rfl) (by exact fun _ _ _ h => h) (Or.inl ⟨by rfl, ?_⟩) hHeld ?_
  rotate_left
  · intro u hu
    try dsimp only at hu
    go_simp
    try with_reducible rfl
  try simp only [Act.put, List.setIfInBounds_toArray, List.set_cons_zero, List.set_cons_succ]
  refine UpTo.take 14 [15, 16, 17, 18, 19, 20, 21] (v := ?_) (by (simp only [List.getElem?_toArray, List.getElem?_cons_succ, List.getElem?_cons_zero]; rfl)) (by kernel_rfl) (by kernel_rfl) (by kernel_rfl) (by kernel_rfl) (by exact fun _ _ _ h => h) (Or.inl ⟨by rfl, ?_⟩) hHeld ?_
  rotate_left
  · intro u hu
    try dsimp only at hu
    go_simp
    try with_reducible rfl
  try simp only [Act.put, List.setIfInBounds_toArray, List.set_cons_zero, List.set_cons_succ]
  refine UpTo.take 15 [16, 17, 18, 19, 20, 21] (v := ?_) (by (simp only [List.getElem?_toArray, List.getElem?_cons_succ, List.getElem?_cons_zero]; rfl)) (by kernel_rfl) (by kernel_rfl) (by kernel_rfl) (by kernel_rfl) (by exact fun _ _ _ h => h) (Or.inl ⟨by rfl, ?_⟩) hHeld ?_
  rotate_left
  · intro u hu
    try dsimp only at hu
    go_simp
    try with_reducible rfl
  try simp only [Act.put, List.setIfInBounds_toArray, List.set_cons_zero, List.set_cons_succ]
  refine UpTo.take 16 [17, 18, 19, 20, 21] (v := ?_) (by (simp only [List.getElem?_toArray, List.getElem?_cons_succ, List.getElem?_cons_zero]; rfl)) (by kernel_rfl) (by kernel_rfl) (by kernel_rfl) (by kernel_rfl) (by exact fun _ _ _ h => h) (Or.inl ⟨by rfl, ?_⟩) hHeld ?_
  rotate_left
  · intro u hu
    try dsimp only at hu
    go_simp
    try with_reducible rfl
  try simp only [Act.put, List.setIfInBounds_toArray, List.set_cons_zero, List.set_cons_succ]
  refine UpTo.next 17 (by kernel_rfl) (by (simp only [List.getElem?_toArray, List.getElem?_cons_succ, List.getElem?_cons_zero]; rfl)) (fun K hK => ?_)
  go_simp
  have K3 : Kept wd (wd.alloc (.cells #[.string n, .bool false, .bool false, .string ⟨#[]⟩, .int .i64 0, .int .i64 0, .slice none 0 0, .int .i64 y.cost, .slice aa y.steps.length ca, .int .i64 0, .slice none 0 0, .string ⟨#[]⟩] 77)) := (Kept.refl _).alloc _
  have hRw : RowT (wd.alloc (.cells #[.string n, .bool false, .bool false, .string ⟨#[]⟩, .int .i64 0, .int .i64 0, .slice none 0 0, .int .i64 y.cost, .slice aa y.steps.length ca, .int .i64 0, .slice none 0 0, .string ⟨#[]⟩] 77)) wd.heap.size 77 12 := RowT.made wd _ _
  have hRg : (wd.alloc (.cells #[.string n, .bool false, .bool false, .string ⟨#[]⟩, .int .i64 0, .int .i64 0, .slice none 0 0, .int .i64 y.cost, .slice aa y.steps.length ca, .int .i64 0, .slice none 0 0, .string ⟨#[]⟩] 77)).rangeAt wd.heap.size 0 [.string n, .bool false, .bool false, .string ⟨#[]⟩, .int .i64 0, .int .i64 0, .slice none 0 0, .int .i64 y.cost, .slice aa y.steps.length ca, .int .i64 0, .slice none 0 0, .string ⟨#[]⟩] := range_new wd _ _
  have KF := KD.trans K3
  refine hK.out _ _ (fun _ => HSO.out _ KF) ?_
  clear hK K hHeld
  have zd := KD.size
  obtain ⟨nb, hnb⟩ : ∃ nb, nb = wd.heap.size := ⟨_, rfl⟩
  have hnz : w2.heap.size ≤ nb := by omega
  rw [← hnb] at hRw hRg ⊢
  generalize hwe : wd.alloc (.cells #[.string n, .bool false, .bool false, .string ⟨#[]⟩, .int .i64 0, .int .i64 0, .slice none 0 0, .int .i64 y.cost, .slice aa y.steps.length ca, .int .i64 0, .slice none 0 0, .string ⟨#[]⟩] 77) = w3 at hRw hRg KF ⊢
  clear hwe K3 hnb
  have htn : w3.cell? ⟨nb, 0, none⟩ = some (.string n) := hRg 0 _ rfl
  have HWi := hide (withB_any w3 d dc (namesN ts) ⟨n, 0, []⟩ (ts.map TaskM.ptr) wz.heap.size nb (by rw [namesN_len]; omega) (rises_asc HB2.out.asc) (fun j hj e => by rw [namesN_len] at hj; unfold nameAt at e; rw [namesN_at hj] at e; exact HNo.out _ (List.getElem_mem hj) (toList_inj.1 e)) (by rw [namesN_len]; exact (HB2.out.kept KF).items) (HB2.out.kept KF).packed hRw.lt htn)
  rw [namesN_len] at HWi
  have HTn : Hid (TaskAt wz.heap.size w3 (TaskM.fresh nb n y.cost y.steps aa ca)) := ⟨hRw, hRg, World.ownsRow_nil _ _ _ _, World.ownsRow_nil _ _ _ _, by have := HB2.out.kw.size; show wz.heap.size ≤ nb; omega⟩
  clear htn hRg hRw
  try simp only [Act.put, List.setIfInBounds_toArray, List.set_cons_zero, List.set_cons_succ]
  refine UpTo.next 18 (by kernel_rfl) (by (simp only [List.getElem?_toArray, List.getElem?_cons_succ, List.getElem?_cons_zero]; rfl)) (fun K hK => ?_)
  rw [if_pos (by rfl)]
  go_simp
  go_at_call 149
  refine HWi.out.mono ?_
  rintro e w8 ⟨m, a8, cap8, base, q, hm, rfl, hbase, hO8, hq, k8⟩
  have K8 := KF.trans k8
  have hB8 := HB2.out.kept K8
  obtain ⟨⟨_, x3⟩, f3⟩ := hB8.row.row.at (i := 3) (by omega)
  obtain ⟨⟨_, x4⟩, f4⟩ := hB8.row.row.at (i := 4) (by omega)
  have zb8 := hB8.row.lt
  have HI := hide (HB2.out.insert (n := n) (new := TaskM.fresh nb n y.cost y.steps aa ca) K8 (HTn.out.but (S := fun _ => False) (But.of_kept k8) id (fun _ _ => id)) rfl HAct.out HA.out HNo.out hnz rfl rfl (by have h1 := KF.size; exact Nat.le_trans h1 hbase) (by rw [← namesN_len ts]; exact hm) hO8 hq)
  clear hO8 hB8 hq hm HWi HTn
  refine hK.out _ _ (fun _ => HSO.out _ K8) ?_
  clear hK K
  have hHeld := HSO.out _ K8
  try simp only [Act.put, List.setIfInBounds_toArray, List.set_cons_zero, List.set_cons_succ]
  refine UpTo.take 19 [20, 21] (v := ?_) (by (simp only [List.getElem?_toArray, List.getElem?_cons_succ, List.getElem?_cons_zero]; rfl)) (by kernel_rfl) (by kernel_rfl) (by kernel_rfl) (by kernel_rfl) (by exact fun _ _ _ h => h) (Or.inl ⟨by rfl, ?_⟩) hHeld ?_
  rotate_left
  · intro u hu
    try dsimp only at hu
    go_simp
    try with_reducible rfl
  try simp only [Act.put, List.setIfInBounds_toArray, List.set_cons_zero, List.set_cons_succ]
  refine UpTo.take 20 [21] (v := ?_) (by (simp only [List.getElem?_toArray, List.getElem?_cons_succ, List.getElem?_cons_zero]; rfl)) (by kernel_rfl) (by kernel_rfl) (by kernel_rfl) (by kernel_rfl) (by exact fun _ _ _ h => h) (Or.inl ⟨by rfl, ?_⟩) hHeld ?_
  rotate_left
  · intro u hu
    try dsimp only at hu
    go_simp
    try with_reducible rfl
  try simp only [Act.put, List.setIfInBounds_toArray, List.set_cons_zero, List.set_cons_succ]
  refine UpTo.next 21 (by kernel_rfl) (by (simp only [List.getElem?_toArray, List.getElem?_cons_succ, List.getElem?_cons_zero]; rfl)) (fun K hK => ?_)
  go_simp
  refine hK.out _ _ (fun h => absurd rfl h) ?_
  clear hK K
  try simp only [Act.put, List.setIfInBounds_toArray, List.set_cons_zero, List.set_cons_succ]
  refine UpTo.done (by kernel_rfl) ?_
  go_wp2
  go_end0
  exact ⟨rfl, _, a8, cap8, HI.out, .inr ⟨q, TaskM.fresh nb n y.cost y.steps aa ca, rfl, rfl, ⟨rfl, rfl⟩, HNo.out, by rw [HAct.out]; rfl⟩⟩
end

end Go.Proofs.YtghipdfemoofhaaGreatDoor

namespace Go.Proofs.YtghipdfemoofhaaGreatDoor
open Go.RowKit

section
variable {P : Program} {w : World}
theorem run_append_zero (base : Nat) (t ty e : TypeId) (i : TypeInfo) (size : Nat) (ht : P.underlying t = some (.slice e)) (hi : P.info? e = some i)
    (v : Value) (n : Nat) (xs : List Value) (hown : w.ownsRow base e size v n xs) (x : Option Addr) (c : Nat) :
    (Builtin.append_ #[t, t] ty #[v, .slice x 0 c]).run P w = .ok v w := by
  rcases hown.2 with ⟨rfl, rfl⟩ | ⟨g, cap, cur, rfl, _, _, hnc, _⟩
  · cases x <;> simp [Builtin.append_, run_underlying ht, sizeOf, typeInfo, hi, Builtin.lenOf, Builtin.firstCells, loadCells, loadCellsFrom]
  · cases x <;> simp [Builtin.append_, run_underlying ht, sizeOf, typeInfo, hi, Builtin.lenOf, Builtin.firstCells, hnc, storeCells, loadCells, loadCellsFrom]
theorem wp_append_strs {o : Oper} {a : Act} {K : Act → World → Prop} {Q : Exit → Act → World → Prop} (s x : Operand) (t : TypeId)
    (ho : o.op = .call { callee := .builtin .append, args := #[s, x], argTypes := #[t, t] })
    (base : Nat) (e : TypeId) (i : TypeInfo) (z : Value) (bytes : Nat) (ht : P.underlying t = some (.slice e)) (hi : P.info? e = some i) (hz : i.zero = some z)
    (hsize : i.size = 1) (hby : i.bytes = bytes) (hzs : z.cells.size = 1)
    (v : Value) (n : Nat) (xs : List Value) (hs : a.eval s = v) (hown : w.ownsRow base e 1 v n xs)
    (ad : Option Addr) (c : Nat) (l : List ByteArray) (hx : a.eval x = .slice ad l.length c) (hl : Strs w ad l)
    (h63 : n + l.length ≤ maxLen) (hbytes : (n + l.length) * bytes ≤ 140737488355328) (hbase : base ≤ w.heap.size)
    (h : ∀ v' w', w'.ownsRow base e 1 v' (n + l.length) (xs ++ l.map Value.string) → w.grownBy w' v.ownBlock → (∀ g, v'.ownBlock = some g → v.ownBlock = some g ∨ w.heap.size ≤ g) → K (a.put o.dst v') w') : o.wp P a w K Q := by
  by_cases h0 : l.length = 0
  · have hl0 := List.length_eq_zero_iff.1 h0
    rw [h0] at hx
    refine Go.Lib.wp_append_run w s x t t ho v _ hs hx v w (run_append_zero base t o.type e i 1 ht hi v n xs hown ad c) (h v w ?_ ⟨rfl, rfl, rfl, Nat.le_refl _, fun _ _ _ => rfl⟩ (fun g e => .inl e))
    rw [hl0]
    simpa using hown
  · obtain ⟨b, q, e1, hb, _⟩ := hl 0 (by omega)
    refine wp_append_lies w s x t ho base e i z 1 bytes ht hi hz hsize hby hzs (by decide) v n xs hs hown ⟨b, q, none⟩ l.length c (l.map Value.string) (by rw [hx, e1]) (by simp) (fun j u hu => ?_) (fun u hu => by obtain ⟨x, _, rfl⟩ := List.mem_map.1 hu; rfl) (by omega) h63 hbytes hbase w.heap.size rfl (fun g cap w' h1 h2 h3 h4 => h _ w' h1 h2 (fun g' e => ?_))
    · have hj : j < l.length := by have := (List.getElem?_eq_some_iff.1 hu).1; simpa using this
      obtain ⟨b', q', e2, _, hc⟩ := hl j hj
      rw [e1] at e2
      simp only [Option.some.injEq, Addr.mk.injEq, and_true] at e2
      obtain ⟨rfl, rfl⟩ := e2
      rw [Addr.add_mid, hc]
      simp [hj] at hu
      simp [List.getD, hj, hu]
    · simp only [Value.ownBlock, Option.some.injEq] at e
      subst e
      rcases h3 with h3 | h3
      · exact .inl h3
      · exact .inr (Nat.le_of_eq h3.symm)
theorem wpList_append_strs {ops : Array Oper} {rest : List Oper} {o : Oper} {a : Act} {Q : Exit → Act → World → Prop} (hgd : o.guard = none) (s x : Operand) (t : TypeId)
    (ho : o.op = .call { callee := .builtin .append, args := #[s, x], argTypes := #[t, t] })
    (base : Nat) (e : TypeId) (i : TypeInfo) (z : Value) (bytes : Nat) (ht : P.underlying t = some (.slice e)) (hi : P.info? e = some i) (hz : i.zero = some z)
    (hsize : i.size = 1) (hby : i.bytes = bytes) (hzs : z.cells.size = 1)
    (v : Value) (n : Nat) (xs : List Value) (hs : a.eval s = v) (hown : w.ownsRow base e 1 v n xs)
    (ad : Option Addr) (c : Nat) (l : List ByteArray) (hx : a.eval x = .slice ad l.length c) (hl : Strs w ad l)
    (h63 : n + l.length ≤ maxLen) (hbytes : (n + l.length) * bytes ≤ 140737488355328) (hbase : base ≤ w.heap.size)
    (h : ∀ v' w', w'.ownsRow base e 1 v' (n + l.length) (xs ++ l.map Value.string) → w.grownBy w' v.ownBlock → (∀ g, v'.ownBlock = some g → v.ownBlock = some g ∨ w.heap.size ≤ g) → wpList P ops Q rest (a.put o.dst v') w') : wpList P ops Q (o :: rest) a w :=
  wpList_plain hgd fun _ hK => wp_append_strs s x t ho base e i z bytes ht hi hz hsize hby hzs v n xs hs hown ad c l hx hl h63 hbytes hbase fun v' w' h2 h3 h4 => hK _ _ (h v' w' h2 h3 h4)
end

section
variable {G : Ghost} {webl : List NodeD} {wz w w' : World} {bb : Nat} {a : Option Addr} {cap : Nat} {rd : Option Addr} {rn rc : Nat} {mb mx : Nat} {ts : List TaskM} {d : Option Addr} {dc : Nat} {f : ByteArray → Value} {ws : ByteArray → List Nat}
theorem BM.asked (h : BM G webl wz w bb a cap rd rn rc mb mx ts d dc f ws) {i : Nat} {t : TaskM} (hi : ts[i]? = some t) {w1 : World} {v' : Value} {l : List Value} (ho : w1.ownsRow wz.heap.size 9 1 v' (t.qs.length + l.length) (t.qs ++ l)) (hg : w.grownBy w1 t.qv.ownBlock) (hv : ∀ g, v'.ownBlock = some g → t.qv.ownBlock = some g ∨ w.heap.size ≤ g) (hl5 : l.length ≤ 5) :
    BM G webl wz (w1.setCell ⟨t.tb, 10, none⟩ v') bb a cap rd rn rc mb (mx + 1) (ts.set i { t with qv := v', qs := t.qs ++ l }) d dc f ws := by
  obtain ⟨hl, rfl⟩ := List.getElem?_eq_some_iff.1 hi
  have hT := h.task _ (List.getElem_mem hl)
  have hn := h.sep2 _ (List.getElem_mem hl)
  have k1 : But (fun b => b = ts[i].tb ∨ b ∈ ts[i].own) w w1 := But.of_grown hg (fun b e => .inr (List.mem_append.2 (.inr (Option.mem_toList.2 e))))
  have k : But (fun b => b = ts[i].tb ∨ b ∈ ts[i].own) w (w1.setCell ⟨ts[i].tb, 10, none⟩ v') := But.set k1 (p := ⟨ts[i].tb, 10, none⟩) (.inl rfl) v'
  have hq : ∀ b, ts[i].qv.ownBlock = some b → ts[i].tb ≠ b := fun b e => type_ne hT.row.type (owns_type hT.ask e) (by decide)
  have hb1 : w1.heap[ts[i].tb]? = w.heap[ts[i].tb]? := hg.block _ hT.row.lt (fun e => hq _ e.symm rfl)
  have hr1 : RowT w1 ts[i].tb 77 12 := hT.row.block hb1
  have hc1 : w1.rangeAt ts[i].tb 0 ts[i].cells := fun j u hu => (World.cell?_of_block (w := w) hb1).trans (hT.rng j u hu)
  have ne1 : ∀ {b : Nat}, TypeAt w1 b 9 → b ≠ ts[i].tb := fun hu => type_ne hu hr1.type (by decide)
  have kt : But (fun b => b = ts[i].tb) w1 (w1.setCell ⟨ts[i].tb, 10, none⟩ v') := But.set (S := fun b => b = ts[i].tb) (But.of_kept (Kept.refl w1)) (p := ⟨ts[i].tb, 10, none⟩) rfl v'
  have txt1 : w1.ownsRow wz.heap.size 9 1 ts[i].tv ts[i].r.texts.length (ts[i].r.texts.map Value.string) := (But.of_grown (S := fun b => ts[i].qv.ownBlock = some b) hg (fun b e => e)).owns hT.txt (fun b e e2 => by
    have h1 : b ∈ ts[i].tv.ownBlock.toList := Option.mem_toList.2 e
    have h2 : b ∈ ts[i].qv.ownBlock.toList := Option.mem_toList.2 e2
    unfold TaskM.own at hn
    exact (List.nodup_append.1 hn).2.2 b h1 b h2 rfl)
  refine (h.more (Nat.le_succ mx)).turn hl k (fun b hb => hb) ⟨hr1.set v', range_set hc1 hr1.row (by omega) v', kt.owns txt1 (fun b e => ne1 (owns_type txt1 e)), ?_, hT.low⟩ rfl rfl rfl rfl rfl (fun x hx => ?_) ?_ (by have := h.qb _ (List.getElem_mem hl); show (ts[i].qs ++ l).length ≤ 5 * (mx + 1); rw [List.length_append]; omega)
  · have e : ({ ts[i] with qv := v', qs := ts[i].qs ++ l } : TaskM).qs.length = ts[i].qs.length + l.length := by simp
    rw [e]
    exact kt.owns ho (fun b e => ne1 (owns_type ho e))
  · unfold TaskM.own at hx ⊢
    rcases List.mem_append.1 hx with hx | hx
    · exact .inl (List.mem_append.2 (.inl hx))
    · rcases hv x (Option.mem_toList.1 hx) with e | e
      · exact .inl (List.mem_append.2 (.inr (Option.mem_toList.2 e)))
      · exact .inr e
  · unfold TaskM.own at hn ⊢
    rw [List.nodup_append] at hn ⊢
    refine ⟨hn.1, ?_, fun x hx y hy => ?_⟩
    · show (v'.ownBlock.toList).Nodup
      cases v'.ownBlock <;> simp
    · rcases hv y (Option.mem_toList.1 hy) with e | e
      · exact hn.2.2 x hx y (Option.mem_toList.2 e)
      · have := (hT.txt.lt x (Option.mem_toList.1 hx)).2
        omega
end

end Go.Proofs.YtghipdfemoofhaaGreatDoor
