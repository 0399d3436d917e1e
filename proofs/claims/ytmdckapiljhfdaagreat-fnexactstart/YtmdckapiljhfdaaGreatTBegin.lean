import Derived.Test.YtmdckapiljhfdaaGreatSStart
import Derived.Deep.RegionHeld
import Derived.Test.YtmdckapiljhfdaaGreatOSpec2
import Derived.Deep.RegionLaw

/-
  TASKS: pointers to runs.
-/
namespace Go.Proofs.YtmdckapiljhfdaaGreat
open Go.RowKit

/-- These cells are pointers to fresh runs of these names. -/
def PackedT (w : World) (xs : List Value) (l : List NodeD) : Prop :=
  xs.length = l.length ∧ ∀ i, i < l.length → ∃ tb cur fr, xs[i]? = some (.pointer (some ⟨tb, 0, none⟩)) ∧ w.heap[tb]? = some (Obj.cells cur 97 fr) ∧ w.rangeAt tb 0 (freshCells (l.getD i NodeD.zero).name none 0)
theorem PackedT.nil (w : World) : PackedT w [] [] := ⟨rfl, fun i hi => by simp at hi⟩
theorem PackedT.same {w w' : World} {u : TypeId} {xs : List Value} {l : List NodeD} (h : PackedT w xs l) (k : SameKind u w w') (hu : 97 ≠ u) : PackedT w' xs l :=
  ⟨h.1, fun i hi => by
    obtain ⟨tb, cur, fr, h1, h2, h3⟩ := h.2 i hi
    have h4 := k tb cur _ fr hu h2
    exact ⟨tb, cur, fr, h1, h4, fun j v hv => by rw [World.cell?_of_block (h4.trans h2.symm)]; exact h3 j v hv⟩⟩
theorem PackedT.kept {w w' : World} {xs : List Value} {l : List NodeD} (h : PackedT w xs l) (k : Kept w w') : PackedT w' xs l := h.same (u := 91) (SameKind.of_kept k) (by decide)
theorem PackedT.one {w : World} {xs : List Value} {l : List NodeD} (h : PackedT w xs l) : ∀ u ∈ xs, u.oneCell' = true := by
  intro u hu
  obtain ⟨i, hi, rfl⟩ := List.getElem_of_mem hu
  obtain ⟨tb, _, _, e, _⟩ := h.2 i (by rw [← h.1]; exact hi)
  rw [List.getElem?_eq_getElem hi] at e
  rw [Option.some.inj e]
  rfl

/-- The slice at a holds these cells. -/
def Cells1 (w : World) (a : Option Addr) (xs : List Value) : Prop := ∀ i, i < xs.length → ∃ b o, a = some ⟨b, o, none⟩ ∧ b < w.heap.size ∧ ∀ j u, xs[j]? = some u → w.cell? ⟨b, o + j, none⟩ = some u
theorem Cells1.kept {w w' : World} {a : Option Addr} {xs : List Value} (h : Cells1 w a xs) (k : Kept w w') : Cells1 w' a xs := by
  intro i hi
  obtain ⟨b, o, e, hb, hc⟩ := h i hi
  exact ⟨b, o, e, Nat.lt_of_lt_of_le hb k.size, fun j u hu => (k.cell hb).trans (hc j u hu)⟩
theorem cells1_of_owned {w : World} {base n : Nat} {t : TypeId} {a : Option Addr} {cap : Nat} {xs : List Value} (h : w.ownsRow base t 1 (.slice a n cap) n xs) : xs.length = n ∧ n ≤ cap ∧ Cells1 w a xs := by
  have hl : xs.length = n := by have := h.1; omega
  rcases h.2 with ⟨e, h0⟩ | ⟨g, cap', cur, e, hb, hg, hnc, _, _, _⟩
  · exact ⟨hl, by omega, fun i hi => by omega⟩
  · simp only [Value.slice.injEq] at e
    obtain ⟨rfl, _, rfl⟩ := e
    refine ⟨hl, hnc, fun i hi => ⟨g, 0, rfl, heap_lt hg, fun j u hu => ?_⟩⟩
    have := h.cells (g := g) rfl _ _ hu
    rw [Addr.add_mid] at this
    exact this

end Go.Proofs.YtmdckapiljhfdaaGreat

/-
  WALKS: find over tasks.
-/
namespace Go.Proofs.YtmdckapiljhfdaaGreat
open Go.RowKit

theorem taskName_any (w : World) (tb : Nat) (n : ByteArray) (hn : w.cell? ⟨tb, 0, none⟩ = some (.string n)) :
    Calls Tryz.prog 44 #[.pointer (some ⟨tb, 0, none⟩)] w fun e w' => e = .returned (.string n) ∧ w' = w := by
  go_enter Tryz.func44, Tryz.ntmps44
  go_wp2
  go_ret
  exact ⟨rfl, rfl⟩

/-- The function literal that find hands on: its own list lies in block g. -/
theorem findLitT_any (w : World) (g : Nat) (n : ByteArray) (tb : Nat) (key : ByteArray) (hg : g < w.heap.size) (ht : tb < w.heap.size) (hn : w.cell? ⟨tb, 0, none⟩ = some (.string n)) (hc : w.cell? ⟨g, 1, none⟩ = some (.func (.func 44) #[] #[])) :
    Calls Tryz.prog 85 #[.pointer (some ⟨tb, 0, none⟩), .string key, .pointer (some ⟨g, 0, none⟩)] w fun e w' => e = .returned (.int .i64 (cmpD n.toList key.toList)) ∧ Kept w w' := by
  go_enter Tryz.func85, Tryz.ntmps85
  go_wp2_with fail
  refine (taskName_any _ tb n hn).mono ?_
  rintro e w1 ⟨rfl, rfl⟩
  go_wp2_with fail
  refine (compare_any _ n key).mono ?_
  rintro e w2 ⟨rfl, rfl⟩
  go_wp2
  go_ret
  exact ⟨rfl, Kept.refl _⟩

set_option maxRecDepth 100000 in
set_option maxHeartbeats 1600000 in
theorem searchT_any (w : World) (g : Nat) (a : Option Addr) (cap : Nat) (l : List NodeD) (key : ByteArray) (hl : l.length ≤ 1048576) (hr : Rises l) (hg : g < w.heap.size) (hc : w.cell? ⟨g, 1, none⟩ = some (.func (.func 44) #[] #[])) (xs : List Value) (hP : PackedT w xs l) (hS : Cells1 w a xs) :
    Calls Tryz.prog 84 #[.slice a l.length cap, .string key, .func (.func 85) #[] #[.pointer (some ⟨g, 0, none⟩)]] w
      fun e w' => Found l key.toList e ∧ Kept w w' := by
  have HRi := hide hr
  clear hr
  go_enter Tryz.func84, Tryz.ntmps84
  go_wp2
  go_loopw [9, 10] (fun x y wr => ∃ i j : Nat, x = .int .i64 i ∧ y = .int .i64 j ∧ i ≤ j ∧ j ≤ l.length ∧ (∀ t, t < i → Op.bytesLess (nameAt l t) key.toList = true) ∧ (∀ t, j ≤ t → t < l.length → Op.bytesLess (nameAt l t) key.toList = false) ∧ Kept w wr) (fun x y _ => (intOf y).toNat - (intOf x).toNat)
  case atStart => exact ⟨0, l.length, rfl, rfl, Nat.zero_le _, Nat.le_refl _, fun t ht => absurd ht (Nat.not_lt_zero _), fun t h1 h2 => by omega, Kept.refl _⟩
  case round =>
    obtain ⟨i, j, rfl, rfl, hij, hjn, hbe, hbh, hw⟩ := hrel
    have HB := hide (And.intro hbe hbh)
    clear hbe hbh
    by_cases hlt : (i : Int) < j
    · obtain ⟨h, hh⟩ : ∃ h : Nat, h = (i + j) / 2 := ⟨_, rfl⟩
      have hhlt : h < l.length := by omega
      have hhi : i ≤ h := by omega
      have hhj : h < j := by omega
      obtain ⟨b, o, rfl, hb, hcs⟩ := hS.kept hw h (by rw [hP.1]; exact hhlt)
      obtain ⟨tb, cur, fr, hx, htb, hrg⟩ := (hP.kept hw).2 h hhlt
      obtain ⟨d, hd⟩ : ∃ d, d = l.getD h NodeD.zero := ⟨_, rfl⟩
      rw [← hd] at hrg
      have HD := hide hd
      have c0 := hcs _ _ hx
      have c1 : wr.cell? ⟨tb, 0, none⟩ = some (.string d.name) := hrg 0 _ rfl
      have htl := heap_lt htb
      clear hd hcs hrg hx htb
      have hmid : ((i : Int) + (j : Int)) / 2 = (h : Int) := by omega
      have HH := hide hh
      clear hh
      have hg' : g < wr.heap.size := Nat.lt_of_lt_of_le hg hw.size
      have hc' : wr.cell? ⟨g, 1, none⟩ = some (.func (.func 44) #[] #[]) := by rw [hw.cell hg]; exact hc
      go_wp2_with fail
      refine (findLitT_any _ g d.name tb key hg' htl c1 hc').mono ?_
      rintro e w1 ⟨rfl, k1⟩
      have hnm : nameAt l h = d.name.toList := by unfold nameAt; rw [← HD.out]
      have HC : Hid (cmpD d.name.toList key.toList < 0 ↔ Op.bytesLess (nameAt l h) key.toList = true) := by rw [hnm]; exact cmpD_neg
      clear c0 c1 hnm
      generalize cmpD d.name.toList key.toList = r at *
      have hw1 := hw.trans k1
      clear hw k1
      by_cases hneg : r < 0
      · go_wp2
        go_roundw
        case rel =>
          obtain ⟨hbe, hbh⟩ := HB.out
          refine ⟨h + 1, j, by go_num, rfl, by omega, hjn, fun t ht => ?_, hbh, hw1⟩
          have hle := HC.out.1 hneg
          by_cases e : t = h
          · subst e; exact hle
          · exact less_trans _ _ _ (HRi.out t h (by omega) hhlt) hle
        case measure => simp [intOf]; omega
      · go_wp2
        go_roundw
        case rel =>
          obtain ⟨hbe, hbh⟩ := HB.out
          refine ⟨i, h, rfl, by go_num, hhi, by omega, hbe, fun t h1 h2 => ?_, hw1⟩
          have hle : Op.bytesLess (nameAt l h) key.toList = false := by
            cases hq : Op.bytesLess (nameAt l h) key.toList
            · rfl
            · have := HC.out.2 hq
              omega
          by_cases e : t = h
          · subst e; exact hle
          · cases hq : Op.bytesLess (nameAt l t) key.toList
            · rfl
            · rw [less_trans _ _ _ (HRi.out h t (by omega) h2) hq] at hle
              cases hle
        case measure => simp [intOf]; omega
    · have hij' : i = j := by omega
      subst hij'
      have HPl : Hid (Place l key.toList i) := ⟨hjn, HB.out.1, HB.out.2⟩
      clear HB
      by_cases hin : i < l.length
      · obtain ⟨b, o, rfl, hb, hcs⟩ := hS.kept hw i (by rw [hP.1]; exact hin)
        obtain ⟨tb, cur, fr, hx, htb, hrg⟩ := (hP.kept hw).2 i hin
        obtain ⟨d, hd⟩ : ∃ d, d = l.getD i NodeD.zero := ⟨_, rfl⟩
        rw [← hd] at hrg
        have HD := hide hd
        have c0 := hcs _ _ hx
        have c1 : wr.cell? ⟨tb, 0, none⟩ = some (.string d.name) := hrg 0 _ rfl
        have htl := heap_lt htb
        clear hd hcs hrg hx htb
        have hg' : g < wr.heap.size := Nat.lt_of_lt_of_le hg hw.size
        have hc' : wr.cell? ⟨g, 1, none⟩ = some (.func (.func 44) #[] #[]) := by rw [hw.cell hg]; exact hc
        have hin' : (i : Int) < l.length := by omega
        go_wp2_with fail
        refine (findLitT_any _ g d.name tb key hg' htl c1 hc').mono ?_
        rintro e w1 ⟨rfl, k1⟩
        have hnm : nameAt l i = d.name.toList := by unfold nameAt; rw [← HD.out]
        have HC : Hid (cmpD d.name.toList key.toList = 0 ↔ nameAt l i = key.toList) := by rw [hnm]; exact cmpD_zero
        clear c0 c1 hnm
        generalize cmpD d.name.toList key.toList = r at *
        have hw1 := hw.trans k1
        clear hw k1
        go_wp2
        go_ret2
        refine ⟨Found.mk i _ rfl HPl.out ?_, hw1⟩
        rw [← HC.out]
        simp [hin]
      · have hin' : ¬ (i : Int) < l.length := by omega
        go_wp2
        go_ret2
        exact ⟨Found.mk i false rfl HPl.out (by simp; intro h; exact absurd h hin), hw⟩

set_option maxRecDepth 100000 in
set_option maxHeartbeats 800000 in
theorem findT_any (w : World) (a : Option Addr) (cap : Nat) (l : List NodeD) (key : ByteArray) (hl : l.length ≤ 1048576) (hr : Rises l) (xs : List Value) (hP : PackedT w xs l) (hS : Cells1 w a xs) :
    Calls Tryz.prog 77 #[.agg #[.slice a l.length cap, .func (.func 44) #[] #[]], .string key] w
      fun e w' => Found l key.toList e ∧ Kept w w' := by
  have k0 : Kept w (w.alloc (.cells #[.slice a l.length cap, .func (.func 44) #[] #[]] 89)) := (Kept.refl _).alloc _
  go_enter Tryz.func77, Tryz.ntmps77
  go_wp2_with fail
  refine (searchT_any _ w.heap.size a cap l key hl hr (by simp) (by simp) xs (hP.kept k0) (hS.kept k0)).mono ?_
  rintro e w1 ⟨hfo, k1⟩
  obtain ⟨p, f, rfl, hp, hf⟩ := hfo
  have HP := hide hp
  have HF := hide hf
  clear hp hf
  go_wp2
  go_ret2
  exact ⟨Found.mk p f rfl HP.out HF.out, k0.trans k1⟩

end Go.Proofs.YtmdckapiljhfdaaGreat

/-
  WALKS: slices.Grow, slices.Concat over tasks.
-/
namespace Go.Proofs.YtmdckapiljhfdaaGreat
open Go.RowKit

theorem Tryz.infoPtr : (Tryz.prog.info? 95).map (fun i => (i.zero, i.size, i.bytes)) = some (some (.pointer none), 1, 8) := by kernel_rfl

set_option maxRecDepth 100000 in
set_option maxHeartbeats 800000 in
theorem growT_any (w : World) (n : Nat) (hn : n ≤ 3145728) :
    Calls Tryz.prog 86 #[.slice none 0 0, .int .i64 n] w fun e w' => ∃ v, e = .returned v ∧ w'.ownsRow w.heap.size 95 1 v 0 [] ∧ Kept w w' := by
  by_cases h0 : n = 0
  · subst h0
    go_enter Tryz.func86, Tryz.ntmps86
    go_wp2
    go_ret
    exact ⟨_, rfl, World.ownsRow_nil _ _ _ _, Kept.refl _⟩
  · obtain ⟨i0, hi, hz0, hz1, hz2⟩ := info_parts Tryz.infoPtr
    have hrun := fun ty => Lib.run_append_nil_zeros (P := Tryz.prog) w 86 3 ty 95 i0 _ .i64 .i64 Tryz.underlying86 Tryz.undInt hi hz0 n (by omega) (by rw [hz1]; omega) (by omega) (by rw [hz2]; omega)
    have hge := grownCap_ge w n 0 95
    have hle := grownCap_le_maxLen w n 0 95 (by unfold maxLen; omega)
    have HRun := hide hrun
    clear hrun
    have hp : (0 : Int) < (n : Int) := by omega
    go_enter Tryz.func86, Tryz.ntmps86
    go_wp2_with (at_builtin; refine Lib.wpList_append_run _ rfl (.tmp 20) (.tmp 21) _ _ rfl _ _ rfl rfl _ _ (HRun.out _) ?_)
    go_ret
    refine ⟨_, rfl, World.ownsRow.drew (World.ownsRow_made w _ _ (Nat.le_refl _) hle ?_), ((Kept.refl _).alloc _).drew⟩
    simp only [Array.size_append, size_zeroCells]
    have e3 : (#[Value.pointer none] : Array Value).size = 1 := rfl
    rw [e3, ← Nat.add_mul]
    congr 1
    omega

/-- Slices of pointers, one behind the other in a row. -/
def RowsT (w : World) (b : Nat) (LL : List (List Value)) (P : Nat → Option Addr) (C : Nat → Nat) : Prop :=
  b < w.heap.size ∧ ∀ i, i < LL.length → w.cell? ⟨b, i, none⟩ = some (.slice (P i) (LL.getD i []).length (C i)) ∧ ((P i = none ∧ C i = 0 ∧ LL.getD i [] = []) ∨ ∃ p1 p2, P i = some ⟨p1, p2, none⟩ ∧ ∀ j u, (LL.getD i [])[j]? = some u → w.cell? ⟨p1, p2 + j, none⟩ = some u)
theorem RowsT.kept {w w' : World} {b : Nat} {LL : List (List Value)} {P : Nat → Option Addr} {C : Nat → Nat} (h : RowsT w b LL P C) (k : Kept w w') : RowsT w' b LL P C :=
  ⟨Nat.lt_of_lt_of_le h.1 k.size, fun i hi => ⟨by rw [k.cell h.1]; exact (h.2 i hi).1, by
    rcases (h.2 i hi).2 with g | ⟨p1, p2, e, g⟩
    · exact .inl g
    · exact .inr ⟨p1, p2, e, fun j u hu => by rw [k.cell (World.block_lt_of_cell? _ _ (g j u hu))]; exact g j u hu⟩⟩⟩

theorem flatT_succ (LL : List (List Value)) (k : Nat) (h : k < LL.length) : (LL.take (k + 1)).flatten = (LL.take k).flatten ++ LL.getD k [] := by
  rw [List.take_succ_eq_append_getElem h, List.flatten_append]
  simp [List.getD, h]
theorem flatT_len (LL : List (List Value)) (k : Nat) : (LL.take k).flatten.length = sumTo List.length LL k := by
  unfold sumTo
  rw [List.length_flatten]

set_option maxRecDepth 100000 in
set_option maxHeartbeats 1600000 in
theorem concatT_any (w : World) (b cap : Nat) (LL : List (List Value)) (P : Nat → Option Addr) (C : Nat → Nat) (hm : LL.length ≤ 3) (hn : (LL.map List.length).sum ≤ 3145728) (hone : ∀ l ∈ LL, ∀ u ∈ l, u.oneCell' = true) (hR : RowsT w b LL P C) :
    Calls Tryz.prog 78 #[.slice (some ⟨b, 0, none⟩) LL.length cap] w fun e w' => ∃ v, e = .returned v ∧ w'.ownsRow w.heap.size 95 1 v LL.flatten.length LL.flatten ∧ Kept w w' := by
  go_enter Tryz.func78, Tryz.ntmps78
  go_wp2
  go_loop [3, 11] (fun x i => ∃ k : Nat, k ≤ LL.length ∧ i = .int .i64 k ∧ x = .int .i64 (sumTo List.length LL k : Nat)) (fun _ i => LL.length - (intOf i).toNat)
  case atStart => exact ⟨0, Nat.zero_le _, rfl, by rw [sumTo_zero]; rfl⟩
  case round =>
    obtain ⟨k, hk, rfl, rfl⟩ := hrel
    by_cases hlt : k < LL.length
    · have hc := (hR.2 k hlt).1
      have HS : Hid (sumTo List.length LL (k + 1) = sumTo List.length LL k + (LL.getD k []).length) := sumTo_succ _ LL _ k hlt
      have HT := sumTo_le List.length LL (k + 1)
      have hst : sumTo List.length LL k + (LL.getD k []).length ≤ 3145728 := by have := HS.out; omega
      generalize sumTo List.length LL k = z at *
      generalize (LL.getD k []).length = y at *
      generalize P k = pk at *
      clear HT
      go_wp2
      go_round
      case rel => exact ⟨k + 1, by omega, by go_num, by rw [HS.out]; go_num⟩
      case measure => simp [intOf]; omega
    · have hkl : k = LL.length := by omega
      subst hkl
      have hz : sumTo List.length LL LL.length ≤ 3145728 := by rw [sumTo_all]; exact hn
      generalize sumTo List.length LL LL.length = z at *
      go_wp2_with fail
      refine (growT_any _ z hz).mono ?_
      rintro e w1 ⟨v1, rfl, hown, k1⟩
      go_wp2
      go_loopw [6, 27] (fun x i wr => ∃ (k : Nat), k ≤ LL.length ∧ i = .int .i64 k ∧ wr.ownsRow w.heap.size 95 1 x (LL.take k).flatten.length (LL.take k).flatten ∧ Kept w wr) (fun _ i _ => LL.length - (intOf i).toNat)
      case atStart => exact ⟨0, Nat.zero_le _, rfl, by simpa using hown, k1⟩
      case round =>
        obtain ⟨k, hk, rfl, hown, hw⟩ := hrel
        by_cases hlt : k < LL.length
        · have hc := ((hR.kept hw).2 k hlt).1
          have hbr := (hR.kept hw).1
          have hsrc := ((hR.kept hw).2 k hlt).2
          have hflat := flatT_succ LL k hlt
          have hln := flatT_len LL (k + 1)
          have hle := sumTo_le List.length LL (k + 1)
          rw [hflat, List.length_append] at hln
          have hon := hone (LL.getD k []) (by simp [List.getD, hlt])
          obtain ⟨y, hy⟩ : ∃ y, y = LL.getD k [] := ⟨_, rfl⟩
          obtain ⟨x0, hx0⟩ : ∃ x0, x0 = (LL.take k).flatten := ⟨_, rfl⟩
          rw [← hy] at hc hsrc hln hflat hon
          rw [← hx0] at hown hln hflat
          have hb1 : x0.length + y.length ≤ 3145728 := by omega
          have HFl := hide hflat
          have HOw := hide hown
          have hbase := hw.size
          clear hln hle hflat hy hx0
          rcases hsrc with ⟨e1, e2, e3⟩ | ⟨p1, p2, e1, hcs⟩
          · rw [e1, e2, e3] at hc
            rw [e3, List.append_nil] at HFl
            rcases hown.2 with ⟨ev, h0⟩ | ⟨g, cp, cur, ev, hb0, hg, hnc, _, _, _⟩
            · subst ev
              simp only [List.length_nil] at hc
              clear hown
              go_wp2
              go_roundw
              case rel => exact ⟨k + 1, by omega, by go_num, by rw [HFl.out]; exact HOw.out, hw⟩
              case measure => simp [intOf]; omega
            · subst ev
              simp only [List.length_nil] at hc
              have hnc' : (x0.length : Int) ≤ (cp : Int) := by omega
              have hgl := heap_lt hg
              clear hown hg
              go_wp2
              go_roundw
              case rel => exact ⟨k + 1, by omega, by go_num, by rw [HFl.out]; exact HOw.out, hw⟩
              case measure => simp [intOf]; omega
          · rw [e1] at hc
            have hnw : ∀ j u, y[j]? = some u → wr.cell? ((⟨p1, p2, none⟩ : Addr).add j) = some u := fun j u hu => by
              rw [Addr.add_mid]
              exact hcs j u hu
            obtain ⟨i0, hi, hz0, hz1, hz2⟩ := info_parts Tryz.infoPtr
            have HN2 := hide hnw
            have HON := hide hon
            obtain ⟨m, hm'⟩ : ∃ m, m = y.length := ⟨_, rfl⟩
            rw [← hm'] at hc
            have HM := hide hm'
            clear hnw hon hcs hown hm'
            go_wp2_with (at_builtin; refine wpList_append_own _ rfl (.tmp 31) (.tmp 32) 86 rfl w.heap.size 95 i0 _ 1 8 Tryz.underlying86 hi hz0 hz1 hz2 rfl (by decide) _ x0.length x0 rfl HOw.out ⟨p1, p2, none⟩ m (C k) y rfl (by have := HM.out; omega) HN2.out HON.out (by have := HM.out; unfold maxLen; omega) (by have := HM.out; omega) hbase ?_; intro v' w2 hown2 hgr _)
            go_roundw
            case rel => exact ⟨k + 1, by omega, by go_num, by rw [HFl.out, List.length_append, ← HM.out]; exact hown2, kept_of_grown hw (Nat.le_refl _) HOw.out hgr⟩
            case measure => simp [intOf]; omega
        · have hkl : k = LL.length := by omega
          subst hkl
          rw [List.take_length] at hown
          have HOw := hide hown
          clear hown
          go_wp2
          go_ret
          exact ⟨_, rfl, HOw.out, hw⟩

end Go.Proofs.YtmdckapiljhfdaaGreat

/-
  THE WALK over with, of tasks: a name that is not there.
-/
namespace Go.Proofs.YtmdckapiljhfdaaGreat
open Go.RowKit

theorem Tryz.sizeSortedT : (Tryz.prog.info? 89).map (·.size) = some 2 := by kernel_rfl

theorem PackedT.put {w : World} {xs : List Value} {l : List NodeD} {d : NodeD} {p tb : Nat} {cur : Array Value} {fr : Nat × Nat} (h : PackedT w xs l) (hp : p ≤ l.length) (hb : w.heap[tb]? = some (Obj.cells cur 97 fr)) (hr : w.rangeAt tb 0 (freshCells d.name none 0)) :
    PackedT w (xs.take p ++ .pointer (some ⟨tb, 0, none⟩) :: xs.drop p) (l.take p ++ d :: l.drop p) := by
  have hl := h.1
  refine ⟨by simp [hl], fun i hi => ?_⟩
  have hx : (xs.take p).length = p := by rw [List.length_take, hl]; omega
  have hl2 : (l.take p).length = p := by rw [List.length_take]; omega
  by_cases e : i < p
  · obtain ⟨t, c, f, h1, h2, h3⟩ := h.2 i (by omega)
    refine ⟨t, c, f, ?_, h2, ?_⟩
    · rw [List.getElem?_append_left (by omega), List.getElem?_take, if_pos e]; exact h1
    · have e1 : (l.take p ++ d :: l.drop p).getD i NodeD.zero = l.getD i NodeD.zero := by simp [List.getD, List.getElem?_append_left (show i < (l.take p).length by omega), e]
      rw [e1]; exact h3
  · by_cases e2 : i = p
    · subst e2
      refine ⟨tb, cur, fr, ?_, hb, ?_⟩
      · rw [List.getElem?_append_right (by omega), hx]; simp
      · have e1 : (l.take i ++ d :: l.drop i).getD i NodeD.zero = d := by simp [List.getD, hl2]
        rw [e1]; exact hr
    · rw [List.length_append, List.length_cons, List.length_drop] at hi
      obtain ⟨t, c, f, h1, h2, h3⟩ := h.2 (i - 1) (by omega)
      refine ⟨t, c, f, ?_, h2, ?_⟩
      · rw [List.getElem?_append_right (by omega), hx, show i - p = (i - 1 - p) + 1 by omega, List.getElem?_cons_succ, List.getElem?_drop, show p + (i - 1 - p) = i - 1 by omega]; exact h1
      · have e1 : (l.take p ++ d :: l.drop p).getD i NodeD.zero = l.getD (i - 1) NodeD.zero := by
          simp only [List.getD]
          rw [List.getElem?_append_right (by omega), hl2, show i - p = (i - 1 - p) + 1 by omega, List.getElem?_cons_succ, List.getElem?_drop, show p + (i - 1 - p) = i - 1 by omega]
        rw [e1]; exact h3

/-- Part of a slice, as it is handed to Concat. -/
def PartT (w : World) (A : Option Addr) (c : Nat) (ys : List Value) : Prop := (A = none ∧ c = 0 ∧ ys = []) ∨ ∃ p1 p2, A = some ⟨p1, p2, none⟩ ∧ ∀ j u, ys[j]? = some u → w.cell? ⟨p1, p2 + j, none⟩ = some u

theorem concatT_with {w2 : World} {xs : List Value} {p n c1 c3 tb : Nat} {A1 A3 : Option Addr} (hn : xs.length = n) (hl : n ≤ 1000) (hp : p ≤ n) (hone : ∀ u ∈ xs, u.oneCell' = true) (h1 : PartT w2 A1 c1 (xs.take p)) (h3 : PartT w2 A3 c3 (xs.drop p)) {m : Nat} (hm : m = n + 1) :
    Calls Tryz.prog 78 #[.slice (some ⟨w2.heap.size + 1, 0, none⟩) 3 3] ((w2.alloc (.cells #[.pointer (some ⟨tb, 0, none⟩)] 95)).alloc (.cells #[.slice A1 p c1, .slice (some ⟨w2.heap.size, 0, none⟩) 1 1, .slice A3 (n - p) c3] 86)).drew
      fun e w' => ∃ a' cap' base, e = .returned (.slice a' m cap') ∧ w2.heap.size ≤ base ∧ w'.ownsRow base 95 1 (.slice a' m cap') m (xs.take p ++ .pointer (some ⟨tb, 0, none⟩) :: xs.drop p) ∧ Kept w2 w' := by
  have k1 : Kept w2 ((w2.alloc (.cells #[.pointer (some ⟨tb, 0, none⟩)] 95)).alloc (.cells #[.slice A1 p c1, .slice (some ⟨w2.heap.size, 0, none⟩) 1 1, .slice A3 (n - p) c3] 86)).drew := (((Kept.refl _).alloc _).alloc _).drew
  have a2 := boxCell (w := w2) (x := .pointer (some ⟨tb, 0, none⟩)) (t := 95) (((Kept.refl _).alloc (.cells #[.slice A1 p c1, .slice (some ⟨w2.heap.size, 0, none⟩) 1 1, .slice A3 (n - p) c3] 86)).drew)
  have part : ∀ {A c ys}, PartT w2 A c ys → ∀ W, Kept w2 W → (A = none ∧ c = 0 ∧ ys = []) ∨ ∃ p1 p2, A = some ⟨p1, p2, none⟩ ∧ ∀ j u, ys[j]? = some u → W.cell? ⟨p1, p2 + j, none⟩ = some u := by
    intro A c ys h W k
    rcases h with h | ⟨p1, p2, e, g⟩
    · exact .inl h
    · exact .inr ⟨p1, p2, e, fun j u hu => by rw [k.cell (World.block_lt_of_cell? _ _ (g j u hu))]; exact g j u hu⟩
  have hfl : ([xs.take p, [.pointer (some ⟨tb, 0, none⟩)], xs.drop p] : List (List Value)).flatten = xs.take p ++ .pointer (some ⟨tb, 0, none⟩) :: xs.drop p := by simp
  refine (concatT_any _ (w2.heap.size + 1) 3 [xs.take p, [.pointer (some ⟨tb, 0, none⟩)], xs.drop p] (fun i => if i = 0 then A1 else if i = 1 then some ⟨w2.heap.size, 0, none⟩ else A3) (fun i => if i = 0 then c1 else if i = 1 then 1 else c3) (by simp) (by simp [List.length_take, List.length_drop]; omega) ?_ ⟨?_, fun i hi => ?_⟩).mono ?_
  · intro l hl u hu
    simp only [List.mem_cons, List.not_mem_nil, or_false] at hl
    rcases hl with rfl | rfl | rfl
    · exact hone u (List.mem_of_mem_take hu)
    · simp at hu; subst hu; rfl
    · exact hone u (List.mem_of_mem_drop hu)
  · show w2.heap.size + 1 < ((w2.alloc _).alloc _).heap.size
    simp
  · match i, hi with
    | 0, _ => exact ⟨by simp [List.length_take, Nat.min_eq_left (hn ▸ hp)], part h1 _ k1⟩
    | 1, _ => exact ⟨by simp, .inr ⟨w2.heap.size, 0, rfl, fun j u hu => by
        match j, hu with
        | 0, hu => simp at hu; subst hu; exact a2
        | j + 1, hu => simp at hu⟩⟩
    | 2, _ => exact ⟨by simp [List.length_drop, hn], part h3 _ k1⟩
    | i + 3, hi => exfalso; simp at hi; omega
  · rintro e w' ⟨v, rfl, hO, k⟩
    rw [hfl] at hO
    have hlen : (xs.take p ++ .pointer (some ⟨tb, 0, none⟩) :: xs.drop p).length = m := by rw [List.length_append, List.length_cons, List.length_take, List.length_drop]; omega
    rw [hlen] at hO
    obtain ⟨a', cap', rfl⟩ := own_slice hO
    exact ⟨a', cap', _, rfl, k1.size, hO, k1.trans k⟩

/-- What with gives. -/
def WithEndT (l : List NodeD) (d : NodeD) (w w' : World) (e : Ending) : Prop :=
  ∃ a cap xs base, e = .returned (.agg #[.slice a (putIn l d).length cap, .func (.func 44) #[] #[]]) ∧ w.heap.size ≤ base ∧ w'.ownsRow base 95 1 (.slice a (putIn l d).length cap) (putIn l d).length xs ∧ PackedT w' xs (putIn l d) ∧ Kept w w'

abbrev withTW (w : World) (a : Option Addr) (n cap : Nat) : World := (w.alloc (.cells #[.slice a n cap, .func (.func 44) #[] #[]] 89)).alloc (.cells #[.slice none 0 0, .nilFunc] 89)

set_option maxRecDepth 100000 in
set_option maxHeartbeats 1600000 in
theorem withT_any (w : World) (a : Option Addr) (cap : Nat) (l : List NodeD) (d : NodeD) (xs : List Value) (base0 tb : Nat) (cur : Array Value) (fr : Nat × Nat) (hl : l.length ≤ 100) (hr : Rises l) (hno : Lacks l d) (hO0 : w.ownsRow base0 95 1 (.slice a l.length cap) l.length xs) (hP : PackedT w xs l) (hb : w.heap[tb]? = some (Obj.cells cur 97 fr)) (hrg : w.rangeAt tb 0 (freshCells d.name none 0)) :
    Calls Tryz.prog 65 #[.agg #[.slice a l.length cap, .func (.func 44) #[] #[]], .pointer (some ⟨tb, 0, none⟩)] w fun e w' => WithEndT l d w w' e := by
  obtain ⟨hxl, hnc, hCells⟩ := cells1_of_owned hO0
  have K0 : Kept w (withTW w a l.length cap) := ((Kept.refl _).alloc _).alloc _
  have htn : w.cell? ⟨tb, 0, none⟩ = some (.string d.name) := hrg 0 _ rfl
  have htl := heap_lt hb
  have HSO : Hid (∀ w', Kept (withTW w a l.length cap) w' → (fun w' => w'.cell? ⟨w.heap.size, 0, none⟩ = some (.slice a l.length cap) ∧ w'.cell? ⟨w.heap.size, 1, none⟩ = some (.func (.func 44) #[] #[])) w') := fun w' kk => boxCells2 (w := w) (Kept.trans ((Kept.refl _).alloc _) kk)
  have HRo : Hid (Row (withTW w a l.length cap) (w.heap.size + 1) 2) := by have := Row.made (w.alloc (.cells #[.slice a l.length cap, .func (.func 44) #[] #[]] 89)) #[.slice none 0 0, .nilFunc] 89; show Row _ _ _; simpa using this
  go_enter Tryz.func65, Tryz.ntmps65
  go_wp2
  go_region_held (fun w' => w'.cell? ⟨w.heap.size, 0, none⟩ = some (.slice a l.length cap) ∧ w'.cell? ⟨w.heap.size, 1, none⟩ = some (.func (.func 44) #[] #[])) (exact unhide HSO _ (by repeat (first | (with_reducible exact Kept.refl _) | (with_reducible assumption) | apply Kept.drew))) ((first | (go_at_call 44; refine (taskName_any _ tb d.name ((Kept.cell (K0.trans (by repeat (first | (with_reducible exact Kept.refl _) | (with_reducible assumption) | apply Kept.drew))) htl).trans htn)).mono ?_; rintro e w1 ⟨rfl, rfl⟩) | (go_at_call 77; refine (findT_any _ a cap l d.name (by omega) hr xs (hP.kept (K0.trans (by repeat (first | (with_reducible exact Kept.refl _) | (with_reducible assumption) | apply Kept.drew)))) (hCells.kept (K0.trans (by repeat (first | (with_reducible exact Kept.refl _) | (with_reducible assumption) | apply Kept.drew))))).mono ?_; rintro e w2 ⟨hfo, hk2⟩; obtain ⟨p, f, rfl, hp, hf⟩ := hfo; have k2 : Kept (withTW w a l.length cap) w2 := Kept.trans (by repeat (first | (with_reducible exact Kept.refl _) | (with_reducible assumption) | apply Kept.drew)) hk2; have HP := hide hp; have HF := hide hf; clear hp hf hk2)))
  all_goals
    have hff : f = false := by
      cases f
      · rfl
      · have := HF.out.1 rfl
        exact absurd this.2 (hno p this.1)
    subst hff
    have z2 := k2.size
    simp only [withTW, World.size_alloc] at z2
    have K2 := K0.trans k2
    have S2 := HSO.out w2 k2
    have hrow := HRo.out.kept k2
    obtain ⟨⟨_, x0⟩, g0⟩ := hrow.at (i := 0) (by omega)
    obtain ⟨⟨_, x1⟩, g1⟩ := hrow.at (i := 1) (by omega)
    have HR2 := hide hrow
    have hple := HP.out.le
    clear hrow
    have hT := putIn_free hr HP.out (fun h => by have := HF.out.2 h; cases this)
    have hm : (putIn l d).length = l.length + 1 := by rw [hT, List.length_append, List.length_cons, List.length_take, List.length_drop]; omega
    have HPut : Hid (PackedT w (xs.take p ++ .pointer (some ⟨tb, 0, none⟩) :: xs.drop p) (putIn l d)) := by rw [hT]; exact hP.put hple hb hrg
    have HSO2 : Hid (∀ w', KeptBut (w.heap.size + 1) (w.heap.size + 2) w2 w' → (fun w' => w'.cell? ⟨w.heap.size, 0, none⟩ = some (.slice a l.length cap) ∧ w'.cell? ⟨w.heap.size, 1, none⟩ = some (.func (.func 44) #[] #[])) w') := fun w' kk =>
      have ks := kk.same (l2 := w.heap.size) (h2 := w.heap.size + 1) (by omega)
      ⟨(ks.cell (Nat.le_refl _) (by omega) (by omega)).trans S2.1, (ks.cell (Nat.le_refl _) (by omega) (by omega)).trans S2.2⟩
    obtain ⟨s1, s2⟩ := S2
    have hone := hP.one
    have hCs := hCells.kept K2
    have u0 : w.heap.size < w2.heap.size := by omega
    have u2 : w.heap.size + 1 < w2.heap.size := by omega
    rcases hO0.2 with ⟨ev, h0⟩ | ⟨g, cp, cu2, ev, _, hg, hncp, _, _, _⟩
    · simp only [Value.slice.injEq] at ev
      obtain ⟨ea, _, ec⟩ := ev
      subst ea ec
      have hp0 : p = 0 := by omega
      subst hp0
      have hx0 : xs = [] := List.eq_nil_of_length_eq_zero (by omega)
      have hC := concatT_with (w2 := w2) (c1 := 0) (c3 := 0) (tb := tb) (A1 := none) (A3 := none) hxl (by omega) hple hone (.inl ⟨rfl, rfl, by rw [hx0]; rfl⟩) (.inl ⟨rfl, rfl, by rw [hx0]; rfl⟩) hm
      obtain rfl : l = [] := List.eq_nil_of_length_eq_zero h0
      simp only [List.length_nil, Nat.zero_sub] at hC s1
      have HC := hide hC
      clear hC hx0 hone hCs hm hT
      go_wp2
      go_region_held (fun w' => w'.cell? ⟨w.heap.size, 0, none⟩ = some (.slice none 0 0) ∧ w'.cell? ⟨w.heap.size, 1, none⟩ = some (.func (.func 44) #[] #[])) (exact unhide HSO2 _ (by repeat (first | exact KeptBut.refl _ _ _ | exact KeptBut.of_kept (by assumption) | apply KeptBut.drew | (refine KeptBut.setCell ?_ (by simp) (by simp) _) | apply KeptBut.alloc))) ((go_at_call 78; refine (unhide HC).mono ?_; rintro e w3 ⟨a', cap', base, rfl, hbase, hO, kk⟩; have HR3 := hide (HR2.out.kept kk); obtain ⟨⟨_, y0⟩, e0⟩ := HR3.out.at (i := 0) (by omega); obtain ⟨⟨_, y1⟩, e1⟩ := HR3.out.at (i := 1) (by omega); have HO := hide hO; clear hO))
      all_goals
        go_wp2
        have hR := World.rangeAt_setCells_same w3 (w.heap.size + 1) 0 [.slice a' (putIn [] d).length cap', .func (.func 44) #[] #[]] (HR3.out.there (o := 0) (m := 2) (Nat.le_refl _))
        have kf : Kept w ((w3.setCell ⟨w.heap.size + 1, 0, none⟩ (.slice a' (putIn [] d).length cap')).setCell ⟨w.heap.size + 1, 1, none⟩ (.func (.func 44) #[] #[])) := ((K2.trans kk).setCell (by simp) _).setCell (by simp) _
        have hO2 := owns_set (owns_set HO.out (p := ⟨w.heap.size + 1, 0, none⟩) (by simp <;> omega) (.slice a' (putIn [] d).length cap')) (p := ⟨w.heap.size + 1, 1, none⟩) (by simp <;> omega) (.func (.func 44) #[] #[])
        exact bodyPost_ret_cell [.slice a' (putIn [] d).length cap', .func (.func 44) #[] #[]] _ Tryz.results65 rfl hR Tryz.underlying89 rfl Tryz.sizeSortedT rfl ⟨a', cap', _, base, rfl, by omega, hO2, HPut.out.kept kf, kf⟩
    · simp only [Value.slice.injEq] at ev
      obtain ⟨ea, _, ec⟩ := ev
      subst ea ec
      have hsrc : ∀ j u, xs[j]? = some u → w2.cell? ⟨g, 0 + j, none⟩ = some u := fun j u hu => by
        obtain ⟨b', o', e', _, hc'⟩ := hCs j (List.getElem?_eq_some_iff.1 hu).1
        simp only [Option.some.injEq, Addr.mk.injEq, and_true] at e'
        obtain ⟨rfl, rfl⟩ := e'
        exact hc' j u hu
      have hp1 : PartT w2 (some ⟨g, 0, none⟩) cap (xs.take p) := .inr ⟨g, 0, rfl, fun j u hu => hsrc j u (by rw [List.getElem?_take] at hu; split at hu; exact hu; cases hu)⟩
      have i1 : (p : Int) ≤ (cap : Int) := by omega
      have i2 : (p : Int) ≤ (l.length : Int) := by omega
      by_cases hce : cap = p
      · have hlp : l.length = p := by omega
        have hC := concatT_with (w2 := w2) (c1 := p) (c3 := 0) (tb := tb) (A1 := some ⟨g, 0, none⟩) (A3 := some ⟨g, 0, none⟩) hxl (by omega) hple hone (hce ▸ hp1) (.inr ⟨g, 0, rfl, fun j u hu => by rw [List.drop_eq_nil_of_le (by omega)] at hu; simp at hu⟩) hm
        rw [show l.length - p = 0 by omega] at hC
        have HC := hide hC
        clear hC hone hCs hsrc hp1 hm hT
        go_wp2
        go_region_held (fun w' => w'.cell? ⟨w.heap.size, 0, none⟩ = some (.slice (some ⟨g, 0, none⟩) l.length cap) ∧ w'.cell? ⟨w.heap.size, 1, none⟩ = some (.func (.func 44) #[] #[])) (exact unhide HSO2 _ (by repeat (first | exact KeptBut.refl _ _ _ | exact KeptBut.of_kept (by assumption) | apply KeptBut.drew | (refine KeptBut.setCell ?_ (by simp) (by simp) _) | apply KeptBut.alloc))) ((go_at_call 78; refine (unhide HC).mono ?_; rintro e w3 ⟨a', cap', base, rfl, hbase, hO, kk⟩; have HR3 := hide (HR2.out.kept kk); obtain ⟨⟨_, y0⟩, e0⟩ := HR3.out.at (i := 0) (by omega); obtain ⟨⟨_, y1⟩, e1⟩ := HR3.out.at (i := 1) (by omega); have HO := hide hO; clear hO))
        all_goals
          go_wp2
          have hR := World.rangeAt_setCells_same w3 (w.heap.size + 1) 0 [.slice a' (putIn l d).length cap', .func (.func 44) #[] #[]] (HR3.out.there (o := 0) (m := 2) (Nat.le_refl _))
          have kf : Kept w ((w3.setCell ⟨w.heap.size + 1, 0, none⟩ (.slice a' (putIn l d).length cap')).setCell ⟨w.heap.size + 1, 1, none⟩ (.func (.func 44) #[] #[])) := ((K2.trans kk).setCell (by simp) _).setCell (by simp) _
          have hO2 := owns_set (owns_set HO.out (p := ⟨w.heap.size + 1, 0, none⟩) (by simp <;> omega) (.slice a' (putIn l d).length cap')) (p := ⟨w.heap.size + 1, 1, none⟩) (by simp <;> omega) (.func (.func 44) #[] #[])
          exact bodyPost_ret_cell [.slice a' (putIn l d).length cap', .func (.func 44) #[] #[]] _ Tryz.results65 rfl hR Tryz.underlying89 rfl Tryz.sizeSortedT rfl ⟨a', cap', _, base, rfl, by omega, hO2, HPut.out.kept kf, kf⟩
      · have hC := concatT_with (w2 := w2) (c1 := cap) (c3 := cap - p) (tb := tb) (A1 := some ⟨g, 0, none⟩) (A3 := some ⟨g, 0 + p * 1, none⟩) hxl (by omega) hple hone hp1 (.inr ⟨g, 0 + p * 1, rfl, fun j u hu => by rw [List.getElem?_drop] at hu; have := hsrc _ u hu; rw [show 0 + p * 1 + j = 0 + (p + j) by omega]; exact this⟩) hm
        simp only [Nat.mul_one, Nat.zero_add] at hC
        have HC := hide hC
        clear hC hone hCs hsrc hp1 hm hT
        go_wp2
        go_region_held (fun w' => w'.cell? ⟨w.heap.size, 0, none⟩ = some (.slice (some ⟨g, 0, none⟩) l.length cap) ∧ w'.cell? ⟨w.heap.size, 1, none⟩ = some (.func (.func 44) #[] #[])) (exact unhide HSO2 _ (by repeat (first | exact KeptBut.refl _ _ _ | exact KeptBut.of_kept (by assumption) | apply KeptBut.drew | (refine KeptBut.setCell ?_ (by simp) (by simp) _) | apply KeptBut.alloc))) ((go_at_call 78; refine (unhide HC).mono ?_; rintro e w3 ⟨a', cap', base, rfl, hbase, hO, kk⟩; have HR3 := hide (HR2.out.kept kk); obtain ⟨⟨_, y0⟩, e0⟩ := HR3.out.at (i := 0) (by omega); obtain ⟨⟨_, y1⟩, e1⟩ := HR3.out.at (i := 1) (by omega); have HO := hide hO; clear hO))
        all_goals
          go_wp2
          have hR := World.rangeAt_setCells_same w3 (w.heap.size + 1) 0 [.slice a' (putIn l d).length cap', .func (.func 44) #[] #[]] (HR3.out.there (o := 0) (m := 2) (Nat.le_refl _))
          have kf : Kept w ((w3.setCell ⟨w.heap.size + 1, 0, none⟩ (.slice a' (putIn l d).length cap')).setCell ⟨w.heap.size + 1, 1, none⟩ (.func (.func 44) #[] #[])) := ((K2.trans kk).setCell (by simp) _).setCell (by simp) _
          have hO2 := owns_set (owns_set HO.out (p := ⟨w.heap.size + 1, 0, none⟩) (by simp <;> omega) (.slice a' (putIn l d).length cap')) (p := ⟨w.heap.size + 1, 1, none⟩) (by simp <;> omega) (.func (.func 44) #[] #[])
          exact bodyPost_ret_cell [.slice a' (putIn l d).length cap', .func (.func 44) #[] #[]] _ Tryz.results65 rfl hR Tryz.underlying89 rfl Tryz.sizeSortedT rfl ⟨a', cap', _, base, rfl, by omega, hO2, HPut.out.kept kf, kf⟩

end Go.Proofs.YtmdckapiljhfdaaGreat

/-
  THE WALK over (*impl.bench).want.
-/
namespace Go.Proofs.YtmdckapiljhfdaaGreat
open Go.RowKit

/-- The bench: its block, and the tasks so far (Q is their list). -/
structure Bench (w : World) (bb : Nat) (a : Option Addr) (n cap : Nat) (rd : Option Addr) (rn rc : Nat) (mp : Value) (d : Option Addr) (m dc : Nat) : Prop where
  row : RowT w bb 91 6
  c0 : w.cell? ⟨bb, 0, none⟩ = some (.slice a n cap)
  c1 : w.cell? ⟨bb, 1, none⟩ = some (.func (.func 62) #[] #[])
  c2 : w.cell? ⟨bb, 2, none⟩ = some (.slice rd rn rc)
  c3 : w.cell? ⟨bb, 3, none⟩ = some (.slice d m dc)
  c4 : w.cell? ⟨bb, 4, none⟩ = some (.func (.func 44) #[] #[])
  c5 : w.cell? ⟨bb, 5, none⟩ = some mp
theorem Bench.kept {w w' : World} {bb n cap rn rc m dc : Nat} {a rd d : Option Addr} {mp : Value} (h : Bench w bb a n cap rd rn rc mp d m dc) (k : Kept w w') : Bench w' bb a n cap rd rn rc mp d m dc :=
  ⟨h.row.kept k, (k.cell h.row.lt).trans h.c0, (k.cell h.row.lt).trans h.c1, (k.cell h.row.lt).trans h.c2, (k.cell h.row.lt).trans h.c3, (k.cell h.row.lt).trans h.c4, (k.cell h.row.lt).trans h.c5⟩

/-- The bench while it is filled; w is the world in which it was made. -/
structure BnSt (w wr : World) (bb : Nat) (a : Option Addr) (n cap : Nat) (rd : Option Addr) (rn rc : Nat) (mp : Value) (Q : List NodeD) (d : Option Addr) (dc : Nat) (xs : List Value) : Prop where
  kb : KeptBut bb (bb + 1) w wr
  bench : Bench wr bb a n cap rd rn rc mp d Q.length dc
  own : wr.ownsRow w.heap.size 95 1 (.slice d Q.length dc) Q.length xs
  pack : PackedT wr xs Q
theorem BnSt.kept {w wr w' : World} {bb n cap rn rc dc : Nat} {a rd d : Option Addr} {mp : Value} {Q : List NodeD} {xs : List Value} (h : BnSt w wr bb a n cap rd rn rc mp Q d dc xs) (k : Kept wr w') : BnSt w w' bb a n cap rd rn rc mp Q d dc xs :=
  ⟨h.kb.trans (KeptBut.of_kept k), h.bench.kept k, ownsRow_kept' h.own k, h.pack.kept k⟩

/-- What want makes of the tasks. -/
def wantQ (webl Q : List NodeD) (n : ByteArray) : List NodeD := if inWeb webl n = true then putIn Q (ghost n) else Q

/-- A name without a run. -/
theorem benchTask_none (w : World) (bb : Nat) (a : Option Addr) (n cap : Nat) (rd : Option Addr) (rn rc : Nat) (mp : Value) (Q : List NodeD) (d : Option Addr) (dc : Nat) (xs : List Value) (v : ByteArray) (hQl : Q.length ≤ 1048576) (hQr : Rises Q) (hno : Lacks Q (ghost v))
    (hB : Bench w bb a n cap rd rn rc mp d Q.length dc) (hP : PackedT w xs Q) (hC : Cells1 w d xs) :
    Calls Tryz.prog 64 #[.pointer (some ⟨bb, 0, none⟩), .string v] w fun e w' => e = .returned (.pointer none) ∧ Kept w w' := by
  have b3 := hB.c3
  have b4 := hB.c4
  have zk := hB.row.lt
  go_enter Tryz.func64, Tryz.ntmps64
  go_wp2_with fail
  refine (findT_any _ d dc Q v hQl hQr xs hP hC).mono ?_
  rintro e w2 ⟨hfo, k2⟩
  obtain ⟨p2, f2, rfl, hp2, hf2⟩ := hfo
  have hff : f2 = false := by
    cases f2
    · rfl
    · have := hf2.1 rfl
      exact absurd this.2 (hno p2 this.1)
  subst hff
  clear hp2 hf2
  go_wp2
  go_ret
  exact ⟨rfl, k2⟩

set_option maxRecDepth 100000 in
set_option maxHeartbeats 3200000 in
theorem benchWant_any (w0 w wr : World) (k0 : Kept w0 w) (bb : Nat) (hk0 : w0.heap.size ≤ bb) (hbw : bb < w.heap.size) (a : Option Addr) (cap : Nat) (webl : List NodeD) (rd : Option Addr) (rn rc : Nat) (mp : Value) (Q : List NodeD) (d : Option Addr) (dc : Nat) (xs : List Value) (v : ByteArray) (hwl : webl.length ≤ 1048576) (hwr : Rises webl) (hQl : Q.length ≤ 20) (hQr : Rises Q) (hno : Lacks Q (ghost v))
    (hSt : BnSt w wr bb a webl.length cap rd rn rc mp Q d dc xs) (hS : Nodes w0 a webl) :
    Calls Tryz.prog 45 #[.pointer (some ⟨bb, 0, none⟩), .string v] wr fun e w' => e = .returned (.tuple #[]) ∧ ∃ d' dc' xs', BnSt w w' bb a webl.length cap rd rn rc mp (wantQ webl Q v) d' dc' xs' := by
  have Kr : Kept w0 wr := hSt.kb.kept k0 hk0
  have b0 := hSt.bench.c0
  have b1 := hSt.bench.c1
  have b3 := hSt.bench.c3
  have b4 := hSt.bench.c4
  have zk := hSt.bench.row.lt
  have HSt := hide hSt
  have hC1 := cells1_of_owned hSt.own
  clear hSt
  go_enter Tryz.func45, Tryz.ntmps45
  go_wp2_with fail
  refine (find_any _ a cap webl v hwl hwr (hS.kept Kr)).mono ?_
  rintro e w1 ⟨hfo, k1⟩
  obtain ⟨p, f, rfl, hp, hf⟩ := hfo
  have hB1 := HSt.out.bench.kept k1
  have zk1 := hB1.row.lt
  have HP := hide hp
  have HF := hide hf
  have HT := hide (benchTask_none w1 bb a webl.length cap rd rn rc mp Q d dc xs v (by omega) hQr hno hB1 ((HSt.out.pack).kept k1) (hC1.2.2.kept k1))
  have hin : f = true ↔ HasName webl v.toList := ⟨fun h => ⟨p, HF.out.1 h⟩, fun ⟨j, hj, e⟩ => HF.out.2 (by have := HP.out.only hwr hj e; subst this; exact ⟨hj, e⟩)⟩
  have HIn := hide hin
  clear hp hf b3 b4 hin hB1
  cases f
  · go_wp2_with fail
    refine bodyPost_ret (results_none rfl _ _ _) rfl ?_
    have : wantQ webl Q v = Q := by unfold wantQ; rw [if_neg]; intro h; have := HIn.out.2 (inWeb_iff.1 h); cases this
    rw [this]
    exact ⟨rfl, d, dc, xs, HSt.out.kept k1⟩
  · have hpl := (HF.out.1 rfl).1
    have hhas := HIn.out.1 rfl
    have HHas := hide hhas
    clear hhas
    go_wp2_with fail
    refine HT.out.mono ?_
    rintro e w2 ⟨rfl, k2⟩
    have k12 := k1.trans k2
    have z2 := k12.size
    have hB2 := HSt.out.bench.kept k12
    have K2 : Kept w0 w2 := Kr.trans k12
    obtain ⟨b, o, cs, rfl, hb, hcs, aa, ca, rfl, hA⟩ := hS.kept K2 p hpl
    obtain ⟨y, hy⟩ : ∃ y, y = webl.getD p NodeD.zero := ⟨_, rfl⟩
    rw [← hy] at hcs
    have c1 : w2.cell? ⟨b, o + p * 3 + 1, none⟩ = some (.int .i64 y.cost) := hcs 1 _ rfl
    have c2 : w2.cell? ⟨b, o + p * 3 + 2, none⟩ = some (.slice aa y.steps.length ca) := hcs 2 _ rfl
    have m0 := hB2.c0
    have m1 := hB2.c1
    have m2 := hB2.c2
    have m3 := hB2.c3
    have m4 := hB2.c4
    have m5 := hB2.c5
    have HRw := hide hB2.row
    have zb := hB2.row.lt
    have hO2 := ownsRow_kept' HSt.out.own k12
    have hP2 := HSt.out.pack.kept k12
    have hzz := HSt.out.kb.size
    have HWith : Hid (∀ W, Kept w2 W → W = (w2.alloc (.cells #[.string v, .bool false, .bool false, .string ⟨#[]⟩, .int .i64 0, .int .i64 0, .slice none 0 0, .int .i64 y.cost, .slice aa y.steps.length ca, .int .i64 0, .slice none 0 0, .string ⟨#[]⟩] 97)).drew → Calls Tryz.prog 65 #[.agg #[.slice d Q.length dc, .func (.func 44) #[] #[]], .pointer (some ⟨w2.heap.size, 0, none⟩)] W fun e w' => WithEndT Q (ghost v) W w' e) := by
      intro W KW hW
      have hh : W.heap[w2.heap.size]? = some (Obj.cells #[.string v, .bool false, .bool false, .string ⟨#[]⟩, .int .i64 0, .int .i64 0, .slice none 0 0, .int .i64 y.cost, .slice aa y.steps.length ca, .int .i64 0, .slice none 0 0, .string ⟨#[]⟩] 97 (0, 0)) := by rw [hW]; exact heap_alloc_new w2 _
      refine withT_any W d dc Q (ghost v) xs w.heap.size w2.heap.size _ _ (by omega) hQr hno (ownsRow_kept' hO2 KW) (hP2.kept KW) hh ?_
      intro j u hu
      rw [hW]
      have := range_new w2 #[.string v, .bool false, .bool false, .string ⟨#[]⟩, .int .i64 0, .int .i64 0, .slice none 0 0, .int .i64 y.cost, .slice aa y.steps.length ca, .int .i64 0, .slice none 0 0, .string ⟨#[]⟩] 97 j u (by
        match j, hu with
        | 0, hu => simpa [freshCells, ghost] using hu
        | 1, hu => simpa [freshCells, ghost] using hu
        | 2, hu => simpa [freshCells, ghost] using hu
        | 3, hu => simpa [freshCells, ghost] using hu
        | 4, hu => simpa [freshCells, ghost] using hu
        | 5, hu => simpa [freshCells, ghost] using hu
        | 6, hu => simpa [freshCells, ghost] using hu
        | j + 7, hu => simp [freshCells] at hu)
      exact this
    have HSO : Hid (∀ w', Kept w2 w' → (fun w' => w'.cell? ⟨bb, 0, none⟩ = some (.slice (some ⟨b, o, none⟩) webl.length cap) ∧ w'.cell? ⟨bb, 3, none⟩ = some (.slice d Q.length dc) ∧ w'.cell? ⟨bb, 4, none⟩ = some (.func (.func 44) #[] #[]) ∧ w'.cell? ⟨b, o + p * 3 + 1, none⟩ = some (.int .i64 y.cost) ∧ w'.cell? ⟨b, o + p * 3 + 2, none⟩ = some (.slice aa y.steps.length ca)) w') := fun w' kk => ⟨(kk.cell zb).trans m0, (kk.cell zb).trans m3, (kk.cell zb).trans m4, (kk.cell hb).trans c1, (kk.cell hb).trans c2⟩
    have hpi : (p : Int) < (webl.length : Int) := by omega
    clear hcs hA hy hO2 hP2 hB2
    go_wp2
    refine UpTo.region (by kernel_rfl) (fun w' => w'.cell? ⟨bb, 0, none⟩ = some (.slice (some ⟨b, o, none⟩) webl.length cap) ∧ w'.cell? ⟨bb, 3, none⟩ = some (.slice d Q.length dc) ∧ w'.cell? ⟨bb, 4, none⟩ = some (.func (.func 44) #[] #[]) ∧ w'.cell? ⟨b, o + p * 3 + 1, none⟩ = some (.int .i64 y.cost) ∧ w'.cell? ⟨b, o + p * 3 + 2, none⟩ = some (.slice aa y.steps.length ca)) 21 ⟨m0, m3, m4, c1, c2⟩ (fun hHeld => ?_)
    refine UpTo.take 0 [19, 20, 21] (v := ?_) (by (simp only [List.getElem?_toArray, List.getElem?_cons_zero]; rfl)) (by kernel_rfl) (by kernel_rfl) (by kernel_rfl) (by kernel_rfl) (by exact fun _ _ _ h => h) (Or.inl ⟨by rfl, ?_⟩) hHeld ?_
    rotate_left
    · intro u hu
      try dsimp only at hu
      go_simp
      try with_reducible rfl
    try simp only [Act.put, List.setIfInBounds_toArray, List.set_cons_zero, List.set_cons_succ]
    refine UpTo.take 1 [2, 3, 4, 18, 21] (v := ?_) (by (simp only [List.getElem?_toArray, List.getElem?_cons_succ, List.getElem?_cons_zero]; rfl)) (by kernel_rfl) (by kernel_rfl) (by kernel_rfl) (by kernel_rfl) (by exact fun _ _ _ h => h) (Or.inl ⟨by rfl, ?_⟩) hHeld ?_
    rotate_left
    · intro u hu
      try dsimp only at hu
      go_simp
      try with_reducible rfl
    try simp only [Act.put, List.setIfInBounds_toArray, List.set_cons_zero, List.set_cons_succ]
    refine UpTo.take 2 [3, 4, 18, 21] (v := ?_) (by (simp only [List.getElem?_toArray, List.getElem?_cons_succ, List.getElem?_cons_zero]; rfl)) (by kernel_rfl) (by kernel_rfl) (by kernel_rfl) (by kernel_rfl) (by exact fun _ _ _ h => h) (Or.inl ⟨by rfl, ?_⟩) hHeld ?_
    rotate_left
    · intro u hu
      try dsimp only at hu
      go_simp
      try with_reducible rfl
    try simp only [Act.put, List.setIfInBounds_toArray, List.set_cons_zero, List.set_cons_succ]
    refine UpTo.take 3 [4, 18, 21] (v := ?_) (by (simp only [List.getElem?_toArray, List.getElem?_cons_succ, List.getElem?_cons_zero]; rfl)) (by kernel_rfl) (by kernel_rfl) (by kernel_rfl) (by kernel_rfl) (by exact fun _ _ _ h => h) (Or.inl ⟨by rfl, ?_⟩) hHeld ?_
    rotate_left
    · intro u hu
      try dsimp only at hu
      go_simp
      try with_reducible rfl
    try simp only [Act.put, List.setIfInBounds_toArray, List.set_cons_zero, List.set_cons_succ]
    refine UpTo.take 4 [18, 21] (v := ?_) (by (simp only [List.getElem?_toArray, List.getElem?_cons_succ, List.getElem?_cons_zero]; rfl)) (by kernel_rfl) (by kernel_rfl) (by kernel_rfl) (by kernel_rfl) (by exact fun _ _ _ h => h) (Or.inl ⟨by rfl, ?_⟩) hHeld ?_
    rotate_left
    · intro u hu
      try dsimp only at hu
      go_simp
      try with_reducible rfl
    try simp only [Act.put, List.setIfInBounds_toArray, List.set_cons_zero, List.set_cons_succ]
    refine UpTo.take 5 [6, 16, 17, 18, 21] (v := ?_) (by (simp only [List.getElem?_toArray, List.getElem?_cons_succ, List.getElem?_cons_zero]; rfl)) (by kernel_rfl) (by kernel_rfl) (by kernel_rfl) (by kernel_rfl) (by exact fun _ _ _ h => h) (Or.inl ⟨by rfl, ?_⟩) hHeld ?_
    rotate_left
    · intro u hu
      try dsimp only at hu
      go_simp
      try with_reducible rfl
    try simp only [Act.put, List.setIfInBounds_toArray, List.set_cons_zero, List.set_cons_succ]
    refine UpTo.take 6 [16, 17, 18, 21] (v := ?_) (by (simp only [List.getElem?_toArray, List.getElem?_cons_succ, List.getElem?_cons_zero]; rfl)) (by kernel_rfl) (by kernel_rfl) (by kernel_rfl) (by kernel_rfl) (by exact fun _ _ _ h => h) (Or.inl ⟨by rfl, ?_⟩) hHeld ?_
    rotate_left
    · intro u hu
      try dsimp only at hu
      go_simp
      try with_reducible rfl
    try simp only [Act.put, List.setIfInBounds_toArray, List.set_cons_zero, List.set_cons_succ]
    refine UpTo.take 7 [8, 9, 10, 11, 13, 14, 15, 16, 17, 18, 21] (v := ?_) (by (simp only [List.getElem?_toArray, List.getElem?_cons_succ, List.getElem?_cons_zero]; rfl)) (by kernel_rfl) (by kernel_rfl) (by kernel_rfl) (by kernel_rfl) (by exact fun _ _ _ h => h) (Or.inl ⟨by rfl, ?_⟩) hHeld ?_
    rotate_left
    · intro u hu
      try dsimp only at hu
      go_simp
      try with_reducible rfl
    try simp only [Act.put, List.setIfInBounds_toArray, List.set_cons_zero, List.set_cons_succ]
    refine UpTo.take 8 [9, 10, 11, 13, 14, 15, 16, 17, 18, 21] (v := ?_) (by (simp only [List.getElem?_toArray, List.getElem?_cons_succ, List.getElem?_cons_zero]; rfl)) (by kernel_rfl) (by kernel_rfl) (by kernel_rfl) (by kernel_rfl) (by exact fun _ _ _ h => h) (Or.inl ⟨by rfl, ?_⟩) hHeld ?_
    rotate_left
    · intro u hu
      try dsimp only at hu
      go_simp
      try with_reducible rfl
    try simp only [Act.put, List.setIfInBounds_toArray, List.set_cons_zero, List.set_cons_succ]
    refine UpTo.take 9 [10, 11, 13, 14, 15, 16, 17, 18, 21] (v := ?_) (by (simp only [List.getElem?_toArray, List.getElem?_cons_succ, List.getElem?_cons_zero]; rfl)) (by kernel_rfl) (by kernel_rfl) (by kernel_rfl) (by kernel_rfl) (by exact fun _ _ _ h => h) (Or.inl ⟨by rfl, ?_⟩) hHeld ?_
    rotate_left
    · intro u hu
      try dsimp only at hu
      go_simp
      try with_reducible rfl
    try simp only [Act.put, List.setIfInBounds_toArray, List.set_cons_zero, List.set_cons_succ]
    refine UpTo.take 10 [11, 13, 14, 15, 16, 17, 18, 21] (v := ?_) (by (simp only [List.getElem?_toArray, List.getElem?_cons_succ, List.getElem?_cons_zero]; rfl)) (by kernel_rfl) (by kernel_rfl) (by kernel_rfl) (by kernel_rfl) (by exact fun _ _ _ h => h) (Or.inl ⟨by rfl, ?_⟩) hHeld ?_
    rotate_left
    · intro u hu
      try dsimp only at hu
      go_simp
      try with_reducible rfl
    try simp only [Act.put, List.setIfInBounds_toArray, List.set_cons_zero, List.set_cons_succ]
    refine UpTo.take 11 [13, 14, 15, 16, 17, 18, 21] (v := ?_) (by (simp only [List.getElem?_toArray, List.getElem?_cons_succ, List.getElem?_cons_zero]; rfl)) (by kernel_rfl) (by kernel_rfl) (by kernel_rfl) (by kernel_rfl) (by exact fun _ _ _ h => h) (Or.inl ⟨by rfl, ?_⟩) hHeld ?_
    rotate_left
    · intro u hu
      try dsimp only at hu
      go_simp
      try with_reducible rfl
    try simp only [Act.put, List.setIfInBounds_toArray, List.set_cons_zero, List.set_cons_succ]
    refine UpTo.take 12 [13, 14, 15, 16, 17, 18, 21] (v := ?_) (by (simp only [List.getElem?_toArray, List.getElem?_cons_succ, List.getElem?_cons_zero]; rfl)) (by kernel_rfl) (by kernel_rfl) (by kernel_rfl) (by kernel_rfl) (by exact fun _ _ _ h => h) (Or.inl ⟨by rfl, ?_⟩) hHeld ?_
    rotate_left
    · intro u hu
      try dsimp only at hu
      go_simp
      try with_reducible rfl
    try simp only [Act.put, List.setIfInBounds_toArray, List.set_cons_zero, List.set_cons_succ]
    refine UpTo.take 13 [14, 15, 16, 17, 18, 21] (v := ?_) (by (simp only [List.getElem?_toArray, List.getElem?_cons_succ, List.getElem?_cons_zero]; rfl)) (by kernel_rfl) (by kernel_rfl) (by kernel_rfl) (by kernel_rfl) (by exact fun _ _ _ h => h) (Or.inl ⟨by rfl, ?_⟩) hHeld ?_
    rotate_left
    · intro u hu
      try dsimp only at hu
      go_simp
      try with_reducible rfl
    try simp only [Act.put, List.setIfInBounds_toArray, List.set_cons_zero, List.set_cons_succ]
    refine UpTo.take 14 [15, 16, 17, 18, 21] (v := ?_) (by (simp only [List.getElem?_toArray, List.getElem?_cons_succ, List.getElem?_cons_zero]; rfl)) (by kernel_rfl) (by kernel_rfl) (by kernel_rfl) (by kernel_rfl) (by exact fun _ _ _ h => h) (Or.inl ⟨by rfl, ?_⟩) hHeld ?_
    rotate_left
    · intro u hu
      try dsimp only at hu
      go_simp
      try with_reducible rfl
    try simp only [Act.put, List.setIfInBounds_toArray, List.set_cons_zero, List.set_cons_succ]
    refine UpTo.take 15 [16, 17, 18, 21] (v := ?_) (by (simp only [List.getElem?_toArray, List.getElem?_cons_succ, List.getElem?_cons_zero]; rfl)) (by kernel_rfl) (by kernel_rfl) (by kernel_rfl) (by kernel_rfl) (by exact fun _ _ _ h => h) (Or.inl ⟨by rfl, ?_⟩) hHeld ?_
    rotate_left
    · intro u hu
      try dsimp only at hu
      go_simp
      try with_reducible rfl
    try simp only [Act.put, List.setIfInBounds_toArray, List.set_cons_zero, List.set_cons_succ]
    refine UpTo.take 16 [17, 18, 21] (v := ?_) (by (simp only [List.getElem?_toArray, List.getElem?_cons_succ, List.getElem?_cons_zero]; rfl)) (by kernel_rfl) (by kernel_rfl) (by kernel_rfl) (by kernel_rfl) (by exact fun _ _ _ h => h) (Or.inl ⟨by rfl, ?_⟩) hHeld ?_
    rotate_left
    · intro u hu
      try dsimp only at hu
      go_simp
      try with_reducible rfl
    try simp only [Act.put, List.setIfInBounds_toArray, List.set_cons_zero, List.set_cons_succ]
    refine UpTo.next 17 (by kernel_rfl) (by (simp only [List.getElem?_toArray, List.getElem?_cons_succ, List.getElem?_cons_zero]; rfl)) (fun K hK => ?_)
    go_simp
    have KW : Kept w2 (w2.alloc (.cells #[.string v, .bool false, .bool false, .string ⟨#[]⟩, .int .i64 0, .int .i64 0, .slice none 0 0, .int .i64 y.cost, .slice aa y.steps.length ca, .int .i64 0, .slice none 0 0, .string ⟨#[]⟩] 97)).drew := ((Kept.refl _).alloc _).drew
    refine hK.out _ _ (fun _ => HSO.out _ KW) ?_
    clear hK K hHeld
    try simp only [Act.put, List.setIfInBounds_toArray, List.set_cons_zero, List.set_cons_succ]
    refine UpTo.next 18 (by kernel_rfl) (by (simp only [List.getElem?_toArray, List.getElem?_cons_succ, List.getElem?_cons_zero]; rfl)) (fun K hK => ?_)
    rw [if_pos (by rfl)]
    go_simp
    go_at_call 65
    refine (HWith.out _ KW rfl).mono ?_
    rintro e w8 ⟨a8, cap8, xs8, base8, rfl, hb8, hO8, hP8, kk8⟩
    have k8 : Kept w2 w8 := KW.trans kk8
    have hr8 : RowT w8 bb 91 6 := HRw.out.kept k8
    obtain ⟨⟨_, fa⟩, fb⟩ := hr8.row.at (i := 3) (by omega)
    obtain ⟨⟨_, fc⟩, fd⟩ := hr8.row.at (i := 4) (by omega)
    have HO8 := hide hO8
    have HP8 := hide hP8
    have HR8 := hide hr8
    have z8 := k8.size
    clear hO8 hP8 hr8
    dsimp only
    refine hK.out _ _ (fun _ => HSO.out w8 k8) ?_
    clear hK K
    have hHeld := HSO.out w8 k8
    try simp only [Act.put, List.setIfInBounds_toArray, List.set_cons_zero, List.set_cons_succ]
    refine UpTo.take 19 [20, 21] (v := ?_) (by (simp only [List.getElem?_toArray, List.getElem?_cons_succ, List.getElem?_cons_zero]; rfl)) (by kernel_rfl) (by kernel_rfl) (by kernel_rfl) (by kernel_rfl) (by exact fun _ _ _ h => h) (Or.inl ⟨by rfl, ?_⟩) hHeld ?_
    rotate_left
    · intro u hu
      try dsimp only at hu
      go_simp
      try with_reducible rfl
    try simp only [Act.put, List.setIfInBounds_toArray, List.set_cons_zero, List.set_cons_succ]
    refine UpTo.take 20 [21] (v := ?_) (by (simp only [List.getElem?_toArray, List.getElem?_cons_succ, List.getElem?_cons_zero]; rfl)) (by kernel_rfl) (by kernel_rfl) (by kernel_rfl) (by kernel_rfl) (by exact fun _ _ _ h => h) (Or.inl ⟨by rfl, ?_⟩) hHeld ?_
    rotate_left
    · intro u hu
      try dsimp only at hu
      go_simp
      try with_reducible rfl
    try simp only [Act.put, List.setIfInBounds_toArray, List.set_cons_zero, List.set_cons_succ]
    refine UpTo.next 21 (by kernel_rfl) (by (simp only [List.getElem?_toArray, List.getElem?_cons_succ, List.getElem?_cons_zero]; rfl)) (fun K hK => ?_)
    go_simp
    refine hK.out _ _ (fun h => absurd rfl h) ?_
    clear hK K
    try simp only [Act.put, List.setIfInBounds_toArray, List.set_cons_zero, List.set_cons_succ]
    refine UpTo.done (by kernel_rfl) ?_
    go_wp2
    go_end0
    have hw : wantQ webl Q v = putIn Q (ghost v) := by unfold wantQ; rw [if_pos (inWeb_iff.2 HHas.out)]
    rw [hw]
    refine ⟨rfl, a8, cap8, xs8, ((HSt.out.kb.trans (KeptBut.of_kept (k12.trans k8))).setCell (by simp) (by simp) _).setCell (by simp) (by simp) _, ⟨(HR8.out.set _).set _, ?_, ?_, ?_, ?_, set_hit (HR8.out.set _).row (by omega) _, ?_⟩, owns_set (owns_set (owns_base HO8.out (by have q1 := hb8; have q2 := kk8.size; have q3 : w2.heap.size ≤ (w2.alloc (.cells #[.string v, .bool false, .bool false, .string ⟨#[]⟩, .int .i64 0, .int .i64 0, .slice none 0 0, .int .i64 y.cost, .slice aa y.steps.length ca, .int .i64 0, .slice none 0 0, .string ⟨#[]⟩] 97)).heap.size := (((Kept.refl w2).alloc _)).size; exact Nat.le_trans (by omega : w.heap.size ≤ w2.heap.size) (Nat.le_trans q3 q1))) (p := ⟨bb, 3, none⟩) hbw _) (p := ⟨bb, 4, none⟩) hbw _, (HP8.out.same (HR8.out.same _) (by decide)).same ((HR8.out.set _).same _) (by decide)⟩
    · rw [set_miss (by omega), set_miss (by omega), k8.cell HRw.out.lt]; exact m0
    · rw [set_miss (by omega), set_miss (by omega), k8.cell HRw.out.lt]; exact m1
    · rw [set_miss (by omega), set_miss (by omega), k8.cell HRw.out.lt]; exact m2
    · rw [set_miss (by omega)]; exact set_hit HR8.out.row (by omega) _
    · rw [set_miss (by omega), set_miss (by omega), k8.cell HRw.out.lt]; exact m5

end Go.Proofs.YtmdckapiljhfdaaGreat

/-
  THE WALK over impl.begin.
-/
namespace Go.Proofs.YtmdckapiljhfdaaGreat
open Go.RowKit

theorem foldl_putIn_len (R : List NodeD) : ∀ t, Rises t → (R.foldl putIn t).length ≤ t.length + R.length := by
  induction R with
  | nil => intro t _; simp
  | cons d r ih =>
    intro t h
    have h1 := ih _ (rises_putIn (d := d) h)
    have h2 := putIn_len_le t d h
    simp only [List.foldl_cons, List.length_cons]
    omega
theorem sortedOf_le (R : List NodeD) : (sortedOf R).length ≤ R.length := by
  have := foldl_putIn_len R [] (fun i j _ hj => by simp at hj)
  simpa [sortedOf] using this
theorem wantQ_step (webl : List NodeD) (roots : List ByteArray) (k : Nat) (h : k < roots.length) : wantQ webl (sortedOf (wanted webl (roots.take k))) (roots.getD k ByteArray.empty) = sortedOf (wanted webl (roots.take (k + 1))) := by
  rw [wanted_succ webl roots k h]
  unfold wantQ
  by_cases hin : inWeb webl (roots.getD k ByteArray.empty) = true
  · rw [if_pos hin, if_pos hin]
    unfold sortedOf
    rw [List.foldl_append]
    rfl
  · rw [if_neg hin, if_neg hin, List.append_nil]
theorem sorted_lacks {webl : List NodeD} {roots : List ByteArray} (hN : NamesOk roots) {k : Nat} (hk : k < roots.length) : Lacks (sortedOf (wanted webl (roots.take k))) (ghost (roots.getD k ByteArray.empty)) := by
  intro j hj e
  rw [nameAt_get hj] at e
  obtain ⟨i, hi, e2⟩ := List.getElem_of_mem (sortedOf_mem (List.getElem_mem hj))
  exact wanted_lacks (webl := webl) hN hk ⟨i, hi, by rw [nameAt_get hi, e2]; exact e⟩

/-- What begin gives. -/
def BeginEnd (webl : List NodeD) (roots : List ByteArray) (a : Option Addr) (cap : Nat) (rd : Option Addr) (rc : Nat) (w w' : World) (e : Ending) : Prop :=
  Kept w w' ∧ ((¬ (WebCode webl 0 ∧ RootsOk roots) ∧ e = .returned (.tuple #[.pointer none, .bool false])) ∨
    (WebCode webl 0 ∧ RootsOk roots ∧ ∃ Wb bb mp d dc xs, e = .returned (.tuple #[.pointer (some ⟨bb, 0, none⟩), .bool true]) ∧ Kept w Wb ∧ w.heap.size ≤ bb ∧ bb < Wb.heap.size ∧ BnSt Wb w' bb a webl.length cap rd roots.length rc mp (sortedOf (wanted webl roots)) d dc xs))

set_option maxRecDepth 100000 in
set_option maxHeartbeats 3200000 in
theorem begin_any (w : World) (a : Option Addr) (cap : Nat) (webl : List NodeD) (rd : Option Addr) (rc : Nat) (roots : List ByteArray) (hl : webl.length ≤ 1048576) (hf : ∀ s ∈ webl, s.Fits) (hrl : roots.length ≤ maxLen) (hrc : roots.length ≤ rc) (hrs : ∀ s ∈ roots, s.size ≤ maxLen) (hS : Nodes w a webl) (hR : Strs w rd roots) :
    Calls Tryz.prog 23 #[.agg #[.slice a webl.length cap], .slice rd roots.length rc] w fun e w' => BeginEnd webl roots a cap rd rc w w' e := by
  have hl' : webl.length ≤ maxLen := by unfold maxLen; omega
  go_enter Tryz.func23, Tryz.ntmps23
  go_wp2_with fail
  refine (implCheckWeb_any ascSaid _ a cap webl hl' hf (hS.kept (by repeat (first | apply Kept.alloc | exact Kept.refl _)))).mono ?_
  rintro e w1 ⟨⟨c, rfl, hc⟩, k1⟩
  have K1 : Kept w w1 := Kept.trans ((Kept.refl _).alloc _) k1
  have z1 := k1.size
  simp only [World.size_alloc] at z1
  have q0 := boxCell (w := w) k1
  have HC := hide hc
  clear hc k1
  have hw1 : w.heap.size < w1.heap.size := by omega
  by_cases hc0 : c = 0
  · subst hc0
    go_wp2_with fail
    refine (validRoots_any _ rd rc roots hrl hrc hrs (hR.kept K1)).mono ?_
    rintro e w2 ⟨hsay, k2⟩
    have q2 := (k2.cell (o := 0) hw1).trans q0
    have K2 := K1.trans k2
    have z2 := k2.size
    clear q0 K1 k2
    have hw2 : w.heap.size < w2.heap.size := by omega
    rcases hsay.cases with ⟨rfl, hyes⟩ | ⟨rfl, hno⟩
    · have HY := hide hyes
      clear hyes hsay
      go_wp2_with fail
      refine (listOf_any _ a webl.length cap).mono ?_
      rintro e w3 ⟨rfl, k3⟩
      have K3 := K2.trans k3
      have z3 := k3.size
      clear q2 k3 K2
      have hmm : (Instr.makeMap 85 none).run Tryz.prog w3 = .ok (.map (some w3.heap.size)) (w3.alloc (.map #[] 0)) := rfl
      go_wp2
      clear hmm
      have KB : Kept w ((w3.alloc (.map #[] 0)).alloc (.cells #[.slice a webl.length cap, .func (.func 62) #[] #[], .slice rd roots.length rc, .slice none 0 0, .func (.func 44) #[] #[], .map (some w3.heap.size)] 91)) := (K3.alloc _).alloc _
      have hcb := range_new (w3.alloc (.map #[] 0)) #[.slice a webl.length cap, .func (.func 62) #[] #[], .slice rd roots.length rc, .slice none 0 0, .func (.func 44) #[] #[], .map (some w3.heap.size)] 91
      simp only [World.size_alloc] at hcb
      have hrb := RowT.made (w3.alloc (.map #[] 0)) #[.slice a webl.length cap, .func (.func 62) #[] #[], .slice rd roots.length rc, .slice none 0 0, .func (.func 44) #[] #[], .map (some w3.heap.size)] 91
      simp only [World.size_alloc] at hrb
      have hSt0 : BnSt ((w3.alloc (.map #[] 0)).alloc (.cells #[.slice a webl.length cap, .func (.func 62) #[] #[], .slice rd roots.length rc, .slice none 0 0, .func (.func 44) #[] #[], .map (some w3.heap.size)] 91)) ((w3.alloc (.map #[] 0)).alloc (.cells #[.slice a webl.length cap, .func (.func 62) #[] #[], .slice rd roots.length rc, .slice none 0 0, .func (.func 44) #[] #[], .map (some w3.heap.size)] 91)) (w3.heap.size + 1) a webl.length cap rd roots.length rc (.map (some w3.heap.size)) [] none 0 [] :=
        ⟨KeptBut.refl _ _ _, ⟨hrb, hcb 0 _ rfl, hcb 1 _ rfl, hcb 2 _ rfl, hcb 3 _ rfl, hcb 4 _ rfl, hcb 5 _ rfl⟩, World.ownsRow_nil _ _ _ _, PackedT.nil _⟩
      have HSt0 := hide hSt0
      have HKB := hide KB
      clear hcb hrb hSt0 KB
      go_loopw [29] (fun i wr => ∃ (k : Nat) (d : Option Addr) (dc : Nat) (xs : List Value), k ≤ roots.length ∧ i = .int .i64 k ∧ BnSt ((w3.alloc (.map #[] 0)).alloc (.cells #[.slice a webl.length cap, .func (.func 62) #[] #[], .slice rd roots.length rc, .slice none 0 0, .func (.func 44) #[] #[], .map (some w3.heap.size)] 91)) wr (w3.heap.size + 1) a webl.length cap rd roots.length rc (.map (some w3.heap.size)) (sortedOf (wanted webl (roots.take k))) d dc xs) (fun i _ => roots.length - (intOf i).toNat)
      case atStart => exact ⟨0, none, 0, [], Nat.zero_le _, rfl, HSt0.out⟩
      case round =>
        obtain ⟨k, d, dc, xs, hk, rfl, hSt⟩ := hrel
        have HSt := hide hSt
        have hk10 : roots.length ≤ 10 := HY.out.2.1
        by_cases hlt : k < roots.length
        · have Kr : Kept w wr := hSt.kb.kept HKB.out (by omega)
          obtain ⟨b, o, rfl, hb, hc⟩ := hR.kept Kr k hlt
          obtain ⟨Q, hQ⟩ : ∃ Q, Q = sortedOf (wanted webl (roots.take k)) := ⟨_, rfl⟩
          obtain ⟨v, hv⟩ : ∃ v, v = roots.getD k ByteArray.empty := ⟨_, rfl⟩
          have hQr : Rises Q := by rw [hQ]; exact sortedOf_rises _
          have hQl : Q.length ≤ 20 := by
            rw [hQ]
            have h1 := sortedOf_le (wanted webl (roots.take k))
            have h2 := wanted_len webl (roots.take k)
            rw [List.length_take] at h2
            omega
          have hno : Lacks Q (ghost v) := by rw [hQ, hv]; exact sorted_lacks HY.out.2.2 hlt
          have HStep : Hid (wantQ webl Q v = sortedOf (wanted webl (roots.take (k + 1)))) := by show _ = _; rw [hQ, hv]; exact wantQ_step webl roots k hlt
          rw [← hQ] at hSt
          rw [← hv] at hc
          have HW := hide (benchWant_any w3 _ wr (((Kept.refl _).alloc _).alloc _) (w3.heap.size + 1) (by omega) (by simp) a cap webl (some ⟨b, o, none⟩) roots.length rc (.map (some w3.heap.size)) Q d dc xs v hl (rises_of_code HC.out) hQl hQr hno hSt (hS.kept K3))
          clear hQ hv hQr hQl hno hSt
          have i0 : (k : Int) < (roots.length : Int) := by omega
          go_wp2_with fail
          refine (unhide HW).mono ?_
          rintro e w5 ⟨rfl, d5, dc5, xs5, hSt5⟩
          have HSt5 := hide hSt5
          clear hSt5
          go_wp2
          go_roundw
          case rel => exact ⟨k + 1, d5, dc5, xs5, by omega, by go_num, by rw [← HStep.out]; exact HSt5.out⟩
          case measure => simp [intOf]; omega
        · have hkl : k = roots.length := by omega
          subst hkl
          rw [List.take_length] at hSt
          have HSt2 := hide hSt
          clear hSt
          go_wp2
          go_ret2
          exact ⟨HSt2.out.kb.kept HKB.out (by omega), .inr ⟨HC.out, HY.out, _, _, _, d, dc, xs, rfl, HKB.out, by omega, by simp, HSt2.out⟩⟩
    · have HY := hide hno
      clear hno hsay
      go_wp2
      go_ret2
      exact ⟨K2, .inl ⟨fun h => HY.out h.2, rfl⟩⟩
  · have hcb : (c == 0) = false := by simpa using hc0
    go_wp2
    go_ret2
    exact ⟨K1, .inl ⟨fun h => hc0 (HC.out.unique h.1), rfl⟩⟩

end Go.Proofs.YtmdckapiljhfdaaGreat
