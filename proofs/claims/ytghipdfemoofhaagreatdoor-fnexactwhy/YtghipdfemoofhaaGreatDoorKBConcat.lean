import Derived.Test.YtghipdfemoofhaaGreatDoorKBEnd
import Derived.Test.YtghipdfemoofhaaGreatDoorKOConcat
namespace Go.Proofs.YtghipdfemoofhaaGreatDoor
open Go.RowKit
theorem Tryz.infoPtrB : (Tryz.prog.info? 70).map (fun i => (i.zero, i.size, i.bytes)) = some (some (.pointer none), 1, 8) := by kernel_rfl
set_option maxRecDepth 100000 in
set_option maxHeartbeats 800000 in
theorem growB_any (w : World) (n : Nat) (hn : n ≤ 3145728) :
    Calls Tryz.prog 201 #[.slice none 0 0, .int .i64 n] w fun e w' => ∃ v, e = .returned v ∧ w'.ownsRow w.heap.size 70 1 v 0 [] ∧ Kept w w' := by
  by_cases h0 : n = 0
  · subst h0
    go_enter Tryz.func201, Tryz.ntmps201
    go_wp2
    go_ret
    exact ⟨_, rfl, World.ownsRow_nil _ _ _ _, Kept.refl _⟩
  · obtain ⟨i0, hi, hz0, hz1, hz2⟩ := info_parts Tryz.infoPtrB
    have hrun := fun ty => Lib.run_append_nil_zeros (P := Tryz.prog) w 124 3 ty 70 i0 _ .i64 .i64 Tryz.underlying124 Tryz.undInt hi hz0 n (by omega) (by rw [hz1]; omega) (by omega) (by rw [hz2]; omega)
    have hge := grownCap_ge w n 0 70
    have hle := grownCap_le_maxLen w n 0 70 (by unfold maxLen; omega)
    have HRun := hide hrun
    clear hrun
    have hp : (0 : Int) < (n : Int) := by omega
    go_enter Tryz.func201, Tryz.ntmps201
    go_wp2_with (at_builtin; refine Lib.wpList_append_run _ rfl (.tmp 20) (.tmp 21) _ _ rfl _ _ rfl rfl _ _ (HRun.out _) ?_)
    go_ret
    refine ⟨_, rfl, World.ownsRow.drew (World.ownsRow_made w _ _ (Nat.le_refl _) hle ?_), ((Kept.refl _).alloc _).drew⟩
    simp only [Array.size_append, size_zeroCells]
    have e3 : (#[Value.pointer none] : Array Value).size = 1 := rfl
    rw [e3, ← Nat.add_mul]
    congr 1
    omega
def RowsB (w : World) (b : Nat) (LL : List (List Value)) (P : Nat → Option Addr) (C : Nat → Nat) : Prop :=
  b < w.heap.size ∧ ∀ i, i < LL.length → w.cell? ⟨b, i, none⟩ = some (.slice (P i) (LL.getD i []).length (C i)) ∧ ((P i = none ∧ C i = 0 ∧ LL.getD i [] = []) ∨ ∃ p1 p2, P i = some ⟨p1, p2, none⟩ ∧ ∀ j u, (LL.getD i [])[j]? = some u → w.cell? ⟨p1, p2 + j, none⟩ = some u)
theorem RowsB.kept {w w' : World} {b : Nat} {LL : List (List Value)} {P : Nat → Option Addr} {C : Nat → Nat} (h : RowsB w b LL P C) (k : Kept w w') : RowsB w' b LL P C :=
  ⟨Nat.lt_of_lt_of_le h.1 k.size, fun i hi => ⟨by rw [k.cell h.1]; exact (h.2 i hi).1, by
    rcases (h.2 i hi).2 with g | ⟨p1, p2, e, g⟩
    · exact .inl g
    · exact .inr ⟨p1, p2, e, fun j u hu => by rw [k.cell (World.block_lt_of_cell? _ _ (g j u hu))]; exact g j u hu⟩⟩⟩
theorem flatB_succ (LL : List (List Value)) (k : Nat) (h : k < LL.length) : (LL.take (k + 1)).flatten = (LL.take k).flatten ++ LL.getD k [] := by
  rw [List.take_succ_eq_append_getElem h, List.flatten_append]
  simp [List.getD, h]
theorem flatB_len (LL : List (List Value)) (k : Nat) : (LL.take k).flatten.length = sumTo List.length LL k := by
  unfold sumTo
  rw [List.length_flatten]
set_option maxRecDepth 100000 in
set_option maxHeartbeats 1600000 in
theorem concatB_any (w : World) (b cap : Nat) (LL : List (List Value)) (P : Nat → Option Addr) (C : Nat → Nat) (hm : LL.length ≤ 3) (hn : (LL.map List.length).sum ≤ 3145728) (hone : ∀ l ∈ LL, ∀ u ∈ l, u.oneCell' = true) (hR : RowsB w b LL P C) :
    Calls Tryz.prog 174 #[.slice (some ⟨b, 0, none⟩) LL.length cap] w fun e w' => ∃ v, e = .returned v ∧ w'.ownsRow w.heap.size 70 1 v LL.flatten.length LL.flatten ∧ Kept w w' := by
  go_enter Tryz.func174, Tryz.ntmps174
  go_wp2
  go_loop [3, 11] (fun x i => ∃ k : Nat, k ≤ LL.length ∧ i = .int .i64 k ∧ x = .int .i64 (sumTo List.length LL k : Nat)) (fun _ i => LL.length - (intOf i).toNat)
  case atStart => exact ⟨0, Nat.zero_le _, rfl, by rw [sumTo_zero]; rfl⟩
  case round =>
    obtain ⟨k, hk, rfl, rfl⟩ := hrel
    by_cases hlt : k < LL.length
    · have hc := (hR.2 k hlt).1
      have HS : Hid (sumTo List.length LL (k + 1) = sumTo List.length LL k + (LL.getD k []).length) := sumTo_succ _ LL _ k hlt
      have HT := sumTo_le List.length LL (k + 1)
      have hst : sumTo List.length LL k + (LL.getD k []).length ≤ 3145728 := by have := HS.out; omega
      generalize sumTo List.length LL k = z at *
      generalize (LL.getD k []).length = y at *
      generalize P k = pk at *
      clear HT
      go_wp2
      go_round
      case rel => exact ⟨k + 1, by omega, by go_num, by rw [HS.out]; go_num⟩
      case measure => simp [intOf]; omega
    · have hkl : k = LL.length := by omega
      subst hkl
      have hz : sumTo List.length LL LL.length ≤ 3145728 := by rw [sumTo_all]; exact hn
      generalize sumTo List.length LL LL.length = z at *
      go_wp2_with fail
      refine (growB_any _ z hz).mono ?_
      rintro e w1 ⟨v1, rfl, hown, k1⟩
      go_wp2
      go_loopw [6, 27] (fun x i wr => ∃ (k : Nat), k ≤ LL.length ∧ i = .int .i64 k ∧ wr.ownsRow w.heap.size 70 1 x (LL.take k).flatten.length (LL.take k).flatten ∧ Kept w wr) (fun _ i _ => LL.length - (intOf i).toNat)
      case atStart => exact ⟨0, Nat.zero_le _, rfl, by simpa using hown, k1⟩
      case round =>
        obtain ⟨k, hk, rfl, hown, hw⟩ := hrel
        by_cases hlt : k < LL.length
        · have hc := ((hR.kept hw).2 k hlt).1
          have hbr := (hR.kept hw).1
          have hsrc := ((hR.kept hw).2 k hlt).2
          have hflat := flatB_succ LL k hlt
          have hln := flatB_len LL (k + 1)
          have hle := sumTo_le List.length LL (k + 1)
          rw [hflat, List.length_append] at hln
          have hon := hone (LL.getD k []) (by simp [List.getD, hlt])
          obtain ⟨y, hy⟩ : ∃ y, y = LL.getD k [] := ⟨_, rfl⟩
          obtain ⟨x0, hx0⟩ : ∃ x0, x0 = (LL.take k).flatten := ⟨_, rfl⟩
          rw [← hy] at hc hsrc hln hflat hon
          rw [← hx0] at hown hln hflat
          have hb1 : x0.length + y.length ≤ 3145728 := by omega
          have HFl := hide hflat
          have HOw := hide hown
          have hbase := hw.size
          clear hln hle hflat hy hx0
          rcases hsrc with ⟨e1, e2, e3⟩ | ⟨p1, p2, e1, hcs⟩
          · rw [e1, e2, e3] at hc
            rw [e3, List.append_nil] at HFl
            rcases hown.2 with ⟨ev, h0⟩ | ⟨g, cp, cur, ev, hb0, hg, hnc, _, _, _⟩
            · subst ev
              simp only [List.length_nil] at hc
              clear hown
              go_wp2
              go_roundw
              case rel => exact ⟨k + 1, by omega, by go_num, by rw [HFl.out]; exact HOw.out, hw⟩
              case measure => simp [intOf]; omega
            · subst ev
              simp only [List.length_nil] at hc
              have hnc' : (x0.length : Int) ≤ (cp : Int) := by omega
              have hgl := heap_lt hg
              clear hown hg
              go_wp2
              go_roundw
              case rel => exact ⟨k + 1, by omega, by go_num, by rw [HFl.out]; exact HOw.out, hw⟩
              case measure => simp [intOf]; omega
          · rw [e1] at hc
            have hnw : ∀ j u, y[j]? = some u → wr.cell? ((⟨p1, p2, none⟩ : Addr).add j) = some u := fun j u hu => by
              rw [Addr.add_mid]
              exact hcs j u hu
            obtain ⟨i0, hi, hz0, hz1, hz2⟩ := info_parts Tryz.infoPtrB
            have HN2 := hide hnw
            have HON := hide hon
            obtain ⟨m, hm'⟩ : ∃ m, m = y.length := ⟨_, rfl⟩
            rw [← hm'] at hc
            have HM := hide hm'
            clear hnw hon hcs hown hm'
            go_wp2_with (at_builtin; refine wpList_append_own _ rfl (.tmp 31) (.tmp 32) 124 rfl w.heap.size 70 i0 _ 1 8 Tryz.underlying124 hi hz0 hz1 hz2 rfl (by decide) _ x0.length x0 rfl HOw.out ⟨p1, p2, none⟩ m (C k) y rfl (by have := HM.out; omega) HN2.out HON.out (by have := HM.out; unfold maxLen; omega) (by have := HM.out; omega) hbase ?_; intro v' w2 hown2 hgr _)
            go_roundw
            case rel => exact ⟨k + 1, by omega, by go_num, by rw [HFl.out, List.length_append, ← HM.out]; exact hown2, kept_of_grown hw (Nat.le_refl _) HOw.out hgr⟩
            case measure => simp [intOf]; omega
        · have hkl : k = LL.length := by omega
          subst hkl
          rw [List.take_length] at hown
          have HOw := hide hown
          clear hown
          go_wp2
          go_ret
          exact ⟨_, rfl, HOw.out, hw⟩
end Go.Proofs.YtghipdfemoofhaaGreatDoor
