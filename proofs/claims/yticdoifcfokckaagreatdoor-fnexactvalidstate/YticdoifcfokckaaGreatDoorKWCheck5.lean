import Derived.Test.YticdoifcfokckaaGreatDoorKOFind1
import Derived.Test.YticdoifcfokckaaGreatDoorKWGo6

/-
  WALKS: slices.BinarySearchFunc, find.
-/
namespace Go.Proofs.YticdoifcfokckaaGreatDoor
open Go.RowKit

theorem cmpD_neg {x y : List UInt8} : cmpD x y < 0 ↔ Op.bytesLess x y = true := by
  unfold cmpD
  by_cases h : Op.bytesLess x y = true
  · rw [if_pos h]; exact ⟨fun _ => h, fun _ => by omega⟩
  · rw [if_neg h]
    refine ⟨fun g => ?_, fun g => absurd g h⟩
    split at g <;> omega
theorem cmpD_zero {x y : List UInt8} : cmpD x y = 0 ↔ x = y := by
  unfold cmpD
  by_cases h : Op.bytesLess x y = true
  · rw [if_pos h]
    refine ⟨fun g => by omega, fun g => ?_⟩
    rw [g, less_irrefl] at h
    cases h
  · rw [if_neg h]
    by_cases e : x = y
    · rw [if_pos e]; exact ⟨fun _ => e, fun _ => rfl⟩
    · rw [if_neg e]; exact ⟨fun g => by omega, fun g => absurd g e⟩

/-- The place of a key, and whether it is there. -/
def Found (l : List NodeD) (key : List UInt8) (e : Ending) : Prop := ∃ (p : Nat) (f : Bool), e = .returned (.tuple #[.int .i64 p, .bool f]) ∧ Place l key p ∧ (f = true ↔ p < l.length ∧ nameAt l p = key)
theorem Found.mk {l : List NodeD} {key : List UInt8} {e : Ending} (p : Nat) (f : Bool) (h1 : e = .returned (.tuple #[.int .i64 p, .bool f])) (h2 : Place l key p) (h3 : f = true ↔ p < l.length ∧ nameAt l p = key) : Found l key e := ⟨p, f, h1, h2, h3⟩

set_option maxRecDepth 100000 in
set_option maxHeartbeats 1600000 in
theorem search_any (w : World) (g : Nat) (a : Option Addr) (cap : Nat) (l : List NodeD) (key : ByteArray) (hl : l.length ≤ 1048576) (hr : Rises l) (hg : g < w.heap.size) (hc : w.cell? ⟨g, 1, none⟩ = some (.func (.func 161) #[] #[])) (hS : Nodes w a l) :
    Calls Tryz.prog 187 #[.slice a l.length cap, .string key, .func (.func 188) #[] #[.pointer (some ⟨g, 0, none⟩)]] w
      fun e w' => Found l key.toList e ∧ Kept w w' := by
  have HRi := hide hr
  clear hr
  go_enter Tryz.func187, Tryz.ntmps187
  go_wp2
  go_loopw [9, 10] (fun x y wr => ∃ i j : Nat, x = .int .i64 i ∧ y = .int .i64 j ∧ i ≤ j ∧ j ≤ l.length ∧ (∀ t, t < i → Op.bytesLess (nameAt l t) key.toList = true) ∧ (∀ t, j ≤ t → t < l.length → Op.bytesLess (nameAt l t) key.toList = false) ∧ Kept w wr) (fun x y _ => (intOf y).toNat - (intOf x).toNat)
  case atStart => exact ⟨0, l.length, rfl, rfl, Nat.zero_le _, Nat.le_refl _, fun t ht => absurd ht (Nat.not_lt_zero _), fun t h1 h2 => by omega, Kept.refl _⟩
  case round =>
    obtain ⟨i, j, rfl, rfl, hij, hjn, hbe, hbh, hw⟩ := hrel
    have HB := hide (And.intro hbe hbh)
    clear hbe hbh
    by_cases hlt : (i : Int) < j
    · obtain ⟨h, hh⟩ : ∃ h : Nat, h = (i + j) / 2 := ⟨_, rfl⟩
      have hhlt : h < l.length := by omega
      have hhi : i ≤ h := by omega
      have hhj : h < j := by omega
      obtain ⟨b, o, cs, rfl, hb, hcs, aa, ca, rfl, hA⟩ := hS.kept hw h hhlt
      obtain ⟨d, hd⟩ : ∃ d, d = l.getD h NodeD.zero := ⟨_, rfl⟩
      rw [← hd] at hcs
      have HD := hide hd
      clear hd hA
      have c0 := hcs 0 _ rfl
      have c1 := hcs 1 _ rfl
      have c2 := hcs 2 _ rfl
      simp only [Nat.add_zero] at c0
      clear hcs
      have hmid : ((i : Int) + (j : Int)) / 2 = (h : Int) := by omega
      have HH := hide hh
      clear hh
      have hg' : g < wr.heap.size := Nat.lt_of_lt_of_le hg hw.size
      have hc' : wr.cell? ⟨g, 1, none⟩ = some (.func (.func 161) #[] #[]) := by rw [hw.cell hg]; exact hc
      go_wp2_with fail
      refine (findLit_any _ g d aa ca key hg' hc').mono ?_
      rintro e w1 ⟨rfl, k1⟩
      have hnm : nameAt l h = d.name.toList := by unfold nameAt; rw [← HD.out]
      have HC : Hid (cmpD d.name.toList key.toList < 0 ↔ Op.bytesLess (nameAt l h) key.toList = true) := by rw [hnm]; exact cmpD_neg
      clear c0 c1 c2 hnm
      generalize cmpD d.name.toList key.toList = r at *
      have hw1 := hw.trans k1
      clear hw k1
      by_cases hneg : r < 0
      · go_wp2
        go_roundw
        case rel =>
          obtain ⟨hbe, hbh⟩ := HB.out
          refine ⟨h + 1, j, by go_num, rfl, by omega, hjn, fun t ht => ?_, hbh, hw1⟩
          have hle := HC.out.1 hneg
          by_cases e : t = h
          · subst e; exact hle
          · exact less_trans _ _ _ (HRi.out t h (by omega) hhlt) hle
        case measure => simp [intOf]; omega
      · go_wp2
        go_roundw
        case rel =>
          obtain ⟨hbe, hbh⟩ := HB.out
          refine ⟨i, h, rfl, by go_num, hhi, by omega, hbe, fun t h1 h2 => ?_, hw1⟩
          have hle : Op.bytesLess (nameAt l h) key.toList = false := by
            cases hq : Op.bytesLess (nameAt l h) key.toList
            · rfl
            · have := HC.out.2 hq
              omega
          by_cases e : t = h
          · subst e; exact hle
          · cases hq : Op.bytesLess (nameAt l t) key.toList
            · rfl
            · rw [less_trans _ _ _ (HRi.out h t (by omega) h2) hq] at hle
              cases hle
        case measure => simp [intOf]; omega
    · have hij' : i = j := by omega
      subst hij'
      have HPl : Hid (Place l key.toList i) := ⟨hjn, HB.out.1, HB.out.2⟩
      clear HB
      by_cases hin : i < l.length
      · obtain ⟨b, o, cs, rfl, hb, hcs, aa, ca, rfl, hA⟩ := hS.kept hw i hin
        obtain ⟨d, hd⟩ : ∃ d, d = l.getD i NodeD.zero := ⟨_, rfl⟩
        rw [← hd] at hcs
        have HD := hide hd
        clear hd hA
        have c0 := hcs 0 _ rfl
        have c1 := hcs 1 _ rfl
        have c2 := hcs 2 _ rfl
        simp only [Nat.add_zero] at c0
        clear hcs
        have hg' : g < wr.heap.size := Nat.lt_of_lt_of_le hg hw.size
        have hc' : wr.cell? ⟨g, 1, none⟩ = some (.func (.func 161) #[] #[]) := by rw [hw.cell hg]; exact hc
        have hin' : (i : Int) < l.length := by omega
        go_wp2_with fail
        refine (findLit_any _ g d aa ca key hg' hc').mono ?_
        rintro e w1 ⟨rfl, k1⟩
        have hnm : nameAt l i = d.name.toList := by unfold nameAt; rw [← HD.out]
        have HC : Hid (cmpD d.name.toList key.toList = 0 ↔ nameAt l i = key.toList) := by rw [hnm]; exact cmpD_zero
        clear c0 c1 c2 hnm
        generalize cmpD d.name.toList key.toList = r at *
        have hw1 := hw.trans k1
        clear hw k1
        go_wp2
        go_ret2
        refine ⟨Found.mk i _ rfl HPl.out ?_, hw1⟩
        rw [← HC.out]
        simp [hin]
      · have hin' : ¬ (i : Int) < l.length := by omega
        go_wp2
        go_ret2
        exact ⟨Found.mk i false rfl HPl.out (by simp; intro h; exact absurd h hin), hw⟩

set_option maxRecDepth 100000 in
set_option maxHeartbeats 800000 in
theorem find_any (w : World) (a : Option Addr) (cap : Nat) (l : List NodeD) (key : ByteArray) (hl : l.length ≤ 1048576) (hr : Rises l) (hS : Nodes w a l) :
    Calls Tryz.prog 162 #[.agg #[.slice a l.length cap, .func (.func 161) #[] #[]], .string key] w
      fun e w' => Found l key.toList e ∧ Kept w w' := by
  have k0 : Kept w (w.alloc (.cells #[.slice a l.length cap, .func (.func 161) #[] #[]] 127)) := (Kept.refl _).alloc _
  go_enter Tryz.func162, Tryz.ntmps162
  go_wp2_with fail
  refine (search_any _ w.heap.size a cap l key hl hr (by simp) (by simp) (hS.kept k0)).mono ?_
  rintro e w1 ⟨hfo, k1⟩
  obtain ⟨p, f, rfl, hp, hf⟩ := hfo
  have HP := hide hp
  have HF := hide hf
  clear hp hf
  go_wp2
  go_ret2
  exact ⟨Found.mk p f rfl HP.out HF.out, k0.trans k1⟩

end Go.Proofs.YticdoifcfokckaaGreatDoor

/-
  THE WALK over laws.FnExactCheckWeb.
-/
namespace Go.Proofs.YticdoifcfokckaaGreatDoor
open Go.RowKit

/-- What the purse pays for is small. -/
theorem small_of_szN {l : List NodeD} {n : Nat} (h : szNodesD l ≤ n) : l.length ≤ n ∧ ∀ s ∈ l, s.steps.length ≤ n ∧ ∀ x ∈ s.steps, x.asks.length ≤ n ∧ x.cases.length ≤ n := by
  unfold szNodesD at h
  refine ⟨by omega, fun s hs => ?_⟩
  have h1 := le_sum szNodeD hs
  have h2 : szNodeD s = s.name.size + szSteps s.steps := rfl
  have h3 := small_of_sz (l := s.steps) (n := n) (by omega)
  exact h3

theorem boxCell {w wi : World} {x : Value} {t : TypeId} (K : Kept (w.alloc (.cells #[x] t)) wi) : wi.cell? ⟨w.heap.size, 0, none⟩ = some x := by
  rw [K.cell (by simp)]; simp

end Go.Proofs.YticdoifcfokckaaGreatDoor
