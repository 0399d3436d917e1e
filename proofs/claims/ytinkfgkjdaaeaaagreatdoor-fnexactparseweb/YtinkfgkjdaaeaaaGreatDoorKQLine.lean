import Derived.Test.YtinkfgkjdaaeaaaGreatDoorKJAskO
import Derived.Test.YtinkfgkjdaaeaaaGreatDoorKJEnv

namespace Go.Proofs.YtinkfgkjdaaeaaaGreatDoor
open Go.RowKit

def OpenEnd (src : List UInt8) (w w' : World) (e : Ending) : Prop :=
  Kept w w' ∧ ((∃ t p, e = .returned (.tuple #[.pointer none, .iface t p]) ∧ (100000 < src.length ∨ ¬ ∃ L, cuts 10 src = L ++ [[]]))
    ∨ (∃ rb lb cap L, e = .returned (.tuple #[.pointer (some ⟨rb, 0, none⟩), .nilIface]) ∧ src.length ≤ 100000 ∧ cuts 10 src = L ++ [[]] ∧ Rdr w' rb lb cap L 0 ∧ w.heap.size ≤ rb))

theorem last_empty {X : List (List UInt8)} {n : Nat} (hn : X.length = n + 1) (h : X.getD n [] = []) : X = X.take n ++ [[]] := by
  have hl : n < X.length := by omega
  have e := List.take_append_drop n X
  rw [List.drop_eq_getElem_cons hl, List.drop_eq_nil_of_le (by omega)] at e
  have : X[n] = [] := by simpa [List.getD, hl] using h
  rw [this] at e
  exact e.symm
theorem last_other {X : List (List UInt8)} {n : Nat} (hn : X.length = n + 1) (h : X.getD n [] ≠ []) : ¬ ∃ L, X = L ++ [[]] := by
  rintro ⟨L, rfl⟩
  apply h
  have : L.length = n := by simpa using hn
  subst this
  simp [List.getD]

set_option maxRecDepth 100000 in
set_option maxHeartbeats 1600000 in
theorem readerOf_long (w : World) (src : List UInt8) (hl : src.length ≤ 2000000) (h : 100000 < src.length) {po : Addr} (hE : Env po w) :
    Calls Tryz.prog 12 #[.string (toB src)] w fun e w' => OpenEnd src w w' e := by
  obtain ⟨p, hp⟩ := hE.siz
  have c0 := hp.2.1
  have hz : ((toB src).size : Int) = src.length := by rw [toB_size]
  have hgt : (100000 : Int) < ((toB src).size : Int) := by omega
  clear hE hp hz
  go_enter Tryz.func12, Tryz.ntmps12
  go_wp2
  go_region
  go_wp2
  go_ret2
  exact ⟨(Kept.refl w).drew, .inl ⟨_, _, rfl, .inl h⟩⟩

set_option maxRecDepth 100000 in
set_option maxHeartbeats 1600000 in
theorem readerOf_ends (w : World) (src : List UInt8) (h : src.length ≤ 100000) {po : Addr} (hE : Env po w) (hl0 : ∀ n, (cuts 10 src).length = n + 1 → (cuts 10 src).getD n [] = []) :
    Calls Tryz.prog 12 #[.string (toB src)] w fun e w' => OpenEnd src w w' e := by
  obtain ⟨p, hp⟩ := hE.las
  have HP := hide hp
  have HE := hide hE
  have hz : ((toB src).size : Int) = src.length := by rw [toB_size]
  have hgt : ¬ (100000 : Int) < ((toB src).size : Int) := by omega
  obtain ⟨hc1, hc2⟩ := (⟨cuts_len 10 src, cuts_count 10 src⟩ : (∀ x ∈ cuts 10 src, x.length ≤ src.length) ∧ (cuts 10 src).length ≤ src.length + 1)
  have HCL := hide hc1
  have hne := cuts_ne 10 src
  have hpos : 1 ≤ (cuts 10 src).length := Nat.pos_of_ne_zero (by simpa using hne)
  clear hE hp hz hc1
  go_enter Tryz.func12, Tryz.ntmps12
  go_wp2_with fail
  refine (split_any w (toB src) (by rw [toB_size]; omega) 10 HE.out).mono ?_
  rintro e w1 ⟨rfl, hw1⟩
  rw [show (toB src).data.toList = src from rfl] at hw1 ⊢
  have HST : Hid (∀ i, i < (cuts 10 src).length → w1.cell? ⟨w.heap.size, i, none⟩ = some (.string (toB ((cuts 10 src).getD i [])))) := fun i hi => by rw [hw1]; exact row_strs w _ i hi
  have k1 : Kept w w1 := by rw [hw1]; exact (Kept.refl _).alloc _
  have HL1 : Hid (w.heap.size < w1.heap.size) := by show _ < _; rw [hw1]; simp
  clear hw1
  have HX : Hid (∃ X, X = cuts 10 src) := ⟨_, rfl⟩
  obtain ⟨X, hX⟩ := HX.out
  rw [← hX] at HST HCL hc2 hne hpos hl0 ⊢
  have HXe := hide hX
  clear hX HX
  obtain ⟨n, hn⟩ : ∃ n : Nat, X.length = n + 1 := ⟨X.length - 1, by omega⟩
  have HN := hide hn
  have c0 := HST.out n (by omega)
  have HE1 := hide (HE.out.kept k1)
  have hnb : n ≤ 100000 := by omega
  rw [hn]
  have hlast := hl0 n HN.out
  clear hn hpos hne hc2 hl0
  rw [hlast] at c0
  have e0 : ((toB []).toList == []) = true := by rw [toB_beq]; rfl
  have HXt := hide (last_empty HN.out hlast)
  clear hlast
  have HR : Hid (∀ W : World, W = w1.alloc (.cells #[.slice (some ⟨w.heap.size, 0, none⟩) n (n + 1), .int .i64 0] 71) → Rdr W w1.heap.size w.heap.size (n + 1) (X.take n) 0) := by
    rintro W rfl
    have hlen : (X.take n).length = n := by rw [List.length_take, HN.out]; omega
    have kk : Kept w1 (w1.alloc (.cells #[.slice (some ⟨w.heap.size, 0, none⟩) n (n + 1), .int .i64 0] 71)) := (Kept.refl _).alloc _
    refine ⟨RowT.made w1 _ _, ?_, ?_, ?_, ?_, fun i hi => ?_, by omega, fun l hl => ?_, by omega⟩
    · rw [hlen]; exact range_new w1 #[.slice (some ⟨w.heap.size, 0, none⟩) n (n + 1), .int .i64 0] 71 0 _ rfl
    · exact range_new w1 #[.slice (some ⟨w.heap.size, 0, none⟩) n (n + 1), .int .i64 0] 71 1 _ rfl
    · exact Nat.lt_of_lt_of_le HL1.out kk.size
    · have := HL1.out; omega
    · rw [hlen] at hi
      rw [kk.cell HL1.out, HST.out i (by rw [HN.out]; omega)]
      simp [List.getD, hi]
    · have := HCL.out l (List.mem_of_mem_take hl)
      omega
  go_wp2
  go_ret2
  refine ⟨k1.trans ((Kept.refl _).alloc _), .inr ⟨w1.heap.size, w.heap.size, n + 1, X.take n, rfl, h, HXe.out.symm.trans HXt.out, HR.out _ rfl, Nat.le_of_lt HL1.out⟩⟩

set_option maxRecDepth 100000 in
set_option maxHeartbeats 1600000 in
theorem readerOf_open (w : World) (src : List UInt8) (h : src.length ≤ 100000) {po : Addr} (hE : Env po w) (hl0 : ∀ n, (cuts 10 src).length = n + 1 → (cuts 10 src).getD n [] ≠ []) :
    Calls Tryz.prog 12 #[.string (toB src)] w fun e w' => OpenEnd src w w' e := by
  obtain ⟨p, hp⟩ := hE.las
  have HP := hide hp
  have HE := hide hE
  have hz : ((toB src).size : Int) = src.length := by rw [toB_size]
  have hgt : ¬ (100000 : Int) < ((toB src).size : Int) := by omega
  obtain ⟨hc1, hc2⟩ := (⟨cuts_len 10 src, cuts_count 10 src⟩ : (∀ x ∈ cuts 10 src, x.length ≤ src.length) ∧ (cuts 10 src).length ≤ src.length + 1)
  have HCL := hide hc1
  have hne := cuts_ne 10 src
  have hpos : 1 ≤ (cuts 10 src).length := Nat.pos_of_ne_zero (by simpa using hne)
  clear hE hp hz hc1
  go_enter Tryz.func12, Tryz.ntmps12
  go_wp2_with fail
  refine (split_any w (toB src) (by rw [toB_size]; omega) 10 HE.out).mono ?_
  rintro e w1 ⟨rfl, hw1⟩
  rw [show (toB src).data.toList = src from rfl] at hw1 ⊢
  have HST : Hid (∀ i, i < (cuts 10 src).length → w1.cell? ⟨w.heap.size, i, none⟩ = some (.string (toB ((cuts 10 src).getD i [])))) := fun i hi => by rw [hw1]; exact row_strs w _ i hi
  have k1 : Kept w w1 := by rw [hw1]; exact (Kept.refl _).alloc _
  have HL1 : Hid (w.heap.size < w1.heap.size) := by show _ < _; rw [hw1]; simp
  clear hw1
  have HX : Hid (∃ X, X = cuts 10 src) := ⟨_, rfl⟩
  obtain ⟨X, hX⟩ := HX.out
  rw [← hX] at HST HCL hc2 hne hpos hl0 ⊢
  have HXe := hide hX
  clear hX HX
  obtain ⟨n, hn⟩ : ∃ n : Nat, X.length = n + 1 := ⟨X.length - 1, by omega⟩
  have HN := hide hn
  have c0 := HST.out n (by omega)
  have HE1 := hide (HE.out.kept k1)
  have hnb : n ≤ 100000 := by omega
  rw [hn]
  have hlast := hl0 n HN.out
  clear hn hpos hne hc2 hl0
  have e0 : ((toB (X.getD n [])).toList == []) = false := by rw [toB_beq]; exact decide_eq_false hlast
  have HNo := hide (last_other HN.out hlast)
  have q0 := (HP.out.kept k1).2.1
  clear hlast
  generalize X.getD n [] = line at *
  go_wp2
  go_region
  all_goals
    go_wp2
    go_ret2
    refine ⟨?_, .inl ⟨_, _, rfl, .inr ?_⟩⟩
    · exact Kept.trans k1 (by repeat (first | apply Kept.alloc | apply Kept.drew | exact Kept.refl _))
    · rw [← HXe.out]
      exact HNo.out

theorem readerOf_short (w : World) (src : List UInt8) (h : src.length ≤ 100000) {po : Addr} (hE : Env po w) :
    Calls Tryz.prog 12 #[.string (toB src)] w fun e w' => OpenEnd src w w' e := by
  by_cases hlast : (cuts 10 src).getD ((cuts 10 src).length - 1) [] = []
  · exact readerOf_ends w src h hE (fun n hn => by rw [hn, Nat.add_sub_cancel] at hlast; exact hlast)
  · exact readerOf_open w src h hE (fun n hn => by rw [hn, Nat.add_sub_cancel] at hlast; exact hlast)

theorem readerOf_any (w : World) (src : List UInt8) (hl : src.length ≤ 2000000) {po : Addr} (hE : Env po w) :
    Calls Tryz.prog 12 #[.string (toB src)] w fun e w' => OpenEnd src w w' e := by
  by_cases h : 100000 < src.length
  · exact readerOf_long w src hl h hE
  · exact readerOf_short w src (by omega) hE

end Go.Proofs.YtinkfgkjdaaeaaaGreatDoor

namespace Go.Proofs.YtinkfgkjdaaeaaaGreatDoor
open Go.RowKit

end Go.Proofs.YtinkfgkjdaaeaaaGreatDoor
