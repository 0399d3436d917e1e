import Derived.Test.YtinkfgkjdaaeaaaGreatDoorKQPlain
import Derived.Test.YtinkfgkjdaaeaaaGreatDoorKOOrder
import Derived.Laws.BytesArg

namespace Go.Proofs.YtinkfgkjdaaeaaaGreatDoor
open Go.RowKit

theorem convAt (g : Nat) (x : Int) (w : World) (hc : w.cell? ⟨g, 0, none⟩ = some (.int .u8 x)) : (convert 63 9 (.slice (some ⟨g, 0, none⟩) 1 1)).run Tryz.prog w = .ok (.string (strOfNums [x])) w :=
  run_convert_bytes_arg (P := Tryz.prog) _ 63 5 Tryz.underlying63 Tryz.underlying5 g 0 1 1 [x] rfl (fun i hi => by
      obtain rfl : i = 0 := by omega
      rw [Nat.zero_add, hc]; rfl) 9 Tryz.underlying9

theorem decL_one (n : Nat) (hn : n < 10) : strOfNums [48 + (n : Int)] = ⟨(decL (n : Int)).toArray⟩ := by
  apply ba_ext
  rw [strOfNums_data]
  have : ∀ m : Fin 10, ([48 + (m.val : Int)].map fun x => UInt8.ofNat x.toNat) = decL (m.val : Int) := by decide +kernel
  exact this ⟨n, hn⟩

theorem dec_len1 : ∀ a : Fin 10, (decL (a.val : Int)).length = 1 := by decide +kernel
theorem dec_join : ∀ a b : Fin 10, a.val ≠ 0 → decL ((10 * a.val + b.val : Nat) : Int) = decL (a.val : Int) ++ [UInt8.ofNat (48 + b.val)] := by decide +kernel

set_option maxRecDepth 100000 in
set_option maxHeartbeats 1600000 in
theorem dec_one (w : World) (n : Nat) (hn : n < 10) : Calls Tryz.prog 26 #[.int .i64 (n : Int)] w fun e w' => (∃ d : ByteArray, e = .returned (.string d) ∧ d.data.toList = decL (n : Int) ∧ d.size ≤ 2) ∧ Kept w w' := by
  have h1 : (n : Int) < 10 := by omega
  have hc := convAt w.heap.size (48 + (n : Int)) (w.alloc (.cells #[.int .u8 (48 + (n : Int))] 5)) (by rw [World.cell?_alloc_mark]; rfl)
  obtain ⟨d, hd⟩ : ∃ d, d = strOfNums [48 + (n : Int)] := ⟨_, rfl⟩
  rw [← hd] at hc
  have HD : Hid (d.data.toList = decL (n : Int)) := by show _ = _; rw [hd, decL_one n hn]
  have hds : d.size ≤ 2 := by rw [hd, strOfNums_size]; show 1 ≤ 2; omega
  clear hd
  go_enter Tryz.func26, Tryz.ntmps26
  go_wp2
  go_ret
  exact ⟨⟨d, rfl, HD.out, hds⟩, (Kept.refl w).alloc _⟩

set_option maxRecDepth 100000 in
set_option maxHeartbeats 3200000 in
theorem dec_two (w : World) (n : Nat) (h10 : 10 ≤ n) (hn : n < 100) : Calls Tryz.prog 26 #[.int .i64 (n : Int)] w fun e w' => (∃ d : ByteArray, e = .returned (.string d) ∧ d.data.toList = decL (n : Int) ∧ d.size ≤ 2) ∧ Kept w w' := by
  have h1 : ¬ (n : Int) < 10 := by omega
  obtain ⟨q, hq⟩ : ∃ q, q = n / 10 := ⟨_, rfl⟩
  obtain ⟨r, hr⟩ : ∃ r, r = n % 10 := ⟨_, rfl⟩
  have hq9 : q < 10 := by omega
  have hr9 : r < 10 := by omega
  have hq' : (n : Int) / 10 = (q : Int) := by omega
  have hr' : (n : Int).tmod 10 = (r : Int) := by rw [Int.tmod_eq_emod_of_nonneg (by omega)]; omega
  have hwq : IntKind.i64.wrap (q : Int) = (q : Int) := by rw [IntKind.wrap_i64]; omega
  have hw1 : IntKind.i64.wrap (48 + (r : Int)) = 48 + (r : Int) := by rw [IntKind.wrap_i64]; omega
  have hw2 : IntKind.u8.wrap (48 + (r : Int)) = 48 + (r : Int) := by rw [IntKind.wrap_u8]; omega
  have HE : Hid (decL (n : Int) = decL (q : Int) ++ [UInt8.ofNat (48 + r)]) := by
    show _ = _
    have h := dec_join ⟨q, hq9⟩ ⟨r, hr9⟩ (by show q ≠ 0; omega)
    rw [show (n : Int) = ((10 * q + r : Nat) : Int) by omega]
    exact h
  obtain ⟨x1, hx1⟩ : ∃ x1, x1 = strOfNums [48 + (r : Int)] := ⟨_, rfl⟩
  have HX : Hid (x1.data.toList = [UInt8.ofNat (48 + r)]) := by show _ = _; rw [hx1, strOfNums_data]; show [UInt8.ofNat (48 + (r : Int)).toNat] = _; rw [show (48 + (r : Int)).toNat = 48 + r by omega]
  have hx1s : x1.size ≤ 1 := by rw [hx1, strOfNums_size]; exact Nat.le_refl 1
  have HCv : Hid (∀ (g : Nat) (w : World), w.cell? ⟨g, 0, none⟩ = some (.int .u8 (48 + (r : Int))) → (convert 63 9 (.slice (some ⟨g, 0, none⟩) 1 1)).run Tryz.prog w = .ok (.string x1) w) := fun g w h => by rw [hx1]; exact convAt g _ w h
  clear hx1
  clear hq hr
  go_enter Tryz.func26, Tryz.ntmps26
  go_wp2
  refine UpTo.region (by kernel_rfl) (fun _ => True) 10 trivial (fun hHeld => ?_)
  have KD : Hid (Kept w w.drew) := (Kept.refl w).drew
  generalize hwd : w.drew = wd at KD ⊢
  clear hwd
  refine UpTo.take 0 [1, 2, 9, 10] (v := ?_) (by (simp only [List.getElem?_toArray, List.getElem?_cons_zero]; rfl)) (by kernel_rfl) (by kernel_rfl) (by kernel_rfl) (by kernel_rfl) (by exact fun _ _ _ h => h) (Or.inl ⟨by rfl, ?_⟩) hHeld ?_
  rotate_left
  · intro u hu
    try dsimp only at hu
    go_simp
    try with_reducible rfl
  try simp only [Act.put, List.setIfInBounds_toArray, List.set_cons_zero, List.set_cons_succ]
  refine UpTo.take 1 [2, 9, 10] (v := ?_) (by (simp only [List.getElem?_toArray, List.getElem?_cons_succ, List.getElem?_cons_zero]; rfl)) (by kernel_rfl) (by kernel_rfl) (by kernel_rfl) (by kernel_rfl) (by exact fun _ _ _ h => h) (Or.inl ⟨by rfl, ?_⟩) hHeld ?_
  rotate_left
  · intro u hu
    try dsimp only at hu
    go_simp
    try with_reducible rfl
  try simp only [Act.put, List.setIfInBounds_toArray, List.set_cons_zero, List.set_cons_succ]
  refine UpTo.take 3 [4, 5, 6, 7, 8, 9, 10] (v := ?_) (by (simp only [List.getElem?_toArray, List.getElem?_cons_succ, List.getElem?_cons_zero]; rfl)) (by kernel_rfl) (by kernel_rfl) (by kernel_rfl) (by kernel_rfl) (by exact fun _ _ _ h => h) (Or.inl ⟨by rfl, ?_⟩) hHeld ?_
  rotate_left
  · intro u hu
    try dsimp only at hu
    go_simp
    try with_reducible rfl
  try simp only [Act.put, List.setIfInBounds_toArray, List.set_cons_zero, List.set_cons_succ]
  refine UpTo.take 4 [5, 6, 7, 8, 9, 10] (v := ?_) (by (simp only [List.getElem?_toArray, List.getElem?_cons_succ, List.getElem?_cons_zero]; rfl)) (by kernel_rfl) (by kernel_rfl) (by kernel_rfl) (by kernel_rfl) (by exact fun _ _ _ h => h) (Or.inl ⟨by rfl, ?_⟩) hHeld ?_
  rotate_left
  · intro u hu
    try dsimp only at hu
    go_simp
    try with_reducible rfl
  try simp only [Act.put, List.setIfInBounds_toArray, List.set_cons_zero, List.set_cons_succ]
  refine UpTo.take 5 [6, 7, 8, 9, 10] (v := ?_) (by (simp only [List.getElem?_toArray, List.getElem?_cons_succ, List.getElem?_cons_zero]; rfl)) (by kernel_rfl) (by kernel_rfl) (by kernel_rfl) (by kernel_rfl) (by exact fun _ _ _ h => h) (Or.inl ⟨by rfl, ?_⟩) hHeld ?_
  rotate_left
  · intro u hu
    try dsimp only at hu
    go_simp
    try with_reducible rfl
  try simp only [Act.put, List.setIfInBounds_toArray, List.set_cons_zero, List.set_cons_succ]
  refine UpTo.take 6 [7, 8, 9, 10] (v := ?_) (by (simp only [List.getElem?_toArray, List.getElem?_cons_succ, List.getElem?_cons_zero]; rfl)) (by kernel_rfl) (by kernel_rfl) (by kernel_rfl) (by kernel_rfl) (by exact fun _ _ _ h => h) (Or.inl ⟨by rfl, ?_⟩) hHeld ?_
  rotate_left
  · intro u hu
    try dsimp only at hu
    go_simp
    try with_reducible rfl
  try simp only [Act.put, List.setIfInBounds_toArray, List.set_cons_zero, List.set_cons_succ]
  refine UpTo.two 2 7 (by kernel_rfl) (by (simp only [List.getElem?_toArray, List.getElem?_cons_succ, List.getElem?_cons_zero]; rfl)) (by (simp only [List.getElem?_toArray, List.getElem?_cons_succ, List.getElem?_cons_zero]; rfl)) (fun K hK => ?_) (fun K hK => ?_)
  · rw [if_pos (by rfl)]
    go_simp
    go_at_call 26
    refine (dec_one _ q hq9).mono ?_
    rintro e w2 ⟨⟨d, rfl, hd, hds⟩, k2⟩
    have HDq := hide hd
    clear hd
    dsimp only
    have K2 := hide k2
    have hz2 := k2.size
    clear k2
    refine hK.out _ _ (fun _ => trivial) ?_
    clear hK K
    try simp only [Act.put, List.setIfInBounds_toArray, List.set_cons_zero, List.set_cons_succ]
    refine UpTo.next 7 (by kernel_rfl) (by (simp only [List.getElem?_toArray, List.getElem?_cons_succ, List.getElem?_cons_zero]; rfl)) (fun K hK => ?_)
    rw [if_pos (by rfl)]
    go_simp
    refine hK.out _ _ (fun _ => trivial) ?_
    clear hK K
    try simp only [Act.put, List.setIfInBounds_toArray, List.set_cons_zero, List.set_cons_succ]
    have hcv := HCv.out w2.heap.size (w2.alloc (.cells #[.int .u8 (48 + (r : Int))] 5)) (by rw [World.cell?_alloc_mark]; rfl)
    refine UpTo.next 8 (by kernel_rfl) (by (simp only [List.getElem?_toArray, List.getElem?_cons_succ, List.getElem?_cons_zero]; rfl)) (fun K hK => ?_)
    rw [if_pos (by rfl)]
    go_simp
    refine hK.out _ _ (fun _ => trivial) ?_
    clear hK K
    try simp only [Act.put, List.setIfInBounds_toArray, List.set_cons_zero, List.set_cons_succ]
    refine UpTo.next 9 (by kernel_rfl) (by (simp only [List.getElem?_toArray, List.getElem?_cons_succ, List.getElem?_cons_zero]; rfl)) (fun K hK => ?_)
    rw [if_pos (by rfl)]
    go_simp
    rw [if_neg (by omega), Oper.upon_value]
    refine hK.out _ _ (fun _ => trivial) ?_
    clear hK K
    try simp only [Act.put, List.setIfInBounds_toArray, List.set_cons_zero, List.set_cons_succ]
    refine UpTo.next 10 (by kernel_rfl) (by (simp only [List.getElem?_toArray, List.getElem?_cons_succ, List.getElem?_cons_zero]; rfl)) (fun K hK => ?_)
    rw [if_pos (by rfl)]
    go_simp
    refine hK.out _ _ (fun h => absurd rfl h) ?_
    clear hK K
    try simp only [Act.put, List.setIfInBounds_toArray, List.set_cons_zero, List.set_cons_succ]
    refine UpTo.done (by kernel_rfl) ?_
    go_wp2
    go_ret
    exact ⟨⟨_, rfl, by rw [ba_append, HDq.out, HX.out, HE.out], by rw [ByteArray.size_append]; have h9 := congrArg List.length HDq.out; have h8 := dec_len1 ⟨q, hq9⟩; rw [h8] at h9; rw [show d.data.toList.length = d.size by simp] at h9; omega⟩, Kept.trans KD.out (Kept.trans K2.out ((Kept.refl w2).alloc _))⟩
  · rw [if_pos (by rfl)]
    go_simp
    have HA : Hid ((wd.alloc (.cells #[.int .u8 (48 + (r : Int))] 5)).cell? ⟨wd.heap.size, 0, none⟩ = some (.int .u8 (48 + (r : Int)))) := by show _ = _; rw [World.cell?_alloc_mark]; rfl
    have hcz : wd.heap.size < (wd.alloc (.cells #[.int .u8 (48 + (r : Int))] 5)).heap.size := by simp
    refine hK.out _ _ (fun _ => trivial) ?_
    clear hK K
    try simp only [Act.put, List.setIfInBounds_toArray, List.set_cons_zero, List.set_cons_succ]
    have KA : Hid (Kept wd (wd.alloc (.cells #[.int .u8 (48 + (r : Int))] 5))) := (Kept.refl wd).alloc _
    generalize hwa : (wd.alloc (.cells #[.int .u8 (48 + (r : Int))] 5)) = wa at HA hcz KA ⊢
    clear hwa
    refine UpTo.two 2 8 (by kernel_rfl) (by (simp only [List.getElem?_toArray, List.getElem?_cons_succ, List.getElem?_cons_zero]; rfl)) (by (simp only [List.getElem?_toArray, List.getElem?_cons_succ, List.getElem?_cons_zero]; rfl)) (fun K hK => ?_) (fun K hK => ?_)
    · rw [if_pos (by rfl)]
      go_simp
      go_at_call 26
      refine (dec_one _ q hq9).mono ?_
      rintro e w2 ⟨⟨d, rfl, hd, hds⟩, k2⟩
      have HDq := hide hd
      clear hd
      dsimp only
      have K2 := hide k2
      have hz2 := k2.size
      clear k2
      refine hK.out _ _ (fun _ => trivial) ?_
      clear hK K
      try simp only [Act.put, List.setIfInBounds_toArray, List.set_cons_zero, List.set_cons_succ]
      have hcv := HCv.out wd.heap.size w2 ((K2.out.cell hcz).trans HA.out)
      refine UpTo.next 8 (by kernel_rfl) (by (simp only [List.getElem?_toArray, List.getElem?_cons_succ, List.getElem?_cons_zero]; rfl)) (fun K hK => ?_)
      rw [if_pos (by rfl)]
      go_simp
      refine hK.out _ _ (fun _ => trivial) ?_
      clear hK K
      try simp only [Act.put, List.setIfInBounds_toArray, List.set_cons_zero, List.set_cons_succ]
      refine UpTo.next 9 (by kernel_rfl) (by (simp only [List.getElem?_toArray, List.getElem?_cons_succ, List.getElem?_cons_zero]; rfl)) (fun K hK => ?_)
      rw [if_pos (by rfl)]
      go_simp
      rw [if_neg (by omega), Oper.upon_value]
      refine hK.out _ _ (fun _ => trivial) ?_
      clear hK K
      try simp only [Act.put, List.setIfInBounds_toArray, List.set_cons_zero, List.set_cons_succ]
      refine UpTo.next 10 (by kernel_rfl) (by (simp only [List.getElem?_toArray, List.getElem?_cons_succ, List.getElem?_cons_zero]; rfl)) (fun K hK => ?_)
      rw [if_pos (by rfl)]
      go_simp
      refine hK.out _ _ (fun h => absurd rfl h) ?_
      clear hK K
      try simp only [Act.put, List.setIfInBounds_toArray, List.set_cons_zero, List.set_cons_succ]
      refine UpTo.done (by kernel_rfl) ?_
      go_wp2
      go_ret
      exact ⟨⟨_, rfl, by rw [ba_append, HDq.out, HX.out, HE.out], by rw [ByteArray.size_append]; have h9 := congrArg List.length HDq.out; have h8 := dec_len1 ⟨q, hq9⟩; rw [h8] at h9; rw [show d.data.toList.length = d.size by simp] at h9; omega⟩, Kept.trans KD.out (Kept.trans KA.out K2.out)⟩
    · have hcv := HCv.out wd.heap.size wa HA.out
      rw [if_pos (by rfl)]
      go_simp
      refine hK.out _ _ (fun _ => trivial) ?_
      clear hK K
      try simp only [Act.put, List.setIfInBounds_toArray, List.set_cons_zero, List.set_cons_succ]
      refine UpTo.next 2 (by kernel_rfl) (by (simp only [List.getElem?_toArray, List.getElem?_cons_succ, List.getElem?_cons_zero]; rfl)) (fun K hK => ?_)
      rw [if_pos (by rfl)]
      go_simp
      go_at_call 26
      refine (dec_one _ q hq9).mono ?_
      rintro e w2 ⟨⟨d, rfl, hd, hds⟩, k2⟩
      have HDq := hide hd
      clear hd
      dsimp only
      have K2 := hide k2
      have hz2 := k2.size
      clear k2
      refine hK.out _ _ (fun _ => trivial) ?_
      clear hK K
      try simp only [Act.put, List.setIfInBounds_toArray, List.set_cons_zero, List.set_cons_succ]
      refine UpTo.next 9 (by kernel_rfl) (by (simp only [List.getElem?_toArray, List.getElem?_cons_succ, List.getElem?_cons_zero]; rfl)) (fun K hK => ?_)
      rw [if_pos (by rfl)]
      go_simp
      rw [if_neg (by omega), Oper.upon_value]
      refine hK.out _ _ (fun _ => trivial) ?_
      clear hK K
      try simp only [Act.put, List.setIfInBounds_toArray, List.set_cons_zero, List.set_cons_succ]
      refine UpTo.next 10 (by kernel_rfl) (by (simp only [List.getElem?_toArray, List.getElem?_cons_succ, List.getElem?_cons_zero]; rfl)) (fun K hK => ?_)
      rw [if_pos (by rfl)]
      go_simp
      refine hK.out _ _ (fun h => absurd rfl h) ?_
      clear hK K
      try simp only [Act.put, List.setIfInBounds_toArray, List.set_cons_zero, List.set_cons_succ]
      refine UpTo.done (by kernel_rfl) ?_
      go_wp2
      go_ret
      exact ⟨⟨_, rfl, by rw [ba_append, HDq.out, HX.out, HE.out], by rw [ByteArray.size_append]; have h9 := congrArg List.length HDq.out; have h8 := dec_len1 ⟨q, hq9⟩; rw [h8] at h9; rw [show d.data.toList.length = d.size by simp] at h9; omega⟩, Kept.trans KD.out (Kept.trans KA.out K2.out)⟩

theorem dec_any (w : World) (n : Int) (h0 : -1 ≤ n) (h1 : n < 100) : Calls Tryz.prog 26 #[.int .i64 n] w fun e w' => (∃ d : ByteArray, e = .returned (.string d) ∧ d.data.toList = decL n ∧ d.size ≤ 2) ∧ Kept w w' := by
  by_cases hm : n = -1
  · subst hm
    go_enter Tryz.func26, Tryz.ntmps26
    go_wp2
    go_ret
    exact ⟨⟨_, rfl, rfl, by decide⟩, Kept.refl _⟩
  · obtain ⟨m, rfl⟩ : ∃ m : Nat, n = m := ⟨n.toNat, by omega⟩
    by_cases h10 : m < 10
    · exact dec_one w m h10
    · exact dec_two w m (by omega) (by omega)

set_option maxRecDepth 100000 in
set_option maxHeartbeats 1600000 in
theorem names_any (w : World) (a : Option Addr) (cap : Nat) (l : List ByteArray) (hl : l.length ≤ 5) (h20 : ∀ i, i < l.length → (l.getD i ByteArray.empty).size ≤ 20) (hS : Strs w a l) :
    Calls Tryz.prog 46 #[.slice a l.length cap] w fun e w' => (∃ d : ByteArray, e = .returned (.string d) ∧ d.data.toList = namesL l ∧ d.size ≤ 105) ∧ w' = w := by
  by_cases h0 : (l.length : Int) = 0
  · have hb : ((l.length : Int) == 0) = true := by simpa using h0
    have HN : Hid (namesL l = [45]) := if_pos (by omega)
    go_enter Tryz.func46, Tryz.ntmps46
    go_wp2
    go_ret
    exact ⟨⟨_, rfl, by rw [HN.out], by decide⟩, rfl⟩
  · have hb : ((l.length : Int) == 0) = false := by simpa using h0
    have HN : Hid (namesL l = Lib.join (texts l) [44]) := if_neg (by omega)
    have HL : Hid (∀ k, k ≤ l.length → (Lib.join ((texts l).take k) [44]).length ≤ 105) := fun k hk => by
      have := join_le ((texts l).take k) 20 (fun t ht => by
        have ht' := List.mem_of_mem_take ht
        simp only [texts, List.mem_map] at ht'
        obtain ⟨x, hx, rfl⟩ := ht'
        obtain ⟨i, hi, rfl⟩ := List.getElem_of_mem hx
        have := h20 i hi
        simpa [List.getD, hi] using this)
      have h2 : ((texts l).take k).length ≤ 5 := by rw [List.length_take, texts_length]; omega
      omega
    have hlp : 0 < l.length := by omega
    obtain ⟨b0, o0, rfl, hb0, hc0⟩ := hS 0 hlp
    rw [Nat.add_zero] at hc0
    obtain ⟨x0, hx0⟩ : ∃ x0, x0 = l.getD 0 ByteArray.empty := ⟨_, rfl⟩
    rw [← hx0] at hc0
    have HX : Hid (x0.data.toList = Lib.join ((texts l).take 1) [44]) := by
      show _ = _
      have := join_take_succ (texts l) 0 (by rw [texts_length]; exact hlp)
      rw [this, texts_getD l 0 hlp, ← hx0]
      simp [Lib.join_nil]
    clear hx0
    go_enter Tryz.func46, Tryz.ntmps46
    go_wp2
    go_loop [3, 4] (fun x i => ∃ (k : Nat) (s : ByteArray), 1 ≤ k ∧ k ≤ l.length ∧ i = .int .i64 k ∧ x = .string s ∧ Hid (s.data.toList = Lib.join ((texts l).take k) [44])) (fun _ i => l.length - (intOf i).toNat)
    case atStart => exact ⟨1, x0, Nat.le_refl _, hlp, rfl, rfl, HX⟩
    case round =>
      obtain ⟨k, s, hk1, hk, rfl, rfl, HK⟩ := hrel
      have hsl : s.size ≤ 105 := by have h1 := HL.out k hk; rw [← HK.out] at h1; simpa using h1
      by_cases hlt : (k : Int) < (l.length : Int)
      · have hkl : k < l.length := by omega
        obtain ⟨b, o, e, hbb, hc⟩ := hS k hkl
        cases e
        have hx20 := h20 k hkl
        have HT : Hid (Lib.join ((texts l).take (k + 1)) [44] = s.data.toList ++ 44 :: (l.getD k ByteArray.empty).data.toList) := by
          show _ = _
          rw [join_take_succ (texts l) k (by rw [texts_length]; exact hkl), texts_getD l k hkl, HK.out, if_pos (by omega)]
          simp
        obtain ⟨x, hx⟩ : ∃ x, x = l.getD k ByteArray.empty := ⟨_, rfl⟩
        rw [← hx] at hc hx20 HT
        clear hx
        go_wp2
        go_round
        case rel => exact ⟨k + 1, _, by omega, by omega, by go_num, rfl, hide (by rw [HT.out, ba_append, ba_append]; simp)⟩
        case measure => simp [intOf]; omega
      · obtain rfl : k = l.length := by omega
        have HF : Hid (s.data.toList = namesL l) := by
          show _ = _
          rw [HN.out, HK.out, List.take_of_length_le (by rw [texts_length]; exact Nat.le_refl _)]
        go_wp2
        go_ret
        exact ⟨⟨s, rfl, HF.out, hsl⟩, rfl⟩

end Go.Proofs.YtinkfgkjdaaeaaaGreatDoor
