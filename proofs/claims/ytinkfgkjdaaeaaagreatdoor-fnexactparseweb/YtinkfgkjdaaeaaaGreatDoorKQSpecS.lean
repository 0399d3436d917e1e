import Derived.Test.YtinkfgkjdaaeaaaGreatDoorKQSpec
import Derived.Test.YtinkfgkjdaaeaaaGreatDoorKWCheck4
import Derived.Lib.UnsafeStr
import Derived.Laws.AppendOwn
import Derived.Deep.AppendLies
import Derived.Deep.Cut

namespace Go.Proofs.YtinkfgkjdaaeaaaGreatDoor
open Go.RowKit

theorem Tryz.infoU8 : (Tryz.prog.info? 5).map (fun i => (i.zero, i.size, i.bytes)) = some (some (.int .u8 0), 1, 1) := by kernel_rfl

theorem ownsRow_kept0 {w w' : World} {B : Nat} {e : TypeId} {v : Value} {n : Nat} {xs : List Value} (h : w.ownsRow B e 1 v n xs) (k : Kept w w') : w'.ownsRow B e 1 v n xs := by
  refine ⟨h.1, ?_⟩
  rcases h.2 with hn | ⟨g, cap, cur, hv, hbg, hg, rest⟩
  · exact .inl hn
  · exact .inr ⟨g, cap, cur, hv, hbg, by rw [k.block g (Array.getElem?_eq_some_iff.1 hg).1]; exact hg, rest⟩

theorem kept_grown0 {w w1 w2 : World} {e : TypeId} {v : Value} {n : Nat} {xs : List Value} (k : Kept w w1) (hg : w1.grownBy w2 v.ownBlock) (ho : w1.ownsRow w.heap.size e 1 v n xs) : Kept w w2 :=
  Below.grown k hg k.size (fun q hq => (ho.lt q hq).1)

theorem own_slice0 {w : World} {B : Nat} {e : TypeId} {v : Value} {n : Nat} {xs : List Value} (h : w.ownsRow B e 1 v n xs) (_ : 0 ≤ n) : ∃ av cv, v = .slice av n cv := by
  rcases h.2 with ⟨hv, h0⟩ | ⟨g, cap, cur, hv, _⟩
  · exact ⟨none, 0, by rw [hv, h0]⟩
  · exact ⟨_, _, hv⟩

theorem tabU (n : Nat) (h : n < 16) (h' : n < (⟨#[48, 49, 50, 51, 52, 53, 54, 55, 56, 57, 97, 98, 99, 100, 101, 102]⟩ : ByteArray).size) : (⟨#[48, 49, 50, 51, 52, 53, 54, 55, 56, 57, 97, 98, 99, 100, 101, 102]⟩ : ByteArray)[n] = hexDig n := by
  have : ∀ m : Fin 16, (⟨#[48, 49, 50, 51, 52, 53, 54, 55, 56, 57, 97, 98, 99, 100, 101, 102]⟩ : ByteArray)[m.val]'(Nat.lt_of_lt_of_le m.isLt (by decide)) = hexDig m.val := by decide +kernel
  exact this ⟨n, h⟩

theorem bytes_back {w : World} {B g cv : Nat} {l : List UInt8} {x : UInt8} (h : w.ownsRow B 5 1 (.slice (some ⟨g, 0, none⟩) (l.length + 1) cv) (l.length + 1) (Lib.byteCells l ++ [.int .u8 (x.toNat : Int)])) :
    (convert 63 9 (.slice (some ⟨g, 0, none⟩) (l.length + 1) cv)).run Tryz.prog w = .ok (.string ⟨(l ++ [x]).toArray⟩) w := by
  have e : l.length + 1 = (l ++ [x]).length := by simp
  have hc : Lib.byteCells l ++ [.int .u8 (x.toNat : Int)] = Lib.byteCells (l ++ [x]) := by simp [Lib.byteCells]
  rw [e, hc] at h
  rw [e]
  refine run_convert_bytes_back w 63 9 5 ⟨g, 0, none⟩ cv (l ++ [x]) Tryz.underlying63 Tryz.underlying5 Tryz.underlying9 (fun j hj => ?_)
  exact h.cells (g := g) rfl j _ (by simp only [Lib.byteCells, List.getElem?_map, List.getElem?_eq_getElem hj, Option.map_some])

set_option maxRecDepth 100000 in
set_option maxHeartbeats 6400000 in
theorem specQuote_any (w : World) (s : ByteArray) (hs : s.size ≤ 100000) :
    Calls Tryz.prog 45 #[.string s] w fun e w' => (∃ d : ByteArray, e = .returned (.string d) ∧ d.data.toList = quoteL s.data.toList) ∧ Kept w w' := by
  obtain ⟨i0, hi, hz0, hz1, hz2⟩ := info_parts Tryz.infoU8
  obtain ⟨W0, hW0⟩ : ∃ W0, W0 = w.alloc (.cells #[.int .u8 34] 5) := ⟨_, rfl⟩
  have K0 : Hid (Kept w W0) := by rw [hW0]; exact (Kept.refl _).alloc _
  have HO0 : Hid (W0.ownsRow w.heap.size 5 1 (.slice (some ⟨w.heap.size, 0, none⟩) 1 1) (34 :: quotesL (s.data.toList.take 0)).length (Lib.byteCells (34 :: quotesL (s.data.toList.take 0)))) := by
    rw [hW0]
    exact ⟨rfl, .inr ⟨w.heap.size, 1, _, rfl, Nat.le_refl _, heap_alloc_new w _, Nat.le_refl _, by unfold maxLen; omega, rfl, rfl⟩⟩
  go_enter Tryz.func45, Tryz.ntmps45
  go_upto_region 2 with fail
  rw [← hW0]
  clear hW0
  go_wp2
  go_loopw [3, 5] (fun x i wr => ∃ (k : Nat) (av : Option Addr) (cv : Nat), k ≤ s.size ∧ i = .int .i64 k ∧ x = .slice av (34 :: quotesL (s.data.toList.take k)).length cv ∧ Hid (wr.ownsRow w.heap.size 5 1 (.slice av (34 :: quotesL (s.data.toList.take k)).length cv) (34 :: quotesL (s.data.toList.take k)).length (Lib.byteCells (34 :: quotesL (s.data.toList.take k)))) ∧ Hid (Kept w wr)) (fun _ i _ => s.size - (intOf i).toNat)
  case atStart => exact ⟨0, _, _, Nat.zero_le _, rfl, rfl, HO0, K0⟩
  case round =>
    obtain ⟨k, av, cv, hk, rfl, rfl, HO, Kr⟩ := hrel
    clear HO0 K0
    have hql := quotesL_len (s.data.toList.take k)
    have hsl : s.data.toList.length = s.size := by simp
    have htl : (s.data.toList.take k).length = k := by rw [List.length_take]; omega
    have hzr : w.heap.size ≤ wr.heap.size := Kr.out.size
    by_cases hlt : (k : Int) < (s.size : Int)
    · have hkl : k < s.size := by omega
      have hkt : k < s.data.toList.length := by simpa using hkl
      have hxe : s.data.toList[k] = s[k] := by simp; rfl
      obtain ⟨x, hx⟩ : ∃ x, x = s[k] := ⟨_, rfl⟩
      have HQ : Hid (quotesL (s.data.toList.take (k + 1)) = quotesL (s.data.toList.take k) ++ quoteB x) := by show _ = _; rw [quotesL_take_succ _ k hkt, hxe, hx]
      have hxl := x.toNat_lt
      have hx' : s[k] = x := hx.symm
      clear hxe hx
      obtain ⟨ql, hq⟩ : ∃ ql, ql = quotesL (s.data.toList.take k) := ⟨_, rfl⟩
      rw [← hq] at HQ HO hql ⊢
      clear hq
      have hq1 : (34 :: ql).length ≤ 1000000 := by simp only [List.length_cons]; omega
      by_cases hp : PlainB x
      · have HY : Hid (quoteB x = [x]) := if_pos hp
        have h1 : (32 : Int) ≤ (x.toNat : Int) := by have := hp.1; omega
        have h2 : (x.toNat : Int) ≤ 126 := by have := hp.2.1; omega
        have h3 : ((x.toNat : Int) != 34) = true := by have := hp.2.2.1; simp; omega
        have h4 : ((x.toNat : Int) != 92) = true := by have := hp.2.2.2; simp; omega
        clear hp
        have K7 : Kept wr (wr.alloc (.cells #[.int .u8 (x.toNat : Int)] 5)) := (Kept.refl _).alloc _
        have HNw : Hid (∀ j u, ([.int .u8 (x.toNat : Int)] : List Value)[j]? = some u → (wr.alloc (.cells #[.int .u8 (x.toNat : Int)] 5)).cell? ((⟨wr.heap.size, 0, none⟩ : Addr).add j) = some u) := fun j u hu => by rw [Addr.add_mid]; exact range_made wr #[.int .u8 (x.toNat : Int)] 5 j u hu
        have HOne : Hid (∀ u ∈ ([.int .u8 (x.toNat : Int)] : List Value), u.oneCell' = true) := fun u hu => by simp only [List.mem_cons, List.not_mem_nil, or_false] at hu; subst hu; rfl
        have HOA := hide (ownsRow_kept0 HO.out K7)
        have KA := hide (Kept.trans Kr.out K7)
        have hzA : w.heap.size ≤ (wr.alloc (.cells #[.int .u8 (x.toNat : Int)] 5)).heap.size := KA.out.size
        clear K7
        go_wp2_with (at_builtin; refine wpList_append_own _ rfl (.tmp 35) (.tmp 39) 63 rfl w.heap.size 5 i0 (.int .u8 0) 1 1 Tryz.underlying63 hi hz0 hz1 hz2 rfl (by decide) (.slice av (34 :: ql).length cv) (34 :: ql).length (Lib.byteCells (34 :: ql)) rfl HOA.out ⟨wr.heap.size, 0, none⟩ 1 1 [.int .u8 (x.toNat : Int)] rfl rfl HNw.out HOne.out (by unfold maxLen; omega) (by omega) hzA ?_; intro v7 w7 hown7 hgr7 _; have HO7 := hide hown7; have K7 := hide (kept_grown0 KA.out hgr7 HOA.out); clear hown7 hgr7; obtain ⟨av7, cv7, rfl⟩ := own_slice0 HO7.out (by omega))
        go_roundw
        case rel =>
          have e : (34 :: quotesL (s.data.toList.take (k + 1))) = (34 :: ql) ++ [x] := by rw [HQ.out, HY.out]; rfl
          refine ⟨k + 1, av7, cv7, by omega, by go_num, by rw [e, List.length_append]; rfl, hide ?_, K7⟩
          rw [e, List.length_append, Lib.byteCells_append]
          exact HO7.out
        case measure => simp [intOf]; omega
      · have HNo : Hid (quoteB x = 92 :: hexL 2 x.toNat) := if_neg hp
        obtain ⟨q, hq⟩ : ∃ q, q = x.toNat / 16 := ⟨_, rfl⟩
        obtain ⟨r, hr⟩ : ∃ r, r = x.toNat % 16 := ⟨_, rfl⟩
        have hq16 : q < 16 := by omega
        have hr16 : r < 16 := by omega
        have HNo : Hid (quoteB x = [92, hexDig q, hexDig r]) := by
          show _ = _
          rw [HNo.out]
          simp only [hexL, Nat.pow_one, Nat.pow_zero, Nat.div_one]
          rw [← hq, Nat.mod_eq_of_lt hq16, ← hr]
        have hq' : (x.toNat : Int) / 16 = (q : Int) := by omega
        have hr' : (x.toNat : Int).tmod 16 = (r : Int) := by rw [Int.tmod_eq_emod_of_nonneg (by omega)]; omega
        have hwq : IntKind.u8.wrap (q : Int) = (q : Int) := by rw [IntKind.wrap_u8]; omega
        have HOne : Hid (∀ u ∈ ([.int .u8 92, .int .u8 ((hexDig q).toNat : Int), .int .u8 ((hexDig r).toNat : Int)] : List Value), u.oneCell' = true) := fun u hu => by
          simp only [List.mem_cons, List.not_mem_nil, or_false] at hu
          rcases hu with rfl | rfl | rfl <;> rfl
        have hqI : (q : Int) < 16 := by omega
        have hrI : (r : Int) < 16 := by omega
        have tq := tabU q hq16
        have tr := tabU r hr16
        have hcase : (¬ (32 : Int) ≤ (x.toNat : Int)) ∨ ((32 : Int) ≤ (x.toNat : Int) ∧ ¬ (x.toNat : Int) ≤ 126) ∨ ((32 : Int) ≤ (x.toNat : Int) ∧ (x.toNat : Int) ≤ 126 ∧ ((x.toNat : Int) != 34) = false) ∨ ((32 : Int) ≤ (x.toNat : Int) ∧ (x.toNat : Int) ≤ 126 ∧ ((x.toNat : Int) != 34) = true ∧ ((x.toNat : Int) != 92) = false) := by
          unfold PlainB at hp
          simp only [bne_eq_false_iff_eq, bne_iff_ne, ne_eq]
          omega
        clear hp hq hr
        rcases hcase with h1 | ⟨h1, h2⟩ | ⟨h1, h2, h3⟩ | ⟨h1, h2, h3, h4⟩
        all_goals
          go_wp2
          refine UpTo.region (by kernel_rfl) (fun _ => True) 15 trivial (fun hHeld => ?_)
          have KD : Hid (Kept wr wr.drew) := (Kept.refl wr).drew
          generalize hwd : wr.drew = wd at KD ⊢
          clear hwd
          refine UpTo.take 0 [14, 15] (v := ?_) (by (simp only [List.getElem?_toArray, List.getElem?_cons_zero]; rfl)) (by kernel_rfl) (by kernel_rfl) (by kernel_rfl) (by kernel_rfl) (by exact fun _ _ _ h => h) (Or.inl ⟨by rfl, ?_⟩) hHeld ?_
          rotate_left
          · intro u hu
            try dsimp only at hu
            go_simp
            try with_reducible rfl
          try simp only [Act.put, List.setIfInBounds_toArray, List.set_cons_zero, List.set_cons_succ]
          refine UpTo.take 1 [6, 13, 14, 15] (v := ?_) (by (simp only [List.getElem?_toArray, List.getElem?_cons_succ, List.getElem?_cons_zero]; rfl)) (by kernel_rfl) (by kernel_rfl) (by kernel_rfl) (by kernel_rfl) (by exact fun _ _ _ h => h) (Or.inl ⟨by rfl, ?_⟩) hHeld ?_
          rotate_left
          · intro u hu
            try dsimp only at hu
            go_simp
            try with_reducible rfl
          try simp only [Act.put, List.setIfInBounds_toArray, List.set_cons_zero, List.set_cons_succ]
          refine UpTo.take 2 [4, 5, 6, 13, 14, 15] (v := ?_) (by (simp only [List.getElem?_toArray, List.getElem?_cons_succ, List.getElem?_cons_zero]; rfl)) (by kernel_rfl) (by kernel_rfl) (by kernel_rfl) (by kernel_rfl) (by exact fun _ _ _ h => h) (Or.inl ⟨by rfl, ?_⟩) hHeld ?_
          rotate_left
          · intro u hu
            try dsimp only at hu
            go_simp
            try with_reducible rfl
          try simp only [Act.put, List.setIfInBounds_toArray, List.set_cons_zero, List.set_cons_succ]
          refine UpTo.take 3 [4, 5, 6, 13, 14, 15] (v := ?_) (by (simp only [List.getElem?_toArray, List.getElem?_cons_succ, List.getElem?_cons_zero]; rfl)) (by kernel_rfl) (by kernel_rfl) (by kernel_rfl) (by kernel_rfl) (by exact fun _ _ _ h => h) (Or.inl ⟨by rfl, ?_⟩) hHeld ?_
          rotate_left
          · intro u hu
            try dsimp only at hu
            go_simp
            try with_reducible rfl
          try simp only [Act.put, List.setIfInBounds_toArray, List.set_cons_zero, List.set_cons_succ]
          refine UpTo.take 4 [5, 6, 13, 14, 15] (v := ?_) (by (simp only [List.getElem?_toArray, List.getElem?_cons_succ, List.getElem?_cons_zero]; rfl)) (by kernel_rfl) (by kernel_rfl) (by kernel_rfl) (by kernel_rfl) (by exact fun _ _ _ h => h) (Or.inl ⟨by rfl, ?_⟩) hHeld ?_
          rotate_left
          · intro u hu
            try dsimp only at hu
            go_simp
            try with_reducible rfl
          try simp only [Act.put, List.setIfInBounds_toArray, List.set_cons_zero, List.set_cons_succ]
          refine UpTo.take 5 [6, 13, 14, 15] (v := ?_) (by (simp only [List.getElem?_toArray, List.getElem?_cons_succ, List.getElem?_cons_zero]; rfl)) (by kernel_rfl) (by kernel_rfl) (by kernel_rfl) (by kernel_rfl) (by exact fun _ _ _ h => h) (Or.inl ⟨by rfl, ?_⟩) hHeld ?_
          rotate_left
          · intro u hu
            try dsimp only at hu
            go_simp
            try with_reducible rfl
          try simp only [Act.put, List.setIfInBounds_toArray, List.set_cons_zero, List.set_cons_succ]
          refine UpTo.take 6 [13, 14, 15] (v := ?_) (by (simp only [List.getElem?_toArray, List.getElem?_cons_succ, List.getElem?_cons_zero]; rfl)) (by kernel_rfl) (by kernel_rfl) (by kernel_rfl) (by kernel_rfl) (by exact fun _ _ _ h => h) (Or.inl ⟨by rfl, ?_⟩) hHeld ?_
          rotate_left
          · intro u hu
            try dsimp only at hu
            go_simp
            try with_reducible rfl
          try simp only [Act.put, List.setIfInBounds_toArray, List.set_cons_zero, List.set_cons_succ]
          refine UpTo.take 7 [12, 13, 14, 15] (v := ?_) (by (simp only [List.getElem?_toArray, List.getElem?_cons_succ, List.getElem?_cons_zero]; rfl)) (by kernel_rfl) (by kernel_rfl) (by kernel_rfl) (by kernel_rfl) (by exact fun _ _ _ h => h) (Or.inl ⟨by rfl, ?_⟩) hHeld ?_
          rotate_left
          · intro u hu
            try dsimp only at hu
            go_simp
            try with_reducible rfl
          try simp only [Act.put, List.setIfInBounds_toArray, List.set_cons_zero, List.set_cons_succ]
          refine UpTo.take 8 [10, 11, 12, 13, 14, 15] (v := ?_) (by (simp only [List.getElem?_toArray, List.getElem?_cons_succ, List.getElem?_cons_zero]; rfl)) (by kernel_rfl) (by kernel_rfl) (by kernel_rfl) (by kernel_rfl) (by exact fun _ _ _ h => h) (Or.inl ⟨by rfl, ?_⟩) hHeld ?_
          rotate_left
          · intro u hu
            try dsimp only at hu
            go_simp
            try with_reducible rfl
          try simp only [Act.put, List.setIfInBounds_toArray, List.set_cons_zero, List.set_cons_succ]
          refine UpTo.take 9 [10, 11, 12, 13, 14, 15] (v := ?_) (by (simp only [List.getElem?_toArray, List.getElem?_cons_succ, List.getElem?_cons_zero]; rfl)) (by kernel_rfl) (by kernel_rfl) (by kernel_rfl) (by kernel_rfl) (by exact fun _ _ _ h => h) (Or.inl ⟨by rfl, ?_⟩) hHeld ?_
          rotate_left
          · intro u hu
            try dsimp only at hu
            go_simp
            try with_reducible rfl
          try simp only [Act.put, List.setIfInBounds_toArray, List.set_cons_zero, List.set_cons_succ]
          refine UpTo.take 10 [11, 12, 13, 14, 15] (v := ?_) (by (simp only [List.getElem?_toArray, List.getElem?_cons_succ, List.getElem?_cons_zero]; rfl)) (by kernel_rfl) (by kernel_rfl) (by kernel_rfl) (by kernel_rfl) (by exact fun _ _ _ h => h) (Or.inl ⟨by rfl, ?_⟩) hHeld ?_
          rotate_left
          · intro u hu
            try dsimp only at hu
            go_simp
            try with_reducible rfl
          try simp only [Act.put, List.setIfInBounds_toArray, List.set_cons_zero, List.set_cons_succ]
          refine UpTo.take 11 [12, 13, 14, 15] (v := ?_) (by (simp only [List.getElem?_toArray, List.getElem?_cons_succ, List.getElem?_cons_zero]; rfl)) (by kernel_rfl) (by kernel_rfl) (by kernel_rfl) (by kernel_rfl) (by exact fun _ _ _ h => h) (Or.inl ⟨by rfl, ?_⟩) hHeld ?_
          rotate_left
          · intro u hu
            try dsimp only at hu
            go_simp
            try with_reducible rfl
          try simp only [Act.put, List.setIfInBounds_toArray, List.set_cons_zero, List.set_cons_succ]
          refine UpTo.take 12 [13, 14, 15] (v := ?_) (by (simp only [List.getElem?_toArray, List.getElem?_cons_succ, List.getElem?_cons_zero]; rfl)) (by kernel_rfl) (by kernel_rfl) (by kernel_rfl) (by kernel_rfl) (by exact fun _ _ _ h => h) (Or.inl ⟨by rfl, ?_⟩) hHeld ?_
          rotate_left
          · intro u hu
            try dsimp only at hu
            go_simp
            try with_reducible rfl
          try simp only [Act.put, List.setIfInBounds_toArray, List.set_cons_zero, List.set_cons_succ]
          refine UpTo.next 13 (by kernel_rfl) (by (simp only [List.getElem?_toArray, List.getElem?_cons_succ, List.getElem?_cons_zero]; rfl)) (fun K hK => ?_)
          rw [if_pos (by rfl)]
          go_simp
          have K13 : Kept wd (wd.alloc (.cells #[.int .u8 92, .int .u8 ((hexDig q).toNat : Int), .int .u8 ((hexDig r).toNat : Int)] 5)) := (Kept.refl _).alloc _
          have HNw : Hid (∀ j u, ([.int .u8 92, .int .u8 ((hexDig q).toNat : Int), .int .u8 ((hexDig r).toNat : Int)] : List Value)[j]? = some u → (wd.alloc (.cells #[.int .u8 92, .int .u8 ((hexDig q).toNat : Int), .int .u8 ((hexDig r).toNat : Int)] 5)).cell? ((⟨wd.heap.size, 0, none⟩ : Addr).add j) = some u) := fun j u hu => by rw [Addr.add_mid]; exact range_made wd #[.int .u8 92, .int .u8 ((hexDig q).toNat : Int), .int .u8 ((hexDig r).toNat : Int)] 5 j u hu
          have HOA := hide (ownsRow_kept0 HO.out (Kept.trans KD.out K13))
          have KA := hide (Kept.trans Kr.out (Kept.trans KD.out K13))
          refine hK.out _ _ (fun _ => trivial) ?_
          clear hK K K13
          try simp only [Act.put, List.setIfInBounds_toArray, List.set_cons_zero, List.set_cons_succ]
          have hzA : w.heap.size ≤ (wd.alloc (.cells #[.int .u8 92, .int .u8 ((hexDig q).toNat : Int), .int .u8 ((hexDig r).toNat : Int)] 5)).heap.size := KA.out.size
          generalize hwa : wd.alloc (.cells #[.int .u8 92, .int .u8 ((hexDig q).toNat : Int), .int .u8 ((hexDig r).toNat : Int)] 5) = wa at HNw HOA KA hzA ⊢
          clear hwa
          refine UpTo.next 14 (by kernel_rfl) (by (simp only [List.getElem?_toArray, List.getElem?_cons_succ, List.getElem?_cons_zero]; rfl)) (fun K hK => ?_)
          rw [if_pos (by rfl)]
          refine wp_append_own _ (.tmp 41) (.tmp 54) 63 rfl w.heap.size 5 i0 (.int .u8 0) 1 1 Tryz.underlying63 hi hz0 hz1 hz2 rfl (by decide) (.slice av (34 :: ql).length cv) (34 :: ql).length (Lib.byteCells (34 :: ql)) rfl HOA.out ⟨wd.heap.size, 0, none⟩ 3 3 [.int .u8 92, .int .u8 ((hexDig q).toNat : Int), .int .u8 ((hexDig r).toNat : Int)] rfl rfl HNw.out HOne.out (by unfold maxLen; omega) (by omega) hzA ?_
          intro v7 w7 hown7 hgr7 _
          have HO7 := hide hown7
          have K7 := hide (kept_grown0 KA.out hgr7 HOA.out)
          clear hown7 hgr7
          obtain ⟨av7, cv7, rfl⟩ := own_slice0 HO7.out (by omega)
          refine hK.out _ _ (fun _ => trivial) ?_
          clear hK K
          try simp only [Act.put, List.setIfInBounds_toArray, List.set_cons_zero, List.set_cons_succ]
          refine UpTo.next 15 (by kernel_rfl) (by (simp only [List.getElem?_toArray, List.getElem?_cons_succ, List.getElem?_cons_zero]; rfl)) (fun K hK => ?_)
          go_simp
          refine hK.out _ _ (fun h => absurd rfl h) ?_
          clear hK K
          try simp only [Act.put, List.setIfInBounds_toArray, List.set_cons_zero, List.set_cons_succ]
          refine UpTo.done (by kernel_rfl) ?_
          go_wp2
          go_roundw
          case rel =>
            have e : (34 :: quotesL (s.data.toList.take (k + 1))) = (34 :: ql) ++ [92, hexDig q, hexDig r] := by rw [HQ.out, HNo.out]; rfl
            refine ⟨k + 1, av7, cv7, by omega, by go_num, by rw [e, List.length_append]; rfl, hide ?_, K7⟩
            rw [e, List.length_append, Lib.byteCells_append]
            exact HO7.out
          case measure => simp [intOf]; omega
    · obtain rfl : k = s.size := by omega
      have hta : s.data.toList.take s.size = s.data.toList := List.take_of_length_le (by simp)
      rw [hta] at HO hql ⊢
      clear hta htl
      obtain ⟨ql, hq⟩ : ∃ ql, ql = quotesL s.data.toList := ⟨_, rfl⟩
      have HQL : Hid (quoteL s.data.toList = (34 :: ql) ++ [34]) := by show _ = _; rw [hq]; rfl
      rw [← hq] at HO hql ⊢
      clear hq
      have hq1 : (34 :: ql).length ≤ 1000000 := by simp only [List.length_cons]; omega
      have K7 : Kept wr (wr.alloc (.cells #[.int .u8 34] 5)) := (Kept.refl _).alloc _
      have HNw : Hid (∀ j u, ([.int .u8 34] : List Value)[j]? = some u → (wr.alloc (.cells #[.int .u8 34] 5)).cell? ((⟨wr.heap.size, 0, none⟩ : Addr).add j) = some u) := fun j u hu => by rw [Addr.add_mid]; exact range_made wr #[.int .u8 34] 5 j u hu
      have HOne : Hid (∀ u ∈ ([.int .u8 34] : List Value), u.oneCell' = true) := fun u hu => by simp only [List.mem_cons, List.not_mem_nil, or_false] at hu; subst hu; rfl
      have HOA := hide (ownsRow_kept0 HO.out K7)
      have KA := hide (Kept.trans Kr.out K7)
      have hzA : w.heap.size ≤ (wr.alloc (.cells #[.int .u8 34] 5)).heap.size := KA.out.size
      clear K7
      go_wp2_with (at_builtin; refine wpList_append_lies _ rfl (.tmp 56) (.tmp 57) 63 rfl w.heap.size 5 i0 (.int .u8 0) 1 1 Tryz.underlying63 hi hz0 hz1 hz2 rfl (by decide) (.slice av (34 :: ql).length cv) (34 :: ql).length (Lib.byteCells (34 :: ql)) rfl HOA.out ⟨wr.heap.size, 0, none⟩ 1 1 [.int .u8 34] rfl rfl HNw.out HOne.out (by decide) (by unfold maxLen; omega) (by omega) hzA _ rfl ?_; intro g7 cv7 w7 hown7 hgr7 _ _; have HO7 := hide hown7; have K7 := hide (kept_grown0 KA.out hgr7 HOA.out); have hcv : (convert 63 9 (.slice (some ⟨g7, 0, none⟩) (ql.length + 1 + 1) cv7)).run Tryz.prog w7 = .ok (.string ⟨((34 :: ql) ++ [34]).toArray⟩) w7 := (bytes_back (l := 34 :: ql) (x := 34) HO7.out); clear hown7 hgr7)
      go_ret
      exact ⟨⟨_, rfl, HQL.out.symm⟩, K7.out⟩

end Go.Proofs.YtinkfgkjdaaeaaaGreatDoor

namespace Go.Proofs.YtinkfgkjdaaeaaaGreatDoor
open Go.RowKit

set_option maxRecDepth 100000 in
set_option maxHeartbeats 3200000 in
theorem l8StepBad_any (w : World) (s : StepD) (aa ac : Option Addr) (ca cc : Nat) (hg : s.give.size ≤ 30) :
    Calls Tryz.prog 27 #[.agg #[.slice aa s.asks.length ca, .int .i64 s.on, .slice ac s.cases.length cc, .int .i64 s.els, .int .i64 s.fall, .bool true, .bool true, .string s.give]] w fun e w' => (∃ d : ByteArray, e = .returned (.string d) ∧ d.data.toList = [98, 97, 100, 32] ++ quoteL s.give.data.toList ++ [10]) ∧ Kept w w' := by
  obtain ⟨W0, hW0⟩ : ∃ W0, W0 = w.alloc (.cells #[.slice aa s.asks.length ca, .int .i64 s.on, .slice ac s.cases.length cc, .int .i64 s.els, .int .i64 s.fall, .bool true, .bool true, .string s.give] 59) := ⟨_, rfl⟩
  have K0 : Kept w W0 := by rw [hW0]; exact (Kept.refl _).alloc _
  go_enter Tryz.func27, Tryz.ntmps27
  go_wp2_with fail
  rw [← hW0]
  clear hW0
  refine (specQuote_any W0 s.give (by omega)).mono ?_
  rintro e w1 ⟨⟨d, rfl, hd⟩, k1⟩
  have hds : d.size ≤ 92 := by
    have h1 := congrArg List.length hd
    have h2 := quoteL_len s.give.data.toList
    rw [show d.data.toList.length = d.size by simp] at h1
    rw [show s.give.data.toList.length = s.give.size by simp] at h2
    omega
  have HD := hide hd
  have K1 := hide (Kept.trans K0 k1)
  clear hd k1 K0
  go_wp2
  go_ret
  exact ⟨⟨_, rfl, by rw [ba_append, ba_append, HD.out]; rfl⟩, K1.out⟩

set_option maxRecDepth 100000 in
set_option maxHeartbeats 3200000 in
theorem l8StepGood_any (w : World) (s : StepD) (aa ac : Option Addr) (ca cc : Nat) (hg : s.give.size ≤ 30) :
    Calls Tryz.prog 27 #[.agg #[.slice aa s.asks.length ca, .int .i64 s.on, .slice ac s.cases.length cc, .int .i64 s.els, .int .i64 s.fall, .bool true, .bool false, .string s.give]] w fun e w' => (∃ d : ByteArray, e = .returned (.string d) ∧ d.data.toList = [101, 110, 100, 32] ++ quoteL s.give.data.toList ++ [10]) ∧ Kept w w' := by
  obtain ⟨W0, hW0⟩ : ∃ W0, W0 = w.alloc (.cells #[.slice aa s.asks.length ca, .int .i64 s.on, .slice ac s.cases.length cc, .int .i64 s.els, .int .i64 s.fall, .bool true, .bool false, .string s.give] 59) := ⟨_, rfl⟩
  have K0 : Kept w W0 := by rw [hW0]; exact (Kept.refl _).alloc _
  go_enter Tryz.func27, Tryz.ntmps27
  go_wp2_with fail
  rw [← hW0]
  clear hW0
  refine (specQuote_any W0 s.give (by omega)).mono ?_
  rintro e w1 ⟨⟨d, rfl, hd⟩, k1⟩
  have hds : d.size ≤ 92 := by
    have h1 := congrArg List.length hd
    have h2 := quoteL_len s.give.data.toList
    rw [show d.data.toList.length = d.size by simp] at h1
    rw [show s.give.data.toList.length = s.give.size by simp] at h2
    omega
  have HD := hide hd
  have K1 := hide (Kept.trans K0 k1)
  clear hd k1 K0
  go_wp2
  go_ret
  exact ⟨⟨_, rfl, by rw [ba_append, ba_append, HD.out]; rfl⟩, K1.out⟩

set_option maxRecDepth 100000 in
set_option maxHeartbeats 6400000 in
theorem l8StepAsk_any (w : World) (s : StepD) (aa ac : Option Addr) (ca cc : Nat) (n : Int) (hn : n ≤ 20) (hF : FrontOk s n) (hCs : CasesOk s n) (hA : Strs w aa s.asks) (hC : Cases w ac s.cases) :
    Calls Tryz.prog 27 #[.agg #[.slice aa s.asks.length ca, .int .i64 s.on, .slice ac s.cases.length cc, .int .i64 s.els, .int .i64 s.fall, .bool false, .bool s.bad, .string s.give]] w fun e w' => (∃ d : ByteArray, e = .returned (.string d) ∧ d.data.toList = askL s ++ casesL s.cases) ∧ Kept w w' := by
  have h5 := hF.2.2.1
  have h20 : ∀ i, i < s.asks.length → (s.asks.getD i ByteArray.empty).size ≤ 20 := fun i hi => (hF.2.2.2.1 i hi).1.2.1
  have hc5 := hF.2.2.2.2.1
  have hon : -1 ≤ s.on ∧ s.on < 100 := by rcases hF.2.2.2.2.2.2.2 with h | h <;> omega
  have hels : -1 ≤ s.els ∧ s.els < 100 := by have := hF.2.2.2.2.2.1; omega
  have hfall : -1 ≤ s.fall ∧ s.fall < 100 := by have := hF.2.2.2.2.2.2.1; omega
  obtain ⟨W0, hW0⟩ : ∃ W0, W0 = w.alloc (.cells #[.slice aa s.asks.length ca, .int .i64 s.on, .slice ac s.cases.length cc, .int .i64 s.els, .int .i64 s.fall, .bool false, .bool s.bad, .string s.give] 59) := ⟨_, rfl⟩
  have K0 : Kept w W0 := by rw [hW0]; exact (Kept.refl _).alloc _
  have q0 : W0.cell? ⟨w.heap.size, 0, none⟩ = some (.slice aa s.asks.length ca) := by rw [hW0]; exact range_made w #[.slice aa s.asks.length ca, .int .i64 s.on, .slice ac s.cases.length cc, .int .i64 s.els, .int .i64 s.fall, .bool false, .bool s.bad, .string s.give] 59 0 _ rfl
  have q1 : W0.cell? ⟨w.heap.size, 1, none⟩ = some (.int .i64 s.on) := by rw [hW0]; exact range_made w #[.slice aa s.asks.length ca, .int .i64 s.on, .slice ac s.cases.length cc, .int .i64 s.els, .int .i64 s.fall, .bool false, .bool s.bad, .string s.give] 59 1 _ rfl
  have q2 : W0.cell? ⟨w.heap.size, 2, none⟩ = some (.slice ac s.cases.length cc) := by rw [hW0]; exact range_made w #[.slice aa s.asks.length ca, .int .i64 s.on, .slice ac s.cases.length cc, .int .i64 s.els, .int .i64 s.fall, .bool false, .bool s.bad, .string s.give] 59 2 _ rfl
  have q3 : W0.cell? ⟨w.heap.size, 3, none⟩ = some (.int .i64 s.els) := by rw [hW0]; exact range_made w #[.slice aa s.asks.length ca, .int .i64 s.on, .slice ac s.cases.length cc, .int .i64 s.els, .int .i64 s.fall, .bool false, .bool s.bad, .string s.give] 59 3 _ rfl
  have q4 : W0.cell? ⟨w.heap.size, 4, none⟩ = some (.int .i64 s.fall) := by rw [hW0]; exact range_made w #[.slice aa s.asks.length ca, .int .i64 s.on, .slice ac s.cases.length cc, .int .i64 s.els, .int .i64 s.fall, .bool false, .bool s.bad, .string s.give] 59 4 _ rfl
  have qz : w.heap.size < W0.heap.size := by rw [hW0]; simp
  have Q2 := hide q2
  clear q2
  go_enter Tryz.func27, Tryz.ntmps27
  go_wp2
  rw [← hW0]
  clear hW0
  have HH : Hid (∀ u, Kept W0 u → (u.cell? ⟨w.heap.size, 0, none⟩ = some (.slice aa s.asks.length ca) ∧ u.cell? ⟨w.heap.size, 1, none⟩ = some (.int .i64 s.on) ∧ u.cell? ⟨w.heap.size, 3, none⟩ = some (.int .i64 s.els) ∧ u.cell? ⟨w.heap.size, 4, none⟩ = some (.int .i64 s.fall))) := fun u k => ⟨(k.cell qz).trans q0, (k.cell qz).trans q1, (k.cell qz).trans q3, (k.cell qz).trans q4⟩
  clear q0 q1 q3 q4
  refine UpTo.region (by kernel_rfl) (fun u => u.cell? ⟨w.heap.size, 0, none⟩ = some (.slice aa s.asks.length ca) ∧ u.cell? ⟨w.heap.size, 1, none⟩ = some (.int .i64 s.on) ∧ u.cell? ⟨w.heap.size, 3, none⟩ = some (.int .i64 s.els) ∧ u.cell? ⟨w.heap.size, 4, none⟩ = some (.int .i64 s.fall)) 20 (HH.out _ (Kept.refl W0).drew) (fun hHeld => ?_)
  have KD : Hid (Kept W0 W0.drew) := (Kept.refl W0).drew
  generalize hwd : W0.drew = wd at KD hHeld ⊢
  clear hwd
  refine UpTo.take 0 [1, 2, 3, 4, 7, 8, 9, 12, 13, 14, 17, 18, 19, 20] (v := ?_) (by (simp only [List.getElem?_toArray, List.getElem?_cons_zero]; rfl)) (by kernel_rfl) (by kernel_rfl) (by kernel_rfl) (by kernel_rfl) (by exact fun _ _ _ h => h) (Or.inl ⟨by rfl, ?_⟩) hHeld ?_
  rotate_left
  · intro u hu
    try dsimp only at hu
    go_simp
    try with_reducible rfl
  try simp only [Act.put, List.setIfInBounds_toArray, List.set_cons_zero, List.set_cons_succ]
  refine UpTo.take 1 [2, 3, 4, 7, 8, 9, 12, 13, 14, 17, 18, 19, 20] (v := ?_) (by (simp only [List.getElem?_toArray, List.getElem?_cons_succ, List.getElem?_cons_zero]; rfl)) (by kernel_rfl) (by kernel_rfl) (by kernel_rfl) (by kernel_rfl) (by exact fun _ _ _ h => h) (Or.inl ⟨by rfl, ?_⟩) hHeld ?_
  rotate_left
  · intro u hu
    try dsimp only at hu
    go_simp
    try with_reducible rfl
  try simp only [Act.put, List.setIfInBounds_toArray, List.set_cons_zero, List.set_cons_succ]
  refine UpTo.take 5 [6, 7, 8, 9, 12, 13, 14, 17, 18, 19, 20] (v := ?_) (by (simp only [List.getElem?_toArray, List.getElem?_cons_succ, List.getElem?_cons_zero]; rfl)) (by kernel_rfl) (by kernel_rfl) (by kernel_rfl) (by kernel_rfl) (by exact fun _ _ _ h => h) (Or.inl ⟨by rfl, ?_⟩) hHeld ?_
  rotate_left
  · intro u hu
    try dsimp only at hu
    go_simp
    try with_reducible rfl
  try simp only [Act.put, List.setIfInBounds_toArray, List.set_cons_zero, List.set_cons_succ]
  refine UpTo.take 6 [7, 8, 9, 12, 13, 14, 17, 18, 19, 20] (v := ?_) (by (simp only [List.getElem?_toArray, List.getElem?_cons_succ, List.getElem?_cons_zero]; rfl)) (by kernel_rfl) (by kernel_rfl) (by kernel_rfl) (by kernel_rfl) (by exact fun _ _ _ h => h) (Or.inl ⟨by rfl, ?_⟩) hHeld ?_
  rotate_left
  · intro u hu
    try dsimp only at hu
    go_simp
    try with_reducible rfl
  try simp only [Act.put, List.setIfInBounds_toArray, List.set_cons_zero, List.set_cons_succ]
  refine UpTo.take 10 [11, 12, 13, 14, 17, 18, 19, 20] (v := ?_) (by (simp only [List.getElem?_toArray, List.getElem?_cons_succ, List.getElem?_cons_zero]; rfl)) (by kernel_rfl) (by kernel_rfl) (by kernel_rfl) (by kernel_rfl) (by exact fun _ _ _ h => h) (Or.inl ⟨by rfl, ?_⟩) hHeld ?_
  rotate_left
  · intro u hu
    try dsimp only at hu
    go_simp
    try with_reducible rfl
  try simp only [Act.put, List.setIfInBounds_toArray, List.set_cons_zero, List.set_cons_succ]
  refine UpTo.take 11 [12, 13, 14, 17, 18, 19, 20] (v := ?_) (by (simp only [List.getElem?_toArray, List.getElem?_cons_succ, List.getElem?_cons_zero]; rfl)) (by kernel_rfl) (by kernel_rfl) (by kernel_rfl) (by kernel_rfl) (by exact fun _ _ _ h => h) (Or.inl ⟨by rfl, ?_⟩) hHeld ?_
  rotate_left
  · intro u hu
    try dsimp only at hu
    go_simp
    try with_reducible rfl
  try simp only [Act.put, List.setIfInBounds_toArray, List.set_cons_zero, List.set_cons_succ]
  refine UpTo.take 15 [16, 17, 18, 19, 20] (v := ?_) (by (simp only [List.getElem?_toArray, List.getElem?_cons_succ, List.getElem?_cons_zero]; rfl)) (by kernel_rfl) (by kernel_rfl) (by kernel_rfl) (by kernel_rfl) (by exact fun _ _ _ h => h) (Or.inl ⟨by rfl, ?_⟩) hHeld ?_
  rotate_left
  · intro u hu
    try dsimp only at hu
    go_simp
    try with_reducible rfl
  try simp only [Act.put, List.setIfInBounds_toArray, List.set_cons_zero, List.set_cons_succ]
  refine UpTo.take 16 [17, 18, 19, 20] (v := ?_) (by (simp only [List.getElem?_toArray, List.getElem?_cons_succ, List.getElem?_cons_zero]; rfl)) (by kernel_rfl) (by kernel_rfl) (by kernel_rfl) (by kernel_rfl) (by exact fun _ _ _ h => h) (Or.inl ⟨by rfl, ?_⟩) hHeld ?_
  rotate_left
  · intro u hu
    try dsimp only at hu
    go_simp
    try with_reducible rfl
  try simp only [Act.put, List.setIfInBounds_toArray, List.set_cons_zero, List.set_cons_succ]
  refine UpTo.next 2 (by kernel_rfl) (by (simp only [List.getElem?_toArray, List.getElem?_cons_succ, List.getElem?_cons_zero]; rfl)) (fun K hK => ?_)
  rw [if_pos (by rfl)]
  go_simp
  go_at_call 46
  refine (names_any _ aa ca s.asks h5 h20 (hA.kept (Kept.trans K0 KD.out))).mono ?_
  rintro e w2 ⟨⟨d2, rfl, hd2, hs2⟩, rfl⟩
  dsimp only
  have HD2 := hide hd2
  clear hd2
  refine hK.out _ _ (fun _ => HH.out _ KD.out) ?_
  clear hK K hHeld
  have hHeld := HH.out _ KD.out
  try simp only [Act.put, List.setIfInBounds_toArray, List.set_cons_zero, List.set_cons_succ]
  refine UpTo.take 3 [4, 8, 9, 13, 14, 18, 19, 20] (v := ?_) (by (simp only [List.getElem?_toArray, List.getElem?_cons_succ, List.getElem?_cons_zero]; rfl)) (by kernel_rfl) (by kernel_rfl) (by kernel_rfl) (by kernel_rfl) (by exact fun _ _ _ h => h) (Or.inl ⟨by rfl, ?_⟩) hHeld ?_
  rotate_left
  · intro u hu
    try dsimp only at hu
    go_simp
    rw [if_neg (by omega)]
    try with_reducible rfl
  try simp only [Act.put, List.setIfInBounds_toArray, List.set_cons_zero, List.set_cons_succ]
  refine UpTo.take 4 [8, 9, 13, 14, 18, 19, 20] (v := ?_) (by (simp only [List.getElem?_toArray, List.getElem?_cons_succ, List.getElem?_cons_zero]; rfl)) (by kernel_rfl) (by kernel_rfl) (by kernel_rfl) (by kernel_rfl) (by exact fun _ _ _ h => h) (Or.inl ⟨by rfl, ?_⟩) hHeld ?_
  rotate_left
  · intro u hu
    try dsimp only at hu
    go_simp
    rw [if_neg (by omega)]
    try with_reducible rfl
  try simp only [Act.put, List.setIfInBounds_toArray, List.set_cons_zero, List.set_cons_succ]
  generalize ha1 : (⟨#[97, 115, 107, 32]⟩ ++ d2 ++ ⟨#[32, 111, 110, 32]⟩ : ByteArray) = a1
  have hs_a1 : a1.size ≤ 113 := by rw [← ha1]; simp only [ByteArray.size_append]; show 4 + d2.size + 4 ≤ 113; omega
  have HL_a1 : Hid (a1.data.toList = [97, 115, 107, 32] ++ namesL s.asks ++ [32, 111, 110, 32]) := by show _ = _; rw [← ha1]; simp only [ba_append]; rw [HD2.out]
  clear ha1
  refine UpTo.next 7 (by kernel_rfl) (by (simp only [List.getElem?_toArray, List.getElem?_cons_succ, List.getElem?_cons_zero]; rfl)) (fun K hK => ?_)
  rw [if_pos (by rfl)]
  go_simp
  go_at_call 26
  refine (dec_any _ s.on hon.1 hon.2).mono ?_
  rintro e w7 ⟨⟨d7, rfl, hd7, hs7⟩, k7⟩
  dsimp only
  have HD7 := hide hd7
  have K7 := hide (Kept.trans KD.out k7)
  clear hd7 k7
  refine hK.out _ _ (fun _ => HH.out _ K7.out) ?_
  clear hK K hHeld
  have hHeld := HH.out _ K7.out
  try simp only [Act.put, List.setIfInBounds_toArray, List.set_cons_zero, List.set_cons_succ]
  refine UpTo.take 8 [9, 13, 14, 18, 19, 20] (v := ?_) (by (simp only [List.getElem?_toArray, List.getElem?_cons_succ, List.getElem?_cons_zero]; rfl)) (by kernel_rfl) (by kernel_rfl) (by kernel_rfl) (by kernel_rfl) (by exact fun _ _ _ h => h) (Or.inl ⟨by rfl, ?_⟩) hHeld ?_
  rotate_left
  · intro u hu
    try dsimp only at hu
    go_simp
    rw [if_neg (by omega)]
    try with_reducible rfl
  try simp only [Act.put, List.setIfInBounds_toArray, List.set_cons_zero, List.set_cons_succ]
  refine UpTo.take 9 [13, 14, 18, 19, 20] (v := ?_) (by (simp only [List.getElem?_toArray, List.getElem?_cons_succ, List.getElem?_cons_zero]; rfl)) (by kernel_rfl) (by kernel_rfl) (by kernel_rfl) (by kernel_rfl) (by exact fun _ _ _ h => h) (Or.inl ⟨by rfl, ?_⟩) hHeld ?_
  rotate_left
  · intro u hu
    try dsimp only at hu
    go_simp
    rw [if_neg (by omega)]
    try with_reducible rfl
  try simp only [Act.put, List.setIfInBounds_toArray, List.set_cons_zero, List.set_cons_succ]
  generalize ha2 : (a1 ++ d7 ++ ⟨#[32, 101, 108, 115, 101, 32]⟩ : ByteArray) = a2
  have hs_a2 : a2.size ≤ 121 := by rw [← ha2]; simp only [ByteArray.size_append]; show a1.size + d7.size + 6 ≤ 121; omega
  have HL_a2 : Hid (a2.data.toList = [97, 115, 107, 32] ++ namesL s.asks ++ [32, 111, 110, 32] ++ decL s.on ++ [32, 101, 108, 115, 101, 32]) := by show _ = _; rw [← ha2]; simp only [ba_append]; rw [HL_a1.out, HD7.out]
  clear ha2
  refine UpTo.next 12 (by kernel_rfl) (by (simp only [List.getElem?_toArray, List.getElem?_cons_succ, List.getElem?_cons_zero]; rfl)) (fun K hK => ?_)
  rw [if_pos (by rfl)]
  go_simp
  go_at_call 26
  refine (dec_any _ s.els hels.1 hels.2).mono ?_
  rintro e w12 ⟨⟨d12, rfl, hd12, hs12⟩, k12⟩
  dsimp only
  have HD12 := hide hd12
  have K12 := hide (Kept.trans K7.out k12)
  clear hd12 k12
  refine hK.out _ _ (fun _ => HH.out _ K12.out) ?_
  clear hK K hHeld
  have hHeld := HH.out _ K12.out
  try simp only [Act.put, List.setIfInBounds_toArray, List.set_cons_zero, List.set_cons_succ]
  refine UpTo.take 13 [14, 18, 19, 20] (v := ?_) (by (simp only [List.getElem?_toArray, List.getElem?_cons_succ, List.getElem?_cons_zero]; rfl)) (by kernel_rfl) (by kernel_rfl) (by kernel_rfl) (by kernel_rfl) (by exact fun _ _ _ h => h) (Or.inl ⟨by rfl, ?_⟩) hHeld ?_
  rotate_left
  · intro u hu
    try dsimp only at hu
    go_simp
    rw [if_neg (by omega)]
    try with_reducible rfl
  try simp only [Act.put, List.setIfInBounds_toArray, List.set_cons_zero, List.set_cons_succ]
  refine UpTo.take 14 [18, 19, 20] (v := ?_) (by (simp only [List.getElem?_toArray, List.getElem?_cons_succ, List.getElem?_cons_zero]; rfl)) (by kernel_rfl) (by kernel_rfl) (by kernel_rfl) (by kernel_rfl) (by exact fun _ _ _ h => h) (Or.inl ⟨by rfl, ?_⟩) hHeld ?_
  rotate_left
  · intro u hu
    try dsimp only at hu
    go_simp
    rw [if_neg (by omega)]
    try with_reducible rfl
  try simp only [Act.put, List.setIfInBounds_toArray, List.set_cons_zero, List.set_cons_succ]
  generalize ha3 : (a2 ++ d12 ++ ⟨#[32, 102, 97, 108, 108, 32]⟩ : ByteArray) = a3
  have hs_a3 : a3.size ≤ 129 := by rw [← ha3]; simp only [ByteArray.size_append]; show a2.size + d12.size + 6 ≤ 129; omega
  have HL_a3 : Hid (a3.data.toList = [97, 115, 107, 32] ++ namesL s.asks ++ [32, 111, 110, 32] ++ decL s.on ++ [32, 101, 108, 115, 101, 32] ++ decL s.els ++ [32, 102, 97, 108, 108, 32]) := by show _ = _; rw [← ha3]; simp only [ba_append]; rw [HL_a2.out, HD12.out]
  clear ha3
  refine UpTo.next 17 (by kernel_rfl) (by (simp only [List.getElem?_toArray, List.getElem?_cons_succ, List.getElem?_cons_zero]; rfl)) (fun K hK => ?_)
  rw [if_pos (by rfl)]
  go_simp
  go_at_call 26
  refine (dec_any _ s.fall hfall.1 hfall.2).mono ?_
  rintro e w17 ⟨⟨d17, rfl, hd17, hs17⟩, k17⟩
  dsimp only
  have HD17 := hide hd17
  have K17 := hide (Kept.trans K12.out k17)
  clear hd17 k17
  refine hK.out _ _ (fun _ => HH.out _ K17.out) ?_
  clear hK K hHeld
  have hHeld := HH.out _ K17.out
  try simp only [Act.put, List.setIfInBounds_toArray, List.set_cons_zero, List.set_cons_succ]
  refine UpTo.next 18 (by kernel_rfl) (by (simp only [List.getElem?_toArray, List.getElem?_cons_succ, List.getElem?_cons_zero]; rfl)) (fun K hK => ?_)
  rw [if_pos (by rfl)]
  go_simp
  rw [if_neg (by omega), Oper.upon_value]
  refine hK.out _ _ (fun _ => HH.out _ K17.out) ?_
  clear hK K hHeld
  have hHeld := HH.out _ K17.out
  try simp only [Act.put, List.setIfInBounds_toArray, List.set_cons_zero, List.set_cons_succ]
  refine UpTo.next 19 (by kernel_rfl) (by (simp only [List.getElem?_toArray, List.getElem?_cons_succ, List.getElem?_cons_zero]; rfl)) (fun K hK => ?_)
  rw [if_pos (by rfl)]
  go_simp
  rw [if_neg (by have e1 : (a3 ++ d17).size = a3.size + d17.size := ByteArray.size_append; have e2 : (⟨#[10]⟩ : ByteArray).size = 1 := rfl; omega), Oper.upon_value]
  refine hK.out _ _ (fun _ => HH.out _ K17.out) ?_
  clear hK K hHeld
  have hHeld := HH.out _ K17.out
  try simp only [Act.put, List.setIfInBounds_toArray, List.set_cons_zero, List.set_cons_succ]
  generalize ha4 : (a3 ++ d17 ++ ⟨#[10]⟩ : ByteArray) = a4
  have hs_a4 : a4.size ≤ 140 := by rw [← ha4]; simp only [ByteArray.size_append]; show a3.size + d17.size + 1 ≤ 140; omega
  have HL_a4 : Hid (a4.data.toList = askL s) := by show _ = _; rw [← ha4]; simp only [ba_append]; rw [HL_a3.out, HD17.out]; rfl
  clear ha4
  refine UpTo.next 20 (by kernel_rfl) (by (simp only [List.getElem?_toArray, List.getElem?_cons_succ, List.getElem?_cons_zero]; rfl)) (fun K hK => ?_)
  go_simp
  refine hK.out _ _ (fun h => absurd rfl h) ?_
  clear hK K
  try simp only [Act.put, List.setIfInBounds_toArray, List.set_cons_zero, List.set_cons_succ]
  refine UpTo.done (by kernel_rfl) ?_
  clear HH hHeld
  have hq2 : w17.cell? ⟨w.heap.size, 2, none⟩ = some (.slice ac s.cases.length cc) := (K17.out.cell qz).trans Q2.out
  have KW := hide (Kept.trans K0 K17.out)
  clear KD K7 K12 HL_a1 HL_a2 HL_a3 HD2 HD7 HD12 HD17
  go_wp2
  clear hq2
  go_loopw [3, 4] (fun x i wr => ∃ (k : Nat) (o : ByteArray), k ≤ s.cases.length ∧ i = .int .i64 k ∧ x = .string o ∧ Hid (o.data.toList = askL s ++ casesL (s.cases.take k)) ∧ Hid (Kept W0 wr)) (fun _ i _ => s.cases.length - (intOf i).toNat)
  case atStart => exact ⟨0, a4, Nat.zero_le _, rfl, rfl, hide (by rw [List.take_zero, show casesL [] = [] from rfl, List.append_nil]; exact HL_a4.out), K17⟩
  case round =>
    obtain ⟨k, o, hk, rfl, rfl, HO, HK⟩ := hrel
    clear HL_a4 K17 KW
    have hcl := casesL_le hCs k (by omega)
    have hal := askL_le hF
    have hos : o.size ≤ 4000 := by have h1 := congrArg List.length HO.out; rw [List.length_append] at h1; rw [show o.data.toList.length = o.size by simp] at h1; omega
    have hq2 : wr.cell? ⟨w.heap.size, 2, none⟩ = some (.slice ac s.cases.length cc) := (HK.out.cell qz).trans Q2.out
    by_cases hlt : (k : Int) < (s.cases.length : Int)
    · have hkl : k < s.cases.length := by omega
      obtain ⟨cb, co, rfl, hcb, hcc⟩ := (hC.kept (Kept.trans K0 HK.out)) k hkl
      have hck := hCs k hkl
      unfold CaseOkAt CaseOk at hck
      have HTk := hide (casesL_take_succ s.cases k hkl)
      obtain ⟨x, hx⟩ : ∃ x, x = s.cases.getD k CaseD.zero := ⟨_, rfl⟩
      rw [← hx] at hcc hck HTk
      have t0 := hcc 0 _ rfl
      have t1 := hcc 1 _ rfl
      rw [Nat.add_zero] at t0
      clear hcc hx
      go_wp2
      have HH : Hid (∀ u, Kept wr u → (u.cell? ⟨w.heap.size, 2, none⟩ = some (.slice (some ⟨cb, co, none⟩) s.cases.length cc) ∧ u.cell? ⟨cb, co + k * 2, none⟩ = some (.string x.text) ∧ u.cell? ⟨cb, co + k * 2 + 1, none⟩ = some (.int .i64 x.goto))) := fun u k => ⟨(k.cell (Nat.lt_of_lt_of_le qz HK.out.size)).trans hq2, (k.cell hcb).trans t0, (k.cell hcb).trans t1⟩
      clear hq2 t0 t1
      refine UpTo.region (by kernel_rfl) (fun u => u.cell? ⟨w.heap.size, 2, none⟩ = some (.slice (some ⟨cb, co, none⟩) s.cases.length cc) ∧ u.cell? ⟨cb, co + k * 2, none⟩ = some (.string x.text) ∧ u.cell? ⟨cb, co + k * 2 + 1, none⟩ = some (.int .i64 x.goto)) 20 (HH.out _ (Kept.refl wr).drew) (fun hHeld => ?_)
      have KD : Hid (Kept wr wr.drew) := (Kept.refl wr).drew
      generalize hwd : wr.drew = wd at KD hHeld ⊢
      clear hwd
      refine UpTo.take 0 [1, 9, 10, 18, 19, 20] (v := ?_) (by (simp only [List.getElem?_toArray, List.getElem?_cons_zero]; rfl)) (by kernel_rfl) (by kernel_rfl) (by kernel_rfl) (by kernel_rfl) (by exact fun _ _ _ h => h) (Or.inl ⟨by rfl, ?_⟩) hHeld ?_
      rotate_left
      · intro u hu
        try dsimp only at hu
        go_simp
        try with_reducible rfl
      try simp only [Act.put, List.setIfInBounds_toArray, List.set_cons_zero, List.set_cons_succ]
      refine UpTo.take 1 [9, 10, 18, 19, 20] (v := ?_) (by (simp only [List.getElem?_toArray, List.getElem?_cons_succ, List.getElem?_cons_zero]; rfl)) (by kernel_rfl) (by kernel_rfl) (by kernel_rfl) (by kernel_rfl) (by exact fun _ _ _ h => h) (Or.inl ⟨by rfl, ?_⟩) hHeld ?_
      rotate_left
      · intro u hu
        try dsimp only at hu
        go_simp
        rw [if_neg (by omega)]
        try with_reducible rfl
      try simp only [Act.put, List.setIfInBounds_toArray, List.set_cons_zero, List.set_cons_succ]
      refine UpTo.take 2 [3, 5, 6, 7, 8, 9, 10, 17, 18, 19, 20] (v := ?_) (by (simp only [List.getElem?_toArray, List.getElem?_cons_succ, List.getElem?_cons_zero]; rfl)) (by kernel_rfl) (by kernel_rfl) (by kernel_rfl) (by kernel_rfl) (by exact fun _ _ _ h => h) (Or.inl ⟨by rfl, ?_⟩) hHeld ?_
      rotate_left
      · intro u hu
        try dsimp only at hu
        go_simp
        try with_reducible rfl
      try simp only [Act.put, List.setIfInBounds_toArray, List.set_cons_zero, List.set_cons_succ]
      refine UpTo.take 3 [5, 6, 7, 8, 9, 10, 17, 18, 19, 20] (v := ?_) (by (simp only [List.getElem?_toArray, List.getElem?_cons_succ, List.getElem?_cons_zero]; rfl)) (by kernel_rfl) (by kernel_rfl) (by kernel_rfl) (by kernel_rfl) (by exact fun _ _ _ h => h) (Or.inl ⟨by rfl, ?_⟩) hHeld ?_
      rotate_left
      · intro u hu
        try dsimp only at hu
        go_simp
        try with_reducible rfl
      try simp only [Act.put, List.setIfInBounds_toArray, List.set_cons_zero, List.set_cons_succ]
      refine UpTo.take 4 [5, 6, 7, 8, 9, 10, 17, 18, 19, 20] (v := ?_) (by (simp only [List.getElem?_toArray, List.getElem?_cons_succ, List.getElem?_cons_zero]; rfl)) (by kernel_rfl) (by kernel_rfl) (by kernel_rfl) (by kernel_rfl) (by exact fun _ _ _ h => h) (Or.inl ⟨by rfl, ?_⟩) hHeld ?_
      rotate_left
      · intro u hu
        try dsimp only at hu
        go_simp
        try with_reducible rfl
      try simp only [Act.put, List.setIfInBounds_toArray, List.set_cons_zero, List.set_cons_succ]
      refine UpTo.take 5 [6, 7, 8, 9, 10, 17, 18, 19, 20] (v := ?_) (by (simp only [List.getElem?_toArray, List.getElem?_cons_succ, List.getElem?_cons_zero]; rfl)) (by kernel_rfl) (by kernel_rfl) (by kernel_rfl) (by kernel_rfl) (by exact fun _ _ _ h => h) (Or.inl ⟨by rfl, ?_⟩) hHeld ?_
      rotate_left
      · intro u hu
        try dsimp only at hu
        go_simp
        try with_reducible rfl
      try simp only [Act.put, List.setIfInBounds_toArray, List.set_cons_zero, List.set_cons_succ]
      refine UpTo.take 6 [7, 8, 9, 10, 17, 18, 19, 20] (v := ?_) (by (simp only [List.getElem?_toArray, List.getElem?_cons_succ, List.getElem?_cons_zero]; rfl)) (by kernel_rfl) (by kernel_rfl) (by kernel_rfl) (by kernel_rfl) (by exact fun _ _ _ h => h) (Or.inl ⟨by rfl, ?_⟩) hHeld ?_
      rotate_left
      · intro u hu
        try dsimp only at hu
        go_simp
        try with_reducible rfl
      try simp only [Act.put, List.setIfInBounds_toArray, List.set_cons_zero, List.set_cons_succ]
      refine UpTo.take 7 [8, 9, 10, 17, 18, 19, 20] (v := ?_) (by (simp only [List.getElem?_toArray, List.getElem?_cons_succ, List.getElem?_cons_zero]; rfl)) (by kernel_rfl) (by kernel_rfl) (by kernel_rfl) (by kernel_rfl) (by exact fun _ _ _ h => h) (Or.inl ⟨by rfl, ?_⟩) hHeld ?_
      rotate_left
      · intro u hu
        try dsimp only at hu
        go_simp
        try with_reducible rfl
      try simp only [Act.put, List.setIfInBounds_toArray, List.set_cons_zero, List.set_cons_succ]
      refine UpTo.take 11 [12, 14, 15, 16, 17, 18, 19, 20] (v := ?_) (by (simp only [List.getElem?_toArray, List.getElem?_cons_succ, List.getElem?_cons_zero]; rfl)) (by kernel_rfl) (by kernel_rfl) (by kernel_rfl) (by kernel_rfl) (by exact fun _ _ _ h => h) (Or.inl ⟨by rfl, ?_⟩) hHeld ?_
      rotate_left
      · intro u hu
        try dsimp only at hu
        go_simp
        try with_reducible rfl
      try simp only [Act.put, List.setIfInBounds_toArray, List.set_cons_zero, List.set_cons_succ]
      refine UpTo.take 12 [14, 15, 16, 17, 18, 19, 20] (v := ?_) (by (simp only [List.getElem?_toArray, List.getElem?_cons_succ, List.getElem?_cons_zero]; rfl)) (by kernel_rfl) (by kernel_rfl) (by kernel_rfl) (by kernel_rfl) (by exact fun _ _ _ h => h) (Or.inl ⟨by rfl, ?_⟩) hHeld ?_
      rotate_left
      · intro u hu
        try dsimp only at hu
        go_simp
        try with_reducible rfl
      try simp only [Act.put, List.setIfInBounds_toArray, List.set_cons_zero, List.set_cons_succ]
      refine UpTo.take 13 [14, 15, 16, 17, 18, 19, 20] (v := ?_) (by (simp only [List.getElem?_toArray, List.getElem?_cons_succ, List.getElem?_cons_zero]; rfl)) (by kernel_rfl) (by kernel_rfl) (by kernel_rfl) (by kernel_rfl) (by exact fun _ _ _ h => h) (Or.inl ⟨by rfl, ?_⟩) hHeld ?_
      rotate_left
      · intro u hu
        try dsimp only at hu
        go_simp
        try with_reducible rfl
      try simp only [Act.put, List.setIfInBounds_toArray, List.set_cons_zero, List.set_cons_succ]
      refine UpTo.take 14 [15, 16, 17, 18, 19, 20] (v := ?_) (by (simp only [List.getElem?_toArray, List.getElem?_cons_succ, List.getElem?_cons_zero]; rfl)) (by kernel_rfl) (by kernel_rfl) (by kernel_rfl) (by kernel_rfl) (by exact fun _ _ _ h => h) (Or.inl ⟨by rfl, ?_⟩) hHeld ?_
      rotate_left
      · intro u hu
        try dsimp only at hu
        go_simp
        try with_reducible rfl
      try simp only [Act.put, List.setIfInBounds_toArray, List.set_cons_zero, List.set_cons_succ]
      refine UpTo.take 15 [16, 17, 18, 19, 20] (v := ?_) (by (simp only [List.getElem?_toArray, List.getElem?_cons_succ, List.getElem?_cons_zero]; rfl)) (by kernel_rfl) (by kernel_rfl) (by kernel_rfl) (by kernel_rfl) (by exact fun _ _ _ h => h) (Or.inl ⟨by rfl, ?_⟩) hHeld ?_
      rotate_left
      · intro u hu
        try dsimp only at hu
        go_simp
        try with_reducible rfl
      try simp only [Act.put, List.setIfInBounds_toArray, List.set_cons_zero, List.set_cons_succ]
      refine UpTo.take 16 [17, 18, 19, 20] (v := ?_) (by (simp only [List.getElem?_toArray, List.getElem?_cons_succ, List.getElem?_cons_zero]; rfl)) (by kernel_rfl) (by kernel_rfl) (by kernel_rfl) (by kernel_rfl) (by exact fun _ _ _ h => h) (Or.inl ⟨by rfl, ?_⟩) hHeld ?_
      rotate_left
      · intro u hu
        try dsimp only at hu
        go_simp
        try with_reducible rfl
      try simp only [Act.put, List.setIfInBounds_toArray, List.set_cons_zero, List.set_cons_succ]
      refine UpTo.next 8 (by kernel_rfl) (by (simp only [List.getElem?_toArray, List.getElem?_cons_succ, List.getElem?_cons_zero]; rfl)) (fun K hK => ?_)
      rw [if_pos (by rfl)]
      go_simp
      go_at_call 26
      refine (dec_any _ x.goto (by omega) (by omega)).mono ?_
      rintro e w8 ⟨⟨d8, rfl, hd8, hs8⟩, k8⟩
      dsimp only
      have HD8 := hide hd8
      have K8 := hide (Kept.trans KD.out k8)
      clear hd8 k8
      refine hK.out _ _ (fun _ => HH.out _ K8.out) ?_
      clear hK K hHeld
      have hHeld := HH.out _ K8.out
      try simp only [Act.put, List.setIfInBounds_toArray, List.set_cons_zero, List.set_cons_succ]
      generalize hb1 : (o ++ ⟨#[99, 97, 115, 101, 32]⟩ : ByteArray) = b1
      have hs_b1 : b1.size ≤ 4005 := by rw [← hb1]; simp only [ByteArray.size_append]; show o.size + 5 ≤ 4005; omega
      have HL_b1 : Hid (b1.data.toList = o.data.toList ++ [99, 97, 115, 101, 32]) := by show _ = _; rw [← hb1]; simp only [ba_append]; skip
      clear hb1
      refine UpTo.take 9 [10, 18, 19, 20] (v := ?_) (by (simp only [List.getElem?_toArray, List.getElem?_cons_succ, List.getElem?_cons_zero]; rfl)) (by kernel_rfl) (by kernel_rfl) (by kernel_rfl) (by kernel_rfl) (by exact fun _ _ _ h => h) (Or.inl ⟨by rfl, ?_⟩) hHeld ?_
      rotate_left
      · intro u hu
        try dsimp only at hu
        go_simp
        rw [if_neg (by omega)]
        try with_reducible rfl
      try simp only [Act.put, List.setIfInBounds_toArray, List.set_cons_zero, List.set_cons_succ]
      refine UpTo.take 10 [18, 19, 20] (v := ?_) (by (simp only [List.getElem?_toArray, List.getElem?_cons_succ, List.getElem?_cons_zero]; rfl)) (by kernel_rfl) (by kernel_rfl) (by kernel_rfl) (by kernel_rfl) (by exact fun _ _ _ h => h) (Or.inl ⟨by rfl, ?_⟩) hHeld ?_
      rotate_left
      · intro u hu
        try dsimp only at hu
        go_simp
        rw [if_neg (by omega)]
        try with_reducible rfl
      try simp only [Act.put, List.setIfInBounds_toArray, List.set_cons_zero, List.set_cons_succ]
      generalize hb2 : (b1 ++ d8 ++ ⟨#[32]⟩ : ByteArray) = b2
      have hs_b2 : b2.size ≤ 4010 := by rw [← hb2]; simp only [ByteArray.size_append]; show b1.size + d8.size + 1 ≤ 4010; omega
      have HL_b2 : Hid (b2.data.toList = o.data.toList ++ [99, 97, 115, 101, 32] ++ decL x.goto ++ [32]) := by show _ = _; rw [← hb2]; simp only [ba_append]; rw [HL_b1.out, HD8.out]
      clear hb2
      refine UpTo.next 17 (by kernel_rfl) (by (simp only [List.getElem?_toArray, List.getElem?_cons_succ, List.getElem?_cons_zero]; rfl)) (fun K hK => ?_)
      rw [if_pos (by rfl)]
      go_simp
      go_at_call 45
      refine (specQuote_any _ x.text (by omega)).mono ?_
      rintro e w17 ⟨⟨d17, rfl, hd17⟩, k17⟩
      dsimp only
      have hs17 : d17.size ≤ 700 := by have h1 := congrArg List.length hd17; have h2 := quoteL_len x.text.data.toList; rw [show d17.data.toList.length = d17.size by simp] at h1; rw [show x.text.data.toList.length = x.text.size by simp] at h2; omega
      have HD17 := hide hd17
      have K17 := hide (Kept.trans K8.out k17)
      clear hd17 k17
      refine hK.out _ _ (fun _ => HH.out _ K17.out) ?_
      clear hK K hHeld
      have hHeld := HH.out _ K17.out
      try simp only [Act.put, List.setIfInBounds_toArray, List.set_cons_zero, List.set_cons_succ]
      refine UpTo.next 18 (by kernel_rfl) (by (simp only [List.getElem?_toArray, List.getElem?_cons_succ, List.getElem?_cons_zero]; rfl)) (fun K hK => ?_)
      rw [if_pos (by rfl)]
      go_simp
      rw [if_neg (by omega), Oper.upon_value]
      refine hK.out _ _ (fun _ => HH.out _ K17.out) ?_
      clear hK K hHeld
      have hHeld := HH.out _ K17.out
      try simp only [Act.put, List.setIfInBounds_toArray, List.set_cons_zero, List.set_cons_succ]
      refine UpTo.next 19 (by kernel_rfl) (by (simp only [List.getElem?_toArray, List.getElem?_cons_succ, List.getElem?_cons_zero]; rfl)) (fun K hK => ?_)
      rw [if_pos (by rfl)]
      go_simp
      rw [if_neg (by have e1 : (b2 ++ d17).size = b2.size + d17.size := ByteArray.size_append; have e2 : (⟨#[10]⟩ : ByteArray).size = 1 := rfl; omega), Oper.upon_value]
      refine hK.out _ _ (fun _ => HH.out _ K17.out) ?_
      clear hK K hHeld
      have hHeld := HH.out _ K17.out
      try simp only [Act.put, List.setIfInBounds_toArray, List.set_cons_zero, List.set_cons_succ]
      generalize hb3 : (b2 ++ d17 ++ ⟨#[10]⟩ : ByteArray) = b3
      have hs_b3 : b3.size ≤ 5000 := by rw [← hb3]; simp only [ByteArray.size_append]; show b2.size + d17.size + 1 ≤ 5000; omega
      have HL_b3 : Hid (b3.data.toList = o.data.toList ++ caseL x) := by show _ = _; rw [← hb3]; simp only [ba_append]; rw [HL_b2.out, HD17.out]; simp [caseL]
      clear hb3
      refine UpTo.next 20 (by kernel_rfl) (by (simp only [List.getElem?_toArray, List.getElem?_cons_succ, List.getElem?_cons_zero]; rfl)) (fun K hK => ?_)
      go_simp
      refine hK.out _ _ (fun h => absurd rfl h) ?_
      clear hK K
      try simp only [Act.put, List.setIfInBounds_toArray, List.set_cons_zero, List.set_cons_succ]
      refine UpTo.done (by kernel_rfl) ?_
      clear HH hHeld KD K8 HL_b1 HL_b2 HD8 HD17
      go_wp2
      go_roundw
      case rel => exact ⟨k + 1, b3, by omega, by go_num, rfl, hide (by rw [HTk.out, HL_b3.out, HO.out, List.append_assoc]), hide (Kept.trans HK.out K17.out)⟩
      case measure => simp [intOf]; omega
    · obtain rfl : k = s.cases.length := by omega
      rw [List.take_length] at HO
      go_wp2
      go_ret
      exact ⟨⟨o, rfl, HO.out⟩, Kept.trans K0 HK.out⟩

end Go.Proofs.YtinkfgkjdaaeaaaGreatDoor
