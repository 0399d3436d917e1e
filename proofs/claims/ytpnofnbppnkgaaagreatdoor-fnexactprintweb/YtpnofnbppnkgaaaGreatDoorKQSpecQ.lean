import Derived.Test.YtpnofnbppnkgaaaGreatDoorKQSpec
import Derived.Test.YtpnofnbppnkgaaaGreatDoorKWCheck4
import Derived.Lib.UnsafeStr
import Derived.Laws.AppendOwn
import Derived.Deep.AppendLies
import Derived.Deep.Cut

namespace Go.Proofs.YtpnofnbppnkgaaaGreatDoor
open Go.RowKit

theorem Tryz.infoU8 : (Tryz.prog.info? 5).map (fun i => (i.zero, i.size, i.bytes)) = some (some (.int .u8 0), 1, 1) := by kernel_rfl

theorem ownsRow_kept0 {w w' : World} {B : Nat} {e : TypeId} {v : Value} {n : Nat} {xs : List Value} (h : w.ownsRow B e 1 v n xs) (k : Kept w w') : w'.ownsRow B e 1 v n xs := by
  refine ⟨h.1, ?_⟩
  rcases h.2 with hn | ⟨g, cap, cur, hv, hbg, hg, rest⟩
  · exact .inl hn
  · exact .inr ⟨g, cap, cur, hv, hbg, by rw [k.block g (Array.getElem?_eq_some_iff.1 hg).1]; exact hg, rest⟩

theorem kept_grown0 {w w1 w2 : World} {e : TypeId} {v : Value} {n : Nat} {xs : List Value} (k : Kept w w1) (hg : w1.grownBy w2 v.ownBlock) (ho : w1.ownsRow w.heap.size e 1 v n xs) : Kept w w2 :=
  Below.grown k hg k.size (fun q hq => (ho.lt q hq).1)

theorem own_slice {w : World} {B : Nat} {e : TypeId} {v : Value} {n : Nat} {xs : List Value} (h : w.ownsRow B e 1 v n xs) (_ : 0 ≤ n) : ∃ av cv, v = .slice av n cv := by
  rcases h.2 with ⟨hv, h0⟩ | ⟨g, cap, cur, hv, _⟩
  · exact ⟨none, 0, by rw [hv, h0]⟩
  · exact ⟨_, _, hv⟩

theorem tabU (n : Nat) (h : n < 16) (h' : n < (⟨#[48, 49, 50, 51, 52, 53, 54, 55, 56, 57, 97, 98, 99, 100, 101, 102]⟩ : ByteArray).size) : (⟨#[48, 49, 50, 51, 52, 53, 54, 55, 56, 57, 97, 98, 99, 100, 101, 102]⟩ : ByteArray)[n] = hexDig n := by
  have : ∀ m : Fin 16, (⟨#[48, 49, 50, 51, 52, 53, 54, 55, 56, 57, 97, 98, 99, 100, 101, 102]⟩ : ByteArray)[m.val]'(Nat.lt_of_lt_of_le m.isLt (by decide)) = hexDig m.val := by decide +kernel
  exact this ⟨n, h⟩

theorem bytes_back {w : World} {B g cv : Nat} {l : List UInt8} {x : UInt8} (h : w.ownsRow B 5 1 (.slice (some ⟨g, 0, none⟩) (l.length + 1) cv) (l.length + 1) (Lib.byteCells l ++ [.int .u8 (x.toNat : Int)])) :
    (convert 35 9 (.slice (some ⟨g, 0, none⟩) (l.length + 1) cv)).run Tryz.prog w = .ok (.string ⟨(l ++ [x]).toArray⟩) w := by
  have e : l.length + 1 = (l ++ [x]).length := by simp
  have hc : Lib.byteCells l ++ [.int .u8 (x.toNat : Int)] = Lib.byteCells (l ++ [x]) := by simp [Lib.byteCells]
  rw [e, hc] at h
  rw [e]
  refine run_convert_bytes_back w 35 9 5 ⟨g, 0, none⟩ cv (l ++ [x]) Tryz.underlying35 Tryz.underlying5 Tryz.underlying9 (fun j hj => ?_)
  exact h.cells (g := g) rfl j _ (by simp only [Lib.byteCells, List.getElem?_map, List.getElem?_eq_getElem hj, Option.map_some])

set_option maxRecDepth 100000 in
set_option maxHeartbeats 6400000 in
theorem specQuote_any (w : World) (s : ByteArray) (hs : s.size ≤ 100000) :
    Calls Tryz.prog 22 #[.string s] w fun e w' => (∃ d : ByteArray, e = .returned (.string d) ∧ d.data.toList = quoteL s.data.toList) ∧ Kept w w' := by
  obtain ⟨i0, hi, hz0, hz1, hz2⟩ := info_parts Tryz.infoU8
  obtain ⟨W0, hW0⟩ : ∃ W0, W0 = w.alloc (.cells #[.int .u8 34] 5) := ⟨_, rfl⟩
  have K0 : Hid (Kept w W0) := by rw [hW0]; exact (Kept.refl _).alloc _
  have HO0 : Hid (W0.ownsRow w.heap.size 5 1 (.slice (some ⟨w.heap.size, 0, none⟩) 1 1) (34 :: quotesL (s.data.toList.take 0)).length (Lib.byteCells (34 :: quotesL (s.data.toList.take 0)))) := by
    rw [hW0]
    exact ⟨rfl, .inr ⟨w.heap.size, 1, _, rfl, Nat.le_refl _, heap_alloc_new w _, Nat.le_refl _, by unfold maxLen; omega, rfl, rfl⟩⟩
  go_enter Tryz.func22, Tryz.ntmps22
  go_upto_region 2 with fail
  rw [← hW0]
  clear hW0
  go_wp2
  go_loopw [3, 5] (fun x i wr => ∃ (k : Nat) (av : Option Addr) (cv : Nat), k ≤ s.size ∧ i = .int .i64 k ∧ x = .slice av (34 :: quotesL (s.data.toList.take k)).length cv ∧ Hid (wr.ownsRow w.heap.size 5 1 (.slice av (34 :: quotesL (s.data.toList.take k)).length cv) (34 :: quotesL (s.data.toList.take k)).length (Lib.byteCells (34 :: quotesL (s.data.toList.take k)))) ∧ Hid (Kept w wr)) (fun _ i _ => s.size - (intOf i).toNat)
  case atStart => exact ⟨0, _, _, Nat.zero_le _, rfl, rfl, HO0, K0⟩
  case round =>
    obtain ⟨k, av, cv, hk, rfl, rfl, HO, Kr⟩ := hrel
    clear HO0 K0
    have hql := quotesL_len (s.data.toList.take k)
    have hsl : s.data.toList.length = s.size := by simp
    have htl : (s.data.toList.take k).length = k := by rw [List.length_take]; omega
    have hzr : w.heap.size ≤ wr.heap.size := Kr.out.size
    by_cases hlt : (k : Int) < (s.size : Int)
    · have hkl : k < s.size := by omega
      have hkt : k < s.data.toList.length := by simpa using hkl
      have hxe : s.data.toList[k] = s[k] := by simp; rfl
      obtain ⟨x, hx⟩ : ∃ x, x = s[k] := ⟨_, rfl⟩
      have HQ : Hid (quotesL (s.data.toList.take (k + 1)) = quotesL (s.data.toList.take k) ++ quoteB x) := by show _ = _; rw [quotesL_take_succ _ k hkt, hxe, hx]
      have hxl := x.toNat_lt
      have hx' : s[k] = x := hx.symm
      clear hxe hx
      obtain ⟨ql, hq⟩ : ∃ ql, ql = quotesL (s.data.toList.take k) := ⟨_, rfl⟩
      rw [← hq] at HQ HO hql ⊢
      clear hq
      have hq1 : (34 :: ql).length ≤ 1000000 := by simp only [List.length_cons]; omega
      by_cases hp : PlainB x
      · have HY : Hid (quoteB x = [x]) := if_pos hp
        have h1 : (32 : Int) ≤ (x.toNat : Int) := by have := hp.1; omega
        have h2 : (x.toNat : Int) ≤ 126 := by have := hp.2.1; omega
        have h3 : ((x.toNat : Int) != 34) = true := by have := hp.2.2.1; simp; omega
        have h4 : ((x.toNat : Int) != 92) = true := by have := hp.2.2.2; simp; omega
        clear hp
        have K7 : Kept wr (wr.alloc (.cells #[.int .u8 (x.toNat : Int)] 5)) := (Kept.refl _).alloc _
        have HNw : Hid (∀ j u, ([.int .u8 (x.toNat : Int)] : List Value)[j]? = some u → (wr.alloc (.cells #[.int .u8 (x.toNat : Int)] 5)).cell? ((⟨wr.heap.size, 0, none⟩ : Addr).add j) = some u) := fun j u hu => by rw [Addr.add_mid]; exact range_made wr #[.int .u8 (x.toNat : Int)] 5 j u hu
        have HOne : Hid (∀ u ∈ ([.int .u8 (x.toNat : Int)] : List Value), u.oneCell' = true) := fun u hu => by simp only [List.mem_cons, List.not_mem_nil, or_false] at hu; subst hu; rfl
        have HOA := hide (ownsRow_kept0 HO.out K7)
        have KA := hide (Kept.trans Kr.out K7)
        have hzA : w.heap.size ≤ (wr.alloc (.cells #[.int .u8 (x.toNat : Int)] 5)).heap.size := KA.out.size
        clear K7
        go_wp2_with (at_builtin; refine wpList_append_own _ rfl (.tmp 35) (.tmp 39) 35 rfl w.heap.size 5 i0 (.int .u8 0) 1 1 Tryz.underlying35 hi hz0 hz1 hz2 rfl (by decide) (.slice av (34 :: ql).length cv) (34 :: ql).length (Lib.byteCells (34 :: ql)) rfl HOA.out ⟨wr.heap.size, 0, none⟩ 1 1 [.int .u8 (x.toNat : Int)] rfl rfl HNw.out HOne.out (by unfold maxLen; omega) (by omega) hzA ?_; intro v7 w7 hown7 hgr7 _; have HO7 := hide hown7; have K7 := hide (kept_grown0 KA.out hgr7 HOA.out); clear hown7 hgr7; obtain ⟨av7, cv7, rfl⟩ := own_slice HO7.out (by omega))
        go_roundw
        case rel =>
          have e : (34 :: quotesL (s.data.toList.take (k + 1))) = (34 :: ql) ++ [x] := by rw [HQ.out, HY.out]; rfl
          refine ⟨k + 1, av7, cv7, by omega, by go_num, by rw [e, List.length_append]; rfl, hide ?_, K7⟩
          rw [e, List.length_append, Lib.byteCells_append]
          exact HO7.out
        case measure => simp [intOf]; omega
      · have HNo : Hid (quoteB x = 92 :: hexL 2 x.toNat) := if_neg hp
        obtain ⟨q, hq⟩ : ∃ q, q = x.toNat / 16 := ⟨_, rfl⟩
        obtain ⟨r, hr⟩ : ∃ r, r = x.toNat % 16 := ⟨_, rfl⟩
        have hq16 : q < 16 := by omega
        have hr16 : r < 16 := by omega
        have HNo : Hid (quoteB x = [92, hexDig q, hexDig r]) := by
          show _ = _
          rw [HNo.out]
          simp only [hexL, Nat.pow_one, Nat.pow_zero, Nat.div_one]
          rw [← hq, Nat.mod_eq_of_lt hq16, ← hr]
        have hq' : (x.toNat : Int) / 16 = (q : Int) := by omega
        have hr' : (x.toNat : Int).tmod 16 = (r : Int) := by rw [Int.tmod_eq_emod_of_nonneg (by omega)]; omega
        have hwq : IntKind.u8.wrap (q : Int) = (q : Int) := by rw [IntKind.wrap_u8]; omega
        have HOne : Hid (∀ u ∈ ([.int .u8 92, .int .u8 ((hexDig q).toNat : Int), .int .u8 ((hexDig r).toNat : Int)] : List Value), u.oneCell' = true) := fun u hu => by
          simp only [List.mem_cons, List.not_mem_nil, or_false] at hu
          rcases hu with rfl | rfl | rfl <;> rfl
        have hqI : (q : Int) < 16 := by omega
        have hrI : (r : Int) < 16 := by omega
        have tq := tabU q hq16
        have tr := tabU r hr16
        have hcase : (¬ (32 : Int) ≤ (x.toNat : Int)) ∨ ((32 : Int) ≤ (x.toNat : Int) ∧ ¬ (x.toNat : Int) ≤ 126) ∨ ((32 : Int) ≤ (x.toNat : Int) ∧ (x.toNat : Int) ≤ 126 ∧ ((x.toNat : Int) != 34) = false) ∨ ((32 : Int) ≤ (x.toNat : Int) ∧ (x.toNat : Int) ≤ 126 ∧ ((x.toNat : Int) != 34) = true ∧ ((x.toNat : Int) != 92) = false) := by
          unfold PlainB at hp
          simp only [bne_eq_false_iff_eq, bne_iff_ne, ne_eq]
          omega
        clear hp hq hr
        rcases hcase with h1 | ⟨h1, h2⟩ | ⟨h1, h2, h3⟩ | ⟨h1, h2, h3, h4⟩
        all_goals
          go_wp2
          refine UpTo.region (by kernel_rfl) (fun _ => True) 15 trivial (fun hHeld => ?_)
          have KD : Hid (Kept wr wr.drew) := (Kept.refl wr).drew
          generalize hwd : wr.drew = wd at KD ⊢
          clear hwd
          refine UpTo.take 0 [14, 15] (v := ?_) (by (simp only [List.getElem?_toArray, List.getElem?_cons_zero]; rfl)) (by kernel_rfl) (by kernel_rfl) (by kernel_rfl) (by kernel_rfl) (by exact fun _ _ _ h => h) (Or.inl ⟨by rfl, ?_⟩) hHeld ?_
          rotate_left
          · intro u hu
            try dsimp only at hu
            go_simp
            try with_reducible rfl
          try simp only [Act.put, List.setIfInBounds_toArray, List.set_cons_zero, List.set_cons_succ]
          refine UpTo.take 1 [6, 13, 14, 15] (v := ?_) (by (simp only [List.getElem?_toArray, List.getElem?_cons_succ, List.getElem?_cons_zero]; rfl)) (by kernel_rfl) (by kernel_rfl) (by kernel_rfl) (by kernel_rfl) (by exact fun _ _ _ h => h) (Or.inl ⟨by rfl, ?_⟩) hHeld ?_
          rotate_left
          · intro u hu
            try dsimp only at hu
            go_simp
            try with_reducible rfl
          try simp only [Act.put, List.setIfInBounds_toArray, List.set_cons_zero, List.set_cons_succ]
          refine UpTo.take 2 [4, 5, 6, 13, 14, 15] (v := ?_) (by (simp only [List.getElem?_toArray, List.getElem?_cons_succ, List.getElem?_cons_zero]; rfl)) (by kernel_rfl) (by kernel_rfl) (by kernel_rfl) (by kernel_rfl) (by exact fun _ _ _ h => h) (Or.inl ⟨by rfl, ?_⟩) hHeld ?_
          rotate_left
          · intro u hu
            try dsimp only at hu
            go_simp
            try with_reducible rfl
          try simp only [Act.put, List.setIfInBounds_toArray, List.set_cons_zero, List.set_cons_succ]
          refine UpTo.take 3 [4, 5, 6, 13, 14, 15] (v := ?_) (by (simp only [List.getElem?_toArray, List.getElem?_cons_succ, List.getElem?_cons_zero]; rfl)) (by kernel_rfl) (by kernel_rfl) (by kernel_rfl) (by kernel_rfl) (by exact fun _ _ _ h => h) (Or.inl ⟨by rfl, ?_⟩) hHeld ?_
          rotate_left
          · intro u hu
            try dsimp only at hu
            go_simp
            try with_reducible rfl
          try simp only [Act.put, List.setIfInBounds_toArray, List.set_cons_zero, List.set_cons_succ]
          refine UpTo.take 4 [5, 6, 13, 14, 15] (v := ?_) (by (simp only [List.getElem?_toArray, List.getElem?_cons_succ, List.getElem?_cons_zero]; rfl)) (by kernel_rfl) (by kernel_rfl) (by kernel_rfl) (by kernel_rfl) (by exact fun _ _ _ h => h) (Or.inl ⟨by rfl, ?_⟩) hHeld ?_
          rotate_left
          · intro u hu
            try dsimp only at hu
            go_simp
            try with_reducible rfl
          try simp only [Act.put, List.setIfInBounds_toArray, List.set_cons_zero, List.set_cons_succ]
          refine UpTo.take 5 [6, 13, 14, 15] (v := ?_) (by (simp only [List.getElem?_toArray, List.getElem?_cons_succ, List.getElem?_cons_zero]; rfl)) (by kernel_rfl) (by kernel_rfl) (by kernel_rfl) (by kernel_rfl) (by exact fun _ _ _ h => h) (Or.inl ⟨by rfl, ?_⟩) hHeld ?_
          rotate_left
          · intro u hu
            try dsimp only at hu
            go_simp
            try with_reducible rfl
          try simp only [Act.put, List.setIfInBounds_toArray, List.set_cons_zero, List.set_cons_succ]
          refine UpTo.take 6 [13, 14, 15] (v := ?_) (by (simp only [List.getElem?_toArray, List.getElem?_cons_succ, List.getElem?_cons_zero]; rfl)) (by kernel_rfl) (by kernel_rfl) (by kernel_rfl) (by kernel_rfl) (by exact fun _ _ _ h => h) (Or.inl ⟨by rfl, ?_⟩) hHeld ?_
          rotate_left
          · intro u hu
            try dsimp only at hu
            go_simp
            try with_reducible rfl
          try simp only [Act.put, List.setIfInBounds_toArray, List.set_cons_zero, List.set_cons_succ]
          refine UpTo.take 7 [12, 13, 14, 15] (v := ?_) (by (simp only [List.getElem?_toArray, List.getElem?_cons_succ, List.getElem?_cons_zero]; rfl)) (by kernel_rfl) (by kernel_rfl) (by kernel_rfl) (by kernel_rfl) (by exact fun _ _ _ h => h) (Or.inl ⟨by rfl, ?_⟩) hHeld ?_
          rotate_left
          · intro u hu
            try dsimp only at hu
            go_simp
            try with_reducible rfl
          try simp only [Act.put, List.setIfInBounds_toArray, List.set_cons_zero, List.set_cons_succ]
          refine UpTo.take 8 [10, 11, 12, 13, 14, 15] (v := ?_) (by (simp only [List.getElem?_toArray, List.getElem?_cons_succ, List.getElem?_cons_zero]; rfl)) (by kernel_rfl) (by kernel_rfl) (by kernel_rfl) (by kernel_rfl) (by exact fun _ _ _ h => h) (Or.inl ⟨by rfl, ?_⟩) hHeld ?_
          rotate_left
          · intro u hu
            try dsimp only at hu
            go_simp
            try with_reducible rfl
          try simp only [Act.put, List.setIfInBounds_toArray, List.set_cons_zero, List.set_cons_succ]
          refine UpTo.take 9 [10, 11, 12, 13, 14, 15] (v := ?_) (by (simp only [List.getElem?_toArray, List.getElem?_cons_succ, List.getElem?_cons_zero]; rfl)) (by kernel_rfl) (by kernel_rfl) (by kernel_rfl) (by kernel_rfl) (by exact fun _ _ _ h => h) (Or.inl ⟨by rfl, ?_⟩) hHeld ?_
          rotate_left
          · intro u hu
            try dsimp only at hu
            go_simp
            try with_reducible rfl
          try simp only [Act.put, List.setIfInBounds_toArray, List.set_cons_zero, List.set_cons_succ]
          refine UpTo.take 10 [11, 12, 13, 14, 15] (v := ?_) (by (simp only [List.getElem?_toArray, List.getElem?_cons_succ, List.getElem?_cons_zero]; rfl)) (by kernel_rfl) (by kernel_rfl) (by kernel_rfl) (by kernel_rfl) (by exact fun _ _ _ h => h) (Or.inl ⟨by rfl, ?_⟩) hHeld ?_
          rotate_left
          · intro u hu
            try dsimp only at hu
            go_simp
            try with_reducible rfl
          try simp only [Act.put, List.setIfInBounds_toArray, List.set_cons_zero, List.set_cons_succ]
          refine UpTo.take 11 [12, 13, 14, 15] (v := ?_) (by (simp only [List.getElem?_toArray, List.getElem?_cons_succ, List.getElem?_cons_zero]; rfl)) (by kernel_rfl) (by kernel_rfl) (by kernel_rfl) (by kernel_rfl) (by exact fun _ _ _ h => h) (Or.inl ⟨by rfl, ?_⟩) hHeld ?_
          rotate_left
          · intro u hu
            try dsimp only at hu
            go_simp
            try with_reducible rfl
          try simp only [Act.put, List.setIfInBounds_toArray, List.set_cons_zero, List.set_cons_succ]
          refine UpTo.take 12 [13, 14, 15] (v := ?_) (by (simp only [List.getElem?_toArray, List.getElem?_cons_succ, List.getElem?_cons_zero]; rfl)) (by kernel_rfl) (by kernel_rfl) (by kernel_rfl) (by kernel_rfl) (by exact fun _ _ _ h => h) (Or.inl ⟨by rfl, ?_⟩) hHeld ?_
          rotate_left
          · intro u hu
            try dsimp only at hu
            go_simp
            try with_reducible rfl
          try simp only [Act.put, List.setIfInBounds_toArray, List.set_cons_zero, List.set_cons_succ]
          refine UpTo.next 13 (by kernel_rfl) (by (simp only [List.getElem?_toArray, List.getElem?_cons_succ, List.getElem?_cons_zero]; rfl)) (fun K hK => ?_)
          rw [if_pos (by rfl)]
          go_simp
          have K13 : Kept wd (wd.alloc (.cells #[.int .u8 92, .int .u8 ((hexDig q).toNat : Int), .int .u8 ((hexDig r).toNat : Int)] 5)) := (Kept.refl _).alloc _
          have HNw : Hid (∀ j u, ([.int .u8 92, .int .u8 ((hexDig q).toNat : Int), .int .u8 ((hexDig r).toNat : Int)] : List Value)[j]? = some u → (wd.alloc (.cells #[.int .u8 92, .int .u8 ((hexDig q).toNat : Int), .int .u8 ((hexDig r).toNat : Int)] 5)).cell? ((⟨wd.heap.size, 0, none⟩ : Addr).add j) = some u) := fun j u hu => by rw [Addr.add_mid]; exact range_made wd #[.int .u8 92, .int .u8 ((hexDig q).toNat : Int), .int .u8 ((hexDig r).toNat : Int)] 5 j u hu
          have HOA := hide (ownsRow_kept0 HO.out (Kept.trans KD.out K13))
          have KA := hide (Kept.trans Kr.out (Kept.trans KD.out K13))
          refine hK.out _ _ (fun _ => trivial) ?_
          clear hK K K13
          try simp only [Act.put, List.setIfInBounds_toArray, List.set_cons_zero, List.set_cons_succ]
          have hzA : w.heap.size ≤ (wd.alloc (.cells #[.int .u8 92, .int .u8 ((hexDig q).toNat : Int), .int .u8 ((hexDig r).toNat : Int)] 5)).heap.size := KA.out.size
          generalize hwa : wd.alloc (.cells #[.int .u8 92, .int .u8 ((hexDig q).toNat : Int), .int .u8 ((hexDig r).toNat : Int)] 5) = wa at HNw HOA KA hzA ⊢
          clear hwa
          refine UpTo.next 14 (by kernel_rfl) (by (simp only [List.getElem?_toArray, List.getElem?_cons_succ, List.getElem?_cons_zero]; rfl)) (fun K hK => ?_)
          rw [if_pos (by rfl)]
          refine wp_append_own _ (.tmp 41) (.tmp 54) 35 rfl w.heap.size 5 i0 (.int .u8 0) 1 1 Tryz.underlying35 hi hz0 hz1 hz2 rfl (by decide) (.slice av (34 :: ql).length cv) (34 :: ql).length (Lib.byteCells (34 :: ql)) rfl HOA.out ⟨wd.heap.size, 0, none⟩ 3 3 [.int .u8 92, .int .u8 ((hexDig q).toNat : Int), .int .u8 ((hexDig r).toNat : Int)] rfl rfl HNw.out HOne.out (by unfold maxLen; omega) (by omega) hzA ?_
          intro v7 w7 hown7 hgr7 _
          have HO7 := hide hown7
          have K7 := hide (kept_grown0 KA.out hgr7 HOA.out)
          clear hown7 hgr7
          obtain ⟨av7, cv7, rfl⟩ := own_slice HO7.out (by omega)
          refine hK.out _ _ (fun _ => trivial) ?_
          clear hK K
          try simp only [Act.put, List.setIfInBounds_toArray, List.set_cons_zero, List.set_cons_succ]
          refine UpTo.next 15 (by kernel_rfl) (by (simp only [List.getElem?_toArray, List.getElem?_cons_succ, List.getElem?_cons_zero]; rfl)) (fun K hK => ?_)
          go_simp
          refine hK.out _ _ (fun h => absurd rfl h) ?_
          clear hK K
          try simp only [Act.put, List.setIfInBounds_toArray, List.set_cons_zero, List.set_cons_succ]
          refine UpTo.done (by kernel_rfl) ?_
          go_wp2
          go_roundw
          case rel =>
            have e : (34 :: quotesL (s.data.toList.take (k + 1))) = (34 :: ql) ++ [92, hexDig q, hexDig r] := by rw [HQ.out, HNo.out]; rfl
            refine ⟨k + 1, av7, cv7, by omega, by go_num, by rw [e, List.length_append]; rfl, hide ?_, K7⟩
            rw [e, List.length_append, Lib.byteCells_append]
            exact HO7.out
          case measure => simp [intOf]; omega
    · obtain rfl : k = s.size := by omega
      have hta : s.data.toList.take s.size = s.data.toList := List.take_of_length_le (by simp)
      rw [hta] at HO hql ⊢
      clear hta htl
      obtain ⟨ql, hq⟩ : ∃ ql, ql = quotesL s.data.toList := ⟨_, rfl⟩
      have HQL : Hid (quoteL s.data.toList = (34 :: ql) ++ [34]) := by show _ = _; rw [hq]; rfl
      rw [← hq] at HO hql ⊢
      clear hq
      have hq1 : (34 :: ql).length ≤ 1000000 := by simp only [List.length_cons]; omega
      have K7 : Kept wr (wr.alloc (.cells #[.int .u8 34] 5)) := (Kept.refl _).alloc _
      have HNw : Hid (∀ j u, ([.int .u8 34] : List Value)[j]? = some u → (wr.alloc (.cells #[.int .u8 34] 5)).cell? ((⟨wr.heap.size, 0, none⟩ : Addr).add j) = some u) := fun j u hu => by rw [Addr.add_mid]; exact range_made wr #[.int .u8 34] 5 j u hu
      have HOne : Hid (∀ u ∈ ([.int .u8 34] : List Value), u.oneCell' = true) := fun u hu => by simp only [List.mem_cons, List.not_mem_nil, or_false] at hu; subst hu; rfl
      have HOA := hide (ownsRow_kept0 HO.out K7)
      have KA := hide (Kept.trans Kr.out K7)
      have hzA : w.heap.size ≤ (wr.alloc (.cells #[.int .u8 34] 5)).heap.size := KA.out.size
      clear K7
      go_wp2_with (at_builtin; refine wpList_append_lies _ rfl (.tmp 56) (.tmp 57) 35 rfl w.heap.size 5 i0 (.int .u8 0) 1 1 Tryz.underlying35 hi hz0 hz1 hz2 rfl (by decide) (.slice av (34 :: ql).length cv) (34 :: ql).length (Lib.byteCells (34 :: ql)) rfl HOA.out ⟨wr.heap.size, 0, none⟩ 1 1 [.int .u8 34] rfl rfl HNw.out HOne.out (by decide) (by unfold maxLen; omega) (by omega) hzA _ rfl ?_; intro g7 cv7 w7 hown7 hgr7 _ _; have HO7 := hide hown7; have K7 := hide (kept_grown0 KA.out hgr7 HOA.out); have hcv : (convert 35 9 (.slice (some ⟨g7, 0, none⟩) (ql.length + 1 + 1) cv7)).run Tryz.prog w7 = .ok (.string ⟨((34 :: ql) ++ [34]).toArray⟩) w7 := (bytes_back (l := 34 :: ql) (x := 34) HO7.out); clear hown7 hgr7)
      go_ret
      exact ⟨⟨_, rfl, HQL.out.symm⟩, K7.out⟩

end Go.Proofs.YtpnofnbppnkgaaaGreatDoor
