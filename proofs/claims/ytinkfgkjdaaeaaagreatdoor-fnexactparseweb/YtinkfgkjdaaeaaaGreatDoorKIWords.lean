import Derived.Test.YtinkfgkjdaaeaaaGreatDoorKJAskB
import Derived.Test.YtinkfgkjdaaeaaaGreatDoorKOOrder
import Derived.Lib.UnsafeStr
import Derived.Laws.AppendOwn
import Derived.Deep.Cut
import Derived.Test.YtinkfgkjdaaeaaaGreatDoorKOPackN
import Derived.Laws.OwnMore
import Derived.Test.YtinkfgkjdaaeaaaGreatDoorKVFit8

namespace Go.Proofs.YtinkfgkjdaaeaaaGreatDoor
open Go.RowKit

theorem Tryz.infoU8I : (Tryz.prog.info? 5).map (fun i => (i.zero, i.size, i.bytes)) = some (some (.int .u8 0), 1, 1) := by kernel_rfl
theorem boxB (w : World) (x : UInt8) : ∀ j u, ([.int .u8 (x.toNat : Int)] : List Value)[j]? = some u → (w.alloc (.cells #[.int .u8 (x.toNat : Int)] 5)).cell? ((⟨w.heap.size, 0, none⟩ : Addr).add j) = some u := fun j u hu => by
  rw [Addr.add_mid]
  exact range_new w #[.int .u8 (x.toNat : Int)] 5 j u hu
theorem oneB (x : UInt8) : ∀ u ∈ ([.int .u8 (x.toNat : Int)] : List Value), u.oneCell' = true := fun u hu => by
  simp only [List.mem_cons, List.not_mem_nil, or_false] at hu
  subst hu
  rfl
theorem more_bytes {w : World} {B : Nat} {e : TypeId} {v : Value} {o : List UInt8} {y : UInt8} (h : w.ownsRow B e 1 v (o.length + 1) (Lib.byteCells o ++ [.int .u8 (y.toNat : Int)])) : w.ownsRow B e 1 v (o ++ [y]).length (Lib.byteCells (o ++ [y])) := by
  rw [List.length_append, Lib.byteCells_append]
  exact h
theorem bytesI {w : World} {B : Nat} {v : Value} {l : List UInt8} (h : w.ownsRow B 5 1 v l.length (Lib.byteCells l)) : (convert 63 9 v).run Tryz.prog w = .ok (.string ⟨l.toArray⟩) w := by
  rcases h.2 with ⟨rfl, h0⟩ | ⟨g, cap, cur, rfl, _⟩
  · rw [List.eq_nil_of_length_eq_zero h0]
    exact run_convert_bytes_nil w 63 5 Tryz.underlying63 Tryz.underlying5 0 0 9 Tryz.underlying9
  · refine run_convert_bytes_back w 63 9 5 ⟨g, 0, none⟩ cap l Tryz.underlying63 Tryz.underlying5 Tryz.underlying9 (fun j hj => ?_)
    exact h.cells (g := g) rfl j _ (by simp only [Lib.byteCells, List.getElem?_map, List.getElem?_eq_getElem hj, Option.map_some])
def pairB (a b : UInt8) : UInt8 := UInt8.ofNat (16 * (hex8 a).getD 0 + (hex8 b).getD 0)
theorem hexI_pos {a : UInt8} (h : 0 ≤ hexI a) : (hex8 a).isSome = true ∧ hexI a = ((hex8 a).getD 0 : Nat) ∧ (hex8 a).getD 0 < 16 := by
  unfold hexI at h ⊢
  match hx : hex8 a with
  | none => rw [hx] at h; exact absurd h (by decide)
  | some v =>
    refine ⟨rfl, rfl, ?_⟩
    unfold hex8 at hx
    simp only [Option.getD_some]
    split at hx
    · injection hx with e; omega
    · split at hx
      · injection hx with e; omega
      · cases hx
theorem unq8_end {n : Nat} {r : List UInt8} (h : r.length ≤ 1) : unq8 n r = [] := by
  match n, r, h with
  | 0, _, _ => rfl
  | _ + 1, [], _ => rfl
  | _ + 1, [_], _ => rfl
theorem unq8_pair {n : Nat} {a b d : UInt8} {t : List UInt8} (ha : 0 ≤ hexI a) (hb : 0 ≤ hexI b) : unq8 (n + 1) (92 :: a :: b :: d :: t) = pairB a b :: unq8 n (d :: t) := by
  simp [unq8, pairB, (hexI_pos ha).1, (hexI_pos hb).1]
theorem unq8_else {n : Nat} {c : UInt8} {r : List UInt8} (hr : r ≠ []) (h : ∀ a b d t, r = a :: b :: d :: t → ¬ (c = 92 ∧ 0 ≤ hexI a ∧ 0 ≤ hexI b)) : unq8 (n + 1) (c :: r) = c :: unq8 n r := by
  match r, hr with
  | [a], _ => simp [unq8]
  | [a, b], _ => simp [unq8]
  | a :: b :: d :: t, _ =>
    have h1 := h a b d t rfl
    have h2 : ¬ (c = 92 ∧ (hex8 a).isSome = true ∧ (hex8 b).isSome = true) := fun e => h1 ⟨e.1, by
      unfold hexI
      have := e.2.1
      match hx : hex8 a with
      | none => rw [hx] at this; cases this
      | some v => exact Int.natCast_nonneg v, by
      unfold hexI
      have := e.2.2
      match hx : hex8 b with
      | none => rw [hx] at this; cases this
      | some v => exact Int.natCast_nonneg v⟩
    simp only [unq8]
    rw [if_neg h2]

set_option maxRecDepth 100000 in
set_option maxHeartbeats 1600000 in
theorem l8Unquote_any (w : World) (S : ByteArray) (hl : S.size ≤ 1100000) :
    Calls Tryz.prog 22 #[.string S] w fun e w' => (∃ s, e = .returned (.string s) ∧ s = toB (unqL S.data.toList)) ∧ Kept w w' := by
  obtain ⟨i0, hi, hz0, hz1, hz2⟩ := info_parts Tryz.infoU8I
  obtain ⟨l, hlS⟩ : ∃ l, l = S.data.toList := ⟨_, rfl⟩
  have HZ : Hid (S.size = l.length) := by show _ = _; rw [hlS]; exact size_list S
  have hzi : (S.size : Int) ≤ 1100000 := by omega
  have HG : Hid (∀ (k : Nat) (h : k < S.size), l.drop k = S[k] :: l.drop (k + 1)) := by
    intro k h
    have hk : k < l.length := by have := HZ.out; omega
    have hxe : S[k] = l[k] := by subst hlS; simp; rfl
    rw [List.drop_eq_getElem_cons hk, hxe]
  rw [← hlS]
  clear hlS
  have HO0 : Hid ((w.alloc (.cells #[] 5)).ownsRow w.heap.size 5 1 (.slice (some ⟨w.heap.size, 0, none⟩) 0 0) 0 []) :=
    ⟨rfl, .inr ⟨w.heap.size, 0, #[], rfl, Nat.le_refl _, heap_alloc_new w _, Nat.le_refl _, by unfold maxLen; omega, rfl, rfl⟩⟩
  have hk0 : Hid (Kept w (w.alloc (.cells #[] 5))) := (Kept.refl w).alloc _
  go_enter Tryz.func22, Tryz.ntmps22
  go_wp2
  go_loopw [3, 4] (fun v i wr => ∃ (k n : Nat) (o : List UInt8), 1 ≤ k ∧ k ≤ l.length + 3 ∧ l.length ≤ n + k ∧ o.length ≤ k ∧ i = .int .i64 k ∧ Hid (wr.ownsRow w.heap.size 5 1 v o.length (Lib.byteCells o)) ∧ Hid (Kept w wr) ∧ Hid (unqL l = o ++ unq8 n (l.drop k))) (fun _ i _ => l.length + 3 - (intOf i).toNat)
  case atStart => exact ⟨1, l.length, [], by omega, by omega, by omega, by simp, rfl, HO0, hk0, by simp [Hid, unqL]⟩
  case round =>
    obtain ⟨k, n, o, hk1, hk, hn, ho, rfl, HO, Kr, HR⟩ := hrel
    clear HO0 hk0
    obtain ⟨av, cv, rfl⟩ := own_slice HO.out
    have hzr := Kr.out.size
    have hll : l.length ≤ 1100000 := by have := HZ.out; omega
    have HM1 : Hid (o.length + 1 ≤ maxLen) := by show _ ≤ _; unfold maxLen; omega
    have HM2 : Hid ((o.length + 1) * 1 ≤ 140737488355328) := by show _ ≤ _; omega
    by_cases hlt : (k : Int) + 1 < (S.size : Int)
    · have hks : k < S.size := by omega
      have hks1 : k + 1 < S.size := by omega
      obtain ⟨m, rfl⟩ : ∃ m, n = m + 1 := ⟨n - 1, by have := HZ.out; omega⟩
      have hHZ := HZ.out
      have hkl : k + 1 < l.length := by omega
      clear hHZ
      have HD := hide (HG.out k hks)
      have NOT : (∀ a b d t, l.drop (k + 1) = a :: b :: d :: t → ¬ (S[k] = 92 ∧ 0 ≤ hexI a ∧ 0 ≤ hexI b)) → Hid (unqL l = (o ++ [S[k]]) ++ unq8 m (l.drop (k + 1))) := by
        intro h
        show _ = _
        rw [HR.out, HD.out, unq8_else (by rw [HG.out (k + 1) hks1]; simp) h]
        simp
      have HNOT := hide NOT
      clear NOT
      have HNw := hide (boxB wr S[k])
      have K7 : Kept wr (wr.alloc (.cells #[.int .u8 (S[k].toNat : Int)] 5)) := (Kept.refl _).alloc _
      have HOA := hide (ownsRow_kept' HO.out K7)
      have KA := hide (Kept.trans Kr.out K7)
      have hzA : w.heap.size ≤ (wr.alloc (.cells #[.int .u8 (S[k].toNat : Int)] 5)).heap.size := KA.out.size
      clear K7
      by_cases h92 : S[k] = 92
      · have e92 : ((S[k].toNat : Int) == 92) = true := by rw [h92]; rfl
        by_cases h3 : (k : Int) + 3 < (S.size : Int)
        · have hks2 : k + 2 < S.size := by omega
          have hks3 : k + 3 < S.size := by omega
          have HT : Hid (l.drop (k + 1) = S[k + 1] :: S[k + 2] :: S[k + 3] :: l.drop (k + 3 + 1)) := by
            show _ = _
            rw [HG.out (k + 1) hks1, HG.out (k + 1 + 1) hks2, HG.out (k + 1 + 1 + 1) hks3]
          have b1 : (k : Int) + 1 < (S.size : Int) := by omega
          have b2 : (k : Int) + 2 < (S.size : Int) := by omega
          by_cases ha : 0 ≤ hexI S[k + 1]
          · by_cases hb : 0 ≤ hexI S[k + 2]
            · obtain ⟨_, ha2, ha3⟩ := hexI_pos ha
              obtain ⟨_, hb2, hb3⟩ := hexI_pos hb
              obtain ⟨y, hy⟩ : ∃ y, y = pairB S[k + 1] S[k + 2] := ⟨_, rfl⟩
              have hyv : 16 * hexI S[k + 1] + hexI S[k + 2] = (y.toNat : Int) := by
                rw [hy, ha2, hb2]
                unfold pairB
                rw [UInt8.toNat_ofNat']
                omega
              have HR2 : Hid (unqL l = (o ++ [y]) ++ unq8 m (l.drop (k + 3))) := by
                show _ = _
                rw [HR.out, HD.out, HT.out, h92, unq8_pair ha hb, ← hy, HG.out (k + 3) hks3]
                simp
              have hy8 := y.toNat_lt
              have w1 : IntKind.i64.wrap (16 * hexI S[k + 1]) = 16 * hexI S[k + 1] := by rw [IntKind.wrap_i64]; omega
              have w2 : IntKind.i64.wrap (16 * hexI S[k + 1] + hexI S[k + 2]) = (y.toNat : Int) := by rw [hyv, IntKind.wrap_i64]; omega
              have w3 : IntKind.u8.wrap (y.toNat : Int) = (y.toNat : Int) := by rw [IntKind.wrap_u8]; omega
              clear HNw HOA KA hzA HNOT HD HR hy ha2 hb2 ha3 hb3 hyv h92
              go_wp2_with fail
              refine (l8Hex_any _ S[k + 1]).mono ?_
              rintro e w1 ⟨rfl, h1⟩
              obtain rfl := h1.symm
              dsimp only
              go_wp2_with fail
              refine (l8Hex_any _ S[k + 2]).mono ?_
              rintro e w2 ⟨rfl, h2⟩
              obtain rfl := h2.symm
              dsimp only
              go_wp2
              have wk1 : IntKind.i64.wrap ((k : Int) + 1) = (k : Int) + 1 := by rw [IntKind.wrap_i64]; omega
              have wk2 : IntKind.i64.wrap ((k : Int) + 2) = (k : Int) + 2 := by rw [IntKind.wrap_i64]; omega
              refine UpTo.region (by kernel_rfl) (fun _ => True) 16 trivial (fun hHeld => ?_)
              have KD : Hid (Kept wr wr.drew) := (Kept.refl wr).drew
              generalize hwd : wr.drew = wd at KD ⊢
              clear hwd
              refine UpTo.take 0 [15, 16] (v := ?_) (by (simp only [List.getElem?_toArray, List.getElem?_cons_zero]; rfl)) (by kernel_rfl) (by kernel_rfl) (by kernel_rfl) (by kernel_rfl) (by exact fun _ _ _ h => h) (Or.inl ⟨by rfl, ?_⟩) hHeld ?_
              rotate_left
              · intro u hu
                try dsimp only at hu
                go_simp
                try with_reducible rfl
              try simp only [Act.put, List.setIfInBounds_toArray, List.set_cons_zero, List.set_cons_succ]
              refine UpTo.take 1 [4, 5, 6, 11, 12, 13, 14, 15, 16] (v := ?_) (by (simp only [List.getElem?_toArray, List.getElem?_cons_succ, List.getElem?_cons_zero]; rfl)) (by kernel_rfl) (by kernel_rfl) (by kernel_rfl) (by kernel_rfl) (by exact fun _ _ _ h => h) (Or.inl ⟨by rfl, ?_⟩) hHeld ?_
              rotate_left
              · intro u hu
                try dsimp only at hu
                go_simp
                try with_reducible rfl
              try simp only [Act.put, List.setIfInBounds_toArray, List.set_cons_zero, List.set_cons_succ]
              refine UpTo.take 2 [3, 4, 5, 6, 11, 12, 13, 14, 15, 16] (v := ?_) (by (simp only [List.getElem?_toArray, List.getElem?_cons_succ, List.getElem?_cons_zero]; rfl)) (by kernel_rfl) (by kernel_rfl) (by kernel_rfl) (by kernel_rfl) (by exact fun _ _ _ h => h) (Or.inl ⟨by rfl, ?_⟩) hHeld ?_
              rotate_left
              · intro u hu
                try dsimp only at hu
                go_simp
                try with_reducible rfl
              try simp only [Act.put, List.setIfInBounds_toArray, List.set_cons_zero, List.set_cons_succ]
              refine UpTo.take 3 [4, 5, 6, 11, 12, 13, 14, 15, 16] (v := ?_) (by (simp only [List.getElem?_toArray, List.getElem?_cons_succ, List.getElem?_cons_zero]; rfl)) (by kernel_rfl) (by kernel_rfl) (by kernel_rfl) (by kernel_rfl) (by exact fun _ _ _ h => h) (Or.inl ⟨by rfl, ?_⟩) hHeld ?_
              rotate_left
              · intro u hu
                try dsimp only at hu
                go_simp
                try with_reducible rfl
              try simp only [Act.put, List.setIfInBounds_toArray, List.set_cons_zero, List.set_cons_succ]
              refine UpTo.take 4 [5, 6, 11, 12, 13, 14, 15, 16] (v := ?_) (by (simp only [List.getElem?_toArray, List.getElem?_cons_succ, List.getElem?_cons_zero]; rfl)) (by kernel_rfl) (by kernel_rfl) (by kernel_rfl) (by kernel_rfl) (by exact fun _ _ _ h => h) (Or.inl ⟨by rfl, ?_⟩) hHeld ?_
              rotate_left
              · intro u hu
                try dsimp only at hu
                go_simp
                try with_reducible rfl
              try simp only [Act.put, List.setIfInBounds_toArray, List.set_cons_zero, List.set_cons_succ]
              refine UpTo.take 7 [10, 11, 12, 13, 14, 15, 16] (v := ?_) (by (simp only [List.getElem?_toArray, List.getElem?_cons_succ, List.getElem?_cons_zero]; rfl)) (by kernel_rfl) (by kernel_rfl) (by kernel_rfl) (by kernel_rfl) (by exact fun _ _ _ h => h) (Or.inl ⟨by rfl, ?_⟩) hHeld ?_
              rotate_left
              · intro u hu
                try dsimp only at hu
                go_simp
                try with_reducible rfl
              try simp only [Act.put, List.setIfInBounds_toArray, List.set_cons_zero, List.set_cons_succ]
              refine UpTo.take 8 [9, 10, 11, 12, 13, 14, 15, 16] (v := ?_) (by (simp only [List.getElem?_toArray, List.getElem?_cons_succ, List.getElem?_cons_zero]; rfl)) (by kernel_rfl) (by kernel_rfl) (by kernel_rfl) (by kernel_rfl) (by exact fun _ _ _ h => h) (Or.inl ⟨by rfl, ?_⟩) hHeld ?_
              rotate_left
              · intro u hu
                try dsimp only at hu
                go_simp
                try with_reducible rfl
              try simp only [Act.put, List.setIfInBounds_toArray, List.set_cons_zero, List.set_cons_succ]
              refine UpTo.take 9 [10, 11, 12, 13, 14, 15, 16] (v := ?_) (by (simp only [List.getElem?_toArray, List.getElem?_cons_succ, List.getElem?_cons_zero]; rfl)) (by kernel_rfl) (by kernel_rfl) (by kernel_rfl) (by kernel_rfl) (by exact fun _ _ _ h => h) (Or.inl ⟨by rfl, ?_⟩) hHeld ?_
              rotate_left
              · intro u hu
                try dsimp only at hu
                go_simp
                try with_reducible rfl
              try simp only [Act.put, List.setIfInBounds_toArray, List.set_cons_zero, List.set_cons_succ]
              refine UpTo.take 10 [11, 12, 13, 14, 15, 16] (v := ?_) (by (simp only [List.getElem?_toArray, List.getElem?_cons_succ, List.getElem?_cons_zero]; rfl)) (by kernel_rfl) (by kernel_rfl) (by kernel_rfl) (by kernel_rfl) (by exact fun _ _ _ h => h) (Or.inl ⟨by rfl, ?_⟩) hHeld ?_
              rotate_left
              · intro u hu
                try dsimp only at hu
                go_simp
                try with_reducible rfl
              try simp only [Act.put, List.setIfInBounds_toArray, List.set_cons_zero, List.set_cons_succ]
              refine UpTo.next 5 (by kernel_rfl) (by (simp only [List.getElem?_toArray, List.getElem?_cons_succ, List.getElem?_cons_zero]; rfl)) (fun K hK => ?_)
              rw [if_pos (by rfl)]
              go_simp
              go_at_call 42
              refine (l8Hex_any _ S[k + 1]).mono ?_
              rintro e w5 ⟨rfl, h5⟩
              obtain rfl := h5.symm
              dsimp only
              refine hK.out _ _ (fun _ => trivial) ?_
              clear hK K
              try simp only [Act.put, List.setIfInBounds_toArray, List.set_cons_zero, List.set_cons_succ]
              refine UpTo.take 6 [12, 13, 14, 15, 16] (v := ?_) (by (simp only [List.getElem?_toArray, List.getElem?_cons_succ, List.getElem?_cons_zero]; rfl)) (by kernel_rfl) (by kernel_rfl) (by kernel_rfl) (by kernel_rfl) (by exact fun _ _ _ h => h) (Or.inl ⟨by rfl, ?_⟩) hHeld ?_
              rotate_left
              · intro u hu
                try dsimp only at hu
                go_simp
                try with_reducible rfl
              try simp only [Act.put, List.setIfInBounds_toArray, List.set_cons_zero, List.set_cons_succ]
              refine UpTo.next 11 (by kernel_rfl) (by (simp only [List.getElem?_toArray, List.getElem?_cons_succ, List.getElem?_cons_zero]; rfl)) (fun K hK => ?_)
              rw [if_pos (by rfl)]
              go_simp
              go_at_call 42
              refine (l8Hex_any _ S[k + 2]).mono ?_
              rintro e w11 ⟨rfl, h11⟩
              obtain rfl := h11.symm
              dsimp only
              refine hK.out _ _ (fun _ => trivial) ?_
              clear hK K
              try simp only [Act.put, List.setIfInBounds_toArray, List.set_cons_zero, List.set_cons_succ]
              refine UpTo.take 12 [13, 14, 15, 16] (v := ?_) (by (simp only [List.getElem?_toArray, List.getElem?_cons_succ, List.getElem?_cons_zero]; rfl)) (by kernel_rfl) (by kernel_rfl) (by kernel_rfl) (by kernel_rfl) (by exact fun _ _ _ h => h) (Or.inl ⟨by rfl, ?_⟩) hHeld ?_
              rotate_left
              · intro u hu
                try dsimp only at hu
                go_simp
                try with_reducible rfl
              try simp only [Act.put, List.setIfInBounds_toArray, List.set_cons_zero, List.set_cons_succ]
              refine UpTo.take 13 [14, 15, 16] (v := ?_) (by (simp only [List.getElem?_toArray, List.getElem?_cons_succ, List.getElem?_cons_zero]; rfl)) (by kernel_rfl) (by kernel_rfl) (by kernel_rfl) (by kernel_rfl) (by exact fun _ _ _ h => h) (Or.inl ⟨by rfl, ?_⟩) hHeld ?_
              rotate_left
              · intro u hu
                try dsimp only at hu
                go_simp
                try with_reducible rfl
              try simp only [Act.put, List.setIfInBounds_toArray, List.set_cons_zero, List.set_cons_succ]
              refine UpTo.next 14 (by kernel_rfl) (by (simp only [List.getElem?_toArray, List.getElem?_cons_succ, List.getElem?_cons_zero]; rfl)) (fun K hK => ?_)
              rw [if_pos (by rfl)]
              go_simp
              have K13 : Kept wd (wd.alloc (.cells #[.int .u8 (y.toNat : Int)] 5)) := (Kept.refl _).alloc _
              have HNw := hide (boxB wd y)
              have HOA := hide (ownsRow_kept' HO.out (Kept.trans KD.out K13))
              have KA := hide (Kept.trans Kr.out (Kept.trans KD.out K13))
              refine hK.out _ _ (fun _ => trivial) ?_
              clear hK K K13
              try simp only [Act.put, List.setIfInBounds_toArray, List.set_cons_zero, List.set_cons_succ]
              have hzA : w.heap.size ≤ (wd.alloc (.cells #[.int .u8 (y.toNat : Int)] 5)).heap.size := KA.out.size
              generalize hwa : wd.alloc (.cells #[.int .u8 (y.toNat : Int)] 5) = wa at HNw HOA KA hzA ⊢
              clear hwa
              refine UpTo.next 15 (by kernel_rfl) (by (simp only [List.getElem?_toArray, List.getElem?_cons_succ, List.getElem?_cons_zero]; rfl)) (fun K hK => ?_)
              rw [if_pos (by rfl)]
              refine wp_append_own _ (.tmp 40) (.tmp 54) 63 rfl w.heap.size 5 i0 (.int .u8 0) 1 1 Tryz.underlying63 hi hz0 hz1 hz2 rfl (by decide) (.slice av o.length cv) o.length (Lib.byteCells o) rfl HOA.out ⟨wd.heap.size, 0, none⟩ 1 1 [.int .u8 (y.toNat : Int)] rfl rfl HNw.out (oneB y) HM1.out HM2.out hzA ?_
              intro v7 w7 hown7 hgr7 _
              have K7 : Hid (Kept w w7) := kept_of_grown KA.out (Nat.le_refl _) HOA.out hgr7
              have HO7 : Hid (w7.ownsRow w.heap.size 5 1 v7 (o ++ [y]).length (Lib.byteCells (o ++ [y]))) := more_bytes hown7
              clear hown7 hgr7
              refine hK.out _ _ (fun _ => trivial) ?_
              clear hK K
              try simp only [Act.put, List.setIfInBounds_toArray, List.set_cons_zero, List.set_cons_succ]
              refine UpTo.next 16 (by kernel_rfl) (by (simp only [List.getElem?_toArray, List.getElem?_cons_succ, List.getElem?_cons_zero]; rfl)) (fun K hK => ?_)
              go_simp
              refine hK.out _ _ (fun h => absurd rfl h) ?_
              clear hK K
              try simp only [Act.put, List.setIfInBounds_toArray, List.set_cons_zero, List.set_cons_succ]
              refine UpTo.done (by kernel_rfl) ?_
              go_wp2
              go_roundw
              case rel =>
                exact ⟨k + 3, m, o ++ [y], by omega, by omega, by omega, by simp; omega, by go_num, HO7, K7, HR2⟩
              case measure => simp [intOf]; omega
            · have HR2 := hide (HNOT.out (fun a b d t h e => by rw [HT.out] at h; injection h with h1 h2; injection h2 with h2 h3; rw [← h2] at e; exact hb e.2.2))
              clear HNOT HD HR HT h92
              go_wp2_with fail
              refine (l8Hex_any _ S[k + 1]).mono ?_
              rintro e w1 ⟨rfl, h1⟩
              obtain rfl := h1.symm
              dsimp only
              go_wp2_with fail
              refine (l8Hex_any _ S[k + 2]).mono ?_
              rintro e w2 ⟨rfl, h2⟩
              obtain rfl := h2.symm
              dsimp only
              go_wp2_with (at_builtin; refine wpList_append_own _ rfl (.tmp 58) (.tmp 62) 63 rfl w.heap.size 5 i0 (.int .u8 0) 1 1 Tryz.underlying63 hi hz0 hz1 hz2 rfl (by decide) (.slice av o.length cv) o.length (Lib.byteCells o) rfl HOA.out ⟨wr.heap.size, 0, none⟩ 1 1 [.int .u8 (S[k].toNat : Int)] rfl rfl HNw.out (oneB S[k]) HM1.out HM2.out hzA ?_; intro v7 w7 hown7 hgr7 _; have K7 : Hid (Kept w w7) := kept_of_grown KA.out (Nat.le_refl _) HOA.out hgr7; have HO7 : Hid (w7.ownsRow w.heap.size 5 1 v7 (o ++ [S[k]]).length (Lib.byteCells (o ++ [S[k]]))) := more_bytes hown7; clear hown7 hgr7)
              go_roundw
              case rel =>
                exact ⟨k + 1, m, o ++ [S[k]], by omega, by omega, by omega, by simp; omega, by go_num, HO7, K7, HR2.out⟩
              case measure => simp [intOf]; omega
          · have HR2 := hide (HNOT.out (fun a b d t h e => by rw [HT.out] at h; injection h with h1 h2; rw [← h1] at e; exact ha e.2.1))
            clear HNOT HD HR HT h92
            go_wp2_with fail
            refine (l8Hex_any _ S[k + 1]).mono ?_
            rintro e w1 ⟨rfl, h1⟩
            obtain rfl := h1.symm
            dsimp only
            go_wp2_with (at_builtin; refine wpList_append_own _ rfl (.tmp 58) (.tmp 62) 63 rfl w.heap.size 5 i0 (.int .u8 0) 1 1 Tryz.underlying63 hi hz0 hz1 hz2 rfl (by decide) (.slice av o.length cv) o.length (Lib.byteCells o) rfl HOA.out ⟨wr.heap.size, 0, none⟩ 1 1 [.int .u8 (S[k].toNat : Int)] rfl rfl HNw.out (oneB S[k]) HM1.out HM2.out hzA ?_; intro v7 w7 hown7 hgr7 _; have K7 : Hid (Kept w w7) := kept_of_grown KA.out (Nat.le_refl _) HOA.out hgr7; have HO7 : Hid (w7.ownsRow w.heap.size 5 1 v7 (o ++ [S[k]]).length (Lib.byteCells (o ++ [S[k]]))) := more_bytes hown7; clear hown7 hgr7)
            go_roundw
            case rel =>
              exact ⟨k + 1, m, o ++ [S[k]], by omega, by omega, by omega, by simp; omega, by go_num, HO7, K7, HR2.out⟩
            case measure => simp [intOf]; omega
        · have HR2 := hide (HNOT.out (fun a b d t h _ => by have := congrArg List.length h; rw [List.length_drop] at this; simp only [List.length_cons] at this; have := HZ.out; omega))
          clear HNOT HD HR h92
          go_wp2_with (at_builtin; refine wpList_append_own _ rfl (.tmp 58) (.tmp 62) 63 rfl w.heap.size 5 i0 (.int .u8 0) 1 1 Tryz.underlying63 hi hz0 hz1 hz2 rfl (by decide) (.slice av o.length cv) o.length (Lib.byteCells o) rfl HOA.out ⟨wr.heap.size, 0, none⟩ 1 1 [.int .u8 (S[k].toNat : Int)] rfl rfl HNw.out (oneB S[k]) HM1.out HM2.out hzA ?_; intro v7 w7 hown7 hgr7 _; have K7 : Hid (Kept w w7) := kept_of_grown KA.out (Nat.le_refl _) HOA.out hgr7; have HO7 : Hid (w7.ownsRow w.heap.size 5 1 v7 (o ++ [S[k]]).length (Lib.byteCells (o ++ [S[k]]))) := more_bytes hown7; clear hown7 hgr7)
          go_roundw
          case rel =>
            exact ⟨k + 1, m, o ++ [S[k]], by omega, by omega, by omega, by simp; omega, by go_num, HO7, K7, HR2.out⟩
          case measure => simp [intOf]; omega
      · have e92 : ((S[k].toNat : Int) == 92) = false := by
          have : S[k].toNat ≠ 92 := fun e => h92 (UInt8.toNat_inj.1 e)
          simp; omega
        have HR2 := hide (HNOT.out (fun a b d t _ e => h92 e.1))
        clear HNOT HD HR h92
        go_wp2_with (at_builtin; refine wpList_append_own _ rfl (.tmp 58) (.tmp 62) 63 rfl w.heap.size 5 i0 (.int .u8 0) 1 1 Tryz.underlying63 hi hz0 hz1 hz2 rfl (by decide) (.slice av o.length cv) o.length (Lib.byteCells o) rfl HOA.out ⟨wr.heap.size, 0, none⟩ 1 1 [.int .u8 (S[k].toNat : Int)] rfl rfl HNw.out (oneB S[k]) HM1.out HM2.out hzA ?_; intro v7 w7 hown7 hgr7 _; have K7 : Hid (Kept w w7) := kept_of_grown KA.out (Nat.le_refl _) HOA.out hgr7; have HO7 : Hid (w7.ownsRow w.heap.size 5 1 v7 (o ++ [S[k]]).length (Lib.byteCells (o ++ [S[k]]))) := more_bytes hown7; clear hown7 hgr7)
        go_roundw
        case rel =>
          exact ⟨k + 1, m, o ++ [S[k]], by omega, by omega, by omega, by simp; omega, by go_num, HO7, K7, HR2.out⟩
        case measure => simp [intOf]; omega
    · have HR2 : Hid (unqL l = o) := by
        show _ = _
        rw [HR.out, unq8_end (by rw [List.length_drop]; have := HZ.out; omega), List.append_nil]
      have hcv := bytesI HO.out
      go_wp2
      go_ret
      exact ⟨by rw [HR2.out]; rfl, Kr.out⟩

end Go.Proofs.YtinkfgkjdaaeaaaGreatDoor

namespace Go.Proofs.YtinkfgkjdaaeaaaGreatDoor
open Go.RowKit

def Keeps (H : Nat) (K : List TypeId) (w w' : World) : Prop := ∀ (b : Nat) (cur : Array Value) (u : TypeId) (fr : Nat × Nat), b < H → u ∉ K → w.heap[b]? = some (Obj.cells cur u fr) → w'.heap[b]? = some (Obj.cells cur u fr)
theorem Keeps.trans {H : Nat} {K : List TypeId} {a b c : World} (h : Keeps H K a b) (k : Keeps H K b c) : Keeps H K a c := fun x cur u fr hx hu hb => k x cur u fr hx hu (h x cur u fr hx hu hb)
theorem Keeps.weaken {H H' : Nat} {K K' : List TypeId} {w w' : World} (h : Keeps H K w w') (hH : H' ≤ H) (hK : ∀ t ∈ K, t ∈ K') : Keeps H' K' w w' := fun b cur u fr hb hu hx => h b cur u fr (Nat.lt_of_lt_of_le hb hH) (fun e => hu (hK u e)) hx
theorem Keeps.of_kept {H : Nat} {K : List TypeId} {w w' : World} (h : Kept w w') : Keeps H K w w' := fun b cur u fr _ _ hb => by rw [h.block b (heap_lt hb)]; exact hb
theorem Keeps.of_grown {H : Nat} {K : List TypeId} {w w' : World} {v : Value} {base n size : Nat} {t : TypeId} {xs : List Value} (h : w.ownsRow base t size v n xs) (g : w.grownBy w' v.ownBlock) (hh : H ≤ base ∨ t ∈ K) : Keeps H K w w' := by
  intro b cur u fr hbH hu hb
  rw [g.block b (heap_lt hb) ?_]
  · exact hb
  · intro e
    rcases h.2 with ⟨rfl, _⟩ | ⟨g', cap, cur', rfl, hlo, hg', _⟩
    · simp [Value.ownBlock] at e
    · simp only [Value.ownBlock, Option.some.injEq] at e
      subst e
      rcases hh with hh | hh
      · omega
      · rw [hb] at hg'
        simp only [Option.some.injEq, Obj.cells.injEq] at hg'
        exact hu (by rw [hg'.2.1]; exact hh)
theorem Keeps.setCell {H : Nat} {K : List TypeId} {w : World} {g o : Nat} {t : TypeId} {cur : Array Value} {fr : Nat × Nat} (h : w.heap[g]? = some (Obj.cells cur t fr)) (v : Value) (hh : H ≤ g ∨ t ∈ K) : Keeps H K w (w.setCell ⟨g, o, none⟩ v) := by
  intro b cur' u fr' hbH hu hb
  rw [Below.heap_setCell _ _ _ _ ?_]
  · exact hb
  · intro e
    simp only at e
    rcases hh with hh | hh
    · omega
    · rw [e, h] at hb
      simp only [Option.some.injEq, Obj.cells.injEq] at hb
      exact hu (by rw [← hb.2.1]; exact hh)
theorem owns_keeps {w w' : World} {base size H : Nat} {K : List TypeId} {e : TypeId} {v : Value} {n : Nat} {xs : List Value} (h : w.ownsRow base e size v n xs) (k : Keeps H K w w') (he : e ∉ K) (hb : ∀ g, v.ownBlock = some g → g < H) : w'.ownsRow base e size v n xs := by
  refine ⟨h.1, ?_⟩
  rcases h.2 with h2 | ⟨g, cap, cur, rfl, hlo, hg, rest⟩
  · exact .inl h2
  · exact .inr ⟨g, cap, cur, rfl, hlo, k g cur e _ (hb g rfl) he hg, rest⟩

def StrsB (w : World) (H : Nat) (a : Option Addr) (l : List ByteArray) : Prop :=
  l = [] ∨ ∃ b cur fr, b < H ∧ a = some ⟨b, 0, none⟩ ∧ w.heap[b]? = some (Obj.cells cur 9 fr) ∧ ∀ i, i < l.length → w.cell? ⟨b, i, none⟩ = some (.string (l.getD i ByteArray.empty))
theorem StrsB.keeps {w w' : World} {H : Nat} {K : List TypeId} {a : Option Addr} {l : List ByteArray} (h : StrsB w H a l) (k : Keeps H K w w') (hs : 9 ∉ K) : StrsB w' H a l := by
  rcases h with h | ⟨b, cur, fr, hb, ha, hg, hc⟩
  · exact .inl h
  · have hg' := k b cur _ fr hb hs hg
    exact .inr ⟨b, cur, fr, hb, ha, hg', fun i hi => by rw [World.cell?_of_block (w := w) (hg'.trans hg.symm)]; exact hc i hi⟩
theorem StrsB.mono {w : World} {H H' : Nat} {a : Option Addr} {l : List ByteArray} (h : StrsB w H a l) (hH : H ≤ H') : StrsB w H' a l := by
  rcases h with h | ⟨b, cur, fr, hb, r⟩
  · exact .inl h
  · exact .inr ⟨b, cur, fr, Nat.lt_of_lt_of_le hb hH, r⟩
theorem StrsB.strs {w : World} {H : Nat} {a : Option Addr} {l : List ByteArray} (h : StrsB w H a l) : TStrs w 9 a l := by
  rcases h with h | ⟨b, cur, fr, _, r⟩
  · exact .inl h
  · exact .inr ⟨b, cur, fr, r⟩
def CasesP (xs : List Value) (l : List CaseD) : Prop := xs.length = l.length * 2 ∧ ∀ i, i < l.length → (xs.drop (i * 2)).take 2 = (l.getD i CaseD.zero).cells
def CasesB (w : World) (lo H : Nat) (v : Value) (l : List CaseD) : Prop := ∃ xs, w.ownsRow lo 61 2 v l.length xs ∧ CasesP xs l ∧ ∀ g, v.ownBlock = some g → g < H
theorem CasesB.keeps {w w' : World} {lo H : Nat} {K : List TypeId} {v : Value} {l : List CaseD} (h : CasesB w lo H v l) (k : Keeps H K w w') (hs : 61 ∉ K) : CasesB w' lo H v l := by
  obtain ⟨xs, h1, h2, h3⟩ := h
  exact ⟨xs, owns_keeps h1 k hs h3, h2, h3⟩
theorem CasesB.mono {w : World} {lo lo' H H' : Nat} {v : Value} {l : List CaseD} (h : CasesB w lo H v l) (hl : lo' ≤ lo) (hH : H ≤ H') : CasesB w lo' H' v l := by
  obtain ⟨xs, h1, h2, h3⟩ := h
  exact ⟨xs, owns_base h1 hl, h2, fun g hg => Nat.lt_of_lt_of_le (h3 g hg) hH⟩
theorem CasesB.cases {w : World} {lo H : Nat} {v : Value} {l : List CaseD} (h : CasesB w lo H v l) : ∃ a c, v = .slice a l.length c ∧ TCases w 61 a l := by
  obtain ⟨xs, h1, h2, h3⟩ := h
  rcases h1.2 with ⟨rfl, h0⟩ | ⟨g, cap, cur, rfl, hb, hg, _⟩
  · exact ⟨none, 0, by rw [h0], .inl (List.eq_nil_of_length_eq_zero h0)⟩
  · refine ⟨_, cap, rfl, .inr ⟨g, cur, _, rfl, hg, fun i hi j u hu => ?_⟩⟩
    have hj : j < 2 := by have := (List.getElem?_eq_some_iff.1 hu).1; simpa [CaseD.cells] using this
    rw [← h2.2 i hi, List.getElem?_take, if_pos hj, List.getElem?_drop] at hu
    have := h1.cells (g := g) rfl _ _ hu
    rw [Addr.add_mid] at this
    rw [Nat.zero_add] at this
    exact this
theorem CasesP.nil : CasesP [] [] := ⟨rfl, fun i hi => by simp at hi⟩
theorem CasesP.snoc {xs : List Value} {l : List CaseD} {c : CaseD} (h : CasesP xs l) : CasesP (xs ++ c.cells) (l ++ [c]) := by
  refine ⟨by simp [h.1, CaseD.cells]; omega, fun i hi => ?_⟩
  rw [List.length_append] at hi
  simp only [List.length_cons, List.length_nil] at hi
  by_cases e : i < l.length
  · have e1 : (l ++ [c]).getD i CaseD.zero = l.getD i CaseD.zero := by simp [List.getD, List.getElem?_append_left e]
    rw [e1, List.drop_append_of_le_length (by rw [h.1]; omega), List.take_append_of_le_length (by rw [List.length_drop, h.1]; omega)]
    exact h.2 i e
  · obtain rfl : i = l.length := by omega
    have e1 : (l ++ [c]).getD l.length CaseD.zero = c := by simp [List.getD]
    rw [e1, ← h.1, List.drop_left]
    rfl
def StepB (w : World) (H : Nat) (cs : List Value) (s : StepD) : Prop := ∃ aa ca ac cc, cs = s.cells aa ca ac cc ∧ StrsB w H aa s.asks ∧ s.asks.length ≤ ca ∧ CasesB w 0 H (.slice ac s.cases.length cc) s.cases
theorem StepB.keeps {w w' : World} {H : Nat} {K : List TypeId} {cs : List Value} {s : StepD} (h : StepB w H cs s) (k : Keeps H K w w') (h1 : 9 ∉ K) (h2 : 61 ∉ K) : StepB w' H cs s := by
  obtain ⟨aa, ca, ac, cc, e, g1, g2, g3⟩ := h
  exact ⟨aa, ca, ac, cc, e, g1.keeps k h1, g2, g3.keeps k h2⟩
theorem StepB.mono {w : World} {H H' : Nat} {cs : List Value} {s : StepD} (h : StepB w H cs s) (hH : H ≤ H') : StepB w H' cs s := by
  obtain ⟨aa, ca, ac, cc, e, g1, g2, g3⟩ := h
  exact ⟨aa, ca, ac, cc, e, g1.mono hH, g2, g3.mono (Nat.le_refl _) hH⟩
theorem StepB.typed {w : World} {H : Nat} {cs : List Value} {s : StepD} (h : StepB w H cs s) : TStep w 9 61 cs s := by
  obtain ⟨aa, ca, ac, cc, e, g1, g2, g3⟩ := h
  obtain ⟨a, c, e2, g4⟩ := g3.cases
  injection e2 with ea en ec
  subst ea ec
  exact ⟨aa, ca, ac, cc, e, g1.strs, g4, g2⟩
def StepsP (w : World) (H : Nat) (xs : List Value) (l : List StepD) : Prop := xs.length = l.length * 8 ∧ ∀ i, i < l.length → StepB w H ((xs.drop (i * 8)).take 8) (l.getD i StepD.zero)
theorem StepsP.nil (w : World) (H : Nat) : StepsP w H [] [] := ⟨rfl, fun i hi => by simp at hi⟩
theorem StepsP.keeps {w w' : World} {H : Nat} {K : List TypeId} {xs : List Value} {l : List StepD} (h : StepsP w H xs l) (k : Keeps H K w w') (h1 : 9 ∉ K) (h2 : 61 ∉ K) : StepsP w' H xs l := ⟨h.1, fun i hi => (h.2 i hi).keeps k h1 h2⟩
theorem StepsP.mono {w : World} {H H' : Nat} {xs : List Value} {l : List StepD} (h : StepsP w H xs l) (hH : H ≤ H') : StepsP w H' xs l := ⟨h.1, fun i hi => (h.2 i hi).mono hH⟩
theorem StepsP.snoc {w : World} {H : Nat} {xs cs : List Value} {l : List StepD} {s : StepD} (h : StepsP w H xs l) (hs : StepB w H cs s) : StepsP w H (xs ++ cs) (l ++ [s]) := by
  have hcl : cs.length = 8 := by obtain ⟨_, _, _, _, rfl, _⟩ := hs; rfl
  refine ⟨by simp [h.1, hcl]; omega, fun i hi => ?_⟩
  rw [List.length_append] at hi
  simp only [List.length_cons, List.length_nil] at hi
  by_cases e : i < l.length
  · have e1 : (l ++ [s]).getD i StepD.zero = l.getD i StepD.zero := by simp [List.getD, List.getElem?_append_left e]
    rw [e1, List.drop_append_of_le_length (by rw [h.1]; omega), List.take_append_of_le_length (by rw [List.length_drop, h.1]; omega)]
    exact h.2 i e
  · obtain rfl : i = l.length := by omega
    have e1 : (l ++ [s]).getD l.length StepD.zero = s := by simp [List.getD]
    rw [e1, ← h.1, List.drop_left, List.take_of_length_le (by omega)]
    exact hs
theorem StepsP.typed {w : World} {H : Nat} {xs : List Value} {l : List StepD} (h : StepsP w H xs l) : PackedS w 9 61 xs l := ⟨h.1, fun i hi => (h.2 i hi).typed⟩
def StepsB (w : World) (lo H : Nat) (v : Value) (l : List StepD) : Prop := ∃ xs, w.ownsRow lo 59 8 v l.length xs ∧ StepsP w H xs l ∧ ∀ g, v.ownBlock = some g → g < H
theorem StepsB.keeps {w w' : World} {lo H : Nat} {K : List TypeId} {v : Value} {l : List StepD} (h : StepsB w lo H v l) (k : Keeps H K w w') (h0 : 59 ∉ K) (h1 : 9 ∉ K) (h2 : 61 ∉ K) : StepsB w' lo H v l := by
  obtain ⟨xs, g1, g2, g3⟩ := h
  exact ⟨xs, owns_keeps g1 k h0 g3, g2.keeps k h1 h2, g3⟩
theorem StepsB.mono {w : World} {lo lo' H H' : Nat} {v : Value} {l : List StepD} (h : StepsB w lo H v l) (hl : lo' ≤ lo) (hH : H ≤ H') : StepsB w lo' H' v l := by
  obtain ⟨xs, h1, h2, h3⟩ := h
  exact ⟨xs, owns_base h1 hl, h2.mono hH, fun g hg => Nat.lt_of_lt_of_le (h3 g hg) hH⟩
theorem StepsB.typed {w : World} {lo H : Nat} {v : Value} {l : List StepD} (h : StepsB w lo H v l) : TSteps w 59 9 61 v l := by
  obtain ⟨xs, g1, g2, _⟩ := h
  exact ⟨lo, xs, g1, g2.typed⟩
def NodesP (w : World) (H : Nat) (xs : List Value) (l : List NodeD) : Prop :=
  xs.length = l.length * 3 ∧ ∀ i, i < l.length → ∃ v, (xs.drop (i * 3)).take 3 = [.string (l.getD i NodeD.zero).name, .int .i64 (l.getD i NodeD.zero).cost, v] ∧ StepsB w 0 H v (l.getD i NodeD.zero).steps
theorem NodesP.nil (w : World) (H : Nat) : NodesP w H [] [] := ⟨rfl, fun i hi => by simp at hi⟩
theorem NodesP.keeps {w w' : World} {H : Nat} {K : List TypeId} {xs : List Value} {l : List NodeD} (h : NodesP w H xs l) (k : Keeps H K w w') (h0 : 59 ∉ K) (h1 : 9 ∉ K) (h2 : 61 ∉ K) : NodesP w' H xs l :=
  ⟨h.1, fun i hi => by obtain ⟨v, e, g⟩ := h.2 i hi; exact ⟨v, e, g.keeps k h0 h1 h2⟩⟩
theorem NodesP.mono {w : World} {H H' : Nat} {xs : List Value} {l : List NodeD} (h : NodesP w H xs l) (hH : H ≤ H') : NodesP w H' xs l :=
  ⟨h.1, fun i hi => by obtain ⟨v, e, g⟩ := h.2 i hi; exact ⟨v, e, g.mono (Nat.le_refl _) hH⟩⟩
theorem NodesP.packed {w : World} {H : Nat} {xs : List Value} {l : List NodeD} (h : NodesP w H xs l) : PackedN w xs l :=
  ⟨h.1, fun i hi => by obtain ⟨v, e, g⟩ := h.2 i hi; exact ⟨v, e, g.typed⟩⟩
def LastS (w : World) (H : Nat) (v : Value) (l : List StepD) : Prop :=
  (v = .slice none 0 0 ∧ l = []) ∨ ∃ ss s H2 xs aa ca ac cc, l = ss ++ [s] ∧ H ≤ H2 ∧ H2 ≤ w.heap.size ∧ w.ownsRow H 59 8 v (ss.length + 1) (xs ++ s.cells aa ca ac cc) ∧ StepsP w H2 xs ss ∧ StrsB w w.heap.size aa s.asks ∧ s.asks.length ≤ ca ∧ CasesB w H2 w.heap.size (.slice ac s.cases.length cc) s.cases
def WebM (w : World) (B : Nat) (v : Value) (L : List NodeD) : Prop :=
  (v = .slice none 0 0 ∧ L = []) ∨ ∃ l d H xs vs, L = l ++ [d] ∧ (B ≤ H ∧ H ≤ w.heap.size) ∧ w.ownsRow B 54 3 v (l.length + 1) (xs ++ [.string d.name, .int .i64 d.cost, vs]) ∧ NodesP w H xs l ∧ LastS w H vs d.steps
theorem own_lt {w : World} {base size : Nat} {e : TypeId} {v : Value} {n : Nat} {xs : List Value} (h : w.ownsRow base e size v n xs) : ∀ g, v.ownBlock = some g → g < w.heap.size := by
  intro g hg
  rcases h.2 with ⟨rfl, _⟩ | ⟨g', cap, cur, rfl, _, hh, _⟩
  · simp [Value.ownBlock] at hg
  · simp only [Value.ownBlock, Option.some.injEq] at hg
    subst hg
    exact heap_lt hh
theorem LastS.old {w : World} {H : Nat} {v : Value} {l : List StepD} (h : LastS w H v l) : StepsB w H w.heap.size v l := by
  rcases h with ⟨rfl, rfl⟩ | ⟨ss, s, H2, xs, aa, ca, ac, cc, rfl, h1, h2, h3, h4, h5, h6, h7⟩
  · exact ⟨[], World.ownsRow_nil _ _ _ _, StepsP.nil _ _, fun g hg => by simp [Value.ownBlock] at hg⟩
  · refine ⟨xs ++ s.cells aa ca ac cc, by rw [List.length_append]; exact h3, (h4.mono h2).snoc ⟨aa, ca, ac, cc, rfl, h5, h6, h7.mono (Nat.zero_le _) (Nat.le_refl _)⟩, own_lt h3⟩
theorem WebM.old {w : World} {B : Nat} {v : Value} {L : List NodeD} (h : WebM w B v L) : ∃ xs, w.ownsRow B 54 3 v L.length xs ∧ NodesP w w.heap.size xs L := by
  rcases h with ⟨rfl, rfl⟩ | ⟨l, d, H, xs, vs, rfl, h1, h2, h3, h4⟩
  · exact ⟨[], World.ownsRow_nil _ _ _ _, NodesP.nil _ _⟩
  · refine ⟨_, by rw [List.length_append]; exact h2, ?_⟩
    have h3' := h3.mono h1.2
    refine ⟨by simp [h3.1]; omega, fun i hi => ?_⟩
    rw [List.length_append] at hi
    simp only [List.length_cons, List.length_nil] at hi
    by_cases e : i < l.length
    · have e1 : (l ++ [d]).getD i NodeD.zero = l.getD i NodeD.zero := by simp [List.getD, List.getElem?_append_left e]
      rw [e1, List.drop_append_of_le_length (by rw [h3.1]; omega), List.take_append_of_le_length (by rw [List.length_drop, h3.1]; omega)]
      exact h3'.2 i e
    · obtain rfl : i = l.length := by omega
      have e1 : (l ++ [d]).getD l.length NodeD.zero = d := by simp [List.getD]
      rw [e1, ← h3.1, List.drop_left]
      exact ⟨vs, rfl, h4.old.mono (Nat.zero_le _) (Nat.le_refl _)⟩
theorem WebM.nodes {w : World} {B : Nat} {v : Value} {L : List NodeD} (h : WebM w B v L) : ∃ a cap, v = .slice a L.length cap ∧ Nodes w a L := by
  obtain ⟨xs, h1, h2⟩ := h.old
  exact PackedN.nodes h1 h2.packed
theorem LastS.kept {w w' : World} {H : Nat} {v : Value} {l : List StepD} (h : LastS w H v l) (k : Kept w w') : LastS w' H v l := by
  rcases h with h | ⟨ss, s, H2, xs, aa, ca, ac, cc, e, h1, h2, h3, h4, h5, h6, h7⟩
  · exact .inl h
  · exact .inr ⟨ss, s, H2, xs, aa, ca, ac, cc, e, h1, Nat.le_trans h2 k.size, ownsRow_kept' h3 k, h4.keeps (K := []) (.of_kept k) (by simp) (by simp), (h5.keeps (K := []) (.of_kept k) (by simp)).mono k.size, h6, (h7.keeps (K := []) (.of_kept k) (by simp)).mono (Nat.le_refl _) k.size⟩
theorem WebM.kept {w w' : World} {B : Nat} {v : Value} {L : List NodeD} (h : WebM w B v L) (k : Kept w w') : WebM w' B v L := by
  rcases h with h | ⟨l, d, H, xs, vs, e, h1, h2, h3, h4⟩
  · exact .inl h
  · exact .inr ⟨l, d, H, xs, vs, e, ⟨h1.1, Nat.le_trans h1.2 k.size⟩, ownsRow_kept' h2 k, h3.keeps (K := []) (.of_kept k) (by simp) (by simp) (by simp), h4.kept k⟩

end Go.Proofs.YtinkfgkjdaaeaaaGreatDoor

namespace Go.Proofs.YtinkfgkjdaaeaaaGreatDoor
open Go.RowKit

theorem LastS.keeps {w w' : World} {H : Nat} {v : Value} {l : List StepD} (h : LastS w H v l) (k : Keeps w.heap.size [54] w w') (hs : w.heap.size ≤ w'.heap.size) : LastS w' H v l := by
  rcases h with h | ⟨ss, s, H2, xs, aa, ca, ac, cc, e, h1, h2, h3, h4, h5, h6, h7⟩
  · exact .inl h
  · exact .inr ⟨ss, s, H2, xs, aa, ca, ac, cc, e, h1, Nat.le_trans h2 hs, owns_keeps h3 k (by decide) (own_lt h3), h4.keeps (k.weaken h2 (fun _ h => h)) (by decide) (by decide), (h5.keeps k (by decide)).mono hs, h6, (h7.keeps k (by decide)).mono (Nat.le_refl _) hs⟩
theorem WebM.node {w w' : World} {B : Nat} {v v' : Value} {L : List NodeD} {xs : List Value} {name : ByteArray} {cost : Int} (h : w.ownsRow B 54 3 v L.length xs) (hP : NodesP w w.heap.size xs L) (ho : w'.ownsRow B 54 3 v' (L.length + 1) (xs ++ [.string name, .int .i64 cost, .slice none 0 0])) (hg : w.grownBy w' v.ownBlock) (hB : B ≤ w.heap.size) : WebM w' B v' (L ++ [⟨name, cost, []⟩]) :=
  .inr ⟨L, ⟨name, cost, []⟩, w.heap.size, xs, .slice none 0 0, rfl, ⟨hB, hg.size⟩, ho, hP.keeps (K := [54]) (.of_grown h hg (.inr (by simp))) (by decide) (by decide) (by decide), .inl ⟨rfl, rfl⟩⟩
theorem LastS.step {w w' : World} {H : Nat} {v v' : Value} {l : List StepD} {s : StepD} {ys : List Value} {aa : Option Addr} {ca : Nat} (hH : H ≤ w.heap.size) (h : w.ownsRow H 59 8 v l.length ys) (hP : StepsP w w.heap.size ys l) (ha : StrsB w w.heap.size aa s.asks) (hca : s.asks.length ≤ ca) (hc : s.cases = [])
    (ho : w'.ownsRow H 59 8 v' (l.length + 1) (ys ++ s.cells aa ca none 0)) (hg : w.grownBy w' v.ownBlock) : LastS w' H v' (l ++ [s]) := by
  have k : Keeps w.heap.size [59] w w' := .of_grown h hg (.inr (by simp))
  refine .inr ⟨l, s, w.heap.size, ys, aa, ca, none, 0, rfl, hH, hg.size, ho, hP.keeps k (by decide) (by decide), (ha.keeps k (by decide)).mono hg.size, hca, [], ?_, by rw [hc]; exact CasesP.nil, fun g hg => by simp [Value.ownBlock] at hg⟩
  rw [hc]
  exact World.ownsRow_nil _ _ _ _
theorem set_last {xs ys : List Value} {k : Nat} (h : xs.length = k) (o : Nat) (v : Value) : (xs ++ ys).set (k + o) v = xs ++ ys.set o v := by
  subst h
  rw [List.set_append, if_neg (by omega), show xs.length + o - xs.length = o by omega]
theorem LastS.case {w w' : World} {H H2 gs cap : Nat} {ss : List StepD} {s : StepD} {xs zs : List Value} {aa : Option Addr} {ca : Nat} {ac ac' : Option Addr} {cc cc' : Nat} {c : CaseD}
    (h1 : H ≤ H2) (h2 : H2 ≤ w.heap.size) (h3 : w.ownsRow H 59 8 (.slice (some ⟨gs, 0, none⟩) (ss.length + 1) cap) (ss.length + 1) (xs ++ s.cells aa ca ac cc)) (h4 : StepsP w H2 xs ss) (h5 : StrsB w w.heap.size aa s.asks) (h6 : s.asks.length ≤ ca)
    (h7 : w.ownsRow H2 61 2 (.slice ac s.cases.length cc) s.cases.length zs) (hz : CasesP zs s.cases)
    (ho : w'.ownsRow H2 61 2 (.slice ac' (s.cases.length + 1) cc') (s.cases.length + 1) (zs ++ c.cells)) (hg : w.grownBy w' (Value.slice ac s.cases.length cc).ownBlock) :
    LastS (w'.setCell ⟨gs, ss.length * 8 + 2, none⟩ (.slice ac' (s.cases.length + 1) cc')) H (.slice (some ⟨gs, 0, none⟩) (ss.length + 1) cap) (ss ++ [{ s with cases := s.cases ++ [c] }]) := by
  have k : Keeps w.heap.size [61] w w' := .of_grown h7 hg (.inr (by simp))
  have kc : Keeps H2 [] w w' := .of_grown h7 hg (.inl (Nat.le_refl _))
  have h3' := owns_keeps h3 k (by decide) (own_lt h3)
  obtain ⟨cur, hcur⟩ : ∃ cur, w'.heap[gs]? = some (Obj.cells cur 59 (0, 0)) := by
    rcases h3'.2 with ⟨e, _⟩ | ⟨g, cap', cur, e, _, hh, _⟩
    · cases e
    · injection e with e1; injection e1 with e1; injection e1 with e1; subst e1; exact ⟨cur, hh⟩
  have ks : ∀ u, Keeps w'.heap.size [59] w' (w'.setCell ⟨gs, ss.length * 8 + 2, none⟩ u) := fun u => .setCell hcur u (.inr (by simp))
  have hsz : ∀ u, (w'.setCell ⟨gs, ss.length * 8 + 2, none⟩ u).heap.size = w'.heap.size := fun u => size_setCell ..
  have h3s := (h3'.stored (ss.length * 8 + 2) (.slice ac' (s.cases.length + 1) cc')).1
  rw [set_last h4.1 2] at h3s
  refine .inr ⟨ss, { s with cases := s.cases ++ [c] }, H2, xs, aa, ca, ac', cc', rfl, h1, by rw [hsz]; exact Nat.le_trans h2 hg.size, ?_, (h4.keeps kc (by decide) (by decide)).keeps ((ks _).weaken (Nat.le_trans h2 hg.size) (fun _ h => h)) (by decide) (by decide), ?_, h6, ?_⟩
  · have e : (s.cells aa ca ac cc).set 2 (.slice ac' (s.cases.length + 1) cc') = StepD.cells { s with cases := s.cases ++ [c] } aa ca ac' cc' := by simp [StepD.cells]
    rw [e] at h3s
    exact h3s
  · rw [hsz]
    exact ((h5.keeps k (by decide)).mono hg.size).keeps (ks _) (by decide)
  · rw [hsz]
    refine ⟨zs ++ c.cells, ?_, hz.snoc, ?_⟩
    · simp only [List.length_append, List.length_cons, List.length_nil]
      exact owns_keeps ho (ks _) (by decide) (own_lt ho)
    · simp only [List.length_append, List.length_cons, List.length_nil]
      exact own_lt ho
theorem WebM.store {w : World} {B H g cap : Nat} {l : List NodeD} {d : NodeD} {xs : List Value} {vs vs' : Value} {ss : List StepD} (h1 : B ≤ H ∧ H ≤ w.heap.size) (h2 : w.ownsRow B 54 3 (.slice (some ⟨g, 0, none⟩) (l.length + 1) cap) (l.length + 1) (xs ++ [.string d.name, .int .i64 d.cost, vs])) (h3 : NodesP w H xs l) (h4 : LastS w H vs' ss) :
    WebM (w.setCell ⟨g, l.length * 3 + 2, none⟩ vs') B (.slice (some ⟨g, 0, none⟩) (l.length + 1) cap) (l ++ [{ d with steps := ss }]) := by
  obtain ⟨cur, hcur⟩ : ∃ cur, w.heap[g]? = some (Obj.cells cur 54 (0, 0)) := by
    rcases h2.2 with ⟨e, _⟩ | ⟨g', cap', cur, e, _, hh, _⟩
    · cases e
    · injection e with e1; injection e1 with e1; injection e1 with e1; subst e1; exact ⟨cur, hh⟩
  have ks : Keeps w.heap.size [54] w (w.setCell ⟨g, l.length * 3 + 2, none⟩ vs') := .setCell hcur vs' (.inr (by simp))
  have hsz : (w.setCell ⟨g, l.length * 3 + 2, none⟩ vs').heap.size = w.heap.size := size_setCell ..
  have h2s := (h2.stored (l.length * 3 + 2) vs').1
  rw [set_last h3.1 2] at h2s
  exact .inr ⟨l, { d with steps := ss }, H, xs, vs', rfl, by rw [hsz]; exact h1, h2s, h3.keeps (ks.weaken h1.2 (fun _ h => h)) (by decide) (by decide) (by decide), h4.keeps ks (by rw [hsz]; exact Nat.le_refl _)⟩
theorem nodes_left {w w' : World} {B H : Nat} {v : Value} {n : Nat} {xs ys : List Value} {l : List NodeD} (h2 : w.ownsRow B 54 3 v n ys) (h3 : NodesP w H xs l) (k : Keeps H [] w w') (k' : Keeps w.heap.size [59, 61] w w') : w'.ownsRow B 54 3 v n ys ∧ NodesP w' H xs l :=
  ⟨owns_keeps h2 k' (by decide) (own_lt h2), h3.keeps k (by decide) (by decide) (by decide)⟩
theorem LastS.other {w w' : World} {H : Nat} {K : List TypeId} {v : Value} {l : List StepD} (h : LastS w H v l) (k : Keeps w.heap.size K w w') (hs : w.heap.size ≤ w'.heap.size) (k0 : 59 ∉ K) (k1 : 9 ∉ K) (k2 : 61 ∉ K) : LastS w' H v l := by
  rcases h with h | ⟨ss, s, H2, xs, aa, ca, ac, cc, e, h1, h2, h3, h4, h5, h6, h7⟩
  · exact .inl h
  · exact .inr ⟨ss, s, H2, xs, aa, ca, ac, cc, e, h1, Nat.le_trans h2 hs, owns_keeps h3 k k0 (own_lt h3), h4.keeps (k.weaken h2 (fun _ h => h)) k1 k2, (h5.keeps k k1).mono hs, h6, (h7.keeps k k2).mono (Nat.le_refl _) hs⟩
theorem WebM.other {w w' : World} {B : Nat} {K : List TypeId} {v : Value} {L : List NodeD} (h : WebM w B v L) (k : Keeps w.heap.size K w w') (hs : w.heap.size ≤ w'.heap.size) (kn : 54 ∉ K) (k0 : 59 ∉ K) (k1 : 9 ∉ K) (k2 : 61 ∉ K) : WebM w' B v L := by
  rcases h with h | ⟨l, d, H, xs, vs, e, h1, h2, h3, h4⟩
  · exact .inl h
  · exact .inr ⟨l, d, H, xs, vs, e, ⟨h1.1, Nat.le_trans h1.2 hs⟩, owns_keeps h2 k kn (own_lt h2), h3.keeps (k.weaken h1.2 (fun _ h => h)) k0 k1 k2, h4.other k hs k0 k1 k2⟩
theorem WebM.setVar {w : World} {B b o n : Nat} {v u : Value} {L : List NodeD} (h : WebM w B v L) (hr : RowT w b 24 n) : WebM (w.setCell ⟨b, o, none⟩ u) B v L := by
  obtain ⟨cur, hc, _⟩ := hr
  exact h.other (K := [24]) (.setCell hc u (.inr (by simp))) (by rw [size_setCell]; exact Nat.le_refl _) (by decide) (by decide) (by decide) (by decide)

theorem RowT.keeps {w w' : World} {b n H : Nat} {t : TypeId} {K : List TypeId} (h : RowT w b t n) (k : Keeps H K w w') (hb : b < H) (ht : t ∉ K) : RowT w' b t n := by
  obtain ⟨cur, h1, h2⟩ := h
  exact ⟨cur, k b cur t _ hb ht h1, h2⟩
theorem cell_keeps {w w' : World} {b H : Nat} {cur : Array Value} {fr : Nat × Nat} {t : TypeId} {K : List TypeId} (h : w.heap[b]? = some (Obj.cells cur t fr)) (k : Keeps H K w w') (hb : b < H) (ht : t ∉ K) (i : Nat) : w'.cell? ⟨b, i, none⟩ = w.cell? ⟨b, i, none⟩ :=
  World.cell?_of_block ((k b cur t fr hb ht h).trans h.symm)
theorem web_told {w w7 : World} {B vb n m : Nat} {v7 lv : Value} {L : List NodeD} {ls : List Value} (hw : w.heap.size + 1 = vb) (hR : RowT w7 w.heap.size 24 1) (hV : RowT w7 vb 24 1) (hM : WebM w7 B v7 L) (hN : w7.ownsRow m 9 1 lv n ls) (hK : Kept w w7) :
    RowT (w7.setCell ⟨vb, 0, none⟩ v7) w.heap.size 24 1 ∧ RowT (w7.setCell ⟨vb, 0, none⟩ v7) vb 24 1 ∧ (w7.setCell ⟨vb, 0, none⟩ v7).cell? ⟨vb, 0, none⟩ = some v7 ∧ WebM (w7.setCell ⟨vb, 0, none⟩ v7) B v7 L ∧ (w7.setCell ⟨vb, 0, none⟩ v7).ownsRow m 9 1 lv n ls ∧ Kept w (w7.setCell ⟨vb, 0, none⟩ v7) := by
  refine ⟨hR.block (Below.heap_setCell _ _ _ _ (fun e => by simp only at e; omega)), hV.set v7, ?_, hM.setVar hV, ?_, Kept.setCells (by omega) [v7] 0 hK⟩
  · exact World.rangeAt_setCells_same w7 vb 0 [v7] (hV.row.there (o := 0) (m := 1) (Nat.le_refl _)) 0 v7 rfl
  · obtain ⟨cur, hc, _⟩ := hV
    exact owns_keeps hN (H := w7.heap.size) (K := [24]) (.setCell hc v7 (.inr (by simp))) (by decide) (own_lt hN)

theorem nodes_told {w w7 : World} {vb n m H g cap : Nat} {lv V vs vs' : Value} {l : List NodeD} {d : NodeD} {ss : List StepD} {ls xs : List Value} (hw : w.heap.size + 1 = vb) (hR : RowT w7 w.heap.size 24 1) (hV : RowT w7 vb 24 1) (hc : w7.cell? ⟨vb, 0, none⟩ = some V)
    (h1 : w.heap.size + 2 ≤ H ∧ H ≤ w7.heap.size) (h2 : w7.ownsRow (w.heap.size + 2) 54 3 (.slice (some ⟨g, 0, none⟩) (l.length + 1) cap) (l.length + 1) (xs ++ [.string d.name, .int .i64 d.cost, vs])) (h3 : NodesP w7 H xs l) (h4 : LastS w7 H vs' ss) (hN : w7.ownsRow m 9 1 lv n ls) (hK : Kept w w7) :
    RowT (w7.setCell ⟨g, l.length * 3 + 2, none⟩ vs') w.heap.size 24 1 ∧ RowT (w7.setCell ⟨g, l.length * 3 + 2, none⟩ vs') vb 24 1 ∧ (w7.setCell ⟨g, l.length * 3 + 2, none⟩ vs').cell? ⟨vb, 0, none⟩ = some V ∧ WebM (w7.setCell ⟨g, l.length * 3 + 2, none⟩ vs') (w.heap.size + 2) (.slice (some ⟨g, 0, none⟩) (l.length + 1) cap) (l ++ [{ d with steps := ss }]) ∧ (w7.setCell ⟨g, l.length * 3 + 2, none⟩ vs').ownsRow m 9 1 lv n ls ∧ Kept w (w7.setCell ⟨g, l.length * 3 + 2, none⟩ vs') := by
  obtain ⟨cur, hcur, hlo⟩ : ∃ cur, w7.heap[g]? = some (Obj.cells cur 54 (0, 0)) ∧ w.heap.size + 2 ≤ g := by
    rcases h2.2 with ⟨e, _⟩ | ⟨g', cap', cur, e, hlo, hh, _⟩
    · cases e
    · injection e with e1; injection e1 with e1; injection e1 with e1; subst e1; exact ⟨cur, hh, hlo⟩
  have ks : Keeps w7.heap.size [54] w7 (w7.setCell ⟨g, l.length * 3 + 2, none⟩ vs') := .setCell hcur vs' (.inr (by simp))
  obtain ⟨curV, hcV, hsV⟩ := hV
  exact ⟨hR.keeps ks hR.lt (by decide), RowT.keeps ⟨curV, hcV, hsV⟩ ks (heap_lt hcV) (by decide), (cell_keeps hcV ks (heap_lt hcV) (by decide) 0).trans hc, WebM.store h1 h2 h3 h4, owns_keeps hN ks (by decide) (own_lt hN), Kept.setCells (by omega) [vs'] (l.length * 3 + 2) hK⟩

end Go.Proofs.YtinkfgkjdaaeaaaGreatDoor

namespace Go.Proofs.YtinkfgkjdaaeaaaGreatDoor
open Go.RowKit

theorem region_cutI {P : Program} {id : Nat} {ops : Array Oper} {Q : Exit → Act → World → Prop} {a : Act} {w : World} (A : Act) (J : World → Prop) (h : (Code.region id ops true).wp P (fun x b u => x = .normal ∧ b = A ∧ J u) a w) (hJ : ∀ u, J u → Q .normal A u) : (Code.region id ops true).wp P Q a w :=
  wp_mono h fun e b u hx => by
    obtain ⟨rfl, rfl, hx⟩ := hx
    exact hJ u hx

def Told (w w7 : World) (vb g m n cap : Nat) (lv V vs' : Value) (l : List NodeD) (d : NodeD) (ss : List StepD) (ls : List Value) : Prop :=
  RowT (w7.setCell ⟨g, l.length * 3 + 2, none⟩ vs') w.heap.size 24 1 ∧ RowT (w7.setCell ⟨g, l.length * 3 + 2, none⟩ vs') vb 24 1 ∧ (w7.setCell ⟨g, l.length * 3 + 2, none⟩ vs').cell? ⟨vb, 0, none⟩ = some V ∧ WebM (w7.setCell ⟨g, l.length * 3 + 2, none⟩ vs') (w.heap.size + 2) (.slice (some ⟨g, 0, none⟩) (l.length + 1) cap) (l ++ [{ d with steps := ss }]) ∧ (w7.setCell ⟨g, l.length * 3 + 2, none⟩ vs').ownsRow m 9 1 lv n ls ∧ Kept w (w7.setCell ⟨g, l.length * 3 + 2, none⟩ vs')

theorem own_blk {w : World} {B size g n cap : Nat} {t : TypeId} {xs : List Value} (h : w.ownsRow B t size (.slice (some ⟨g, 0, none⟩) n cap) n xs) : ∃ cur, w.heap[g]? = some (Obj.cells cur t (0, 0)) := by
  rcases h.2 with ⟨e, _⟩ | ⟨g', cap', cur, e, _, hh, _⟩
  · cases e
  · injection e with e1; injection e1 with e1; injection e1 with e1; subst e1; exact ⟨cur, hh⟩
theorem own_frozen {w : World} {B size g n cap : Nat} {t : TypeId} {xs : List Value} (h : w.ownsRow B t size (.slice (some ⟨g, 0, none⟩) n cap) n xs) (i : Nat) : w.frozen? ⟨g, i, none⟩ = false := by
  rcases h.2 with ⟨e, _⟩ | ⟨g', cap', cur, e, _, hh, _⟩
  · cases e
  · injection e with e1; injection e1 with e1; injection e1 with e1; subst e1
    obtain ⟨t, f, hr⟩ := RowT.row ⟨cur, hh, rfl⟩
    exact hr.frozen _

theorem steps_turned {w w2 w7 : World} {vb m n H g cap : Nat} {lv V vs v7 : Value} {l : List NodeD} {d : NodeD} {ss : List StepD} {ls xs : List Value} (hw : w.heap.size + 1 = vb) (hR : RowT w2 w.heap.size 24 1) (hV : RowT w2 vb 24 1) (hc : w2.cell? ⟨vb, 0, none⟩ = some V)
    (h1 : w.heap.size + 2 ≤ H ∧ H ≤ w2.heap.size) (h2 : w2.ownsRow (w.heap.size + 2) 54 3 (.slice (some ⟨g, 0, none⟩) (l.length + 1) cap) (l.length + 1) (xs ++ [.string d.name, .int .i64 d.cost, vs])) (h3 : NodesP w2 H xs l) (hN : w2.ownsRow m 9 1 lv n ls)
    (k27 : Keeps w2.heap.size [59, 61] w2 w7) (kH : Keeps H [] w2 w7) (hs : w2.heap.size ≤ w7.heap.size) (hL : LastS w7 H v7 ss) (hK : Kept w w7) :
    Told w w7 vb g m n cap lv V v7 l d ss ls ∧ w7.cell? ⟨vb, 0, none⟩ = some V ∧ w7.frozen? ⟨g, l.length * 3 + 1 + 1, none⟩ = false ∧ w7.cell? ⟨g, l.length * 3 + 2, none⟩ = some vs := by
  obtain ⟨h2', h3'⟩ := nodes_left h2 h3 kH k27
  obtain ⟨curV, hcV, hsV⟩ := hV
  have hc7 := (cell_keeps hcV k27 (heap_lt hcV) (by decide) 0).trans hc
  refine ⟨nodes_told hw (hR.keeps k27 hR.lt (by decide)) (RowT.keeps ⟨curV, hcV, hsV⟩ k27 (heap_lt hcV) (by decide)) hc7 ⟨h1.1, Nat.le_trans h1.2 hs⟩ h2' h3' hL (owns_keeps hN k27 (by decide) (own_lt hN)) hK, hc7, own_frozen h2' _, ?_⟩
  have := h2'.cells (g := g) rfl (l.length * 3 + 2) vs (by rw [List.getElem?_append_right (by rw [h3.1]; omega), h3.1]; simp)
  rw [Addr.add_mid, Nat.zero_add] at this
  exact this

theorem stepMore {w w2 w6 w7 : World} {vb m n H g cap ca : Nat} {lv V vs v7 : Value} {l : List NodeD} {d : NodeD} {s : StepD} {ls xs ys : List Value} {aa : Option Addr} (hw : w.heap.size + 1 = vb) (hR : RowT w2 w.heap.size 24 1) (hV : RowT w2 vb 24 1) (hc : w2.cell? ⟨vb, 0, none⟩ = some V)
    (h1 : w.heap.size + 2 ≤ H ∧ H ≤ w2.heap.size) (h2 : w2.ownsRow (w.heap.size + 2) 54 3 (.slice (some ⟨g, 0, none⟩) (l.length + 1) cap) (l.length + 1) (xs ++ [.string d.name, .int .i64 d.cost, vs])) (h3 : NodesP w2 H xs l) (hN : w2.ownsRow m 9 1 lv n ls) (hK : Kept w w2)
    (hO : w2.ownsRow H 59 8 vs d.steps.length ys) (hP : StepsP w2 w2.heap.size ys d.steps) (k6 : Kept w2 w6) (ha : StrsB w6 w6.heap.size aa s.asks) (hca : s.asks.length ≤ ca) (hcs : s.cases = []) (ho : w7.ownsRow H 59 8 v7 (d.steps.length + 1) (ys ++ s.cells aa ca none 0)) (hg : w6.grownBy w7 vs.ownBlock) :
    Told w w7 vb g m n cap lv V v7 l d (d.steps ++ [s]) ls ∧ w7.cell? ⟨vb, 0, none⟩ = some V ∧ w7.frozen? ⟨g, l.length * 3 + 1 + 1, none⟩ = false ∧ w7.cell? ⟨g, l.length * 3 + 2, none⟩ = some vs := by
  have hO6 := ownsRow_kept' hO k6
  have kg : Keeps w6.heap.size [59] w6 w7 := .of_grown hO6 hg (.inr (by simp))
  have k27 : Keeps w2.heap.size [59, 61] w2 w7 := (Keeps.of_kept k6).trans (kg.weaken k6.size (by simp))
  have kH : Keeps H [] w2 w7 := (Keeps.of_kept k6).trans (.of_grown hO6 hg (.inl (Nat.le_refl _)))
  exact steps_turned hw hR hV hc h1 h2 h3 hN k27 kH (Nat.le_trans k6.size hg.size) (LastS.step (Nat.le_trans h1.2 k6.size) hO6 ((hP.keeps (K := []) (.of_kept k6) (by simp) (by simp)).mono k6.size) ha hca hcs ho hg) (kept_of_grown (hK.trans k6) (by omega) hO6 hg)

theorem caseMore {w w2 w6 w7 : World} {vb m n H H2 g cap gs caps ca : Nat} {lv V : Value} {l : List NodeD} {d : NodeD} {ss : List StepD} {s : StepD} {c : CaseD} {ls xs ys zs : List Value} {aa ac ac' : Option Addr} {cc cc' : Nat} (hw : w.heap.size + 1 = vb) (hR : RowT w2 w.heap.size 24 1) (hV : RowT w2 vb 24 1) (hc : w2.cell? ⟨vb, 0, none⟩ = some V)
    (h1 : w.heap.size + 2 ≤ H ∧ H ≤ w2.heap.size) (h2 : w2.ownsRow (w.heap.size + 2) 54 3 (.slice (some ⟨g, 0, none⟩) (l.length + 1) cap) (l.length + 1) (xs ++ [.string d.name, .int .i64 d.cost, .slice (some ⟨gs, 0, none⟩) (ss.length + 1) caps])) (h3 : NodesP w2 H xs l) (hN : w2.ownsRow m 9 1 lv n ls) (hK : Kept w w2)
    (g1 : H ≤ H2) (g2 : H2 ≤ w2.heap.size) (g3 : w2.ownsRow H 59 8 (.slice (some ⟨gs, 0, none⟩) (ss.length + 1) caps) (ss.length + 1) (ys ++ s.cells aa ca ac cc)) (g4 : StepsP w2 H2 ys ss) (g5 : StrsB w2 w2.heap.size aa s.asks) (g6 : s.asks.length ≤ ca)
    (g7 : w2.ownsRow H2 61 2 (.slice ac s.cases.length cc) s.cases.length zs) (g8 : CasesP zs s.cases) (k6 : Kept w2 w6)
    (ho : w7.ownsRow H2 61 2 (.slice ac' (s.cases.length + 1) cc') (s.cases.length + 1) (zs ++ c.cells)) (hg : w6.grownBy w7 (Value.slice ac s.cases.length cc).ownBlock) :
    w7.frozen? ⟨gs, ss.length * 8 + 2, none⟩ = false ∧
    (Told w (w7.setCell ⟨gs, ss.length * 8 + 2, none⟩ (.slice ac' (s.cases.length + 1) cc')) vb g m n cap lv V (.slice (some ⟨gs, 0, none⟩) (ss.length + 1) caps) l d (ss ++ [{ s with cases := s.cases ++ [c] }]) ls ∧ (w7.setCell ⟨gs, ss.length * 8 + 2, none⟩ (.slice ac' (s.cases.length + 1) cc')).cell? ⟨vb, 0, none⟩ = some V ∧ (w7.setCell ⟨gs, ss.length * 8 + 2, none⟩ (.slice ac' (s.cases.length + 1) cc')).frozen? ⟨g, l.length * 3 + 1 + 1, none⟩ = false ∧ (w7.setCell ⟨gs, ss.length * 8 + 2, none⟩ (.slice ac' (s.cases.length + 1) cc')).cell? ⟨g, l.length * 3 + 2, none⟩ = some (.slice (some ⟨gs, 0, none⟩) (ss.length + 1) caps)) := by
  have g7' := ownsRow_kept' g7 k6
  have g3' := ownsRow_kept' g3 k6
  have k : Keeps w6.heap.size [61] w6 w7 := .of_grown g7' hg (.inr (by simp))
  have kc : Keeps H [] w6 w7 := .of_grown g7' hg (.inl g1)
  have g37 := owns_keeps g3' k (by decide) (own_lt g3')
  obtain ⟨cur, hcur, hlo⟩ : ∃ cur, w7.heap[gs]? = some (Obj.cells cur 59 (0, 0)) ∧ H ≤ gs := by
    rcases g37.2 with ⟨e, _⟩ | ⟨g', cap', cur, e, hlo, hh, _⟩
    · cases e
    · injection e with e1; injection e1 with e1; injection e1 with e1; subst e1; exact ⟨cur, hh, hlo⟩
  have ks : ∀ u, Keeps w7.heap.size [59] w7 (w7.setCell ⟨gs, ss.length * 8 + 2, none⟩ u) := fun u => .setCell hcur u (.inr (by simp))
  have ks' : ∀ u, Keeps H [] w7 (w7.setCell ⟨gs, ss.length * 8 + 2, none⟩ u) := fun u => .setCell hcur u (.inl hlo)
  have hs7 : w2.heap.size ≤ w7.heap.size := Nat.le_trans k6.size hg.size
  refine ⟨own_frozen g37 _, steps_turned hw hR hV hc h1 h2 h3 hN ?_ (((Keeps.of_kept k6).trans kc).trans (ks' _)) (by rw [size_setCell]; exact hs7) ?_ ?_⟩
  · exact ((Keeps.of_kept k6).trans (k.weaken k6.size (by simp))).trans ((ks _).weaken hs7 (by simp))
  · exact LastS.case g1 (Nat.le_trans g2 k6.size) g3' (g4.keeps (K := []) (.of_kept k6) (by simp) (by simp)) ((g5.keeps (K := []) (.of_kept k6) (by simp)).mono k6.size) g6 g7' g8 ho hg
  · exact Kept.setCells (by omega) [.slice ac' (s.cases.length + 1) cc'] (ss.length * 8 + 2) (kept_of_grown (hK.trans k6) (by omega) g7' hg)

end Go.Proofs.YtinkfgkjdaaeaaaGreatDoor

namespace Go.Proofs.YtinkfgkjdaaeaaaGreatDoor
open Go.RowKit

def readK (l : List UInt8) (k : Nat) : List NodeD := ((cuts 10 l).take k).foldl lineF []
theorem readK_succ (l : List UInt8) {k : Nat} (h : k < (cuts 10 l).length) : readK l (k + 1) = lineF (readK l k) (cuts 10 l)[k] := by
  unfold readK
  rw [List.take_succ_eq_append_getElem h, List.foldl_append]
  rfl
def eight : List Value := [.string ⟨#[]⟩, .string ⟨#[]⟩, .string ⟨#[]⟩, .string ⟨#[]⟩, .string ⟨#[]⟩, .string ⟨#[]⟩, .string ⟨#[]⟩, .string ⟨#[]⟩]
theorem box8 (w : World) : ∀ j u, eight[j]? = some u → (w.alloc (.cells #[.string ⟨#[]⟩, .string ⟨#[]⟩, .string ⟨#[]⟩, .string ⟨#[]⟩, .string ⟨#[]⟩, .string ⟨#[]⟩, .string ⟨#[]⟩, .string ⟨#[]⟩] 9)).cell? ((⟨w.heap.size, 0, none⟩ : Addr).add j) = some u := fun j u hj => by
  rw [Addr.add_mid]
  exact range_new w #[.string ⟨#[]⟩, .string ⟨#[]⟩, .string ⟨#[]⟩, .string ⟨#[]⟩, .string ⟨#[]⟩, .string ⟨#[]⟩, .string ⟨#[]⟩, .string ⟨#[]⟩] 9 j u hj
theorem one8 : ∀ u ∈ eight, u.oneCell' = true := by decide
structure Words (w : World) (l : List UInt8) (g n cap : Nat) : Prop where
  lt : g < w.heap.size
  len : 9 ≤ n
  blk : ∃ cur, w.heap[g]? = some (Obj.cells cur 9 (0, 0))
  word : ∀ i, i < 8 → w.cell? ⟨g, i, none⟩ = some (.string (toB (wd l i)))
theorem Words.of_row {w : World} {base g cap : Nat} {l : List UInt8} (h : w.ownsRow base 9 1 (.slice (some ⟨g, 0, none⟩) ((cuts 32 l).length + 8) cap) ((cuts 32 l).length + 8) (strsV (cuts 32 l) ++ eight)) : Words w l g ((cuts 32 l).length + 8) cap := by
  have hne : 1 ≤ (cuts 32 l).length := by
    match e : cuts 32 l, cuts_ne 32 l with
    | x :: r, _ => simp
  have hb : ∃ cur, w.heap[g]? = some (Obj.cells cur 9 (0, 0)) := by
    rcases h.2 with ⟨e, _⟩ | ⟨g', cap', cur, e, _, hh, _⟩
    · cases e
    · injection e with e1; injection e1 with e1; injection e1 with e1; subst e1; exact ⟨cur, hh⟩
  refine ⟨own_lt h g rfl, by omega, hb, fun i hi => ?_⟩
  have hc : (strsV (cuts 32 l) ++ eight)[i]? = some (.string (toB (wd l i))) := by
    unfold wd
    by_cases hlt : i < (cuts 32 l).length
    · rw [List.getElem?_append_left (by simpa [strsV] using hlt)]
      simp [strsV, hlt]
    · rw [List.getElem?_append_right (by simp [strsV]; omega)]
      have e : (cuts 32 l).getD i [] = [] := by simp [List.getD, hlt]
      rw [e]
      have : ∀ j, j < 8 → eight[j]? = some (.string (toB [])) := fun j hj => by match j, hj with | 0, _ | 1, _ | 2, _ | 3, _ | 4, _ | 5, _ | 6, _ | 7, _ => rfl
      exact this _ (by simp [strsV]; omega)
  have := h.cells (g := g) rfl i _ hc
  rw [Addr.add_mid, Nat.zero_add] at this
  exact this
theorem Words.kept {w w' : World} {l : List UInt8} {g n cap : Nat} (h : Words w l g n cap) (k : Kept w w') : Words w' l g n cap :=
  ⟨Nat.lt_of_lt_of_le h.lt k.size, h.len, by obtain ⟨cur, e⟩ := h.blk; exact ⟨cur, (k.block g h.lt).trans e⟩, fun i hi => (k.cell h.lt).trans (h.word i hi)⟩

end Go.Proofs.YtinkfgkjdaaeaaaGreatDoor
