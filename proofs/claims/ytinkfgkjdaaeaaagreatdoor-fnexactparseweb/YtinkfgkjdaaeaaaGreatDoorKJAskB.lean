import Derived.Test.YtinkfgkjdaaeaaaGreatDoorKJAskO
import Derived.Test.YtinkfgkjdaaeaaaGreatDoorKVRead8
import Derived.Test.YtinkfgkjdaaeaaaGreatDoorKVFit8
import Derived.Deep.AppendLies

namespace Go.Proofs.YtinkfgkjdaaeaaaGreatDoor
open Go.RowKit

theorem Tryz.infoStrI : (Tryz.prog.info? 9).map (fun i => (i.zero, i.size, i.bytes)) = some (some (.string ⟨#[]⟩), 1, 16) := by kernel_rfl
def strsV (X : List (List UInt8)) : List Value := X.map (fun x => .string (toB x))

def CutEnd (b : UInt8) (l : List UInt8) (w w' : World) (e : Ending) : Prop :=
  ∃ g cap, e = .returned (.slice (some ⟨g, 0, none⟩) (cuts b l).length cap) ∧ w'.ownsRow w.heap.size 9 1 (.slice (some ⟨g, 0, none⟩) (cuts b l).length cap) (cuts b l).length (strsV (cuts b l)) ∧ Kept w w'

theorem boxStr (w : World) (s : ByteArray) : ∀ j u, ([.string s] : List Value)[j]? = some u → (w.alloc (.cells #[.string s] 9)).cell? ((⟨w.heap.size, 0, none⟩ : Addr).add j) = some u := fun j u hj => by
  rw [Addr.add_mid]
  exact range_new w #[.string s] 9 j u hj
theorem oneStr (s : ByteArray) : ∀ u ∈ ([.string s] : List Value), u.oneCell' = true := fun u hu => by
  simp only [List.mem_cons, List.not_mem_nil, or_false] at hu
  subst hu
  rfl
theorem ext_seg (S : ByteArray) (f k : Nat) : (S.extract f k) = toB ((S.data.toList.drop f).take (k - f)) := by
  rw [← toB_data (S.extract f k), Lib.extract_data]
theorem ext_tail (S : ByteArray) (f : Nat) : (S.extract f S.size) = toB (S.data.toList.drop f) := by
  rw [← toB_data (S.extract f S.size), Lib.extract_to_end]
theorem seg_more {l : List UInt8} {f k : Nat} (hf : f ≤ k) (hk : k < l.length) : (l.drop f).take (k + 1 - f) = (l.drop f).take (k - f) ++ [l[k]] := by
  have h : k - f < (l.drop f).length := by rw [List.length_drop]; omega
  rw [show k + 1 - f = (k - f) + 1 by omega, List.take_succ_eq_append_getElem h]
  congr 2
  rw [List.getElem_drop]
  congr 1
  omega
theorem seg_split {l : List UInt8} {f k : Nat} (hf : f ≤ k) (hk : k < l.length) : l.drop f = (l.drop f).take (k - f) ++ l[k] :: l.drop (k + 1) := by
  conv => lhs; rw [← List.take_append_drop (k - f) (l.drop f)]
  rw [List.drop_drop, show f + (k - f) = k by omega, List.drop_eq_getElem_cons hk]

set_option maxRecDepth 100000 in
set_option maxHeartbeats 1600000 in
theorem l8Cut_any (w : World) (S : ByteArray) (b : UInt8) (hl : S.size ≤ 1100000) :
    Calls Tryz.prog 20 #[.string S, .int .u8 (b.toNat : Int)] w fun e w' => CutEnd b S.data.toList w w' e := by
  obtain ⟨ino, hn0, hn1, hn2, hn3⟩ := info_parts Tryz.infoStrI
  obtain ⟨l, hlS⟩ : ∃ l, l = S.data.toList := ⟨_, rfl⟩
  have hz : S.size = l.length := by rw [hlS]; exact size_list S
  have hzi : (S.size : Int) ≤ 1100000 := by omega
  rw [← hlS]
  have HlS := hide hlS
  clear hlS
  have HZ := hide hz
  clear hz
  have HO0 : Hid ((w.alloc (.cells #[] 9)).ownsRow w.heap.size 9 1 (.slice (some ⟨w.heap.size, 0, none⟩) 0 0) 0 []) :=
    ⟨rfl, .inr ⟨w.heap.size, 0, #[], rfl, Nat.le_refl _, heap_alloc_new w _, Nat.le_refl _, by unfold maxLen; omega, rfl, rfl⟩⟩
  have hk0 : Hid (Kept w (w.alloc (.cells #[] 9))) := (Kept.refl w).alloc _
  go_enter Tryz.func20, Tryz.ntmps20
  go_wp2
  go_loopw [5, 6, 7] (fun v f i wr => ∃ (k f' : Nat) (X : List (List UInt8)), f' ≤ k ∧ k ≤ l.length ∧ i = .int .i64 k ∧ f = .int .i64 f' ∧ X.length ≤ f' ∧ Hid (wr.ownsRow w.heap.size 9 1 v X.length (strsV X)) ∧ Hid (Kept w wr) ∧ Hid (b ∉ (l.drop f').take (k - f')) ∧ Hid (cuts b l = X ++ cuts b (l.drop f'))) (fun _ _ i _ => l.length - (intOf i).toNat)
  case atStart => exact ⟨0, 0, [], Nat.le_refl _, Nat.zero_le _, rfl, rfl, by simp, HO0, hk0, by simp [Hid], by simp [Hid]⟩
  case round =>
    obtain ⟨k, f', X, hf, hk, rfl, rfl, hX, HO, HK, HB, HC⟩ := hrel
    clear HO0 hk0
    obtain ⟨av, cv, rfl⟩ := own_slice HO.out
    have hzw := HK.out.size
    have hll : l.length ≤ 1100000 := by have := HZ.out; omega
    have hm1 : X.length + 1 ≤ maxLen := by unfold maxLen; omega
    have hm2 : (X.length + 1) * 16 ≤ 140737488355328 := by omega
    have hm3 : ∀ o, w.heap.size ≤ (wr.alloc o).heap.size := fun o => by rw [World.size_alloc]; omega
    have HM1 := hide hm1
    have HM2 := hide hm2
    have HM3 := hide hm3
    clear hm1 hm2 hm3
    by_cases hlt : (k : Int) < (S.size : Int)
    · have hkl : k < l.length := by have := HZ.out; omega
      have hks : k < S.size := by omega
      have hxe : S[k] = l[k] := by have := HlS.out; subst this; simp; rfl
      obtain ⟨x, hx⟩ : ∃ x, x = S[k] := ⟨_, rfl⟩
      have HSm : Hid ((l.drop f').take (k + 1 - f') = (l.drop f').take (k - f') ++ [x]) := by show _ = _; rw [seg_more hf hkl, hx, hxe]
      have HSs : Hid (l.drop f' = (l.drop f').take (k - f') ++ x :: l.drop (k + 1)) := by show _ = _; rw [hx, hxe]; exact seg_split hf hkl
      have hxl := x.toNat_lt
      clear hxe
      by_cases hxb : x = b
      · have exb : ((S[k].toNat : Int) == (b.toNat : Int)) = true := by rw [← hx, hxb]; simp
        have HE := hide (ext_seg S f' k)
        have hfk : (f' : Int) ≤ (k : Int) := by omega
        have hkk : (k : Int) ≤ (S.size : Int) := by omega
        have HC2 : Hid (cuts b l = (X ++ [(l.drop f').take (k - f')]) ++ cuts b (l.drop (k + 1))) := by
          show _ = _
          have h1 := HC.out
          rw [h1]
          have h2 := HSs.out
          rw [hxb] at h2
          conv => lhs; rw [h2]
          rw [cuts_app HB.out]
          simp
        go_wp2_with (at_builtin; refine wpList_append_lies _ rfl _ _ 47 rfl w.heap.size 9 ino (.string ⟨#[]⟩) 1 16 Tryz.underlying47 hn0 hn1 hn2 hn3 rfl (by decide) _ _ _ rfl (HO.out.alloc _) ⟨wr.heap.size, 0, none⟩ 1 1 [.string _] rfl rfl (boxStr _ _) (oneStr _) (by decide) HM1.out HM2.out (HM3.out _) _ rfl ?_)
        intro g cap' w2 hown' hgrow hloc hg2
        have kA : Kept wr (wr.alloc (.cells #[.string (S.extract f' k)] 9)) := (Kept.refl _).alloc _
        have HK2 : Hid (Kept w w2) := kept_of_grown (HK.out.trans kA) (Nat.le_refl _) (ownsRow_kept' HO.out kA) hgrow
        have HO2 : Hid (w2.ownsRow w.heap.size 9 1 (.slice (some ⟨g, 0, none⟩) (X.length + 1) cap') (X ++ [(l.drop f').take (k - f')]).length (strsV (X ++ [(l.drop f').take (k - f')]))) := by
          rw [List.length_append]
          unfold strsV
          rw [List.map_append, List.map_cons, List.map_nil, HlS.out, ← HE.out]
          exact hown'
        clear hgrow hloc hg2 hown' kA HO HK HC HB
        go_wp2
        go_roundw
        case rel => exact ⟨k + 1, k + 1, X ++ [(l.drop f').take (k - f')], Nat.le_refl _, by omega, by go_num, by go_num, by simp; omega, HO2, HK2, by simp [Hid], HC2⟩
        case measure => simp [intOf]; omega
      · have exb : ((S[k].toNat : Int) == (b.toNat : Int)) = false := by
          rw [← hx]
          have : x.toNat ≠ b.toNat := fun e => hxb (UInt8.toNat_inj.1 e)
          simp; omega
        have HB2 : Hid (b ∉ (l.drop f').take (k + 1 - f')) := by
          rw [HSm.out]
          show ¬ _
          simp only [List.mem_append, List.mem_singleton, not_or]
          exact ⟨HB.out, fun e => hxb e.symm⟩
        go_wp2
        go_roundw
        case rel => exact ⟨k + 1, f', X, by omega, by omega, by go_num, rfl, hX, HO, HK, HB2, HC⟩
        case measure => simp [intOf]; omega
    · have hke : k = l.length := by have := HZ.out; omega
      have HE := hide (ext_tail S f')
      have hfs : (f' : Int) ≤ (S.size : Int) := by have := HZ.out; omega
      have HC2 : Hid (cuts b l = X ++ [l.drop f']) := by
        show _ = _
        rw [HC.out]
        congr 1
        have := HB.out
        rw [List.take_of_length_le (by rw [List.length_drop]; omega)] at this
        exact cuts_none this
      clear hke
      go_wp2_with (at_builtin; refine wpList_append_lies _ rfl _ _ 47 rfl w.heap.size 9 ino (.string ⟨#[]⟩) 1 16 Tryz.underlying47 hn0 hn1 hn2 hn3 rfl (by decide) _ _ _ rfl (HO.out.alloc _) ⟨wr.heap.size, 0, none⟩ 1 1 [.string (S.extract f' S.size)] rfl rfl (boxStr _ _) (oneStr _) (by decide) HM1.out HM2.out (HM3.out _) _ rfl ?_)
      intro g cap' w2 hown' hgrow hloc hg2
      have kA : Kept wr (wr.alloc (.cells #[.string (S.extract f' S.size)] 9)) := (Kept.refl _).alloc _
      have HK2 : Hid (Kept w w2) := kept_of_grown (HK.out.trans kA) (Nat.le_refl _) (ownsRow_kept' HO.out kA) hgrow
      have HO2 : Hid (w2.ownsRow w.heap.size 9 1 (.slice (some ⟨g, 0, none⟩) (X.length + 1) cap') (cuts b l).length (strsV (cuts b l))) := by
        rw [HC2.out, List.length_append]
        unfold strsV
        rw [List.map_append, List.map_cons, List.map_nil, HlS.out, ← HE.out]
        exact hown'
      have hcl : X.length + 1 = (cuts b l).length := by rw [HC2.out]; simp
      clear hgrow hloc hg2 hown' kA HO HK HC HB
      go_wp2
      go_ret
      rw [hcl] at HO2 ⊢
      exact ⟨g, cap', rfl, HO2.out, HK2.out⟩

end Go.Proofs.YtinkfgkjdaaeaaaGreatDoor

namespace Go.Proofs.YtinkfgkjdaaeaaaGreatDoor
open Go.RowKit

theorem looseK_snoc (c : UInt8) : ∀ (xs : List UInt8) (n : Int), looseK n (xs ++ [c]) = looseK n xs * 10 + (c.toNat : Int) - 48
  | [], n => rfl
  | x :: r, n => by
    simp only [List.cons_append, looseK]
    rw [looseK_snoc c r]

theorem tens (k : Nat) (h : k ≤ 6) : (10 : Int) ^ k ≤ 1000000 ∧ 0 < (10 : Int) ^ k := by
  have : ∀ j : Fin 7, (10 : Int) ^ j.val ≤ 1000000 ∧ 0 < (10 : Int) ^ j.val := by decide
  exact this ⟨k, by omega⟩

set_option maxRecDepth 100000 in
set_option maxHeartbeats 1600000 in
theorem l8Loose_any (w : World) (S : ByteArray) (hl : S.size ≤ 1100000) :
    Calls Tryz.prog 21 #[.string S] w fun e w' => e = .returned (.int .i64 (looseL S.data.toList)) ∧ w' = w := by
  obtain ⟨l, hlS⟩ : ∃ l, l = S.data.toList := ⟨_, rfl⟩
  have HZ : Hid (S.size = l.length) := by show _ = _; rw [hlS]; exact size_list S
  have hzi : (S.size : Int) ≤ 1100000 := by omega
  rw [← hlS]
  have HlS := hide hlS
  clear hlS
  by_cases h1 : l = [45, 49]
  · have e0 : (S.toList == [45, 49]) = true := by rw [ByteArray.toList_eq, ← HlS.out, h1]; rfl
    have HL : Hid (looseL l = -1) := by show _ = _; unfold looseL; rw [if_pos h1]
    clear h1
    go_enter Tryz.func21, Tryz.ntmps21
    go_wp2
    go_ret
    exact ⟨ret_int HL.out.symm, rfl⟩
  · have e0 : (S.toList == [45, 49]) = false := by rw [ByteArray.toList_eq, ← HlS.out]; simpa using h1
    have HL : Hid (looseL l = looseK 0 (l.take 6)) := by show _ = _; unfold looseL; rw [if_neg h1]
    clear h1
    go_enter Tryz.func21, Tryz.ntmps21
    go_wp2
    go_loopw [3, 4] (fun n i wr => wr = w ∧ ∃ (k : Nat) (m : Int), k ≤ 6 ∧ k ≤ l.length ∧ i = .int .i64 k ∧ n = .int .i64 m ∧ Hid (m = looseK 0 (l.take k)) ∧ Hid (-(29 * (10 : Int) ^ k) + 29 ≤ m ∧ m ≤ 29 * (10 : Int) ^ k - 29)) (fun _ i _ => l.length - (intOf i).toNat)
    case atStart => exact ⟨rfl, 0, 0, by omega, Nat.zero_le _, rfl, rfl, by simp [Hid, looseK], ⟨by decide, by decide⟩⟩
    case round =>
      obtain ⟨rfl, k, m, hk, hkl, rfl, rfl, HM, HB⟩ := hrel
      obtain ⟨hp, hp0⟩ := tens k hk
      obtain ⟨P, hP⟩ : ∃ P : Int, P = (10 : Int) ^ k := ⟨_, rfl⟩
      have hb1 := HB.out.1
      have hb2 := HB.out.2
      rw [← hP] at hp hp0 hb1 hb2
      have HP := hide hP
      clear hP HB
      by_cases hlt : (k : Int) < (S.size : Int)
      · by_cases h6 : (k : Int) < 6
        · have hkt : k < l.length := by have := HZ.out; omega
          have hks : k < S.size := by omega
          obtain ⟨x, hx⟩ : ∃ x, x = S[k] := ⟨_, rfl⟩
          have hxe : S[k] = l[k] := by have := HlS.out; subst this; simp; rfl
          have HM2 : Hid (m * 10 + (x.toNat : Int) - 48 = looseK 0 (l.take (k + 1))) := by
            show _ = _
            rw [List.take_succ_eq_append_getElem hkt, looseK_snoc, ← HM.out, hx, hxe]
          have hxl := x.toNat_lt
          have HX := hide hx
          clear hxe
          have w1 : IntKind.i64.wrap (m * 10) = m * 10 := by rw [IntKind.wrap_i64]; omega
          have w2 : IntKind.i64.wrap (S[k].toNat : Int) = (S[k].toNat : Int) := by rw [← hx, IntKind.wrap_i64]; omega
          have w3 : IntKind.i64.wrap (m * 10 + (S[k].toNat : Int)) = m * 10 + (S[k].toNat : Int) := by rw [← hx, IntKind.wrap_i64]; omega
          have w4 : IntKind.i64.wrap (m * 10 + (S[k].toNat : Int) - 48) = m * 10 + (S[k].toNat : Int) - 48 := by rw [← hx, IntKind.wrap_i64]; omega
          clear hx
          go_wp2
          go_roundw
          case rel =>
            refine ⟨trivial, k + 1, m * 10 + (x.toNat : Int) - 48, by omega, by omega, by go_num, by rw [HX.out], HM2, ?_⟩
            show _ ∧ _
            rw [Int.pow_succ, ← HP.out]
            omega
          case measure => simp [intOf]; omega
        · obtain rfl : k = 6 := by omega
          go_wp2
          go_ret
          exact ⟨ret_int (by rw [HL.out]; exact HM.out), rfl⟩
      · have hke : k = l.length := by have := HZ.out; omega
        have HT : Hid (l.take k = l.take 6) := by show _ = _; rw [List.take_of_length_le (by omega), List.take_of_length_le (by omega)]
        clear hke
        go_wp2
        go_ret
        exact ⟨ret_int (by rw [HL.out, ← HT.out]; exact HM.out), rfl⟩

set_option maxRecDepth 100000 in
set_option maxHeartbeats 1600000 in
theorem l8Rest_any (w : World) (S : ByteArray) (k0 : Nat) (hk0 : 1 ≤ k0) (hk9 : k0 ≤ 9) (kk : Int) (hkk : kk = (k0 : Int)) (hl : S.size ≤ 1100000) :
    Calls Tryz.prog 23 #[.string S, .int .i64 kk] w fun e w' => (∃ s, e = .returned (.string s) ∧ s = toB (restL k0 S.data.toList)) ∧ w' = w := by
  subst hkk
  obtain ⟨l, hlS⟩ : ∃ l, l = S.data.toList := ⟨_, rfl⟩
  have HZ : Hid (S.size = l.length) := by show _ = _; rw [hlS]; exact size_list S
  have hzi : (S.size : Int) ≤ 1100000 := by omega
  rw [← hlS]
  have HlS := hide hlS
  clear hlS
  go_enter Tryz.func23, Tryz.ntmps23
  go_wp2
  go_loopw [1, 5] (fun c i wr => wr = w ∧ ∃ (n c' : Nat), n ≤ l.length ∧ 1 ≤ c' ∧ c' ≤ 9 ∧ i = .int .i64 n ∧ c = .int .i64 c' ∧ Hid (restL k0 l = restL c' (l.drop n))) (fun _ i _ => l.length - (intOf i).toNat)
  case atStart => exact ⟨rfl, 0, k0, Nat.zero_le _, hk0, hk9, rfl, rfl, by simp [Hid]⟩
  case round =>
    obtain ⟨rfl, n, c', hn, hc1, hc9, rfl, rfl, HR⟩ := hrel
    by_cases hlt : (n : Int) < (S.size : Int)
    · have hnl : n < l.length := by have := HZ.out; omega
      have hns : n < S.size := by omega
      obtain ⟨x, hx⟩ : ∃ x, x = S[n] := ⟨_, rfl⟩
      have hxe : S[n] = l[n] := by have := HlS.out; subst this; simp; rfl
      have hd : l.drop n = x :: l.drop (n + 1) := by rw [List.drop_eq_getElem_cons hnl, hx, hxe]
      rw [hd] at HR
      clear hd hxe
      by_cases hxb : x = 32
      · have e32 : ((S[n].toNat : Int) == 32) = true := by rw [← hx, hxb]; rfl
        by_cases hc : c' = 1
        · have HR2 : Hid (restL k0 l = l.drop (n + 1)) := by show _ = _; rw [HR.out, restL, if_pos hxb, if_pos hc]
          have w1 : IntKind.i64.wrap ((c' : Int) - 1) = 0 := by rw [IntKind.wrap_i64]; omega
          have hs1 : (n : Int) + 1 ≤ (S.size : Int) := by omega
          have HE := hide (ext_tail S (n + 1))
          have hcc : (c' : Int) = 1 := by omega
          subst hc
          clear hx hxb hcc w1
          go_wp2
          go_ret
          exact ⟨⟨_, rfl, by rw [HR2.out, HlS.out]; exact HE.out⟩, rfl⟩
        · have HR2 : Hid (restL k0 l = restL (c' - 1) (l.drop (n + 1))) := by show _ = _; rw [HR.out, restL, if_pos hxb, if_neg hc]
          have w1 : IntKind.i64.wrap ((c' : Int) - 1) = (c' : Int) - 1 := by rw [IntKind.wrap_i64]; omega
          have w2 : ((c' : Int) - 1 == 0) = false := by simp; omega
          clear hx hxb
          go_wp2
          go_roundw
          case rel => exact ⟨trivial, n + 1, c' - 1, by omega, by omega, by omega, by go_num, by congr 1; omega, HR2⟩
          case measure => simp [intOf]; omega
      · have e32 : ((S[n].toNat : Int) == 32) = false := by
          rw [← hx]
          have : x.toNat ≠ 32 := fun e => hxb (UInt8.toNat_inj.1 e)
          simp; omega
        have HR2 : Hid (restL k0 l = restL c' (l.drop (n + 1))) := by show _ = _; rw [HR.out, restL, if_neg hxb]
        clear hx hxb
        go_wp2
        go_roundw
        case rel => exact ⟨trivial, n + 1, c', by omega, hc1, hc9, by go_num, rfl, HR2⟩
        case measure => simp [intOf]; omega
    · have hd : l.drop n = [] := List.drop_eq_nil_of_le (by have := HZ.out; omega)
      have HR2 : Hid (restL k0 l = []) := by show _ = _; rw [HR.out, hd]; cases c' <;> rfl
      clear hd
      go_wp2
      go_ret
      exact ⟨by rw [HR2.out]; rfl, rfl⟩

def hexI (c : UInt8) : Int := match hex8 c with
  | some v => v
  | none => -1
theorem l8Hex_any (w : World) (c : UInt8) :
    Calls Tryz.prog 42 #[.int .u8 (c.toNat : Int)] w fun e w' => e = .returned (.int .i64 (hexI c)) ∧ w' = w := by
  have hc := c.toNat_lt
  obtain ⟨n, hn⟩ : ∃ n, n = c.toNat := ⟨_, rfl⟩
  have HX : Hid (hexI c = if 48 ≤ n ∧ n ≤ 57 then (n : Int) - 48 else if 97 ≤ n ∧ n ≤ 102 then (n : Int) - 87 else -1) := by
    show _ = _
    unfold hexI hex8
    rw [hn]
    by_cases h1 : 48 ≤ c.toNat ∧ c.toNat ≤ 57
    · rw [if_pos h1, if_pos h1]; simp only; omega
    · rw [if_neg h1, if_neg h1]
      by_cases h2 : 97 ≤ c.toNat ∧ c.toNat ≤ 102
      · rw [if_pos h2, if_pos h2]; simp only; omega
      · rw [if_neg h2, if_neg h2]
  rw [← hn] at hc ⊢
  clear hn
  by_cases h48 : (48 : Int) ≤ (n : Int)
  · by_cases h57 : (n : Int) ≤ 57
    · have w1 : IntKind.u8.wrap ((n : Int) - 48) = (n : Int) - 48 := by rw [IntKind.wrap_u8]; omega
      have w2 : IntKind.i64.wrap ((n : Int) - 48) = (n : Int) - 48 := by rw [IntKind.wrap_i64]; omega
      go_enter Tryz.func42, Tryz.ntmps42
      go_wp2
      go_ret
      exact ⟨ret_int (by rw [HX.out, if_pos (by omega)]), rfl⟩
    · by_cases h97 : (97 : Int) ≤ (n : Int)
      · by_cases h102 : (n : Int) ≤ 102
        · have w1 : IntKind.u8.wrap ((n : Int) - 97) = (n : Int) - 97 := by rw [IntKind.wrap_u8]; omega
          have w2 : IntKind.i64.wrap ((n : Int) - 97) = (n : Int) - 97 := by rw [IntKind.wrap_i64]; omega
          have w3 : IntKind.i64.wrap ((n : Int) - 97 + 10) = (n : Int) - 97 + 10 := by rw [IntKind.wrap_i64]; omega
          go_enter Tryz.func42, Tryz.ntmps42
          go_wp2
          go_ret
          exact ⟨ret_int (by rw [HX.out, if_neg (by omega), if_pos (by omega)]; omega), rfl⟩
        · go_enter Tryz.func42, Tryz.ntmps42
          go_wp2
          go_ret
          exact ⟨ret_int (by rw [HX.out, if_neg (by omega), if_neg (by omega)]), rfl⟩
      · go_enter Tryz.func42, Tryz.ntmps42
        go_wp2
        go_ret
        exact ⟨ret_int (by rw [HX.out, if_neg (by omega), if_neg (by omega)]), rfl⟩
  · have h97 : ¬ (97 : Int) ≤ (n : Int) := by omega
    go_enter Tryz.func42, Tryz.ntmps42
    go_wp2
    go_ret
    exact ⟨ret_int (by rw [HX.out, if_neg (by omega), if_neg (by omega)]), rfl⟩

end Go.Proofs.YtinkfgkjdaaeaaaGreatDoor

namespace Go.Proofs.YtinkfgkjdaaeaaaGreatDoor
open Go.RowKit

set_option maxRecDepth 100000 in
set_option maxHeartbeats 6400000 in
theorem askOf_len (w0 w : World) (rest : List UInt8) (hl : rest.length ≤ 100000) {po : Addr} (h0 : Env po w0) (k0 : Kept w0 w) (h7 : (cuts 32 rest).length ≠ 7) :
    Calls Tryz.prog 99 #[.string (toB rest)] w fun e w' => AskOEnd w0 po rest w w' e := by
  obtain ⟨W0, hW0⟩ : ∃ W0, W0 = w.alloc (.cells #[.slice none 0 0, .int .i64 0, .slice none 0 0, .int .i64 0, .int .i64 0, .bool false, .bool false, .string ⟨#[]⟩] 59) := ⟨_, rfl⟩
  have kA : Hid (Kept w W0) := by rw [hW0]; exact (Kept.refl w).alloc _
  have HV0 : Hid (RowT W0 w.heap.size 59 8) := by rw [hW0]; exact RowT.made w _ _
  have H0 := hide h0
  have HKo := hide k0
  have HK0 := hide (k0.trans kA.out)
  have HE0 := hide (h0.kept HK0.out)
  clear h0 k0
  have hcn := cuts_count 32 rest
  have HCL : Hid (∀ x ∈ cuts 32 rest, x.length ≤ rest.length) := cuts_len 32 rest
  go_enter Tryz.func99, Tryz.ntmps99
  go_wp2_with fail
  rw [← hW0]
  clear hW0
  refine (split_any W0 (toB rest) (by rw [toB_size]; omega) 32 HE0.out).mono ?_
  rintro e w1 ⟨rfl, hw1⟩
  rw [show (toB rest).data.toList = rest from rfl] at hw1 ⊢
  have HST : Hid (∀ i, i < (cuts 32 rest).length → w1.cell? ⟨W0.heap.size, i, none⟩ = some (.string (toB ((cuts 32 rest).getD i [])))) := fun i hi => by rw [hw1]; exact row_strs W0 _ i hi
  have k1 : Kept W0 w1 := by rw [hw1]; exact (Kept.refl _).alloc _
  have HL1 : Hid (W0.heap.size < w1.heap.size) := by show _ < _; rw [hw1]; simp
  have HK1 := hide (kA.out.trans k1)
  have HV1 := hide (HV0.out.kept k1)
  have HE1 := hide (HE0.out.kept k1)
  have HKw := hide (HK0.out.trans k1)
  clear hw1 k1 HV0 HE0 HK0 kA
  generalize hsb : W0.heap.size = sb at *
  clear hsb
  obtain ⟨pw, hpw, hpn⟩ := H0.out.wor
  have HPW := hide hpw
  clear hpw
  have hgz : 7 < w.heap.size := by have h1 := HPW.out.1; have h2 := HKo.out.size; omega
  have hgn : (7 : Nat) ≠ w.heap.size := by omega
  have hgm : w.heap.size ≠ (7 : Nat) := by omega
  have e7 : (((cuts 32 rest).length : Int) != 7) = true := by simp; omega
  have HN : Hid (askOf rest = none) := by
    show askOf rest = none
    unfold askOf
    split
    · next h => rw [h] at h7; simp at h7
    · rfl
  clear h7
  have hwd := (HPW.out.kept HKw.out).2.1
  obtain ⟨⟨_, z0⟩, g0⟩ := HV1.out.row.at (i := 0) (by omega)
  obtain ⟨⟨_, z1⟩, g1⟩ := HV1.out.row.at (i := 1) (by omega)
  obtain ⟨⟨_, z2⟩, g2⟩ := HV1.out.row.at (i := 2) (by omega)
  obtain ⟨⟨_, z3⟩, g3⟩ := HV1.out.row.at (i := 3) (by omega)
  obtain ⟨⟨_, z4⟩, g4⟩ := HV1.out.row.at (i := 4) (by omega)
  obtain ⟨⟨_, z5⟩, g5⟩ := HV1.out.row.at (i := 5) (by omega)
  obtain ⟨⟨_, z6⟩, g6⟩ := HV1.out.row.at (i := 6) (by omega)
  obtain ⟨⟨_, z7⟩, g7⟩ := HV1.out.row.at (i := 7) (by omega)
  have hN8 : ((((((((w1.setCell ⟨w.heap.size, 0, none⟩ (.slice none 0 0)).setCell ⟨w.heap.size, 1, none⟩ (.int .i64 0)).setCell ⟨w.heap.size, 2, none⟩ (.slice none 0 0)).setCell ⟨w.heap.size, 3, none⟩ (.int .i64 0)).setCell ⟨w.heap.size, 4, none⟩ (.int .i64 0)).setCell ⟨w.heap.size, 5, none⟩ (.bool false)).setCell ⟨w.heap.size, 6, none⟩ (.bool false)).setCell ⟨w.heap.size, 7, none⟩ (.string ⟨#[]⟩)) = w1.setCells w.heap.size 0 (StepD.zero.cells none 0 none 0) := rfl
  have HRg : Hid (((w1.setCells w.heap.size 0 (StepD.zero.cells none 0 none 0)).drew).rangeAt w.heap.size 0 (StepD.zero.cells none 0 none 0)) := Kept.range (w := w1.setCells w.heap.size 0 (StepD.zero.cells none 0 none 0)) (Kept.refl _).drew (by rw [size_setCells]; exact HV1.out.lt) (World.rangeAt_setCells_same w1 w.heap.size 0 (StepD.zero.cells none 0 none 0) (HV1.out.row.there (o := 0) (m := 8) (Nat.le_refl _)))
  have HKe : Hid (Kept w ((w1.setCells w.heap.size 0 (StepD.zero.cells none 0 none 0)).drew)) := Kept.drew (Kept.setCells (Nat.le_refl _) (StepD.zero.cells none 0 none 0) 0 HK1.out)
  have HN8 := hide hN8
  clear hN8
  go_wp2
  go_region
  all_goals
    go_wp2
    rw [HN8.out]
    exact bodyPost_ret_j2 (StepD.zero.cells none 0 none 0) _ (.iface 211 (.pointer (some pw))) Tryz.results99 rfl HRg.out Tryz.underlying59 rfl Tryz.sizeStepJ rfl rfl ⟨HKe.out, .inr ⟨StepD.zero, none, 0, 211, .pointer (some pw), HN.out, rfl, rfl, .inl ⟨pw, rfl, hpn, HPW.out.2.2⟩⟩⟩

set_option maxRecDepth 100000 in
set_option maxHeartbeats 6400000 in
theorem askOf_w1 (w0 w : World) (rest : List UInt8) (hl : rest.length ≤ 100000) {po : Addr} (h0 : Env po w0) (k0 : Kept w0 w) (x0 x1 x2 x3 x4 x5 x6 : List UInt8) (hx : cuts 32 rest = [x0, x1, x2, x3, x4, x5, x6]) (hw1 : x1 ≠ wOn) :
    Calls Tryz.prog 99 #[.string (toB rest)] w fun e w' => AskOEnd w0 po rest w w' e := by
  obtain ⟨W0, hW0⟩ : ∃ W0, W0 = w.alloc (.cells #[.slice none 0 0, .int .i64 0, .slice none 0 0, .int .i64 0, .int .i64 0, .bool false, .bool false, .string ⟨#[]⟩] 59) := ⟨_, rfl⟩
  have kA : Hid (Kept w W0) := by rw [hW0]; exact (Kept.refl w).alloc _
  have HV0 : Hid (RowT W0 w.heap.size 59 8) := by rw [hW0]; exact RowT.made w _ _
  have H0 := hide h0
  have HKo := hide k0
  have HK0 := hide (k0.trans kA.out)
  have HE0 := hide (h0.kept HK0.out)
  clear h0 k0
  have hcn := cuts_count 32 rest
  have HCL : Hid (∀ x ∈ cuts 32 rest, x.length ≤ rest.length) := cuts_len 32 rest
  go_enter Tryz.func99, Tryz.ntmps99
  go_wp2_with fail
  rw [← hW0]
  clear hW0
  refine (split_any W0 (toB rest) (by rw [toB_size]; omega) 32 HE0.out).mono ?_
  rintro e w1 ⟨rfl, hw1⟩
  rw [show (toB rest).data.toList = rest from rfl] at hw1 ⊢
  have HST : Hid (∀ i, i < (cuts 32 rest).length → w1.cell? ⟨W0.heap.size, i, none⟩ = some (.string (toB ((cuts 32 rest).getD i [])))) := fun i hi => by rw [hw1]; exact row_strs W0 _ i hi
  have k1 : Kept W0 w1 := by rw [hw1]; exact (Kept.refl _).alloc _
  have HL1 : Hid (W0.heap.size < w1.heap.size) := by show _ < _; rw [hw1]; simp
  have HK1 := hide (kA.out.trans k1)
  have HV1 := hide (HV0.out.kept k1)
  have HE1 := hide (HE0.out.kept k1)
  have HKw := hide (HK0.out.trans k1)
  clear hw1 k1 HV0 HE0 HK0 kA
  generalize hsb : W0.heap.size = sb at *
  clear hsb
  obtain ⟨pw, hpw, hpn⟩ := H0.out.wor
  have HPW := hide hpw
  clear hpw
  have hgz : 7 < w.heap.size := by have h1 := HPW.out.1; have h2 := HKo.out.size; omega
  have hgn : (7 : Nat) ≠ w.heap.size := by omega
  have hgm : w.heap.size ≠ (7 : Nat) := by omega
  have h7 : (cuts 32 rest).length = 7 := by rw [hx]; rfl
  have hl0 := HCL.out x0 (by rw [hx]; simp)
  have hl2 := HCL.out x2 (by rw [hx]; simp)
  have hl4 := HCL.out x4 (by rw [hx]; simp)
  have hl6 := HCL.out x6 (by rw [hx]; simp)
  rw [h7]
  rw [hx] at HST
  have c0 := HST.out 0 (by simp)
  have c1 := HST.out 1 (by simp)
  have c2 := HST.out 2 (by simp)
  have c3 := HST.out 3 (by simp)
  have c4 := HST.out 4 (by simp)
  have c5 := HST.out 5 (by simp)
  have c6 := HST.out 6 (by simp)
  simp only [List.getD_cons_zero, List.getD_cons_succ] at c0 c1 c2 c3 c4 c5 c6
  clear HST HCL h7 hcn
  have e1 : ((toB x1).toList == [111, 110]) = false := by rw [toB_beq]; exact decide_eq_false hw1
  have HN : Hid (askOf rest = none) := by
    show askOf rest = none
    unfold askOf
    rw [hx]
    simp only
    rw [if_neg (show ¬ (x1 = wOn ∧ x3 = wElse ∧ x5 = wFall) from fun h => hw1 h.1)]
  clear hx hw1
  have hwd := (HPW.out.kept HKw.out).2.1
  obtain ⟨⟨_, z0⟩, g0⟩ := HV1.out.row.at (i := 0) (by omega)
  obtain ⟨⟨_, z1⟩, g1⟩ := HV1.out.row.at (i := 1) (by omega)
  obtain ⟨⟨_, z2⟩, g2⟩ := HV1.out.row.at (i := 2) (by omega)
  obtain ⟨⟨_, z3⟩, g3⟩ := HV1.out.row.at (i := 3) (by omega)
  obtain ⟨⟨_, z4⟩, g4⟩ := HV1.out.row.at (i := 4) (by omega)
  obtain ⟨⟨_, z5⟩, g5⟩ := HV1.out.row.at (i := 5) (by omega)
  obtain ⟨⟨_, z6⟩, g6⟩ := HV1.out.row.at (i := 6) (by omega)
  obtain ⟨⟨_, z7⟩, g7⟩ := HV1.out.row.at (i := 7) (by omega)
  have hN8 : ((((((((w1.setCell ⟨w.heap.size, 0, none⟩ (.slice none 0 0)).setCell ⟨w.heap.size, 1, none⟩ (.int .i64 0)).setCell ⟨w.heap.size, 2, none⟩ (.slice none 0 0)).setCell ⟨w.heap.size, 3, none⟩ (.int .i64 0)).setCell ⟨w.heap.size, 4, none⟩ (.int .i64 0)).setCell ⟨w.heap.size, 5, none⟩ (.bool false)).setCell ⟨w.heap.size, 6, none⟩ (.bool false)).setCell ⟨w.heap.size, 7, none⟩ (.string ⟨#[]⟩)) = w1.setCells w.heap.size 0 (StepD.zero.cells none 0 none 0) := rfl
  have HRg : Hid (((w1.setCells w.heap.size 0 (StepD.zero.cells none 0 none 0)).drew).rangeAt w.heap.size 0 (StepD.zero.cells none 0 none 0)) := Kept.range (w := w1.setCells w.heap.size 0 (StepD.zero.cells none 0 none 0)) (Kept.refl _).drew (by rw [size_setCells]; exact HV1.out.lt) (World.rangeAt_setCells_same w1 w.heap.size 0 (StepD.zero.cells none 0 none 0) (HV1.out.row.there (o := 0) (m := 8) (Nat.le_refl _)))
  have HKe : Hid (Kept w ((w1.setCells w.heap.size 0 (StepD.zero.cells none 0 none 0)).drew)) := Kept.drew (Kept.setCells (Nat.le_refl _) (StepD.zero.cells none 0 none 0) 0 HK1.out)
  have HN8 := hide hN8
  clear hN8
  go_wp2
  go_region
  all_goals
    go_wp2
    rw [HN8.out]
    exact bodyPost_ret_j2 (StepD.zero.cells none 0 none 0) _ (.iface 211 (.pointer (some pw))) Tryz.results99 rfl HRg.out Tryz.underlying59 rfl Tryz.sizeStepJ rfl rfl ⟨HKe.out, .inr ⟨StepD.zero, none, 0, 211, .pointer (some pw), HN.out, rfl, rfl, .inl ⟨pw, rfl, hpn, HPW.out.2.2⟩⟩⟩

set_option maxRecDepth 100000 in
set_option maxHeartbeats 6400000 in
theorem askOf_w3 (w0 w : World) (rest : List UInt8) (hl : rest.length ≤ 100000) {po : Addr} (h0 : Env po w0) (k0 : Kept w0 w) (x0 x1 x2 x3 x4 x5 x6 : List UInt8) (hx : cuts 32 rest = [x0, x1, x2, x3, x4, x5, x6]) (hw1 : x1 = wOn) (hw3 : x3 ≠ wElse) :
    Calls Tryz.prog 99 #[.string (toB rest)] w fun e w' => AskOEnd w0 po rest w w' e := by
  obtain ⟨W0, hW0⟩ : ∃ W0, W0 = w.alloc (.cells #[.slice none 0 0, .int .i64 0, .slice none 0 0, .int .i64 0, .int .i64 0, .bool false, .bool false, .string ⟨#[]⟩] 59) := ⟨_, rfl⟩
  have kA : Hid (Kept w W0) := by rw [hW0]; exact (Kept.refl w).alloc _
  have HV0 : Hid (RowT W0 w.heap.size 59 8) := by rw [hW0]; exact RowT.made w _ _
  have H0 := hide h0
  have HKo := hide k0
  have HK0 := hide (k0.trans kA.out)
  have HE0 := hide (h0.kept HK0.out)
  clear h0 k0
  have hcn := cuts_count 32 rest
  have HCL : Hid (∀ x ∈ cuts 32 rest, x.length ≤ rest.length) := cuts_len 32 rest
  go_enter Tryz.func99, Tryz.ntmps99
  go_wp2_with fail
  rw [← hW0]
  clear hW0
  refine (split_any W0 (toB rest) (by rw [toB_size]; omega) 32 HE0.out).mono ?_
  rintro e w1 ⟨rfl, hw1⟩
  rw [show (toB rest).data.toList = rest from rfl] at hw1 ⊢
  have HST : Hid (∀ i, i < (cuts 32 rest).length → w1.cell? ⟨W0.heap.size, i, none⟩ = some (.string (toB ((cuts 32 rest).getD i [])))) := fun i hi => by rw [hw1]; exact row_strs W0 _ i hi
  have k1 : Kept W0 w1 := by rw [hw1]; exact (Kept.refl _).alloc _
  have HL1 : Hid (W0.heap.size < w1.heap.size) := by show _ < _; rw [hw1]; simp
  have HK1 := hide (kA.out.trans k1)
  have HV1 := hide (HV0.out.kept k1)
  have HE1 := hide (HE0.out.kept k1)
  have HKw := hide (HK0.out.trans k1)
  clear hw1 k1 HV0 HE0 HK0 kA
  generalize hsb : W0.heap.size = sb at *
  clear hsb
  obtain ⟨pw, hpw, hpn⟩ := H0.out.wor
  have HPW := hide hpw
  clear hpw
  have hgz : 7 < w.heap.size := by have h1 := HPW.out.1; have h2 := HKo.out.size; omega
  have hgn : (7 : Nat) ≠ w.heap.size := by omega
  have hgm : w.heap.size ≠ (7 : Nat) := by omega
  have h7 : (cuts 32 rest).length = 7 := by rw [hx]; rfl
  have hl0 := HCL.out x0 (by rw [hx]; simp)
  have hl2 := HCL.out x2 (by rw [hx]; simp)
  have hl4 := HCL.out x4 (by rw [hx]; simp)
  have hl6 := HCL.out x6 (by rw [hx]; simp)
  rw [h7]
  rw [hx] at HST
  have c0 := HST.out 0 (by simp)
  have c1 := HST.out 1 (by simp)
  have c2 := HST.out 2 (by simp)
  have c3 := HST.out 3 (by simp)
  have c4 := HST.out 4 (by simp)
  have c5 := HST.out 5 (by simp)
  have c6 := HST.out 6 (by simp)
  simp only [List.getD_cons_zero, List.getD_cons_succ] at c0 c1 c2 c3 c4 c5 c6
  clear HST HCL h7 hcn
  have e1 : ((toB x1).toList == [111, 110]) = true := by rw [toB_beq, hw1]; rfl
  have e3 : ((toB x3).toList == [101, 108, 115, 101]) = false := by rw [toB_beq]; exact decide_eq_false hw3
  have HN : Hid (askOf rest = none) := by
    show askOf rest = none
    unfold askOf
    rw [hx]
    simp only
    rw [if_neg (show ¬ (x1 = wOn ∧ x3 = wElse ∧ x5 = wFall) from fun h => hw3 h.2.1)]
  clear hx hw1 hw3
  have hwd := (HPW.out.kept HKw.out).2.1
  obtain ⟨⟨_, z0⟩, g0⟩ := HV1.out.row.at (i := 0) (by omega)
  obtain ⟨⟨_, z1⟩, g1⟩ := HV1.out.row.at (i := 1) (by omega)
  obtain ⟨⟨_, z2⟩, g2⟩ := HV1.out.row.at (i := 2) (by omega)
  obtain ⟨⟨_, z3⟩, g3⟩ := HV1.out.row.at (i := 3) (by omega)
  obtain ⟨⟨_, z4⟩, g4⟩ := HV1.out.row.at (i := 4) (by omega)
  obtain ⟨⟨_, z5⟩, g5⟩ := HV1.out.row.at (i := 5) (by omega)
  obtain ⟨⟨_, z6⟩, g6⟩ := HV1.out.row.at (i := 6) (by omega)
  obtain ⟨⟨_, z7⟩, g7⟩ := HV1.out.row.at (i := 7) (by omega)
  have hN8 : ((((((((w1.setCell ⟨w.heap.size, 0, none⟩ (.slice none 0 0)).setCell ⟨w.heap.size, 1, none⟩ (.int .i64 0)).setCell ⟨w.heap.size, 2, none⟩ (.slice none 0 0)).setCell ⟨w.heap.size, 3, none⟩ (.int .i64 0)).setCell ⟨w.heap.size, 4, none⟩ (.int .i64 0)).setCell ⟨w.heap.size, 5, none⟩ (.bool false)).setCell ⟨w.heap.size, 6, none⟩ (.bool false)).setCell ⟨w.heap.size, 7, none⟩ (.string ⟨#[]⟩)) = w1.setCells w.heap.size 0 (StepD.zero.cells none 0 none 0) := rfl
  have HRg : Hid (((w1.setCells w.heap.size 0 (StepD.zero.cells none 0 none 0)).drew).rangeAt w.heap.size 0 (StepD.zero.cells none 0 none 0)) := Kept.range (w := w1.setCells w.heap.size 0 (StepD.zero.cells none 0 none 0)) (Kept.refl _).drew (by rw [size_setCells]; exact HV1.out.lt) (World.rangeAt_setCells_same w1 w.heap.size 0 (StepD.zero.cells none 0 none 0) (HV1.out.row.there (o := 0) (m := 8) (Nat.le_refl _)))
  have HKe : Hid (Kept w ((w1.setCells w.heap.size 0 (StepD.zero.cells none 0 none 0)).drew)) := Kept.drew (Kept.setCells (Nat.le_refl _) (StepD.zero.cells none 0 none 0) 0 HK1.out)
  have HN8 := hide hN8
  clear hN8
  go_wp2
  go_region
  all_goals
    go_wp2
    rw [HN8.out]
    exact bodyPost_ret_j2 (StepD.zero.cells none 0 none 0) _ (.iface 211 (.pointer (some pw))) Tryz.results99 rfl HRg.out Tryz.underlying59 rfl Tryz.sizeStepJ rfl rfl ⟨HKe.out, .inr ⟨StepD.zero, none, 0, 211, .pointer (some pw), HN.out, rfl, rfl, .inl ⟨pw, rfl, hpn, HPW.out.2.2⟩⟩⟩

set_option maxRecDepth 100000 in
set_option maxHeartbeats 6400000 in
theorem askOf_w5 (w0 w : World) (rest : List UInt8) (hl : rest.length ≤ 100000) {po : Addr} (h0 : Env po w0) (k0 : Kept w0 w) (x0 x1 x2 x3 x4 x5 x6 : List UInt8) (hx : cuts 32 rest = [x0, x1, x2, x3, x4, x5, x6]) (hw1 : x1 = wOn) (hw3 : x3 = wElse) (hw5 : x5 ≠ wFall) :
    Calls Tryz.prog 99 #[.string (toB rest)] w fun e w' => AskOEnd w0 po rest w w' e := by
  obtain ⟨W0, hW0⟩ : ∃ W0, W0 = w.alloc (.cells #[.slice none 0 0, .int .i64 0, .slice none 0 0, .int .i64 0, .int .i64 0, .bool false, .bool false, .string ⟨#[]⟩] 59) := ⟨_, rfl⟩
  have kA : Hid (Kept w W0) := by rw [hW0]; exact (Kept.refl w).alloc _
  have HV0 : Hid (RowT W0 w.heap.size 59 8) := by rw [hW0]; exact RowT.made w _ _
  have H0 := hide h0
  have HKo := hide k0
  have HK0 := hide (k0.trans kA.out)
  have HE0 := hide (h0.kept HK0.out)
  clear h0 k0
  have hcn := cuts_count 32 rest
  have HCL : Hid (∀ x ∈ cuts 32 rest, x.length ≤ rest.length) := cuts_len 32 rest
  go_enter Tryz.func99, Tryz.ntmps99
  go_wp2_with fail
  rw [← hW0]
  clear hW0
  refine (split_any W0 (toB rest) (by rw [toB_size]; omega) 32 HE0.out).mono ?_
  rintro e w1 ⟨rfl, hw1⟩
  rw [show (toB rest).data.toList = rest from rfl] at hw1 ⊢
  have HST : Hid (∀ i, i < (cuts 32 rest).length → w1.cell? ⟨W0.heap.size, i, none⟩ = some (.string (toB ((cuts 32 rest).getD i [])))) := fun i hi => by rw [hw1]; exact row_strs W0 _ i hi
  have k1 : Kept W0 w1 := by rw [hw1]; exact (Kept.refl _).alloc _
  have HL1 : Hid (W0.heap.size < w1.heap.size) := by show _ < _; rw [hw1]; simp
  have HK1 := hide (kA.out.trans k1)
  have HV1 := hide (HV0.out.kept k1)
  have HE1 := hide (HE0.out.kept k1)
  have HKw := hide (HK0.out.trans k1)
  clear hw1 k1 HV0 HE0 HK0 kA
  generalize hsb : W0.heap.size = sb at *
  clear hsb
  obtain ⟨pw, hpw, hpn⟩ := H0.out.wor
  have HPW := hide hpw
  clear hpw
  have hgz : 7 < w.heap.size := by have h1 := HPW.out.1; have h2 := HKo.out.size; omega
  have hgn : (7 : Nat) ≠ w.heap.size := by omega
  have hgm : w.heap.size ≠ (7 : Nat) := by omega
  have h7 : (cuts 32 rest).length = 7 := by rw [hx]; rfl
  have hl0 := HCL.out x0 (by rw [hx]; simp)
  have hl2 := HCL.out x2 (by rw [hx]; simp)
  have hl4 := HCL.out x4 (by rw [hx]; simp)
  have hl6 := HCL.out x6 (by rw [hx]; simp)
  rw [h7]
  rw [hx] at HST
  have c0 := HST.out 0 (by simp)
  have c1 := HST.out 1 (by simp)
  have c2 := HST.out 2 (by simp)
  have c3 := HST.out 3 (by simp)
  have c4 := HST.out 4 (by simp)
  have c5 := HST.out 5 (by simp)
  have c6 := HST.out 6 (by simp)
  simp only [List.getD_cons_zero, List.getD_cons_succ] at c0 c1 c2 c3 c4 c5 c6
  clear HST HCL h7 hcn
  have e1 : ((toB x1).toList == [111, 110]) = true := by rw [toB_beq, hw1]; rfl
  have e3 : ((toB x3).toList == [101, 108, 115, 101]) = true := by rw [toB_beq, hw3]; rfl
  have e5 : ((toB x5).toList == [102, 97, 108, 108]) = false := by rw [toB_beq]; exact decide_eq_false hw5
  have HN : Hid (askOf rest = none) := by
    show askOf rest = none
    unfold askOf
    rw [hx]
    simp only
    rw [if_neg (show ¬ (x1 = wOn ∧ x3 = wElse ∧ x5 = wFall) from fun h => hw5 h.2.2)]
  clear hx hw1 hw3 hw5
  have hwd := (HPW.out.kept HKw.out).2.1
  obtain ⟨⟨_, z0⟩, g0⟩ := HV1.out.row.at (i := 0) (by omega)
  obtain ⟨⟨_, z1⟩, g1⟩ := HV1.out.row.at (i := 1) (by omega)
  obtain ⟨⟨_, z2⟩, g2⟩ := HV1.out.row.at (i := 2) (by omega)
  obtain ⟨⟨_, z3⟩, g3⟩ := HV1.out.row.at (i := 3) (by omega)
  obtain ⟨⟨_, z4⟩, g4⟩ := HV1.out.row.at (i := 4) (by omega)
  obtain ⟨⟨_, z5⟩, g5⟩ := HV1.out.row.at (i := 5) (by omega)
  obtain ⟨⟨_, z6⟩, g6⟩ := HV1.out.row.at (i := 6) (by omega)
  obtain ⟨⟨_, z7⟩, g7⟩ := HV1.out.row.at (i := 7) (by omega)
  have hN8 : ((((((((w1.setCell ⟨w.heap.size, 0, none⟩ (.slice none 0 0)).setCell ⟨w.heap.size, 1, none⟩ (.int .i64 0)).setCell ⟨w.heap.size, 2, none⟩ (.slice none 0 0)).setCell ⟨w.heap.size, 3, none⟩ (.int .i64 0)).setCell ⟨w.heap.size, 4, none⟩ (.int .i64 0)).setCell ⟨w.heap.size, 5, none⟩ (.bool false)).setCell ⟨w.heap.size, 6, none⟩ (.bool false)).setCell ⟨w.heap.size, 7, none⟩ (.string ⟨#[]⟩)) = w1.setCells w.heap.size 0 (StepD.zero.cells none 0 none 0) := rfl
  have HRg : Hid (((w1.setCells w.heap.size 0 (StepD.zero.cells none 0 none 0)).drew).rangeAt w.heap.size 0 (StepD.zero.cells none 0 none 0)) := Kept.range (w := w1.setCells w.heap.size 0 (StepD.zero.cells none 0 none 0)) (Kept.refl _).drew (by rw [size_setCells]; exact HV1.out.lt) (World.rangeAt_setCells_same w1 w.heap.size 0 (StepD.zero.cells none 0 none 0) (HV1.out.row.there (o := 0) (m := 8) (Nat.le_refl _)))
  have HKe : Hid (Kept w ((w1.setCells w.heap.size 0 (StepD.zero.cells none 0 none 0)).drew)) := Kept.drew (Kept.setCells (Nat.le_refl _) (StepD.zero.cells none 0 none 0) 0 HK1.out)
  have HN8 := hide hN8
  clear hN8
  go_wp2
  go_region
  all_goals
    go_wp2
    rw [HN8.out]
    exact bodyPost_ret_j2 (StepD.zero.cells none 0 none 0) _ (.iface 211 (.pointer (some pw))) Tryz.results99 rfl HRg.out Tryz.underlying59 rfl Tryz.sizeStepJ rfl rfl ⟨HKe.out, .inr ⟨StepD.zero, none, 0, 211, .pointer (some pw), HN.out, rfl, rfl, .inl ⟨pw, rfl, hpn, HPW.out.2.2⟩⟩⟩

end Go.Proofs.YtinkfgkjdaaeaaaGreatDoor
