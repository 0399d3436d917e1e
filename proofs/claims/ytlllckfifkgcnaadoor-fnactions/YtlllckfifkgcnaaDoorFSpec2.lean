import Derived.Test.YtlllckfifkgcnaaDoorFSpec

/-
  THE WALK over spec.Finish.
-/
namespace Go.Proofs.YtlllckfifkgcnaaDoor
open Go.RowKit

set_option maxRecDepth 100000 in
set_option maxHeartbeats 1600000 in
theorem specFinish_any (w : World) (give : ByteArray) (a : Option Addr) (cap : Nat) (l : List ByteArray) (hg : give.size ≤ maxLen) (hl : l.length ≤ maxLen) (hs : ∀ s ∈ l, s.size ≤ maxLen) (hS : Strs w a l) :
    Calls Tryd.prog 10 #[.string give, .slice a l.length cap] w fun e w' => e = .returned (.string (finB give l)) ∧ Kept w w' := by
  unfold maxLen at hg hl hs
  by_cases h1 : (give.size : Int) ≤ 30
  · by_cases h2 : (l.length : Int) ≤ 100
    · go_enter Tryd.func10, Tryd.ntmps10
      go_wp2
      go_loop [5, 6] (fun x i => ∃ (k : Nat) (b : ByteArray), k ≤ l.length ∧ i = .int .i64 k ∧ x = .string b ∧ b.data.toList = give.data.toList ++ 40 :: Lib.join ((texts l).take k) [44] ∧ (∀ j, j < k → (l.getD j ByteArray.empty).size ≤ 200) ∧ b.size ≤ 31 + k * 201) (fun _ i => l.length - (intOf i).toNat)
      case atStart => exact ⟨0, _, Nat.zero_le _, rfl, rfl, by rw [ba_append]; simp [Lib.join_nil], fun j hj => absurd hj (Nat.not_lt_zero _), by have e : (⟨#[40]⟩ : ByteArray).size = 1 := rfl; rw [ByteArray.size_append, e]; omega⟩
      case round =>
        obtain ⟨k, b, hk, rfl, rfl, hb, hj, hbs⟩ := hrel
        have HB := hide hb
        have HJ := hide hj
        clear hb hj
        by_cases hlt : k < l.length
        · obtain ⟨g, o, rfl, hgl, hc⟩ := hS k hlt
          have hsz := hs (l.getD k ByteArray.empty) (by simp [List.getD, hlt])
          generalize hy : l.getD k ByteArray.empty = y at *
          have HY := hide hy
          clear hy
          by_cases h3 : (y.size : Int) ≤ 200
          · by_cases h4 : (0 : Int) < k
            · go_wp2
              go_round
              case rel =>
                have ht := join_take_succ (texts l) k (by rw [texts_length]; exact hlt)
                rw [texts_getD l k hlt, HY.out, if_pos (by omega)] at ht
                refine ⟨k + 1, _, by omega, by go_num, rfl, ?_, fun j hj => ?_, ?_⟩
                · rw [ht]; simp only [ba_append, HB.out]; simp
                · by_cases e : j = k
                  · subst e; rw [HY.out]; omega
                  · exact HJ.out j (by omega)
                · simp only [ByteArray.size_append]; have : (⟨#[44]⟩ : ByteArray).size = 1 := rfl; omega
              case measure => simp [intOf]; omega
            · go_wp2
              go_round
              case rel =>
                have ht := join_take_succ (texts l) k (by rw [texts_length]; exact hlt)
                rw [texts_getD l k hlt, HY.out, if_neg (by omega)] at ht
                refine ⟨k + 1, _, by omega, by go_num, rfl, ?_, fun j hj => ?_, ?_⟩
                · rw [ht]; simp only [ba_append, HB.out]; simp
                · by_cases e : j = k
                  · subst e; rw [HY.out]; omega
                  · exact HJ.out j (by omega)
                · simp only [ByteArray.size_append]; have : (⟨#[44]⟩ : ByteArray).size = 1 := rfl; omega
              case measure => simp [intOf]; omega
          · go_wp2
            go_ret
            exact ⟨ret_str (finB_none (.inr (.inr ⟨k, hlt, by rw [HY.out]; omega⟩))).symm, Kept.refl _⟩
        · have hkl : k = l.length := by omega
          have HW : Hid ((b ++ ⟨#[41]⟩).data.toList = wholeOf give.data.toList (texts l)) := by
            show _ = _
            rw [ba_append, HB.out, hkl, ← texts_length, List.take_length]
            simp [wholeOf]
          have HF : Hid (FinFits give l) := ⟨by omega, by omega, fun i hi => HJ.out i (by omega)⟩
          have hw1 : (b ++ ⟨#[41]⟩ : ByteArray).size = b.size + 1 := by rw [ByteArray.size_append]; rfl
          by_cases h5 : (b.size : Int) + 1 ≤ 200
          · go_wp2
            go_ret
            exact ⟨ret_str (finB_short HF.out HW.out (by omega)).symm, Kept.refl _⟩
          · go_wp2
            have hbound : (b ++ ⟨#[41]⟩ : ByteArray).size ≤ 100000 := by omega
            have hlong : 200 < (b ++ ⟨#[41]⟩ : ByteArray).size := by omega
            clear hw1 h5 hbs HB
            generalize (b ++ ⟨#[41]⟩ : ByteArray) = c at *
            go_loop [7, 8] (fun v i => ∃ k : Nat, k ≤ c.size ∧ i = .int .i64 k ∧ v = .int .u64 ((c.data.toList.take k).foldl sumStep 14695981039346656037)) (fun _ i => c.size - (intOf i).toNat)
            case atStart => exact ⟨0, Nat.zero_le _, rfl, rfl⟩
            case round =>
              obtain ⟨m, hm, rfl, rfl⟩ := hrel
              by_cases hml : m < c.size
              · have hlen : m < c.data.toList.length := by simpa using hml
                have HS : Hid ((c.data.toList.take (m + 1)).foldl sumStep 14695981039346656037 = sumStep ((c.data.toList.take m).foldl sumStep 14695981039346656037) c[m]) := by
                  have e := sumTake_succ c.data.toList m hlen
                  rw [List.getD_eq_getElem?_getD, List.getElem?_eq_getElem hlen, Option.getD_some] at e
                  exact e
                generalize (c.data.toList.take m).foldl sumStep 14695981039346656037 = v at *
                go_wp2
                go_round
                case rel => exact ⟨m + 1, by omega, by go_num, by rw [HS.out]; rw [wrap_byte]; rfl⟩
                case measure => simp [intOf]; omega
              · have hmc : m = c.data.toList.length := by simp; omega
                subst hmc
                rw [List.take_length]
                have hsb := sumOf_bounds c.data.toList
                have HFin : Hid (finB give l = ⟨(35 :: hexL 16 (sumOf c.data.toList).toNat).toArray⟩) := finB_long HF.out HW.out hlong
                unfold sumOf at hsb HFin
                generalize List.foldl sumStep 14695981039346656037 c.data.toList = V at *
                obtain ⟨v, rfl⟩ : ∃ v : Nat, V = v := ⟨V.toNat, by omega⟩
                rw [Int.toNat_natCast] at HFin
                go_wp2
                go_loop [7, 9, 10] (fun x d i => ∃ (k : Nat) (b : ByteArray), k ≤ 16 ∧ i = .int .i64 k ∧ x = .int .u64 ((v / 16 ^ k : Nat) : Int) ∧ d = .string b ∧ b.data.toList = hexL k v) (fun _ _ i => 16 - (intOf i).toNat)
                case atStart => exact ⟨0, ByteArray.empty, Nat.zero_le _, rfl, by simp, rfl, rfl⟩
                case round =>
                  obtain ⟨n, b, hn, rfl, rfl, rfl, hb⟩ := hrel
                  have HB := hide hb
                  clear hb
                  have hbs : b.size ≤ 16 := by have := congrArg List.length HB.out; rw [hexL_length] at this; simp at this; omega
                  by_cases hn16 : (n : Int) < 16
                  · have hmod : (v / 16 ^ n) % 16 < 16 := Nat.mod_lt _ (by omega)
                    have hdv : v / 16 ^ n / 16 = v / 16 ^ (n + 1) := by rw [Nat.div_div_eq_div_mul, Nat.pow_succ]
                    have HD := hide hdv
                    clear hdv
                    have hvl : v / 16 ^ n < 18446744073709551616 := Nat.lt_of_le_of_lt (Nat.div_le_self _ _) (by omega)
                    generalize hu : v / 16 ^ n = u at *
                    have HU := hide hu
                    clear hu
                    go_wp2
                    go_round
                    case rel =>
                      refine ⟨n + 1, _, by omega, by go_num, by rw [← HD.out]; simp, rfl, ?_⟩
                      rw [ba_append, tab_cut _ hmod, HB.out, hexL, HU.out]
                      rfl
                    case measure => simp [intOf]; omega
                  · go_wp2
                    go_ret
                    obtain rfl : n = 16 := by omega
                    exact ⟨ret_str (by rw [HFin.out]; apply ba_ext; rw [ba_append, HB.out]; rfl), Kept.refl _⟩
    · go_enter Tryd.func10, Tryd.ntmps10
      go_wp2
      go_ret
      exact ⟨by rw [finB_none (by omega)]; rfl, Kept.refl _⟩
  · go_enter Tryd.func10, Tryd.ntmps10
    go_wp2
    go_ret
    exact ⟨by rw [finB_none (by omega)]; rfl, Kept.refl _⟩

end Go.Proofs.YtlllckfifkgcnaaDoor
