import Derived.Test.YtinkfgkjdaaeaaaGreatDoorKJEnv

namespace Go.Proofs.YtinkfgkjdaaeaaaGreatDoor
open Go.RowKit

def hexF (a : Nat) : List UInt8 → Option Nat
  | [] => some a
  | c :: r => match hexD c with
    | some d => hexF (a * 16 + d) r
    | none => none
theorem hexF_U {l : List UInt8} (h0 : l ≠ []) (h : l.length ≤ 2) : hexF 0 l = hexU l := by
  match l, h0, h with
  | [a], _, _ =>
    simp only [hexF, hexU]
    cases hexD a <;> simp
  | [a, b], _, _ =>
    simp only [hexF, hexU]
    cases hexD a
    · rfl
    · cases hexD b <;> simp
theorem low_byte (c : UInt8) (h : ¬ (48 ≤ c.toNat ∧ c.toNat ≤ 57)) : ∃ q : Nat, bits .or .u8 (c.toNat : Int) 32 = (q : Int) ∧ q < 256 ∧ (97 ≤ q → q ≤ 102 → hexD c = some (q - 87)) ∧ (¬ (97 ≤ q ∧ q ≤ 102) → hexD c = none) := by
  have : ∀ n : Fin 256, (bits .or .u8 (n.val : Int) 32).toNat < 256 ∧ 0 ≤ bits .or .u8 (n.val : Int) 32 ∧ (¬ (48 ≤ n.val ∧ n.val ≤ 57) → (97 ≤ (bits .or .u8 (n.val : Int) 32).toNat → (bits .or .u8 (n.val : Int) 32).toNat ≤ 102 → hexD (UInt8.ofNat n.val) = some ((bits .or .u8 (n.val : Int) 32).toNat - 87)) ∧ (¬ (97 ≤ (bits .or .u8 (n.val : Int) 32).toNat ∧ (bits .or .u8 (n.val : Int) 32).toNat ≤ 102) → hexD (UInt8.ofNat n.val) = none)) := by decide +kernel
  obtain ⟨h1, h2, h3⟩ := this ⟨c.toNat, c.toNat_lt⟩
  simp only [UInt8.ofNat_toNat] at h3
  obtain ⟨h4, h5⟩ := h3 h
  exact ⟨_, (Int.toNat_of_nonneg h2).symm, h1, h4, h5⟩
theorem digit_byte (c : UInt8) (h : 48 ≤ c.toNat ∧ c.toNat ≤ 57) : hexD c = some (c.toNat - 48) := if_pos h

def UintEnd (l : List UInt8) (e : Ending) : Prop :=
  (∃ v, hexU l = some v ∧ v < 256 ∧ e = .returned (.tuple #[.int .u64 (v : Int), .nilIface])) ∨ (hexU l = none ∧ e = .returned (.tuple #[.int .u64 0, .iface 185 (.int .i64 2)]))

set_option maxRecDepth 100000 in
set_option maxHeartbeats 3200000 in
theorem parseUintI_any (w : World) (s : ByteArray) (hs : s.size ≤ 2) :
    Calls Tryz.prog 113 #[.string s, .int .i64 16, .int .i64 8] w fun e w' => UintEnd s.data.toList e ∧ Kept w w' := by
  have hsl : s.data.toList.length = s.size := by simp
  by_cases h0 : s.size = 0
  · have e0 : (s.toList == []) = true := by rw [(empty_iff s).2 h0]; rfl
    have hn : Hid (hexU s.data.toList = none) := by
      show hexU _ = none
      rw [List.eq_nil_of_length_eq_zero (hsl.trans h0)]; rfl
    clear h0
    go_enter Tryz.func113, Tryz.ntmps113
    go_wp2
    go_ret2
    exact ⟨.inr ⟨hn.out, rfl⟩, Kept.refl _⟩
  · have e0 : (s.toList == []) = false := by
      cases hx : (s.toList == [])
      · rfl
      · exact absurd ((empty_iff s).1 (by simpa using hx)) h0
    have HU : Hid (hexF 0 s.data.toList = hexU s.data.toList) := hexF_U (fun e => h0 (by rw [← hsl, e]; rfl)) (by omega)
    clear h0
    obtain ⟨cap, C, fr, hconv, hcs⟩ := convBytes w s
    have hk0 : Kept w (w.drew.alloc (.cells C 5 fr)) := (Kept.refl w).drew.alloc _
    have HCS : Hid (∀ j (h : j < s.size), (w.drew.alloc (.cells C 5 fr)).cell? ⟨w.heap.size, j, none⟩ = some (.int .u8 (s[j].toNat : Int))) := fun j h => hcs j h
    obtain ⟨W, hW⟩ : ∃ W, W = w.drew.alloc (.cells C 5 fr) := ⟨_, rfl⟩
    rw [← hW] at hconv hk0 HCS
    clear hcs hW
    go_enter Tryz.func113, Tryz.ntmps113
    go_wp2
    clear hconv
    go_loopw [12, 13, 101] (fun u n i wr => wr = W ∧ u = .bool false ∧ ∃ k m : Nat, k ≤ s.size ∧ i = .int .i64 k ∧ n = .int .u64 (m : Int) ∧ m < 16 ^ k ∧ Hid (hexF m (s.data.toList.drop k) = hexU s.data.toList)) (fun _ _ i _ => s.size - (intOf i).toNat)
    case atStart => exact ⟨rfl, rfl, 0, 0, Nat.zero_le _, rfl, rfl, by decide, by rw [List.drop_zero]; exact HU⟩
    case round =>
      obtain ⟨rfl, rfl, k, m, hk, rfl, rfl, hm, HF⟩ := hrel
      have hm2 : m < 256 := Nat.lt_of_lt_of_le hm (Nat.pow_le_pow_right (n := 16) (by omega) (show k ≤ 2 by omega))
      by_cases hlt : (k : Int) < (s.size : Int)
      · have hkl : k < s.size := by omega
        have hk1 : k ≤ 1 := by omega
        have hm16 : m < 16 := Nat.lt_of_lt_of_le hm (Nat.pow_le_pow_right (n := 16) (by omega) hk1)
        have hkt : k < s.data.toList.length := by omega
        have c0 := HCS.out k hkl
        have hxe : s.data.toList[k] = s[k] := by simp; rfl
        have hd : s.data.toList.drop k = s[k] :: s.data.toList.drop (k + 1) := by rw [List.drop_eq_getElem_cons hkt, hxe]
        rw [hd] at HF
        clear hd hxe
        generalize s[k] = x at *
        have hxl := x.toNat_lt
        have HM : Hid (m < 16 ^ k) := hm
        clear hm
        by_cases h1 : (48 : Int) ≤ (x.toNat : Int) ∧ (x.toNat : Int) ≤ 57
        · have h1a := h1.1
          have h1b := h1.2
          obtain ⟨d, hdd⟩ : ∃ d : Nat, x.toNat = 48 + d := ⟨x.toNat - 48, by omega⟩
          have HD : Hid (hexD x = some d) := by show hexD x = some d; rw [digit_byte x (by omega), hdd]; simp
          have e95 : ((x.toNat : Int) == 95) = false := by simp; omega
          have hsub : IntKind.u8.wrap ((x.toNat : Int) - 48) = (d : Int) := by rw [IntKind.wrap_u8]; omega
          have hge : ¬ (16 : Int) ≤ (d : Int) := by omega
          have hd9 : d < 16 := by omega
          clear hdd h1 hkt
          have w1 : IntKind.u64.wrap ((m : Int) * 16) = (m : Int) * 16 := by rw [IntKind.wrap_u64]; omega
          have w2 : IntKind.u64.wrap (d : Int) = (d : Int) := by rw [IntKind.wrap_u64]; omega
          have w3 : IntKind.u64.wrap ((m : Int) * 16 + (d : Int)) = (m : Int) * 16 + (d : Int) := by rw [IntKind.wrap_u64]; omega
          have w4 : ¬ ((m : Int) * 16 + (d : Int) < (m : Int) * 16) := by omega
          have w5 : ¬ (255 < (m : Int) * 16 + (d : Int)) := by omega
          have w6 : ¬ ((1152921504606846976 : Int) ≤ (m : Int)) := by omega
          go_wp2
          go_roundw
          case rel =>
            refine ⟨trivial, rfl, k + 1, m * 16 + d, by omega, by go_num, by go_num, ?_, ?_⟩
            · rw [Nat.pow_succ]; have := HM.out; omega
            · have := HF.out
              rw [hexF, HD.out] at this
              exact this
          case measure => simp [intOf]; omega
        · have hno : ¬ (48 ≤ x.toNat ∧ x.toNat ≤ 57) := by omega
          obtain ⟨q, hq, hq1, hq2, hq3⟩ := low_byte x hno
          have HQ2 := hide hq2
          have HQ3 := hide hq3
          clear hq2 hq3 hno
          have bad_end : Hid (¬ (97 ≤ q ∧ q ≤ 102) → hexU s.data.toList = none) := fun g => by
            have := HF.out
            rw [hexF, HQ3.out g] at this
            exact this.symm
          cases c95 : ((x.toNat : Int) == 95) <;> by_cases h48 : (48 : Int) ≤ (x.toNat : Int) <;> (
            first | (have h57 : ¬ (x.toNat : Int) ≤ 57 := fun g => h1 ⟨h48, g⟩) | skip
            by_cases g97 : (97 : Int) ≤ (q : Int)
            · by_cases g122 : (q : Int) ≤ 122
              · obtain ⟨d, hdd⟩ : ∃ d : Nat, q = 87 + d := ⟨q - 87, by omega⟩
                have s1 : IntKind.u8.wrap ((q : Int) - 97) = (q : Int) - 97 := by rw [IntKind.wrap_u8]; omega
                have s2 : IntKind.u8.wrap ((q : Int) - 97 + 10) = (d : Int) := by rw [IntKind.wrap_u8]; omega
                by_cases hge : (16 : Int) ≤ (d : Int)
                · have HB := hide (bad_end.out (by omega))
                  clear hdd h1 hkt
                  go_wp2_with (go_at_call 131; refine (Tryz.internal_strconv_lower _ _).mono ?_; rintro e w5 ⟨rfl, rfl⟩; rw [hq])
                  go_ret2
                  exact ⟨.inr ⟨HB.out, rfl⟩, hk0⟩
                · have HD : Hid (hexD x = some d) := by show hexD x = some d; rw [HQ2.out (by omega) (by omega), hdd]; simp
                  have hd9 : d < 16 := by omega
                  clear hge
                  have y1 : IntKind.u64.wrap ((m : Int) * 16) = (m : Int) * 16 := by rw [IntKind.wrap_u64]; omega
                  have y2 : IntKind.u64.wrap (d : Int) = (d : Int) := by rw [IntKind.wrap_u64]; omega
                  have y3 : IntKind.u64.wrap ((m : Int) * 16 + (d : Int)) = (m : Int) * 16 + (d : Int) := by rw [IntKind.wrap_u64]; omega
                  have y4 : decide ((m : Int) * 16 + (d : Int) < (m : Int) * 16) = false := decide_eq_false (by omega)
                  have y7 : decide ((d : Int) < 0) = false := decide_eq_false (by omega)
                  have y5 : decide (255 < (m : Int) * 16 + (d : Int)) = false := decide_eq_false (by omega)
                  have y6 : decide ((1152921504606846976 : Int) ≤ (m : Int)) = false := decide_eq_false (by omega)
                  clear hdd h1 hkt
                  go_upto_if 137 with (go_at_call 131; refine (Tryz.internal_strconv_lower _ _).mono ?_; rintro e w5 ⟨rfl, rfl⟩; rw [hq])
                  have HD9 := hide hd9
                  clear s1 s2 g97 g122 hq hq1 HQ2 HQ3 bad_end c0 hxl c95 hd9 hm2 e0
                  go_wp2
                  · exact absurd HD9.out (by omega)
                  go_roundw
                  case rel =>
                    refine ⟨trivial, rfl, k + 1, m * 16 + d, by omega, by go_num, by go_num, ?_, ?_⟩
                    · rw [Nat.pow_succ]; have := HM.out; have := HD9.out; omega
                    · have := HF.out
                      rw [hexF, HD.out] at this
                      exact this
                  case measure => simp [intOf]; omega
              · have HB := hide (bad_end.out (by omega))
                clear h1 hkt
                go_wp2_with (go_at_call 131; refine (Tryz.internal_strconv_lower _ _).mono ?_; rintro e w5 ⟨rfl, rfl⟩; rw [hq])
                go_ret2
                exact ⟨.inr ⟨HB.out, rfl⟩, hk0⟩
            · have HB := hide (bad_end.out (by omega))
              clear h1 hkt
              go_wp2_with (go_at_call 131; refine (Tryz.internal_strconv_lower _ _).mono ?_; rintro e w5 ⟨rfl, rfl⟩; rw [hq])
              go_ret2
              exact ⟨.inr ⟨HB.out, rfl⟩, hk0⟩)
      · obtain rfl : k = s.size := by omega
        have hv : Hid (hexU s.data.toList = some m) := by
          have := HF.out
          rw [List.drop_eq_nil_of_le (by omega)] at this
          exact this.symm
        clear HF
        go_wp2
        go_ret2
        exact ⟨.inl ⟨m, hv.out, hm2, rfl⟩, hk0⟩

def UintDone (l : List UInt8) (e : Ending) : Prop :=
  (∃ v, hexU l = some v ∧ v < 256 ∧ e = .returned (.tuple #[.int .u64 (v : Int), .nilIface])) ∨ (hexU l = none ∧ ∃ t p, e = .returned (.tuple #[.int .u64 0, .iface t p]))

set_option maxRecDepth 100000 in
theorem parseUint_any (w : World) (s : ByteArray) (hs : s.size ≤ 2) {po : Addr} (hE : Env po w) :
    Calls Tryz.prog 95 #[.string s, .int .i64 16, .int .i64 8] w fun e w' => UintDone s.data.toList e ∧ Kept w w' := by
  obtain ⟨ps, hps⟩ := hE.syn
  have HPS := hide hps
  clear hps hE
  go_enter Tryz.func95, Tryz.ntmps95
  go_wp2_with fail
  refine (parseUintI_any _ s hs).mono ?_
  rintro e w1 ⟨he, k1⟩
  rcases he with ⟨v, hv, hv2, rfl⟩ | ⟨hv, rfl⟩
  · have HV := hide hv
    clear hv
    go_wp2
    go_ret2
    exact ⟨.inl ⟨v, HV.out, hv2, rfl⟩, k1⟩
  · have HV := hide hv
    clear hv
    have HP1 := hide (HPS.out.kept k1)
    go_wp2_with fail
    refine (Tryz.strconv_toError_syntax _ s 16 8 _ _ (by omega) HP1.out.2.1 (.inr ⟨_, _, rfl⟩)).mono ?_
    rintro e w2 ⟨N, rfl, _, _, k2⟩
    go_wp2
    go_ret2
    exact ⟨.inr ⟨HV.out, _, _, rfl⟩, k1.trans k2⟩

end Go.Proofs.YtinkfgkjdaaeaaaGreatDoor
