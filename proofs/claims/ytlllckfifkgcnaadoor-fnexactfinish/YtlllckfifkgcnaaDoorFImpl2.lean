import Derived.Test.YtlllckfifkgcnaaDoorFImpl

/-
  THE WALK over impl.Finish.
-/
namespace Go.Proofs.YtlllckfifkgcnaaDoor
open Go.RowKit

/-- strings.Join at whatever list. -/
theorem join_any (w : World) (a : Option Addr) (cap : Nat) (l : List ByteArray) (hcap : l.length ≤ cap) (hN : l.length ≤ 100) (hlen : (Lib.join (texts l) [44]).length ≤ 140737488355328) (hS : Strs w a l) :
    Calls Tryd.prog 29 #[.slice a l.length cap, .string ⟨#[44]⟩] w fun e w' => (∃ b : ByteArray, e = .returned (.string b) ∧ b.data.toList = Lib.join (texts l) [44]) ∧ Kept w w' := by
  by_cases h0 : l.length = 0
  · have hnil : l = [] := List.eq_nil_of_length_eq_zero h0
    subst hnil
    refine (Tryd.strings_Join_none a cap ⟨#[44]⟩ w).mono ?_
    rintro e w' ⟨rfl, rfl⟩
    exact ⟨⟨_, rfl, rfl⟩, Kept.refl _⟩
  · obtain ⟨b, o, rfl, hb, _⟩ := hS 0 (by omega)
    refine (Tryd.strings_Join b o cap l ⟨#[44]⟩ w (fun j x hx => ?_) hb (by omega) hcap hlen).mono ?_
    · obtain ⟨hj, hx'⟩ := List.getElem?_eq_some_iff.1 hx
      obtain ⟨b', o', e, _, hc⟩ := hS j hj
      simp only [Option.some.injEq, Addr.mk.injEq, and_true] at e
      obtain ⟨rfl, rfl⟩ := e
      rw [hc]
      simp [List.getD, hj, hx']
    · rintro e w' ⟨rfl, k⟩
      exact ⟨⟨_, rfl, rfl⟩, k⟩

set_option maxHeartbeats 1600000 in
theorem finish_any (w : World) (give : ByteArray) (a : Option Addr) (cap : Nat) (l : List ByteArray) (hg : give.size ≤ maxLen) (hl : l.length ≤ maxLen) (hS : Strs w a l) (hcap : l.length ≤ cap) (hT : TabOk w) :
    Calls Tryd.prog 9 #[.string give, .slice a l.length cap] w fun e w' => e = .returned (.string (finB give l)) ∧ Kept w w' := by
  have hl' := hl
  unfold maxLen at hg hl
  by_cases h1 : (30 : Int) < give.size
  · have h1' : decide ((30 : Int) < give.size) = true := by simpa using h1
    go_enter Tryd.func9, Tryd.ntmps9
    go_wp2
    go_ret
    exact ⟨ret_str (finB_none (.inl (by omega))).symm, Kept.refl _⟩
  · have h1' : decide ((30 : Int) < give.size) = false := by simpa using h1
    by_cases h2 : (100 : Int) < l.length
    · have h2' : decide ((100 : Int) < l.length) = true := by simpa using h2
      go_enter Tryd.func9, Tryd.ntmps9
      go_wp2
      go_ret
      exact ⟨ret_str (finB_none (.inr (.inl (by omega)))).symm, Kept.refl _⟩
    · have h2' : decide ((100 : Int) < l.length) = false := by simpa using h2
      go_enter Tryd.func9, Tryd.ntmps9
      go_wp2_with fail
      refine (containsLong_any _ a cap l hl' hS).mono ?_
      rintro e w1 ⟨hsay, rfl⟩
      rcases hsay.cases with ⟨rfl, hyes⟩ | ⟨rfl, hno⟩
      · have HY := hide hyes
        clear hyes hsay h1' h2'
        go_wp2
        go_ret
        obtain ⟨i, hi, hlo⟩ := HY.out
        exact ⟨ret_str (finB_none (.inr (.inr ⟨i, hi, hlo⟩))).symm, Kept.refl _⟩
      · have HN : Hid (FinFits give l) := ⟨by omega, by omega, fun i hi => by
          apply Decidable.byContradiction
          intro hc
          exact hno ⟨i, hi, by unfold Long; omega⟩⟩
        clear hno hsay h1' h2'
        have hjl : (Lib.join (texts l) [44]).length ≤ 100 * 201 := by
          have := join_le (texts l) 200 (fun t ht => by
            simp only [texts, List.mem_map] at ht
            obtain ⟨x, hx, rfl⟩ := ht
            obtain ⟨i, hi, rfl⟩ := List.getElem_of_mem hx
            have := HN.out.2.2 i hi
            simpa [List.getD, hi] using this)
          rw [texts_length] at this
          omega
        go_wp2_with fail
        refine (join_any _ a cap l hcap (by omega) (by omega) hS).mono ?_
        rintro e w2 ⟨⟨j, rfl, hj⟩, k2⟩
        have hjs : j.size ≤ 20100 := by have := congrArg List.length hj; simp at this; omega
        have HW : Hid ((give ++ ⟨#[40]⟩ ++ j ++ ⟨#[41]⟩).data.toList = wholeOf give.data.toList (texts l)) := by
          show _ = _
          rw [ba_append, ba_append, ba_append, hj]
          simp [wholeOf]
        clear hj hjl
        have hws : (give ++ ⟨#[40]⟩ ++ j ++ ⟨#[41]⟩ : ByteArray).size ≤ 30000 := by
          have e0 : (⟨#[40]⟩ : ByteArray).size = 1 := rfl
          have e1 : (⟨#[41]⟩ : ByteArray).size = 1 := rfl
          simp only [ByteArray.size_append, e0, e1]
          omega
        go_wp2_with fail
        generalize (give ++ ⟨#[40]⟩ ++ j ++ ⟨#[41]⟩ : ByteArray) = c at *
        refine (longText_any _ c).mono ?_
        rintro e w3 ⟨hsay, rfl⟩
        rcases hsay.cases with ⟨rfl, hyes⟩ | ⟨rfl, hno⟩
        · have HY : Hid (200 < c.size) := hyes
          clear hyes hsay
          go_wp2_with fail
          refine (sum_any _ c (by unfold maxLen; omega)).mono ?_
          rintro e w4 ⟨rfl, k4⟩
          have k24 := Kept.trans k2 k4
          have hsb := sumOf_bounds c.data.toList
          have HFin : Hid (finB give l = ⟨(35 :: hexL 16 (sumOf c.data.toList).toNat).toArray⟩) := finB_long HN.out HW.out HY.out
          generalize sumOf c.data.toList = V at *
          obtain ⟨v, rfl⟩ : ∃ v : Nat, V = v := ⟨V.toNat, by omega⟩
          rw [Int.toNat_natCast] at HFin
          go_wp2_with fail
          refine (digits_any _ v (by omega) (hT.kept k24)).mono ?_
          rintro e w5 ⟨⟨d, rfl, hd⟩, k5⟩
          have hds : d.size = 16 := by have := congrArg List.length hd; rw [hexL_length] at this; simpa using this
          have HD := hide hd
          clear hd
          go_wp2
          go_ret
          exact ⟨ret_str (by rw [HFin.out]; apply ba_ext; rw [ba_append, HD.out]; rfl), Kept.trans k24 k5⟩
        · have HY : Hid (¬ 200 < c.size) := hno
          clear hno hsay
          go_wp2
          go_ret
          exact ⟨ret_str (finB_short HN.out HW.out (by have := HY.out; omega)).symm, k2⟩

end Go.Proofs.YtlllckfifkgcnaaDoor
