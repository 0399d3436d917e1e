import Derived.Test.YtmdckapiljhfdaaGreatWCheck1
import Derived.Test.YtmdckapiljhfdaaGreatWSpec5

/-
  THE WALK over the specification's CheckWeb.
-/
namespace Go.Proofs.YtmdckapiljhfdaaGreat
open Go.RowKit

/-- At place i the names do not rise. -/
def FallsAt (l : List NodeD) (i : Nat) : Prop := Op.bytesLess (l.getD i NodeD.zero).name.toList (l.getD (i + 1) NodeD.zero).name.toList = false
def SomeFalls (l : List NodeD) : Prop := ∃ i, i + 1 < l.length ∧ FallsAt l i
def RisesTo (l : List NodeD) (k : Nat) : Prop := ∀ j, j + 1 < k → ¬ FallsAt l j

/-- The code of a web. -/
def WebCode (l : List NodeD) (c : Int) : Prop :=
  (60 < l.length ∧ c = 1) ∨ (¬ 60 < l.length ∧ SomeN l BadName ∧ c = 2) ∨ (¬ 60 < l.length ∧ ¬ SomeN l BadName ∧ SomeFalls l ∧ c = 3) ∨
  (¬ 60 < l.length ∧ ¬ SomeN l BadName ∧ ¬ SomeFalls l ∧ SomeN l BadMade ∧ c = 4) ∨ (¬ 60 < l.length ∧ ¬ SomeN l BadName ∧ ¬ SomeFalls l ∧ ¬ SomeN l BadMade ∧ c = 0)

theorem WebCode.unique {l : List NodeD} {c c' : Int} (h : WebCode l c) (h' : WebCode l c') : c = c' := by
  rcases h with ⟨h1, rfl⟩ | ⟨h1, h2, rfl⟩ | ⟨h1, h2, h3, rfl⟩ | ⟨h1, h2, h3, h4, rfl⟩ | ⟨h1, h2, h3, h4, rfl⟩ <;>
    rcases h' with ⟨g1, rfl⟩ | ⟨g1, g2, rfl⟩ | ⟨g1, g2, g3, rfl⟩ | ⟨g1, g2, g3, g4, rfl⟩ | ⟨g1, g2, g3, g4, rfl⟩ <;> first | rfl | contradiction

set_option maxRecDepth 100000 in
set_option maxHeartbeats 3200000 in
theorem specCheckWeb_any (w : World) (a : Option Addr) (cap : Nat) (l : List NodeD) (hl : l.length ≤ maxLen) (hs : ∀ s ∈ l, s.Fits) (hS : Nodes w a l) :
    Calls Tryz.prog 18 #[.agg #[.slice a l.length cap]] w fun e w' => (∃ c, e = .returned (.int .i64 c) ∧ WebCode l c) ∧ Kept w w' := by
  unfold maxLen at hl
  have k0 : Kept w (w.alloc (.cells #[.slice a l.length cap] 34)) := (Kept.refl _).alloc _
  by_cases a1 : (60 : Int) < l.length
  · go_enter Tryz.func18, Tryz.ntmps18
    go_wp2
    go_ret
    exact ⟨⟨1, rfl, Or.inl ⟨by omega, rfl⟩⟩, k0⟩
  · have a2 : decide ((60 : Int) < l.length) = false := by simpa using a1
    go_enter Tryz.func18, Tryz.ntmps18
    go_wp2
    clear a2
    go_loopw [3] (fun i wr => ∃ k : Nat, k ≤ l.length ∧ i = .int .i64 k ∧ Kept (w.alloc (.cells #[.slice a l.length cap] 34)) wr ∧ NoneN l BadName k) (fun i _ => l.length - (intOf i).toNat)
    case atStart => exact ⟨0, Nat.zero_le _, rfl, Kept.refl _, fun j hj => absurd hj (Nat.not_lt_zero _)⟩
    case round =>
      obtain ⟨k, hk, rfl, hw, hg⟩ := hrel
      have HG := hide hg
      clear hg
      obtain ⟨hc1, hf1⟩ := hw.rules
      have hz1 := hw.size
      simp only [World.size_alloc] at hz1
      by_cases hlt : k < l.length
      · obtain ⟨b, o, cs, rfl, hb, hc, aa, ca, rfl, hA⟩ := (hS.kept k0).kept hw k hlt
        have hsz := hs (l.getD k NodeD.zero) (by simp [List.getD, hlt])
        obtain ⟨d, hdk⟩ : ∃ d, d = l.getD k NodeD.zero := ⟨_, rfl⟩
        rw [← hdk] at hc hsz
        have HDK := hide hdk
        clear hdk
        have c0 := hc 0 _ rfl
        simp only [Nat.add_zero] at c0
        clear hc hA
        go_wp2_with fail
        refine (l1NameOk_any _ d.name hsz.name).mono ?_
        rintro e w1 ⟨hsay, hw1⟩
        have hw1' := Eq.symm hw1
        clear hw1
        subst hw1'
        rcases hsay.cases with ⟨rfl, hyes⟩ | ⟨rfl, hno⟩
        · have HY := hide hyes
          clear hyes hsay c0
          go_wp2
          go_roundw
          case rel =>
            refine ⟨k + 1, by omega, by go_num, hw, fun j hj => ?_⟩
            by_cases e : j = k
            · subst e
              rw [← HDK.out]
              exact fun h => h HY.out
            · exact HG.out j (by omega)
          case measure => simp [intOf]; omega
        · have HN := hide hno
          clear hno hsay c0
          go_wp2
          go_ret
          exact ⟨⟨2, rfl, Or.inr (Or.inl ⟨by omega, ⟨k, hlt, by rw [← HDK.out]; exact HN.out⟩, rfl⟩)⟩, k0.trans hw⟩
      · have HB : Hid (¬ SomeN l BadName) := fun ⟨i, hi, h⟩ => HG.out i (by omega) h
        clear HG
        go_wp2
        clear hc1 hf1 hz1
        go_loopw [4] (fun i wr' => ∃ n : Nat, 1 ≤ n ∧ n ≤ l.length + 1 ∧ i = .int .i64 n ∧ Kept (w.alloc (.cells #[.slice a l.length cap] 34)) wr' ∧ RisesTo l n) (fun i _ => l.length + 2 - (intOf i).toNat)
        case atStart => exact ⟨1, by omega, by omega, rfl, hw, fun j hj => absurd hj (by omega)⟩
        case round =>
          clear hw hk hlt
          obtain ⟨n, hn1, hn2, rfl, hw, hg⟩ := hrel
          have HG := hide hg
          clear hg
          obtain ⟨hc1, hf1⟩ := hw.rules
          have hz1 := hw.size
          simp only [World.size_alloc] at hz1
          by_cases hlt : n < l.length
          · obtain ⟨b, o, cs, rfl, hb, hc, aa, ca, rfl, hA⟩ := (hS.kept k0).kept hw (n - 1) (by omega)
            obtain ⟨b', o', cs', e', hb', hc', ba, da, rfl, hA'⟩ := (hS.kept k0).kept hw n hlt
            simp only [Option.some.injEq, Addr.mk.injEq, and_true] at e'
            obtain ⟨rfl, rfl⟩ := e'
            obtain ⟨x, hxk⟩ : ∃ x, x = (l.getD (n - 1) NodeD.zero) := ⟨_, rfl⟩
            obtain ⟨y, hyk⟩ : ∃ y, y = (l.getD n NodeD.zero) := ⟨_, rfl⟩
            rw [← hxk] at hc
            rw [← hyk] at hc'
            have HX : Hid (l.getD (n - 1) NodeD.zero = x) := hxk.symm
            have HYK : Hid (l.getD (n - 1 + 1) NodeD.zero = y) := by rw [hyk, show n - 1 + 1 = n by omega]; exact rfl
            clear hxk hyk hA hA'
            have c0 := hc 0 _ rfl
            have d0 := hc' 0 _ rfl
            simp only [Nat.add_zero] at c0 d0
            clear hc hc'
            have i0 : (0 : Int) ≤ (n : Int) - 1 := by omega
            have i1 : (n : Int) - 1 < (l.length : Int) := by omega
            cases hbl : Op.bytesLess x.name.toList y.name.toList
            · go_wp2
              go_region
              all_goals
                go_wp2
                go_ret
                exact ⟨⟨3, rfl, Or.inr (Or.inr (Or.inl ⟨by omega, HB.out, ⟨n - 1, by omega, by unfold FallsAt; rw [HX.out, HYK.out]; exact hbl⟩, rfl⟩))⟩, k0.trans (by repeat (first | apply Kept.drew | exact hw))⟩
            · go_wp2
              go_region
              all_goals
                go_wp2
                go_roundw
                case rel =>
                  refine ⟨n + 1, by omega, by omega, by go_num, by repeat (first | apply Kept.drew | exact hw), fun j hj => ?_⟩
                  by_cases e : j = n - 1
                  · subst e
                    unfold FallsAt
                    rw [HX.out, HYK.out, hbl]
                    simp
                  · exact HG.out j (by omega)
                case measure => simp [intOf]; omega
          · have HC : Hid (¬ SomeFalls l) := fun ⟨i, hi, h⟩ => HG.out i (by omega) h
            clear HG
            go_wp2
            clear hc1 hf1 hz1
            go_loopw [5] (fun i wr' => ∃ k : Nat, k ≤ l.length ∧ i = .int .i64 k ∧ Kept (w.alloc (.cells #[.slice a l.length cap] 34)) wr' ∧ NoneN l BadMade k) (fun i _ => l.length - (intOf i).toNat)
            case atStart => exact ⟨0, Nat.zero_le _, rfl, hw, fun j hj => absurd hj (Nat.not_lt_zero _)⟩
            case round =>
              clear hw hlt
              obtain ⟨k, hk, rfl, hw, hg⟩ := hrel
              have HG := hide hg
              clear hg
              obtain ⟨hc1, hf1⟩ := hw.rules
              have hz1 := hw.size
              simp only [World.size_alloc] at hz1
              by_cases hlt : k < l.length
              · obtain ⟨b, o, cs, rfl, hb, hc, aa, ca, rfl, hA⟩ := (hS.kept k0).kept hw k hlt
                have hsz := hs (l.getD k NodeD.zero) (by simp [List.getD, hlt])
                obtain ⟨d, hdk⟩ : ∃ d, d = l.getD k NodeD.zero := ⟨_, rfl⟩
                rw [← hdk] at hc hsz hA
                have HDK := hide hdk
                clear hdk
                have c0 := hc 0 _ rfl
                have c1 := hc 1 _ rfl
                have c2 := hc 2 _ rfl
                simp only [Nat.add_zero] at c0
                clear hc
                go_wp2_with fail
                refine (specValidAction_any _ d.cost aa ca d.steps hsz.steps hsz.each hA).mono ?_
                rintro e w1 ⟨hsay, hw1⟩
                have hw2 := hw.trans hw1
                clear hw hw1 c0 c1 c2 hA hc1 hf1
                rcases hsay.cases with ⟨rfl, hyes⟩ | ⟨rfl, hno⟩
                · have HY := hide hyes
                  clear hyes hsay
                  go_wp2
                  go_roundw
                  case rel =>
                    refine ⟨k + 1, by omega, by go_num, hw2, fun j hj => ?_⟩
                    by_cases e : j = k
                    · subst e
                      rw [← HDK.out]
                      exact fun h => h HY.out
                    · exact HG.out j (by omega)
                  case measure => simp [intOf]; omega
                · have HN := hide hno
                  clear hno hsay
                  go_wp2
                  go_ret
                  exact ⟨⟨4, rfl, Or.inr (Or.inr (Or.inr (Or.inl ⟨by omega, HB.out, HC.out, ⟨k, hlt, by rw [← HDK.out]; exact HN.out⟩, rfl⟩)))⟩, k0.trans hw2⟩
              · go_wp2
                go_ret
                exact ⟨⟨0, rfl, Or.inr (Or.inr (Or.inr (Or.inr ⟨by omega, HB.out, HC.out, fun ⟨i, hi, h⟩ => HG.out i (by omega) h, rfl⟩)))⟩, k0.trans hw⟩

end Go.Proofs.YtmdckapiljhfdaaGreat
