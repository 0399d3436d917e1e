import Derived.Test.YtinkfgkjdaaeaaaGreatDoorKWWeb
import Derived.Test.YtinkfgkjdaaeaaaGreatDoorKWImpl5
import Derived.Test.YtinkfgkjdaaeaaaGreatDoorKWSpec5
import Derived.Test.YtinkfgkjdaaeaaaGreatDoorKOMarkD
import Derived.OwnWalk

namespace Go.Proofs.YtinkfgkjdaaeaaaGreatDoor
open Go.RowKit

def NoneN (l : List NodeD) (p : NodeD → Prop) (k : Nat) : Prop := ∀ j, j < k → ¬ p (l.getD j NodeD.zero)
def SomeN (l : List NodeD) (p : NodeD → Prop) : Prop := ∃ i, i < l.length ∧ p (l.getD i NodeD.zero)
def FirstN (l : List NodeD) (p : NodeD → Prop) (r : Int) : Prop :=
  (∃ i, i < l.length ∧ r = (i : Int) ∧ p (l.getD i NodeD.zero)) ∨ (r = -1 ∧ NoneN l p l.length)
def BadName (d : NodeD) : Prop := ¬ NameOk d.name
def BadMade (d : NodeD) : Prop := ¬ ActionOk ⟨d.cost, d.steps⟩

theorem badlyNamed_any (w : World) (d : NodeD) (a : Option Addr) (cap : Nat) (hd : d.Fits) :
    Calls Tryz.prog 32 #[.agg #[.string d.name, .int .i64 d.cost, .slice a d.steps.length cap]] w fun e w' => Says e (BadName d) ∧ Kept w w' := by
  have k0 : Kept w (w.alloc (.cells #[.string d.name, .int .i64 d.cost, .slice a d.steps.length cap] 54)) := (Kept.refl _).alloc _
  go_enter Tryz.func32, Tryz.ntmps32
  go_wp2_with fail
  refine (validName_any _ d.name hd.name).mono ?_
  rintro e w1 ⟨hsay, k1⟩
  have k2 := k0.trans k1
  clear k0 k1
  rcases hsay.cases with ⟨rfl, hyes⟩ | ⟨rfl, hno⟩
  · have HY := hide hyes
    clear hyes hsay
    go_wp2
    go_ret
    exact ⟨Says.no fun h => h HY.out, k2⟩
  · have HY := hide hno
    clear hno hsay
    go_wp2
    go_ret
    exact ⟨Says.yes HY.out, k2⟩

theorem badlyMade_any (w : World) (d : NodeD) (a : Option Addr) (cap : Nat) (hd : d.Fits) (hS : Steps w a d.steps) :
    Calls Tryz.prog 34 #[.agg #[.string d.name, .int .i64 d.cost, .slice a d.steps.length cap]] w fun e w' => Says e (BadMade d) ∧ Kept w w' := by
  have k0 : Kept w (w.alloc (.cells #[.string d.name, .int .i64 d.cost, .slice a d.steps.length cap] 54)) := (Kept.refl _).alloc _
  go_enter Tryz.func34, Tryz.ntmps34
  go_wp2_with fail
  refine (implValidAction_any _ d.cost a cap d.steps hd.steps hd.each (hS.kept k0)).mono ?_
  rintro e w1 ⟨hsay, k1⟩
  have k2 := k0.trans k1
  clear k0 k1
  rcases hsay.cases with ⟨rfl, hyes⟩ | ⟨rfl, hno⟩
  · have HY := hide hyes
    clear hyes hsay
    go_wp2
    go_ret
    exact ⟨Says.no fun h => h HY.out, k2⟩
  · have HY := hide hno
    clear hno hsay
    go_wp2
    go_ret
    exact ⟨Says.yes HY.out, k2⟩

set_option maxRecDepth 100000 in
set_option maxHeartbeats 800000 in
theorem indexNamed (w : World) (a : Option Addr) (cap : Nat) (l : List NodeD) (hl : l.length ≤ maxLen) (hs : ∀ c ∈ l, c.Fits) (hS : Nodes w a l) :
    Calls Tryz.prog 54 #[.slice a l.length cap, .func (.func 32) #[] #[]] w fun e w' => (∃ r, e = .returned (.int .i64 r) ∧ FirstN l BadName r) ∧ Kept w w' := by
  unfold maxLen at hl
  go_enter Tryz.func54, Tryz.ntmps54
  go_wp2
  go_loopw [8] (fun i wr => ∃ k : Nat, k ≤ l.length ∧ i = .int .i64 k ∧ Kept w wr ∧ NoneN l BadName k) (fun i _ => l.length - (intOf i).toNat)
  case atStart => exact ⟨0, Nat.zero_le _, rfl, Kept.refl _, fun j hj => absurd hj (Nat.not_lt_zero _)⟩
  case round =>
    obtain ⟨k, hk, rfl, hw, hg⟩ := hrel
    have HG := hide hg
    clear hg
    by_cases hlt : k < l.length
    · obtain ⟨b, o, cs, rfl, hb, hc, aa, ca, rfl, hA⟩ := hS.kept hw k hlt
      have hsz := hs (l.getD k NodeD.zero) (by simp [List.getD, hlt])
      obtain ⟨c, hck⟩ : ∃ c, c = l.getD k NodeD.zero := ⟨_, rfl⟩
      rw [← hck] at hc hsz hA
      have HCK := hide hck
      clear hck
      have c0 := hc 0 _ rfl
      have c1 := hc 1 _ rfl
      have c2 := hc 2 _ rfl
      simp only [Nat.add_zero] at c0
      clear hc
      go_wp2_with fail
      refine (badlyNamed_any _ c aa ca hsz).mono ?_
      rintro e w1 ⟨hsay, hw1⟩
      have hw2 := hw.trans hw1
      clear c0 c1 c2 hw hw1
      rcases hsay.cases with ⟨rfl, hyes⟩ | ⟨rfl, hno⟩
      · have HY := hide hyes
        clear hyes hsay
        go_wp2
        go_ret
        exact ⟨⟨k, rfl, Or.inl ⟨k, hlt, rfl, by rw [← HCK.out]; exact HY.out⟩⟩, hw2⟩
      · have HN := hide hno
        clear hno hsay
        go_wp2
        go_roundw
        case rel =>
          refine ⟨k + 1, by omega, by go_num, hw2, fun j hj => ?_⟩
          by_cases e : j = k
          · subst e
            rw [← HCK.out]
            exact HN.out
          · exact HG.out j (by omega)
        case measure => simp [intOf]; omega
    · go_wp2
      go_ret
      exact ⟨⟨-1, rfl, Or.inr ⟨rfl, fun j hj => HG.out j (by omega)⟩⟩, hw⟩

set_option maxRecDepth 100000 in
set_option maxHeartbeats 800000 in
theorem indexMade (w : World) (a : Option Addr) (cap : Nat) (l : List NodeD) (hl : l.length ≤ maxLen) (hs : ∀ c ∈ l, c.Fits) (hS : Nodes w a l) :
    Calls Tryz.prog 54 #[.slice a l.length cap, .func (.func 34) #[] #[]] w fun e w' => (∃ r, e = .returned (.int .i64 r) ∧ FirstN l BadMade r) ∧ Kept w w' := by
  unfold maxLen at hl
  go_enter Tryz.func54, Tryz.ntmps54
  go_wp2
  go_loopw [8] (fun i wr => ∃ k : Nat, k ≤ l.length ∧ i = .int .i64 k ∧ Kept w wr ∧ NoneN l BadMade k) (fun i _ => l.length - (intOf i).toNat)
  case atStart => exact ⟨0, Nat.zero_le _, rfl, Kept.refl _, fun j hj => absurd hj (Nat.not_lt_zero _)⟩
  case round =>
    obtain ⟨k, hk, rfl, hw, hg⟩ := hrel
    have HG := hide hg
    clear hg
    by_cases hlt : k < l.length
    · obtain ⟨b, o, cs, rfl, hb, hc, aa, ca, rfl, hA⟩ := hS.kept hw k hlt
      have hsz := hs (l.getD k NodeD.zero) (by simp [List.getD, hlt])
      obtain ⟨c, hck⟩ : ∃ c, c = l.getD k NodeD.zero := ⟨_, rfl⟩
      rw [← hck] at hc hsz hA
      have HCK := hide hck
      clear hck
      have c0 := hc 0 _ rfl
      have c1 := hc 1 _ rfl
      have c2 := hc 2 _ rfl
      simp only [Nat.add_zero] at c0
      clear hc
      go_wp2_with fail
      refine (badlyMade_any _ c aa ca hsz hA).mono ?_
      rintro e w1 ⟨hsay, hw1⟩
      have hw2 := hw.trans hw1
      clear c0 c1 c2 hw hw1
      rcases hsay.cases with ⟨rfl, hyes⟩ | ⟨rfl, hno⟩
      · have HY := hide hyes
        clear hyes hsay
        go_wp2
        go_ret
        exact ⟨⟨k, rfl, Or.inl ⟨k, hlt, rfl, by rw [← HCK.out]; exact HY.out⟩⟩, hw2⟩
      · have HN := hide hno
        clear hno hsay
        go_wp2
        go_roundw
        case rel =>
          refine ⟨k + 1, by omega, by go_num, hw2, fun j hj => ?_⟩
          by_cases e : j = k
          · subst e
            rw [← HCK.out]
            exact HN.out
          · exact HG.out j (by omega)
        case measure => simp [intOf]; omega
    · go_wp2
      go_ret
      exact ⟨⟨-1, rfl, Or.inr ⟨rfl, fun j hj => HG.out j (by omega)⟩⟩, hw⟩

theorem containsNamed (w : World) (a : Option Addr) (cap : Nat) (l : List NodeD) (hl : l.length ≤ maxLen) (hs : ∀ c ∈ l, c.Fits) (hS : Nodes w a l) :
    Calls Tryz.prog 31 #[.slice a l.length cap, .func (.func 32) #[] #[]] w fun e w' => Says e (SomeN l BadName) ∧ Kept w w' := by
  go_enter Tryz.func31, Tryz.ntmps31
  go_wp2_with fail
  refine (indexNamed _ a cap l hl hs hS).mono ?_
  rintro e w1 ⟨⟨r, rfl, hr⟩, k1⟩
  have HR := hide hr
  clear hr
  by_cases h0 : 0 ≤ r
  · have h1 : decide (0 ≤ r) = true := by simpa using h0
    go_wp2
    go_ret
    exact ⟨Says.yes (by rcases HR.out with ⟨i, hi, _, hp⟩ | ⟨rfl, _⟩; exact ⟨i, hi, hp⟩; omega), k1⟩
  · have h1 : decide (0 ≤ r) = false := by simpa using h0
    go_wp2
    go_ret
    exact ⟨Says.no (by rcases HR.out with ⟨i, hi, rfl, hp⟩ | ⟨rfl, hno⟩; omega; exact fun ⟨i, hi, hp⟩ => hno i hi hp), k1⟩

theorem containsMade (w : World) (a : Option Addr) (cap : Nat) (l : List NodeD) (hl : l.length ≤ maxLen) (hs : ∀ c ∈ l, c.Fits) (hS : Nodes w a l) :
    Calls Tryz.prog 31 #[.slice a l.length cap, .func (.func 34) #[] #[]] w fun e w' => Says e (SomeN l BadMade) ∧ Kept w w' := by
  go_enter Tryz.func31, Tryz.ntmps31
  go_wp2_with fail
  refine (indexMade _ a cap l hl hs hS).mono ?_
  rintro e w1 ⟨⟨r, rfl, hr⟩, k1⟩
  have HR := hide hr
  clear hr
  by_cases h0 : 0 ≤ r
  · have h1 : decide (0 ≤ r) = true := by simpa using h0
    go_wp2
    go_ret
    exact ⟨Says.yes (by rcases HR.out with ⟨i, hi, _, hp⟩ | ⟨rfl, _⟩; exact ⟨i, hi, hp⟩; omega), k1⟩
  · have h1 : decide (0 ≤ r) = false := by simpa using h0
    go_wp2
    go_ret
    exact ⟨Says.no (by rcases HR.out with ⟨i, hi, rfl, hp⟩ | ⟨rfl, hno⟩; omega; exact fun ⟨i, hi, hp⟩ => hno i hi hp), k1⟩

end Go.Proofs.YtinkfgkjdaaeaaaGreatDoor

namespace Go.Proofs.YtinkfgkjdaaeaaaGreatDoor
open Go.RowKit

def FallsAt (l : List NodeD) (i : Nat) : Prop := Op.bytesLess (l.getD i NodeD.zero).name.toList (l.getD (i + 1) NodeD.zero).name.toList = false
def SomeFalls (l : List NodeD) : Prop := ∃ i, i + 1 < l.length ∧ FallsAt l i
def RisesTo (l : List NodeD) (k : Nat) : Prop := ∀ j, j + 1 < k → ¬ FallsAt l j

def WebCode (l : List NodeD) (c : Int) : Prop :=
  (60 < l.length ∧ c = 1) ∨ (¬ 60 < l.length ∧ SomeN l BadName ∧ c = 2) ∨ (¬ 60 < l.length ∧ ¬ SomeN l BadName ∧ SomeFalls l ∧ c = 3) ∨
  (¬ 60 < l.length ∧ ¬ SomeN l BadName ∧ ¬ SomeFalls l ∧ SomeN l BadMade ∧ c = 4) ∨ (¬ 60 < l.length ∧ ¬ SomeN l BadName ∧ ¬ SomeFalls l ∧ ¬ SomeN l BadMade ∧ c = 0)

theorem WebCode.unique {l : List NodeD} {c c' : Int} (h : WebCode l c) (h' : WebCode l c') : c = c' := by
  rcases h with ⟨h1, rfl⟩ | ⟨h1, h2, rfl⟩ | ⟨h1, h2, h3, rfl⟩ | ⟨h1, h2, h3, h4, rfl⟩ | ⟨h1, h2, h3, h4, rfl⟩ <;>
    rcases h' with ⟨g1, rfl⟩ | ⟨g1, g2, rfl⟩ | ⟨g1, g2, g3, rfl⟩ | ⟨g1, g2, g3, g4, rfl⟩ | ⟨g1, g2, g3, g4, rfl⟩ <;> first | rfl | contradiction

set_option maxRecDepth 100000 in
set_option maxHeartbeats 3200000 in
theorem specCheckWeb_any (w : World) (a : Option Addr) (cap : Nat) (l : List NodeD) (hl : l.length ≤ maxLen) (hs : ∀ s ∈ l, s.Fits) (hS : Nodes w a l) :
    Calls Tryz.prog 10 #[.agg #[.slice a l.length cap]] w fun e w' => (∃ c, e = .returned (.int .i64 c) ∧ WebCode l c) ∧ Kept w w' := by
  unfold maxLen at hl
  have k0 : Kept w (w.alloc (.cells #[.slice a l.length cap] 24)) := (Kept.refl _).alloc _
  by_cases a1 : (60 : Int) < l.length
  · go_enter Tryz.func10, Tryz.ntmps10
    go_wp2
    go_ret
    exact ⟨⟨1, rfl, Or.inl ⟨by omega, rfl⟩⟩, k0⟩
  · have a2 : decide ((60 : Int) < l.length) = false := by simpa using a1
    go_enter Tryz.func10, Tryz.ntmps10
    go_wp2
    clear a2
    go_loopw [3] (fun i wr => ∃ k : Nat, k ≤ l.length ∧ i = .int .i64 k ∧ Kept (w.alloc (.cells #[.slice a l.length cap] 24)) wr ∧ NoneN l BadName k) (fun i _ => l.length - (intOf i).toNat)
    case atStart => exact ⟨0, Nat.zero_le _, rfl, Kept.refl _, fun j hj => absurd hj (Nat.not_lt_zero _)⟩
    case round =>
      obtain ⟨k, hk, rfl, hw, hg⟩ := hrel
      have HG := hide hg
      clear hg
      obtain ⟨hc1, hf1⟩ := hw.rules
      have hz1 := hw.size
      simp only [World.size_alloc] at hz1
      by_cases hlt : k < l.length
      · obtain ⟨b, o, cs, rfl, hb, hc, aa, ca, rfl, hA⟩ := (hS.kept k0).kept hw k hlt
        have hsz := hs (l.getD k NodeD.zero) (by simp [List.getD, hlt])
        obtain ⟨d, hdk⟩ : ∃ d, d = l.getD k NodeD.zero := ⟨_, rfl⟩
        rw [← hdk] at hc hsz
        have HDK := hide hdk
        clear hdk
        have c0 := hc 0 _ rfl
        simp only [Nat.add_zero] at c0
        clear hc hA
        go_wp2_with fail
        refine (l1NameOk_any _ d.name hsz.name).mono ?_
        rintro e w1 ⟨hsay, hw1⟩
        have hw1' := Eq.symm hw1
        clear hw1
        subst hw1'
        rcases hsay.cases with ⟨rfl, hyes⟩ | ⟨rfl, hno⟩
        · have HY := hide hyes
          clear hyes hsay c0
          go_wp2
          go_roundw
          case rel =>
            refine ⟨k + 1, by omega, by go_num, hw, fun j hj => ?_⟩
            by_cases e : j = k
            · subst e
              rw [← HDK.out]
              exact fun h => h HY.out
            · exact HG.out j (by omega)
          case measure => simp [intOf]; omega
        · have HN := hide hno
          clear hno hsay c0
          go_wp2
          go_ret
          exact ⟨⟨2, rfl, Or.inr (Or.inl ⟨by omega, ⟨k, hlt, by rw [← HDK.out]; exact HN.out⟩, rfl⟩)⟩, k0.trans hw⟩
      · have HB : Hid (¬ SomeN l BadName) := fun ⟨i, hi, h⟩ => HG.out i (by omega) h
        clear HG
        go_wp2
        clear hc1 hf1 hz1
        go_loopw [4] (fun i wr' => ∃ n : Nat, 1 ≤ n ∧ n ≤ l.length + 1 ∧ i = .int .i64 n ∧ Kept (w.alloc (.cells #[.slice a l.length cap] 24)) wr' ∧ RisesTo l n) (fun i _ => l.length + 2 - (intOf i).toNat)
        case atStart => exact ⟨1, by omega, by omega, rfl, hw, fun j hj => absurd hj (by omega)⟩
        case round =>
          clear hw hk hlt
          obtain ⟨n, hn1, hn2, rfl, hw, hg⟩ := hrel
          have HG := hide hg
          clear hg
          obtain ⟨hc1, hf1⟩ := hw.rules
          have hz1 := hw.size
          simp only [World.size_alloc] at hz1
          by_cases hlt : n < l.length
          · obtain ⟨b, o, cs, rfl, hb, hc, aa, ca, rfl, hA⟩ := (hS.kept k0).kept hw (n - 1) (by omega)
            obtain ⟨b', o', cs', e', hb', hc', ba, da, rfl, hA'⟩ := (hS.kept k0).kept hw n hlt
            simp only [Option.some.injEq, Addr.mk.injEq, and_true] at e'
            obtain ⟨rfl, rfl⟩ := e'
            obtain ⟨x, hxk⟩ : ∃ x, x = (l.getD (n - 1) NodeD.zero) := ⟨_, rfl⟩
            obtain ⟨y, hyk⟩ : ∃ y, y = (l.getD n NodeD.zero) := ⟨_, rfl⟩
            rw [← hxk] at hc
            rw [← hyk] at hc'
            have HX : Hid (l.getD (n - 1) NodeD.zero = x) := hxk.symm
            have HYK : Hid (l.getD (n - 1 + 1) NodeD.zero = y) := by rw [hyk, show n - 1 + 1 = n by omega]; exact rfl
            clear hxk hyk hA hA'
            have c0 := hc 0 _ rfl
            have d0 := hc' 0 _ rfl
            simp only [Nat.add_zero] at c0 d0
            clear hc hc'
            have i0 : (0 : Int) ≤ (n : Int) - 1 := by omega
            have i1 : (n : Int) - 1 < (l.length : Int) := by omega
            cases hbl : Op.bytesLess x.name.toList y.name.toList
            · go_wp2
              go_region
              all_goals
                go_wp2
                go_ret
                exact ⟨⟨3, rfl, Or.inr (Or.inr (Or.inl ⟨by omega, HB.out, ⟨n - 1, by omega, by unfold FallsAt; rw [HX.out, HYK.out]; exact hbl⟩, rfl⟩))⟩, k0.trans (by repeat (first | apply Kept.drew | exact hw))⟩
            · go_wp2
              go_region
              all_goals
                go_wp2
                go_roundw
                case rel =>
                  refine ⟨n + 1, by omega, by omega, by go_num, by repeat (first | apply Kept.drew | exact hw), fun j hj => ?_⟩
                  by_cases e : j = n - 1
                  · subst e
                    unfold FallsAt
                    rw [HX.out, HYK.out, hbl]
                    simp
                  · exact HG.out j (by omega)
                case measure => simp [intOf]; omega
          · have HC : Hid (¬ SomeFalls l) := fun ⟨i, hi, h⟩ => HG.out i (by omega) h
            clear HG
            go_wp2
            clear hc1 hf1 hz1
            go_loopw [5] (fun i wr' => ∃ k : Nat, k ≤ l.length ∧ i = .int .i64 k ∧ Kept (w.alloc (.cells #[.slice a l.length cap] 24)) wr' ∧ NoneN l BadMade k) (fun i _ => l.length - (intOf i).toNat)
            case atStart => exact ⟨0, Nat.zero_le _, rfl, hw, fun j hj => absurd hj (Nat.not_lt_zero _)⟩
            case round =>
              clear hw hlt
              obtain ⟨k, hk, rfl, hw, hg⟩ := hrel
              have HG := hide hg
              clear hg
              obtain ⟨hc1, hf1⟩ := hw.rules
              have hz1 := hw.size
              simp only [World.size_alloc] at hz1
              by_cases hlt : k < l.length
              · obtain ⟨b, o, cs, rfl, hb, hc, aa, ca, rfl, hA⟩ := (hS.kept k0).kept hw k hlt
                have hsz := hs (l.getD k NodeD.zero) (by simp [List.getD, hlt])
                obtain ⟨d, hdk⟩ : ∃ d, d = l.getD k NodeD.zero := ⟨_, rfl⟩
                rw [← hdk] at hc hsz hA
                have HDK := hide hdk
                clear hdk
                have c0 := hc 0 _ rfl
                have c1 := hc 1 _ rfl
                have c2 := hc 2 _ rfl
                simp only [Nat.add_zero] at c0
                clear hc
                go_wp2_with fail
                refine (specValidAction_any _ d.cost aa ca d.steps hsz.steps hsz.each hA).mono ?_
                rintro e w1 ⟨hsay, hw1⟩
                have hw2 := hw.trans hw1
                clear hw hw1 c0 c1 c2 hA hc1 hf1
                rcases hsay.cases with ⟨rfl, hyes⟩ | ⟨rfl, hno⟩
                · have HY := hide hyes
                  clear hyes hsay
                  go_wp2
                  go_roundw
                  case rel =>
                    refine ⟨k + 1, by omega, by go_num, hw2, fun j hj => ?_⟩
                    by_cases e : j = k
                    · subst e
                      rw [← HDK.out]
                      exact fun h => h HY.out
                    · exact HG.out j (by omega)
                  case measure => simp [intOf]; omega
                · have HN := hide hno
                  clear hno hsay
                  go_wp2
                  go_ret
                  exact ⟨⟨4, rfl, Or.inr (Or.inr (Or.inr (Or.inl ⟨by omega, HB.out, HC.out, ⟨k, hlt, by rw [← HDK.out]; exact HN.out⟩, rfl⟩)))⟩, k0.trans hw2⟩
              · go_wp2
                go_ret
                exact ⟨⟨0, rfl, Or.inr (Or.inr (Or.inr (Or.inr ⟨by omega, HB.out, HC.out, fun ⟨i, hi, h⟩ => HG.out i (by omega) h, rfl⟩)))⟩, k0.trans hw⟩

end Go.Proofs.YtinkfgkjdaaeaaaGreatDoor

namespace Go.Proofs.YtinkfgkjdaaeaaaGreatDoor
open Go.RowKit

end Go.Proofs.YtinkfgkjdaaeaaaGreatDoor

namespace Go.Proofs.YtinkfgkjdaaeaaaGreatDoor
open Go.RowKit

end Go.Proofs.YtinkfgkjdaaeaaaGreatDoor

namespace Go.Proofs.YtinkfgkjdaaeaaaGreatDoor
open Go.RowKit

def PackedN (w : World) (xs : List Value) (l : List NodeD) : Prop :=
  xs.length = l.length * 3 ∧ ∀ i, i < l.length → ∃ v, (xs.drop (i * 3)).take 3 = [.string (l.getD i NodeD.zero).name, .int .i64 (l.getD i NodeD.zero).cost, v] ∧ TSteps w 59 9 61 v (l.getD i NodeD.zero).steps
theorem PackedN.nil (w : World) : PackedN w [] [] := ⟨rfl, fun i hi => by simp at hi⟩
theorem PackedN.same {w w' : World} {u : TypeId} {xs : List Value} {l : List NodeD} (h : PackedN w xs l) (k : SameKind u w w') (h0 : 59 ≠ u) (h1 : 9 ≠ u) (h2 : 61 ≠ u) : PackedN w' xs l :=
  ⟨h.1, fun i hi => by obtain ⟨v, e, g⟩ := h.2 i hi; exact ⟨v, e, g.same k h0 h1 h2⟩⟩
theorem PackedN.snoc {w : World} {xs : List Value} {l : List NodeD} {d : NodeD} {v : Value} (h : PackedN w xs l) (hv : TSteps w 59 9 61 v d.steps) : PackedN w (xs ++ [.string d.name, .int .i64 d.cost, v]) (l ++ [d]) := by
  refine ⟨by simp [h.1]; omega, fun i hi => ?_⟩
  rw [List.length_append] at hi
  simp only [List.length_cons, List.length_nil] at hi
  by_cases e : i < l.length
  · have e1 : (l ++ [d]).getD i NodeD.zero = l.getD i NodeD.zero := by simp [List.getD, List.getElem?_append_left e]
    have e2 : ((xs ++ [.string d.name, .int .i64 d.cost, v]).drop (i * 3)).take 3 = (xs.drop (i * 3)).take 3 := by
      rw [List.drop_append_of_le_length (by rw [h.1]; omega), List.take_append_of_le_length (by rw [List.length_drop, h.1]; omega)]
    rw [e1, e2]
    exact h.2 i e
  · obtain rfl : i = l.length := by omega
    have e1 : (l ++ [d]).getD l.length NodeD.zero = d := by simp [List.getD]
    have e2 : ((xs ++ [.string d.name, .int .i64 d.cost, v]).drop (l.length * 3)).take 3 = [.string d.name, .int .i64 d.cost, v] := by
      rw [← h.1, List.drop_left]
      rfl
    rw [e1, e2]
    exact ⟨v, rfl, hv⟩
theorem PackedN.nodes {w : World} {base : Nat} {v : Value} {xs : List Value} {l : List NodeD} (hO : w.ownsRow base 54 3 v l.length xs) (h : PackedN w xs l) : ∃ a cap, v = .slice a l.length cap ∧ Nodes w a l := by
  rcases hO.2 with ⟨rfl, h0⟩ | ⟨g, cap, cur, rfl, hb, hg, hnc, _, _, _⟩
  · exact ⟨none, 0, by rw [h0], fun i hi => by omega⟩
  · refine ⟨_, cap, rfl, fun i hi => ?_⟩
    obtain ⟨u, e, hT⟩ := h.2 i hi
    obtain ⟨a, c, rfl, hSt⟩ := hT.steps
    refine ⟨g, 0, _, rfl, heap_lt hg, fun j x hx => ?_, a, c, rfl, hSt⟩
    have hj : j < 3 := by have := (List.getElem?_eq_some_iff.1 hx).1; simpa [NodeD.cells] using this
    have hx' : ((xs.drop (i * 3)).take 3)[j]? = some x := by rw [e]; exact hx
    rw [List.getElem?_take, if_pos hj, List.getElem?_drop] at hx'
    have := hO.cells (g := g) rfl _ _ hx'
    rw [Addr.add_mid] at this
    rw [Nat.zero_add] at this ⊢
    exact this

end Go.Proofs.YtinkfgkjdaaeaaaGreatDoor
