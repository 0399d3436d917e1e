import Derived.Test.YtghipdfemoofhaaGreatDoorKWGo7
import Derived.Test.YtghipdfemoofhaaGreatDoorKWWeb
import Derived.Test.YtghipdfemoofhaaGreatDoorKWNode
import Derived.Test.YtghipdfemoofhaaGreatDoorKWImpl
import Derived.Test.YtghipdfemoofhaaGreatDoorKDBase
import Derived.OwnWalk

namespace Go.Proofs.YtghipdfemoofhaaGreatDoor
open Go.RowKit

theorem specGoOn_any (w : World) (cost at' : Int) (a d : Option Addr) (cap dcap : Nat) (l : List StepD) (ans : List AnswerD) (hl : l.length ≤ maxLen) (hs : ∀ s ∈ l, s.Fits) (hS : Steps w a l)
    (hal : ans.length ≤ maxLen) (has : ∀ c ∈ ans, c.text.size ≤ maxLen) (hD : Answers w d ans) :
    Calls Tryz.prog 125 #[.agg #[.int .i64 cost, .slice a l.length cap], .int .i64 at', .slice d ans.length dcap] w fun e w' => (∃ g, e = .returned (.agg g.cells.toArray) ∧ WentOn cost l at' ans g) ∧ Kept w w' := by
  by_cases h : FrontGo cost l at' ∧ ans.length = (stepAt l at').asks.length
  · exact specGoOn_yes w cost at' a d cap dcap l ans hl hs hS hal has hD h.1 h.2
  · exact specGoOn_no w cost at' a d cap dcap l ans hl hs hS hal has hD h

end Go.Proofs.YtghipdfemoofhaaGreatDoor

namespace Go.Proofs.YtghipdfemoofhaaGreatDoor
open Go.RowKit

def NoneN (l : List NodeD) (p : NodeD → Prop) (k : Nat) : Prop := ∀ j, j < k → ¬ p (l.getD j NodeD.zero)
def SomeN (l : List NodeD) (p : NodeD → Prop) : Prop := ∃ i, i < l.length ∧ p (l.getD i NodeD.zero)
def FirstN (l : List NodeD) (p : NodeD → Prop) (r : Int) : Prop :=
  (∃ i, i < l.length ∧ r = (i : Int) ∧ p (l.getD i NodeD.zero)) ∨ (r = -1 ∧ NoneN l p l.length)
def BadName (d : NodeD) : Prop := ¬ NameOk d.name
def BadMade (d : NodeD) : Prop := ¬ ActionOk ⟨d.cost, d.steps⟩

theorem badlyNamed_any (w : World) (d : NodeD) (a : Option Addr) (cap : Nat) (hd : d.Fits) :
    Calls Tryz.prog 142 #[.agg #[.string d.name, .int .i64 d.cost, .slice a d.steps.length cap]] w fun e w' => Says e (BadName d) ∧ Kept w w' := by
  have k0 : Kept w (w.alloc (.cells #[.string d.name, .int .i64 d.cost, .slice a d.steps.length cap] 95)) := (Kept.refl _).alloc _
  go_enter Tryz.func142, Tryz.ntmps142
  go_wp2_with fail
  refine (validName_any _ d.name hd.name).mono ?_
  rintro e w1 ⟨hsay, k1⟩
  have k2 := k0.trans k1
  clear k0 k1
  rcases hsay.cases with ⟨rfl, hyes⟩ | ⟨rfl, hno⟩
  · have HY := hide hyes
    clear hyes hsay
    go_wp2
    go_ret
    exact ⟨Says.no fun h => h HY.out, k2⟩
  · have HY := hide hno
    clear hno hsay
    go_wp2
    go_ret
    exact ⟨Says.yes HY.out, k2⟩

theorem badlyMade_any (w : World) (d : NodeD) (a : Option Addr) (cap : Nat) (hd : d.Fits) (hS : Steps w a d.steps) :
    Calls Tryz.prog 144 #[.agg #[.string d.name, .int .i64 d.cost, .slice a d.steps.length cap]] w fun e w' => Says e (BadMade d) ∧ Kept w w' := by
  have k0 : Kept w (w.alloc (.cells #[.string d.name, .int .i64 d.cost, .slice a d.steps.length cap] 95)) := (Kept.refl _).alloc _
  go_enter Tryz.func144, Tryz.ntmps144
  go_wp2_with fail
  refine (implValidAction_any _ d.cost a cap d.steps hd.steps hd.each (hS.kept k0)).mono ?_
  rintro e w1 ⟨hsay, k1⟩
  have k2 := k0.trans k1
  clear k0 k1
  rcases hsay.cases with ⟨rfl, hyes⟩ | ⟨rfl, hno⟩
  · have HY := hide hyes
    clear hyes hsay
    go_wp2
    go_ret
    exact ⟨Says.no fun h => h HY.out, k2⟩
  · have HY := hide hno
    clear hno hsay
    go_wp2
    go_ret
    exact ⟨Says.yes HY.out, k2⟩

set_option maxRecDepth 100000 in
set_option maxHeartbeats 800000 in
theorem indexNamed (w : World) (a : Option Addr) (cap : Nat) (l : List NodeD) (hl : l.length ≤ maxLen) (hs : ∀ c ∈ l, c.Fits) (hS : Nodes w a l) :
    Calls Tryz.prog 169 #[.slice a l.length cap, .func (.func 142) #[] #[]] w fun e w' => (∃ r, e = .returned (.int .i64 r) ∧ FirstN l BadName r) ∧ Kept w w' := by
  unfold maxLen at hl
  go_enter Tryz.func169, Tryz.ntmps169
  go_wp2
  go_loopw [8] (fun i wr => ∃ k : Nat, k ≤ l.length ∧ i = .int .i64 k ∧ Kept w wr ∧ NoneN l BadName k) (fun i _ => l.length - (intOf i).toNat)
  case atStart => exact ⟨0, Nat.zero_le _, rfl, Kept.refl _, fun j hj => absurd hj (Nat.not_lt_zero _)⟩
  case round =>
    obtain ⟨k, hk, rfl, hw, hg⟩ := hrel
    have HG := hide hg
    clear hg
    by_cases hlt : k < l.length
    · obtain ⟨b, o, cs, rfl, hb, hc, aa, ca, rfl, hA⟩ := hS.kept hw k hlt
      have hsz := hs (l.getD k NodeD.zero) (by simp [List.getD, hlt])
      obtain ⟨c, hck⟩ : ∃ c, c = l.getD k NodeD.zero := ⟨_, rfl⟩
      rw [← hck] at hc hsz hA
      have HCK := hide hck
      clear hck
      have c0 := hc 0 _ rfl
      have c1 := hc 1 _ rfl
      have c2 := hc 2 _ rfl
      simp only [Nat.add_zero] at c0
      clear hc
      go_wp2_with fail
      refine (badlyNamed_any _ c aa ca hsz).mono ?_
      rintro e w1 ⟨hsay, hw1⟩
      have hw2 := hw.trans hw1
      clear c0 c1 c2 hw hw1
      rcases hsay.cases with ⟨rfl, hyes⟩ | ⟨rfl, hno⟩
      · have HY := hide hyes
        clear hyes hsay
        go_wp2
        go_ret
        exact ⟨⟨k, rfl, Or.inl ⟨k, hlt, rfl, by rw [← HCK.out]; exact HY.out⟩⟩, hw2⟩
      · have HN := hide hno
        clear hno hsay
        go_wp2
        go_roundw
        case rel =>
          refine ⟨k + 1, by omega, by go_num, hw2, fun j hj => ?_⟩
          by_cases e : j = k
          · subst e
            rw [← HCK.out]
            exact HN.out
          · exact HG.out j (by omega)
        case measure => simp [intOf]; omega
    · go_wp2
      go_ret
      exact ⟨⟨-1, rfl, Or.inr ⟨rfl, fun j hj => HG.out j (by omega)⟩⟩, hw⟩

set_option maxRecDepth 100000 in
set_option maxHeartbeats 800000 in
theorem indexMade (w : World) (a : Option Addr) (cap : Nat) (l : List NodeD) (hl : l.length ≤ maxLen) (hs : ∀ c ∈ l, c.Fits) (hS : Nodes w a l) :
    Calls Tryz.prog 169 #[.slice a l.length cap, .func (.func 144) #[] #[]] w fun e w' => (∃ r, e = .returned (.int .i64 r) ∧ FirstN l BadMade r) ∧ Kept w w' := by
  unfold maxLen at hl
  go_enter Tryz.func169, Tryz.ntmps169
  go_wp2
  go_loopw [8] (fun i wr => ∃ k : Nat, k ≤ l.length ∧ i = .int .i64 k ∧ Kept w wr ∧ NoneN l BadMade k) (fun i _ => l.length - (intOf i).toNat)
  case atStart => exact ⟨0, Nat.zero_le _, rfl, Kept.refl _, fun j hj => absurd hj (Nat.not_lt_zero _)⟩
  case round =>
    obtain ⟨k, hk, rfl, hw, hg⟩ := hrel
    have HG := hide hg
    clear hg
    by_cases hlt : k < l.length
    · obtain ⟨b, o, cs, rfl, hb, hc, aa, ca, rfl, hA⟩ := hS.kept hw k hlt
      have hsz := hs (l.getD k NodeD.zero) (by simp [List.getD, hlt])
      obtain ⟨c, hck⟩ : ∃ c, c = l.getD k NodeD.zero := ⟨_, rfl⟩
      rw [← hck] at hc hsz hA
      have HCK := hide hck
      clear hck
      have c0 := hc 0 _ rfl
      have c1 := hc 1 _ rfl
      have c2 := hc 2 _ rfl
      simp only [Nat.add_zero] at c0
      clear hc
      go_wp2_with fail
      refine (badlyMade_any _ c aa ca hsz hA).mono ?_
      rintro e w1 ⟨hsay, hw1⟩
      have hw2 := hw.trans hw1
      clear c0 c1 c2 hw hw1
      rcases hsay.cases with ⟨rfl, hyes⟩ | ⟨rfl, hno⟩
      · have HY := hide hyes
        clear hyes hsay
        go_wp2
        go_ret
        exact ⟨⟨k, rfl, Or.inl ⟨k, hlt, rfl, by rw [← HCK.out]; exact HY.out⟩⟩, hw2⟩
      · have HN := hide hno
        clear hno hsay
        go_wp2
        go_roundw
        case rel =>
          refine ⟨k + 1, by omega, by go_num, hw2, fun j hj => ?_⟩
          by_cases e : j = k
          · subst e
            rw [← HCK.out]
            exact HN.out
          · exact HG.out j (by omega)
        case measure => simp [intOf]; omega
    · go_wp2
      go_ret
      exact ⟨⟨-1, rfl, Or.inr ⟨rfl, fun j hj => HG.out j (by omega)⟩⟩, hw⟩

theorem containsNamed (w : World) (a : Option Addr) (cap : Nat) (l : List NodeD) (hl : l.length ≤ maxLen) (hs : ∀ c ∈ l, c.Fits) (hS : Nodes w a l) :
    Calls Tryz.prog 141 #[.slice a l.length cap, .func (.func 142) #[] #[]] w fun e w' => Says e (SomeN l BadName) ∧ Kept w w' := by
  go_enter Tryz.func141, Tryz.ntmps141
  go_wp2_with fail
  refine (indexNamed _ a cap l hl hs hS).mono ?_
  rintro e w1 ⟨⟨r, rfl, hr⟩, k1⟩
  have HR := hide hr
  clear hr
  by_cases h0 : 0 ≤ r
  · have h1 : decide (0 ≤ r) = true := by simpa using h0
    go_wp2
    go_ret
    exact ⟨Says.yes (by rcases HR.out with ⟨i, hi, _, hp⟩ | ⟨rfl, _⟩; exact ⟨i, hi, hp⟩; omega), k1⟩
  · have h1 : decide (0 ≤ r) = false := by simpa using h0
    go_wp2
    go_ret
    exact ⟨Says.no (by rcases HR.out with ⟨i, hi, rfl, hp⟩ | ⟨rfl, hno⟩; omega; exact fun ⟨i, hi, hp⟩ => hno i hi hp), k1⟩

theorem containsMade (w : World) (a : Option Addr) (cap : Nat) (l : List NodeD) (hl : l.length ≤ maxLen) (hs : ∀ c ∈ l, c.Fits) (hS : Nodes w a l) :
    Calls Tryz.prog 141 #[.slice a l.length cap, .func (.func 144) #[] #[]] w fun e w' => Says e (SomeN l BadMade) ∧ Kept w w' := by
  go_enter Tryz.func141, Tryz.ntmps141
  go_wp2_with fail
  refine (indexMade _ a cap l hl hs hS).mono ?_
  rintro e w1 ⟨⟨r, rfl, hr⟩, k1⟩
  have HR := hide hr
  clear hr
  by_cases h0 : 0 ≤ r
  · have h1 : decide (0 ≤ r) = true := by simpa using h0
    go_wp2
    go_ret
    exact ⟨Says.yes (by rcases HR.out with ⟨i, hi, _, hp⟩ | ⟨rfl, _⟩; exact ⟨i, hi, hp⟩; omega), k1⟩
  · have h1 : decide (0 ≤ r) = false := by simpa using h0
    go_wp2
    go_ret
    exact ⟨Says.no (by rcases HR.out with ⟨i, hi, rfl, hp⟩ | ⟨rfl, hno⟩; omega; exact fun ⟨i, hi, hp⟩ => hno i hi hp), k1⟩

end Go.Proofs.YtghipdfemoofhaaGreatDoor

namespace Go.Proofs.YtghipdfemoofhaaGreatDoor
open Go.RowKit

def FallsAt (l : List NodeD) (i : Nat) : Prop := Op.bytesLess (l.getD i NodeD.zero).name.toList (l.getD (i + 1) NodeD.zero).name.toList = false
def SomeFalls (l : List NodeD) : Prop := ∃ i, i + 1 < l.length ∧ FallsAt l i
def RisesTo (l : List NodeD) (k : Nat) : Prop := ∀ j, j + 1 < k → ¬ FallsAt l j

def WebCode (l : List NodeD) (c : Int) : Prop :=
  (60 < l.length ∧ c = 1) ∨ (¬ 60 < l.length ∧ SomeN l BadName ∧ c = 2) ∨ (¬ 60 < l.length ∧ ¬ SomeN l BadName ∧ SomeFalls l ∧ c = 3) ∨
  (¬ 60 < l.length ∧ ¬ SomeN l BadName ∧ ¬ SomeFalls l ∧ SomeN l BadMade ∧ c = 4) ∨ (¬ 60 < l.length ∧ ¬ SomeN l BadName ∧ ¬ SomeFalls l ∧ ¬ SomeN l BadMade ∧ c = 0)

theorem WebCode.unique {l : List NodeD} {c c' : Int} (h : WebCode l c) (h' : WebCode l c') : c = c' := by
  rcases h with ⟨h1, rfl⟩ | ⟨h1, h2, rfl⟩ | ⟨h1, h2, h3, rfl⟩ | ⟨h1, h2, h3, h4, rfl⟩ | ⟨h1, h2, h3, h4, rfl⟩ <;>
    rcases h' with ⟨g1, rfl⟩ | ⟨g1, g2, rfl⟩ | ⟨g1, g2, g3, rfl⟩ | ⟨g1, g2, g3, g4, rfl⟩ | ⟨g1, g2, g3, g4, rfl⟩ <;> first | rfl | contradiction

set_option maxRecDepth 100000 in
set_option maxHeartbeats 3200000 in
theorem specCheckWeb_any (w : World) (a : Option Addr) (cap : Nat) (l : List NodeD) (hl : l.length ≤ maxLen) (hs : ∀ s ∈ l, s.Fits) (hS : Nodes w a l) :
    Calls Tryz.prog 60 #[.agg #[.slice a l.length cap]] w fun e w' => (∃ c, e = .returned (.int .i64 c) ∧ WebCode l c) ∧ Kept w w' := by
  unfold maxLen at hl
  have k0 : Kept w (w.alloc (.cells #[.slice a l.length cap] 34)) := (Kept.refl _).alloc _
  by_cases a1 : (60 : Int) < l.length
  · go_enter Tryz.func60, Tryz.ntmps60
    go_wp2
    go_ret
    exact ⟨⟨1, rfl, Or.inl ⟨by omega, rfl⟩⟩, k0⟩
  · have a2 : decide ((60 : Int) < l.length) = false := by simpa using a1
    go_enter Tryz.func60, Tryz.ntmps60
    go_wp2
    clear a2
    go_loopw [3] (fun i wr => ∃ k : Nat, k ≤ l.length ∧ i = .int .i64 k ∧ Kept (w.alloc (.cells #[.slice a l.length cap] 34)) wr ∧ NoneN l BadName k) (fun i _ => l.length - (intOf i).toNat)
    case atStart => exact ⟨0, Nat.zero_le _, rfl, Kept.refl _, fun j hj => absurd hj (Nat.not_lt_zero _)⟩
    case round =>
      obtain ⟨k, hk, rfl, hw, hg⟩ := hrel
      have HG := hide hg
      clear hg
      obtain ⟨hc1, hf1⟩ := hw.rules
      have hz1 := hw.size
      simp only [World.size_alloc] at hz1
      by_cases hlt : k < l.length
      · obtain ⟨b, o, cs, rfl, hb, hc, aa, ca, rfl, hA⟩ := (hS.kept k0).kept hw k hlt
        have hsz := hs (l.getD k NodeD.zero) (by simp [List.getD, hlt])
        obtain ⟨d, hdk⟩ : ∃ d, d = l.getD k NodeD.zero := ⟨_, rfl⟩
        rw [← hdk] at hc hsz
        have HDK := hide hdk
        clear hdk
        have c0 := hc 0 _ rfl
        simp only [Nat.add_zero] at c0
        clear hc hA
        go_wp2_with fail
        refine (l1NameOk_any _ d.name hsz.name).mono ?_
        rintro e w1 ⟨hsay, hw1⟩
        have hw1' := Eq.symm hw1
        clear hw1
        subst hw1'
        rcases hsay.cases with ⟨rfl, hyes⟩ | ⟨rfl, hno⟩
        · have HY := hide hyes
          clear hyes hsay c0
          go_wp2
          go_roundw
          case rel =>
            refine ⟨k + 1, by omega, by go_num, hw, fun j hj => ?_⟩
            by_cases e : j = k
            · subst e
              rw [← HDK.out]
              exact fun h => h HY.out
            · exact HG.out j (by omega)
          case measure => simp [intOf]; omega
        · have HN := hide hno
          clear hno hsay c0
          go_wp2
          go_ret
          exact ⟨⟨2, rfl, Or.inr (Or.inl ⟨by omega, ⟨k, hlt, by rw [← HDK.out]; exact HN.out⟩, rfl⟩)⟩, k0.trans hw⟩
      · have HB : Hid (¬ SomeN l BadName) := fun ⟨i, hi, h⟩ => HG.out i (by omega) h
        clear HG
        go_wp2
        clear hc1 hf1 hz1
        go_loopw [4] (fun i wr' => ∃ n : Nat, 1 ≤ n ∧ n ≤ l.length + 1 ∧ i = .int .i64 n ∧ Kept (w.alloc (.cells #[.slice a l.length cap] 34)) wr' ∧ RisesTo l n) (fun i _ => l.length + 2 - (intOf i).toNat)
        case atStart => exact ⟨1, by omega, by omega, rfl, hw, fun j hj => absurd hj (by omega)⟩
        case round =>
          clear hw hk hlt
          obtain ⟨n, hn1, hn2, rfl, hw, hg⟩ := hrel
          have HG := hide hg
          clear hg
          obtain ⟨hc1, hf1⟩ := hw.rules
          have hz1 := hw.size
          simp only [World.size_alloc] at hz1
          by_cases hlt : n < l.length
          · obtain ⟨b, o, cs, rfl, hb, hc, aa, ca, rfl, hA⟩ := (hS.kept k0).kept hw (n - 1) (by omega)
            obtain ⟨b', o', cs', e', hb', hc', ba, da, rfl, hA'⟩ := (hS.kept k0).kept hw n hlt
            simp only [Option.some.injEq, Addr.mk.injEq, and_true] at e'
            obtain ⟨rfl, rfl⟩ := e'
            obtain ⟨x, hxk⟩ : ∃ x, x = (l.getD (n - 1) NodeD.zero) := ⟨_, rfl⟩
            obtain ⟨y, hyk⟩ : ∃ y, y = (l.getD n NodeD.zero) := ⟨_, rfl⟩
            rw [← hxk] at hc
            rw [← hyk] at hc'
            have HX : Hid (l.getD (n - 1) NodeD.zero = x) := hxk.symm
            have HYK : Hid (l.getD (n - 1 + 1) NodeD.zero = y) := by rw [hyk, show n - 1 + 1 = n by omega]; exact rfl
            clear hxk hyk hA hA'
            have c0 := hc 0 _ rfl
            have d0 := hc' 0 _ rfl
            simp only [Nat.add_zero] at c0 d0
            clear hc hc'
            have i0 : (0 : Int) ≤ (n : Int) - 1 := by omega
            have i1 : (n : Int) - 1 < (l.length : Int) := by omega
            cases hbl : Op.bytesLess x.name.toList y.name.toList
            · go_wp2
              go_region
              all_goals
                go_wp2
                go_ret
                exact ⟨⟨3, rfl, Or.inr (Or.inr (Or.inl ⟨by omega, HB.out, ⟨n - 1, by omega, by unfold FallsAt; rw [HX.out, HYK.out]; exact hbl⟩, rfl⟩))⟩, k0.trans (by repeat (first | apply Kept.drew | exact hw))⟩
            · go_wp2
              go_region
              all_goals
                go_wp2
                go_roundw
                case rel =>
                  refine ⟨n + 1, by omega, by omega, by go_num, by repeat (first | apply Kept.drew | exact hw), fun j hj => ?_⟩
                  by_cases e : j = n - 1
                  · subst e
                    unfold FallsAt
                    rw [HX.out, HYK.out, hbl]
                    simp
                  · exact HG.out j (by omega)
                case measure => simp [intOf]; omega
          · have HC : Hid (¬ SomeFalls l) := fun ⟨i, hi, h⟩ => HG.out i (by omega) h
            clear HG
            go_wp2
            clear hc1 hf1 hz1
            go_loopw [5] (fun i wr' => ∃ k : Nat, k ≤ l.length ∧ i = .int .i64 k ∧ Kept (w.alloc (.cells #[.slice a l.length cap] 34)) wr' ∧ NoneN l BadMade k) (fun i _ => l.length - (intOf i).toNat)
            case atStart => exact ⟨0, Nat.zero_le _, rfl, hw, fun j hj => absurd hj (Nat.not_lt_zero _)⟩
            case round =>
              clear hw hlt
              obtain ⟨k, hk, rfl, hw, hg⟩ := hrel
              have HG := hide hg
              clear hg
              obtain ⟨hc1, hf1⟩ := hw.rules
              have hz1 := hw.size
              simp only [World.size_alloc] at hz1
              by_cases hlt : k < l.length
              · obtain ⟨b, o, cs, rfl, hb, hc, aa, ca, rfl, hA⟩ := (hS.kept k0).kept hw k hlt
                have hsz := hs (l.getD k NodeD.zero) (by simp [List.getD, hlt])
                obtain ⟨d, hdk⟩ : ∃ d, d = l.getD k NodeD.zero := ⟨_, rfl⟩
                rw [← hdk] at hc hsz hA
                have HDK := hide hdk
                clear hdk
                have c0 := hc 0 _ rfl
                have c1 := hc 1 _ rfl
                have c2 := hc 2 _ rfl
                simp only [Nat.add_zero] at c0
                clear hc
                go_wp2_with fail
                refine (specValidAction_any _ d.cost aa ca d.steps hsz.steps hsz.each hA).mono ?_
                rintro e w1 ⟨hsay, hw1⟩
                have hw2 := hw.trans hw1
                clear hw hw1 c0 c1 c2 hA hc1 hf1
                rcases hsay.cases with ⟨rfl, hyes⟩ | ⟨rfl, hno⟩
                · have HY := hide hyes
                  clear hyes hsay
                  go_wp2
                  go_roundw
                  case rel =>
                    refine ⟨k + 1, by omega, by go_num, hw2, fun j hj => ?_⟩
                    by_cases e : j = k
                    · subst e
                      rw [← HDK.out]
                      exact fun h => h HY.out
                    · exact HG.out j (by omega)
                  case measure => simp [intOf]; omega
                · have HN := hide hno
                  clear hno hsay
                  go_wp2
                  go_ret
                  exact ⟨⟨4, rfl, Or.inr (Or.inr (Or.inr (Or.inl ⟨by omega, HB.out, HC.out, ⟨k, hlt, by rw [← HDK.out]; exact HN.out⟩, rfl⟩)))⟩, k0.trans hw2⟩
              · go_wp2
                go_ret
                exact ⟨⟨0, rfl, Or.inr (Or.inr (Or.inr (Or.inr ⟨by omega, HB.out, HC.out, fun ⟨i, hi, h⟩ => HG.out i (by omega) h, rfl⟩)))⟩, k0.trans hw⟩

end Go.Proofs.YtghipdfemoofhaaGreatDoor

namespace Go.Proofs.YtghipdfemoofhaaGreatDoor
open Go.RowKit

def Packed (w : World) (cs : List Value) (l : List NodeD) : Prop :=
  cs.length = l.length * 3 ∧ (∀ u ∈ cs, u.oneCell' = true) ∧ ∀ i, i < l.length → ∃ a cap, Steps w a (l.getD i NodeD.zero).steps ∧ ∀ t v, ((l.getD i NodeD.zero).cells a cap)[t]? = some v → cs[i * 3 + t]? = some v

theorem Packed.nil (w : World) : Packed w [] [] := ⟨rfl, (fun u hu => by cases hu), (fun i hi => by simp at hi)⟩
theorem Packed.kept {w w' : World} {cs : List Value} {l : List NodeD} (h : Packed w cs l) (k : Kept w w') : Packed w' cs l :=
  ⟨h.1, h.2.1, fun i hi => by obtain ⟨a, cap, h1, h2⟩ := h.2.2 i hi; exact ⟨a, cap, h1.kept k, h2⟩⟩
theorem Packed.append {w : World} {c1 c2 : List Value} {l1 l2 : List NodeD} (h1 : Packed w c1 l1) (h2 : Packed w c2 l2) : Packed w (c1 ++ c2) (l1 ++ l2) := by
  refine ⟨by rw [List.length_append, List.length_append, h1.1, h2.1, Nat.add_mul], fun u hu => ?_, fun i hi => ?_⟩
  · rcases List.mem_append.1 hu with h | h
    · exact h1.2.1 u h
    · exact h2.2.1 u h
  · by_cases hlt : i < l1.length
    · have e : (l1 ++ l2).getD i NodeD.zero = l1.getD i NodeD.zero := by simp [List.getD, List.getElem?_append_left hlt]
      rw [e]
      obtain ⟨a, cap, g1, g2⟩ := h1.2.2 i hlt
      refine ⟨a, cap, g1, fun t v hv => ?_⟩
      have := g2 t v hv
      rw [List.getElem?_append_left (List.getElem?_eq_some_iff.1 this).1]
      exact this
    · have hi2 : i - l1.length < l2.length := by rw [List.length_append] at hi; omega
      have e : (l1 ++ l2).getD i NodeD.zero = l2.getD (i - l1.length) NodeD.zero := by simp [List.getD, List.getElem?_append_right (by omega : l1.length ≤ i)]
      rw [e]
      obtain ⟨a, cap, g1, g2⟩ := h2.2.2 _ hi2
      refine ⟨a, cap, g1, fun t v hv => ?_⟩
      have := g2 t v hv
      rw [List.getElem?_append_right (by rw [h1.1]; omega), h1.1]
      have e2 : i * 3 + t - l1.length * 3 = (i - l1.length) * 3 + t := by omega
      rw [e2]
      exact this

end Go.Proofs.YtghipdfemoofhaaGreatDoor
