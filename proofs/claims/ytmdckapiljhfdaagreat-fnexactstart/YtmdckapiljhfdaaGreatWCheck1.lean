import Derived.Test.YtmdckapiljhfdaaGreatWWeb
import Derived.Test.YtmdckapiljhfdaaGreatWImpl5

/-
  WALKS toward the program's CheckWeb: badlyNamed, badlyMade, slices.IndexFunc and ContainsFunc over nodes.
-/
namespace Go.Proofs.YtmdckapiljhfdaaGreat
open Go.RowKit

def NoneN (l : List NodeD) (p : NodeD → Prop) (k : Nat) : Prop := ∀ j, j < k → ¬ p (l.getD j NodeD.zero)
def SomeN (l : List NodeD) (p : NodeD → Prop) : Prop := ∃ i, i < l.length ∧ p (l.getD i NodeD.zero)
def FirstN (l : List NodeD) (p : NodeD → Prop) (r : Int) : Prop :=
  (∃ i, i < l.length ∧ r = (i : Int) ∧ p (l.getD i NodeD.zero)) ∨ (r = -1 ∧ NoneN l p l.length)
def BadName (d : NodeD) : Prop := ¬ NameOk d.name
def BadMade (d : NodeD) : Prop := ¬ ActionOk ⟨d.cost, d.steps⟩

theorem badlyNamed_any (w : World) (d : NodeD) (a : Option Addr) (cap : Nat) (hd : d.Fits) :
    Calls Tryz.prog 57 #[.agg #[.string d.name, .int .i64 d.cost, .slice a d.steps.length cap]] w fun e w' => Says e (BadName d) ∧ Kept w w' := by
  have k0 : Kept w (w.alloc (.cells #[.string d.name, .int .i64 d.cost, .slice a d.steps.length cap] 72)) := (Kept.refl _).alloc _
  go_enter Tryz.func57, Tryz.ntmps57
  go_wp2_with fail
  refine (validName_any _ d.name hd.name).mono ?_
  rintro e w1 ⟨hsay, k1⟩
  have k2 := k0.trans k1
  clear k0 k1
  rcases hsay.cases with ⟨rfl, hyes⟩ | ⟨rfl, hno⟩
  · have HY := hide hyes
    clear hyes hsay
    go_wp2
    go_ret
    exact ⟨Says.no fun h => h HY.out, k2⟩
  · have HY := hide hno
    clear hno hsay
    go_wp2
    go_ret
    exact ⟨Says.yes HY.out, k2⟩

theorem badlyMade_any (w : World) (d : NodeD) (a : Option Addr) (cap : Nat) (hd : d.Fits) (hS : Steps w a d.steps) :
    Calls Tryz.prog 59 #[.agg #[.string d.name, .int .i64 d.cost, .slice a d.steps.length cap]] w fun e w' => Says e (BadMade d) ∧ Kept w w' := by
  have k0 : Kept w (w.alloc (.cells #[.string d.name, .int .i64 d.cost, .slice a d.steps.length cap] 72)) := (Kept.refl _).alloc _
  go_enter Tryz.func59, Tryz.ntmps59
  go_wp2_with fail
  refine (implValidAction_any _ d.cost a cap d.steps hd.steps hd.each (hS.kept k0)).mono ?_
  rintro e w1 ⟨hsay, k1⟩
  have k2 := k0.trans k1
  clear k0 k1
  rcases hsay.cases with ⟨rfl, hyes⟩ | ⟨rfl, hno⟩
  · have HY := hide hyes
    clear hyes hsay
    go_wp2
    go_ret
    exact ⟨Says.no fun h => h HY.out, k2⟩
  · have HY := hide hno
    clear hno hsay
    go_wp2
    go_ret
    exact ⟨Says.yes HY.out, k2⟩

set_option maxRecDepth 100000 in
set_option maxHeartbeats 800000 in
theorem indexNamed (w : World) (a : Option Addr) (cap : Nat) (l : List NodeD) (hl : l.length ≤ maxLen) (hs : ∀ c ∈ l, c.Fits) (hS : Nodes w a l) :
    Calls Tryz.prog 71 #[.slice a l.length cap, .func (.func 57) #[] #[]] w fun e w' => (∃ r, e = .returned (.int .i64 r) ∧ FirstN l BadName r) ∧ Kept w w' := by
  unfold maxLen at hl
  go_enter Tryz.func71, Tryz.ntmps71
  go_wp2
  go_loopw [8] (fun i wr => ∃ k : Nat, k ≤ l.length ∧ i = .int .i64 k ∧ Kept w wr ∧ NoneN l BadName k) (fun i _ => l.length - (intOf i).toNat)
  case atStart => exact ⟨0, Nat.zero_le _, rfl, Kept.refl _, fun j hj => absurd hj (Nat.not_lt_zero _)⟩
  case round =>
    obtain ⟨k, hk, rfl, hw, hg⟩ := hrel
    have HG := hide hg
    clear hg
    by_cases hlt : k < l.length
    · obtain ⟨b, o, cs, rfl, hb, hc, aa, ca, rfl, hA⟩ := hS.kept hw k hlt
      have hsz := hs (l.getD k NodeD.zero) (by simp [List.getD, hlt])
      obtain ⟨c, hck⟩ : ∃ c, c = l.getD k NodeD.zero := ⟨_, rfl⟩
      rw [← hck] at hc hsz hA
      have HCK := hide hck
      clear hck
      have c0 := hc 0 _ rfl
      have c1 := hc 1 _ rfl
      have c2 := hc 2 _ rfl
      simp only [Nat.add_zero] at c0
      clear hc
      go_wp2_with fail
      refine (badlyNamed_any _ c aa ca hsz).mono ?_
      rintro e w1 ⟨hsay, hw1⟩
      have hw2 := hw.trans hw1
      clear c0 c1 c2 hw hw1
      rcases hsay.cases with ⟨rfl, hyes⟩ | ⟨rfl, hno⟩
      · have HY := hide hyes
        clear hyes hsay
        go_wp2
        go_ret
        exact ⟨⟨k, rfl, Or.inl ⟨k, hlt, rfl, by rw [← HCK.out]; exact HY.out⟩⟩, hw2⟩
      · have HN := hide hno
        clear hno hsay
        go_wp2
        go_roundw
        case rel =>
          refine ⟨k + 1, by omega, by go_num, hw2, fun j hj => ?_⟩
          by_cases e : j = k
          · subst e
            rw [← HCK.out]
            exact HN.out
          · exact HG.out j (by omega)
        case measure => simp [intOf]; omega
    · go_wp2
      go_ret
      exact ⟨⟨-1, rfl, Or.inr ⟨rfl, fun j hj => HG.out j (by omega)⟩⟩, hw⟩

set_option maxRecDepth 100000 in
set_option maxHeartbeats 800000 in
theorem indexMade (w : World) (a : Option Addr) (cap : Nat) (l : List NodeD) (hl : l.length ≤ maxLen) (hs : ∀ c ∈ l, c.Fits) (hS : Nodes w a l) :
    Calls Tryz.prog 71 #[.slice a l.length cap, .func (.func 59) #[] #[]] w fun e w' => (∃ r, e = .returned (.int .i64 r) ∧ FirstN l BadMade r) ∧ Kept w w' := by
  unfold maxLen at hl
  go_enter Tryz.func71, Tryz.ntmps71
  go_wp2
  go_loopw [8] (fun i wr => ∃ k : Nat, k ≤ l.length ∧ i = .int .i64 k ∧ Kept w wr ∧ NoneN l BadMade k) (fun i _ => l.length - (intOf i).toNat)
  case atStart => exact ⟨0, Nat.zero_le _, rfl, Kept.refl _, fun j hj => absurd hj (Nat.not_lt_zero _)⟩
  case round =>
    obtain ⟨k, hk, rfl, hw, hg⟩ := hrel
    have HG := hide hg
    clear hg
    by_cases hlt : k < l.length
    · obtain ⟨b, o, cs, rfl, hb, hc, aa, ca, rfl, hA⟩ := hS.kept hw k hlt
      have hsz := hs (l.getD k NodeD.zero) (by simp [List.getD, hlt])
      obtain ⟨c, hck⟩ : ∃ c, c = l.getD k NodeD.zero := ⟨_, rfl⟩
      rw [← hck] at hc hsz hA
      have HCK := hide hck
      clear hck
      have c0 := hc 0 _ rfl
      have c1 := hc 1 _ rfl
      have c2 := hc 2 _ rfl
      simp only [Nat.add_zero] at c0
      clear hc
      go_wp2_with fail
      refine (badlyMade_any _ c aa ca hsz hA).mono ?_
      rintro e w1 ⟨hsay, hw1⟩
      have hw2 := hw.trans hw1
      clear c0 c1 c2 hw hw1
      rcases hsay.cases with ⟨rfl, hyes⟩ | ⟨rfl, hno⟩
      · have HY := hide hyes
        clear hyes hsay
        go_wp2
        go_ret
        exact ⟨⟨k, rfl, Or.inl ⟨k, hlt, rfl, by rw [← HCK.out]; exact HY.out⟩⟩, hw2⟩
      · have HN := hide hno
        clear hno hsay
        go_wp2
        go_roundw
        case rel =>
          refine ⟨k + 1, by omega, by go_num, hw2, fun j hj => ?_⟩
          by_cases e : j = k
          · subst e
            rw [← HCK.out]
            exact HN.out
          · exact HG.out j (by omega)
        case measure => simp [intOf]; omega
    · go_wp2
      go_ret
      exact ⟨⟨-1, rfl, Or.inr ⟨rfl, fun j hj => HG.out j (by omega)⟩⟩, hw⟩

theorem containsNamed (w : World) (a : Option Addr) (cap : Nat) (l : List NodeD) (hl : l.length ≤ maxLen) (hs : ∀ c ∈ l, c.Fits) (hS : Nodes w a l) :
    Calls Tryz.prog 56 #[.slice a l.length cap, .func (.func 57) #[] #[]] w fun e w' => Says e (SomeN l BadName) ∧ Kept w w' := by
  go_enter Tryz.func56, Tryz.ntmps56
  go_wp2_with fail
  refine (indexNamed _ a cap l hl hs hS).mono ?_
  rintro e w1 ⟨⟨r, rfl, hr⟩, k1⟩
  have HR := hide hr
  clear hr
  by_cases h0 : 0 ≤ r
  · have h1 : decide (0 ≤ r) = true := by simpa using h0
    go_wp2
    go_ret
    exact ⟨Says.yes (by rcases HR.out with ⟨i, hi, _, hp⟩ | ⟨rfl, _⟩; exact ⟨i, hi, hp⟩; omega), k1⟩
  · have h1 : decide (0 ≤ r) = false := by simpa using h0
    go_wp2
    go_ret
    exact ⟨Says.no (by rcases HR.out with ⟨i, hi, rfl, hp⟩ | ⟨rfl, hno⟩; omega; exact fun ⟨i, hi, hp⟩ => hno i hi hp), k1⟩

theorem containsMade (w : World) (a : Option Addr) (cap : Nat) (l : List NodeD) (hl : l.length ≤ maxLen) (hs : ∀ c ∈ l, c.Fits) (hS : Nodes w a l) :
    Calls Tryz.prog 56 #[.slice a l.length cap, .func (.func 59) #[] #[]] w fun e w' => Says e (SomeN l BadMade) ∧ Kept w w' := by
  go_enter Tryz.func56, Tryz.ntmps56
  go_wp2_with fail
  refine (indexMade _ a cap l hl hs hS).mono ?_
  rintro e w1 ⟨⟨r, rfl, hr⟩, k1⟩
  have HR := hide hr
  clear hr
  by_cases h0 : 0 ≤ r
  · have h1 : decide (0 ≤ r) = true := by simpa using h0
    go_wp2
    go_ret
    exact ⟨Says.yes (by rcases HR.out with ⟨i, hi, _, hp⟩ | ⟨rfl, _⟩; exact ⟨i, hi, hp⟩; omega), k1⟩
  · have h1 : decide (0 ≤ r) = false := by simpa using h0
    go_wp2
    go_ret
    exact ⟨Says.no (by rcases HR.out with ⟨i, hi, rfl, hp⟩ | ⟨rfl, hno⟩; omega; exact fun ⟨i, hi, hp⟩ => hno i hi hp), k1⟩

end Go.Proofs.YtmdckapiljhfdaaGreat
