import Derived.Test.YtfjbdapblmlneaaDataA
import Derived.Test.YtfjbdapblmlneaaValid
import Derived.Test.YtfjbdapblmlneaaProg
import Derived.WalkSpells
import Derived.WalkLawsBesides

/-
  WALKS toward GoOn: eqGone; slices.IndexFunc and ContainsFunc over answers, with the program's two functions.
-/
namespace Go.Proofs.Ytfjbdapblmlneaa
open Go.RowKit

structure GoneD where
  code : Int
  over : Bool
  at' : Int
  text : ByteArray

def GoneD.cells (g : GoneD) : List Value := [.int .i64 g.code, .bool g.over, .int .i64 g.at', .string g.text]

theorem longAnswer_any (w : World) (c : AnswerD) (hc : c.text.size ≤ maxLen) :
    Calls Try.prog 85 #[.agg #[.bool c.fail, .string c.text]] w fun e w' => Says e (200 < c.text.size) ∧ Kept w w' := by
  unfold maxLen at hc
  go_enter Try.func85, Try.ntmps85
  go_wp2
  go_ret
  exact ⟨(Says.dec _).congr ⟨fun h => by omega, fun h => by omega⟩, (Kept.refl _).alloc _⟩

theorem failed_any (w : World) (c : AnswerD) :
    Calls Try.prog 87 #[.agg #[.bool c.fail, .string c.text]] w fun e w' => Says e (c.fail = true) ∧ Kept w w' := by
  go_enter Try.func87, Try.ntmps87
  go_wp2
  go_ret
  exact ⟨⟨c.fail, rfl, Iff.rfl⟩, (Kept.refl _).alloc _⟩

/-- The first place at which p holds, or none. -/
def FirstAt (l : List AnswerD) (p : AnswerD → Prop) (r : Int) : Prop :=
  (∃ i, i < l.length ∧ r = (i : Int) ∧ p (l.getD i AnswerD.zero) ∧ ∀ j, j < i → ¬ p (l.getD j AnswerD.zero)) ∨ (r = -1 ∧ ∀ j, j < l.length → ¬ p (l.getD j AnswerD.zero))

/-- Before place k p holds nowhere. -/
def NoneTo (l : List AnswerD) (p : AnswerD → Prop) (k : Nat) : Prop := ∀ j, j < k → ¬ p (l.getD j AnswerD.zero)
def IsLong (c : AnswerD) : Prop := 200 < c.text.size
def IsFail (c : AnswerD) : Prop := c.fail = true

set_option maxRecDepth 100000 in
set_option maxHeartbeats 800000 in
theorem indexLong (w : World) (a : Option Addr) (cap : Nat) (l : List AnswerD) (hl : l.length ≤ maxLen) (hs : ∀ c ∈ l, c.text.size ≤ maxLen) (hS : Answers w a l) :
    Calls Try.prog 86 #[.slice a l.length cap, .func (.func 85) #[] #[]] w fun e w' => (∃ r, e = .returned (.int .i64 r) ∧ FirstAt l IsLong r) ∧ Kept w w' := by
  unfold maxLen at hl
  go_enter Try.func86, Try.ntmps86
  go_wp2
  go_loopw [8] (fun i wr => ∃ k : Nat, k ≤ l.length ∧ i = .int .i64 k ∧ Kept w wr ∧ NoneTo l IsLong k) (fun i _ => l.length - (intOf i).toNat)
  case atStart => exact ⟨0, Nat.zero_le _, rfl, Kept.refl _, fun j hj => absurd hj (Nat.not_lt_zero _)⟩
  case round =>
    obtain ⟨k, hk, rfl, hw, hg⟩ := hrel
    have HG := hide hg
    clear hg
    by_cases hlt : k < l.length
    · obtain ⟨b, o, rfl, hb, hc⟩ := hS.kept hw k hlt
      have hsz : (l.getD k AnswerD.zero).text.size ≤ maxLen := hs _ (by simp [List.getD, hlt])
      obtain ⟨c, hck⟩ : ∃ c, c = l.getD k AnswerD.zero := ⟨_, rfl⟩
      rw [← hck] at hc hsz
      have HCK := hide hck
      clear hck
      have c0 := hc 0 _ rfl
      have c1 := hc 1 _ rfl
      simp only [Nat.add_zero] at c0
      clear hc
      go_wp2_with fail
      refine (longAnswer_any _ c hsz).mono ?_
      rintro e w1 ⟨hsay, hw1⟩
      have hw2 := hw.trans hw1
      clear c0 c1 hw hw1
      rcases hsay.cases with ⟨rfl, hyes⟩ | ⟨rfl, hno⟩
      · have HY := hide hyes
        clear hyes hsay
        go_wp2
        go_ret
        exact ⟨⟨k, rfl, Or.inl ⟨k, hlt, rfl, by rw [← HCK.out]; exact HY.out, HG.out⟩⟩, hw2⟩
      · have HN := hide hno
        clear hno hsay
        go_wp2
        go_roundw
        case rel =>
          refine ⟨k + 1, by omega, by go_num, hw2, fun j hj => ?_⟩
          by_cases e : j = k
          · subst e
            rw [← HCK.out]
            exact HN.out
          · exact HG.out j (by omega)
        case measure => simp [intOf]; omega
    · go_wp2
      go_ret
      exact ⟨⟨-1, rfl, Or.inr ⟨rfl, fun j hj => HG.out j (by omega)⟩⟩, hw⟩

set_option maxRecDepth 100000 in
set_option maxHeartbeats 800000 in
theorem indexFail (w : World) (a : Option Addr) (cap : Nat) (l : List AnswerD) (hl : l.length ≤ maxLen) (hs : ∀ c ∈ l, c.text.size ≤ maxLen) (hS : Answers w a l) :
    Calls Try.prog 86 #[.slice a l.length cap, .func (.func 87) #[] #[]] w fun e w' => (∃ r, e = .returned (.int .i64 r) ∧ FirstAt l IsFail r) ∧ Kept w w' := by
  unfold maxLen at hl
  go_enter Try.func86, Try.ntmps86
  go_wp2
  go_loopw [8] (fun i wr => ∃ k : Nat, k ≤ l.length ∧ i = .int .i64 k ∧ Kept w wr ∧ NoneTo l IsFail k) (fun i _ => l.length - (intOf i).toNat)
  case atStart => exact ⟨0, Nat.zero_le _, rfl, Kept.refl _, fun j hj => absurd hj (Nat.not_lt_zero _)⟩
  case round =>
    obtain ⟨k, hk, rfl, hw, hg⟩ := hrel
    have HG := hide hg
    clear hg
    by_cases hlt : k < l.length
    · obtain ⟨b, o, rfl, hb, hc⟩ := hS.kept hw k hlt
      have hsz : (l.getD k AnswerD.zero).text.size ≤ maxLen := hs _ (by simp [List.getD, hlt])
      obtain ⟨c, hck⟩ : ∃ c, c = l.getD k AnswerD.zero := ⟨_, rfl⟩
      rw [← hck] at hc hsz
      have HCK := hide hck
      clear hck
      have c0 := hc 0 _ rfl
      have c1 := hc 1 _ rfl
      simp only [Nat.add_zero] at c0
      clear hc
      go_wp2_with fail
      refine (failed_any _ c).mono ?_
      rintro e w1 ⟨hsay, hw1⟩
      have hw2 := hw.trans hw1
      clear c0 c1 hw hw1
      rcases hsay.cases with ⟨rfl, hyes⟩ | ⟨rfl, hno⟩
      · have HY := hide hyes
        clear hyes hsay
        go_wp2
        go_ret
        exact ⟨⟨k, rfl, Or.inl ⟨k, hlt, rfl, by rw [← HCK.out]; exact HY.out, HG.out⟩⟩, hw2⟩
      · have HN := hide hno
        clear hno hsay
        go_wp2
        go_roundw
        case rel =>
          refine ⟨k + 1, by omega, by go_num, hw2, fun j hj => ?_⟩
          by_cases e : j = k
          · subst e
            rw [← HCK.out]
            exact HN.out
          · exact HG.out j (by omega)
        case measure => simp [intOf]; omega
    · go_wp2
      go_ret
      exact ⟨⟨-1, rfl, Or.inr ⟨rfl, fun j hj => HG.out j (by omega)⟩⟩, hw⟩

theorem containsLong (w : World) (a : Option Addr) (cap : Nat) (l : List AnswerD) (hl : l.length ≤ maxLen) (hs : ∀ c ∈ l, c.text.size ≤ maxLen) (hS : Answers w a l) :
    Calls Try.prog 84 #[.slice a l.length cap, .func (.func 85) #[] #[]] w fun e w' => Says e (∃ i, i < l.length ∧ IsLong (l.getD i AnswerD.zero)) ∧ Kept w w' := by
  go_enter Try.func84, Try.ntmps84
  go_wp2_with fail
  refine (indexLong _ a cap l hl hs hS).mono ?_
  rintro e w1 ⟨⟨r, rfl, hr⟩, k1⟩
  have HR := hide hr
  clear hr
  by_cases h0 : 0 ≤ r
  · have h1 : decide (0 ≤ r) = true := by simpa using h0
    go_wp2
    go_ret
    exact ⟨Says.yes (by rcases HR.out with ⟨i, hi, _, hp, _⟩ | ⟨rfl, _⟩; exact ⟨i, hi, hp⟩; omega), k1⟩
  · have h1 : decide (0 ≤ r) = false := by simpa using h0
    go_wp2
    go_ret
    exact ⟨Says.no (by rcases HR.out with ⟨i, hi, rfl, hp, _⟩ | ⟨rfl, hno⟩; omega; exact fun ⟨i, hi, hp⟩ => hno i hi hp), k1⟩

end Go.Proofs.Ytfjbdapblmlneaa
