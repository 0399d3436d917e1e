import Derived.Test.YtfjbdapblmlneaaWGo1

/-
  THE WALK over the program's choose.
-/
namespace Go.Proofs.Ytfjbdapblmlneaa
open Go.RowKit

/-- Case i has the text t. -/
def CaseIs (s : StepD) (t : ByteArray) (i : Nat) : Prop := (s.cases.getD i CaseD.zero).text = t
def CaseTo (s : StepD) (t : ByteArray) (k : Nat) : Prop := ∀ j, j < k → ¬ CaseIs s t j
def gotoOf (s : StepD) (i : Nat) : Int := (s.cases.getD i CaseD.zero).goto
def textAt (ans : List AnswerD) (i : Int) : ByteArray := (ans.getD i.toNat AnswerD.zero).text

/-- Where a step goes on when nothing failed. -/
def Chosen (s : StepD) (ans : List AnswerD) (r : Int) : Prop :=
  (ans.length = 0 ∧ r = s.els) ∨
  (ans.length ≠ 0 ∧ ((∃ i, i < s.cases.length ∧ CaseIs s (textAt ans s.on) i ∧ CaseTo s (textAt ans s.on) i ∧ r = gotoOf s i) ∨ (CaseTo s (textAt ans s.on) s.cases.length ∧ r = s.els)))

theorem Chosen.unique {s : StepD} {ans : List AnswerD} {r r' : Int} (h : Chosen s ans r) (h' : Chosen s ans r') : r = r' := by
  rcases h with ⟨h0, rfl⟩ | ⟨h0, ⟨i, hi, hp, hn, rfl⟩ | ⟨hn, rfl⟩⟩ <;> rcases h' with ⟨g0, rfl⟩ | ⟨g0, ⟨j, hj, gp, gn, rfl⟩ | ⟨gn, rfl⟩⟩
  all_goals first | rfl | (exfalso; omega) | skip
  · rcases Nat.lt_trichotomy i j with h | rfl | h
    · exact absurd hp (gn i h)
    · rfl
    · exact absurd gp (hn j h)
  · exact absurd hp (gn i hi)
  · exact absurd gp (hn j hj)

set_option maxRecDepth 100000 in
set_option maxHeartbeats 1600000 in
theorem choose_any (w : World) (s : StepD) (aa ac a : Option Addr) (ca cc cap : Nat) (ans : List AnswerD) (hs : s.cases.length ≤ maxLen) (hC : Cases w ac s.cases) (_hl : ans.length ≤ maxLen) (hS : Answers w a ans)
    (hon : ans.length ≠ 0 → 0 ≤ s.on ∧ s.on < ans.length) :
    Calls Try.prog 88 #[.agg #[.slice aa s.asks.length ca, .int .i64 s.on, .slice ac s.cases.length cc, .int .i64 s.els, .int .i64 s.fall, .bool s.fin, .bool s.bad, .string s.give], .slice a ans.length cap] w fun e w' => (∃ r, e = .returned (.int .i64 r) ∧ Chosen s ans r) ∧ Kept w w' := by
  unfold maxLen at _hl hs
  have k0 : Kept w (w.alloc (.cells #[.slice aa s.asks.length ca, .int .i64 s.on, .slice ac s.cases.length cc, .int .i64 s.els, .int .i64 s.fall, .bool s.fin, .bool s.bad, .string s.give] 118)) := (Kept.refl _).alloc _
  cases a1 : ((ans.length : Int) == 0)
  · have hne : ans.length ≠ 0 := by simp at a1; simpa using a1
    obtain ⟨o1, o2⟩ := hon hne
    clear hon
    have HNE := hide hne
    clear hne
    obtain ⟨t, htk⟩ : ∃ t, t = textAt ans s.on := ⟨_, rfl⟩
    have HTK := hide htk
    clear htk
    obtain ⟨n, hn⟩ := Int.eq_ofNat_of_zero_le o1
    have HN := hide hn
    go_enter Try.func88, Try.ntmps88
    rw [hn] at o1 o2 ⊢
    clear hn
    go_wp2
    go_loopw [17] (fun i wr => ∃ k : Nat, k ≤ s.cases.length ∧ i = .int .i64 k ∧ Kept (w.alloc (.cells #[.slice aa s.asks.length ca, .int .i64 n, .slice ac s.cases.length cc, .int .i64 s.els, .int .i64 s.fall, .bool s.fin, .bool s.bad, .string s.give] 118)) wr ∧ CaseTo s t k) (fun i _ => s.cases.length - (intOf i).toNat)
    case atStart => exact ⟨0, Nat.zero_le _, rfl, Kept.refl _, fun j hj => absurd hj (Nat.not_lt_zero _)⟩
    case round =>
      obtain ⟨k, hk, rfl, hw, hg⟩ := hrel
      have HG := hide hg
      clear hg
      have hz1 := hw.size
      simp only [World.size_alloc] at hz1
      have k1 : Kept w wr := Kept.trans ((Kept.refl _).alloc _) hw
      obtain ⟨hc1, hf1⟩ := hw.rules
      by_cases hlt : k < s.cases.length
      · obtain ⟨b, o, rfl, hb, hc⟩ := hC.kept k1 k hlt
        obtain ⟨b', o', rfl, hb', hc'⟩ := hS.kept k1 n (by omega)
        obtain ⟨c, hck⟩ : ∃ c, c = s.cases.getD k CaseD.zero := ⟨_, rfl⟩
        rw [← hck] at hc
        have HCK := hide hck
        clear hck
        have c0 := hc 0 _ rfl
        have c1 := hc 1 _ rfl
        have d1 := hc' 1 _ rfl
        simp only [Nat.add_zero] at c0
        have htn : (ans.getD n AnswerD.zero).text = t := by have h1 := HTK.out; have h2 := HN.out; unfold textAt at h1; rw [h2] at h1; exact h1.symm
        rw [htn] at d1
        clear hc hc' htn
        have z0 : w.heap.size < wr.heap.size := by omega
        have z1 : w.heap.size < wr.heap.size + 1 := by omega
        have z2 : b' < wr.heap.size + 1 := by omega
        cases hct : (c.text.toList == t.toList)
        · go_wp2
          go_region
          all_goals
            go_wp2
            go_roundw
            case rel =>
              refine ⟨k + 1, by omega, by go_num, by repeat (first | apply Kept.drew | apply Kept.alloc | exact hw), fun j hj => ?_⟩
              by_cases e : j = k
              · subst e
                unfold CaseIs
                rw [← HCK.out]
                exact bytes_ne hct
              · exact HG.out j (by omega)
            case measure => simp [intOf]; omega
        · go_wp2
          go_region
          all_goals
            go_wp2
            go_ret
            exact ⟨⟨c.goto, rfl, Or.inr ⟨HNE.out, Or.inl ⟨k, hlt, by unfold CaseIs; rw [← HCK.out, ← HTK.out]; exact bytes_eq.1 hct, by rw [← HTK.out]; exact HG.out, by unfold gotoOf; rw [← HCK.out]⟩⟩⟩, by repeat (first | apply Kept.drew | apply Kept.alloc | exact k1)⟩
      · go_wp2
        go_ret
        exact ⟨⟨s.els, rfl, Or.inr ⟨HNE.out, Or.inr ⟨by rw [← HTK.out]; exact fun j hj => HG.out j (by omega), rfl⟩⟩⟩, k1⟩
  · go_enter Try.func88, Try.ntmps88
    go_wp2
    go_ret
    exact ⟨⟨s.els, rfl, Or.inl ⟨by simp at a1; simpa using a1, rfl⟩⟩, k0⟩

end Go.Proofs.Ytfjbdapblmlneaa
