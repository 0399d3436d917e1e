import Derived.Test.YtghipdfemoofhaaGreatDoorKXValid0
import Derived.Test.YtghipdfemoofhaaGreatDoorKXValid
import Derived.Test.YtghipdfemoofhaaGreatDoorKVOrder
namespace Go.Proofs.YtghipdfemoofhaaGreatDoor
open Go.RowKit
theorem ValidX.good {webl : List NodeD} {roots : List ByteArray} {sl : List RunX} (h : ValidX webl roots sl) : GoodL webl sl := by
  obtain ⟨_, _, _, k, L, hg, _, _, rfl⟩ := h
  exact hg
theorem GoodL.texts {webl : List NodeD} {l : List RunX} (h : GoodL webl l) : ∀ r ∈ l, r.texts.length ≤ 1000 := fun r hr => by
  have h1 := (h.good r hr).tl
  have h2 := (h.good r hr).hi
  omega
def DoneX (webl : List NodeD) (sl : List RunX) (name : ByteArray) (T : List RunX) : Prop :=
  (∃ r, envOf sl name = some r ∧ CanGo (actsOf webl) (envOf sl) r ∧ T = doL (actsOf webl) sl r) ∨ (¬ ReadyX (actsOf webl) (envOf sl) name ∧ T = sl)
theorem DoneX.good {webl : List NodeD} {sl T : List RunX} {name : ByteArray} (h : DoneX webl sl name T) (hok : ActsOk (actsOf webl)) (hg : GoodL webl sl) : GoodL webl T := by
  rcases h with ⟨r, h1, h2, rfl⟩ | ⟨_, rfl⟩
  · exact doL_good hok hg (env_mem h1).1 h2
  · exact hg
theorem DoneX.unique {webl : List NodeD} {sl T T' : List RunX} {name : ByteArray} (h : DoneX webl sl name T) (h' : DoneX webl sl name T') : T = T' := by
  rcases h with ⟨r, h1, h2, rfl⟩ | ⟨h1, rfl⟩ <;> rcases h' with ⟨r', g1, g2, rfl⟩ | ⟨g1, rfl⟩
  · rw [h1] at g1; cases g1; rfl
  · exact absurd ⟨r, h1, h2⟩ g1
  · exact absurd ⟨r', g1, g2⟩ h1
  · rfl
end Go.Proofs.YtghipdfemoofhaaGreatDoor
namespace Go.Proofs.YtghipdfemoofhaaGreatDoor
def belowB : ByteArray := ⟨#[98, 101, 108, 111, 119, 32]⟩
theorem below_inj {a b : ByteArray} (h : belowB ++ a = belowB ++ b) : a = b := by
  have h1 := congrArg (fun x : ByteArray => x.data.toList) h
  simp only [ByteArray.data_append, Array.toList_append] at h1
  exact ByteArray.ext (Array.toList_inj.1 (List.append_cancel_left h1))
theorem below_spent {b : ByteArray} : belowB ++ b ≠ spentB := fun h => by
  have h1 := congrArg ByteArray.size h
  rw [ByteArray.size_append] at h1
  have h2 : belowB.size = 6 := by decide
  have h3 : spentB.size = 5 := by decide
  omega
section
variable (W : Acts) (σ : Env)
inductive WhyC : ByteArray → List ByteArray → Prop
  | gone {n : ByteArray} (h : σ n = none) : WhyC n [n]
  | own {n : ByteArray} {r : RunX} {A : ActionD} (h : σ n = some r) (ho : r.over = true) (hf : r.fail = true) (hA : W n = some A) (he : (stepOf A r.at').fin = true ∨ r.text = spentB) : WhyC n [n]
  | more {n b : ByteArray} {l : List ByteArray} {r : RunX} {A : ActionD} (h : σ n = some r) (ho : r.over = true) (hf : r.fail = true) (hA : W n = some A) (hn : (stepOf A r.at').fin = false) (ht : r.text = belowB ++ b) (hb : 1 ≤ b.size) (hc : WhyC b l) : WhyC n (n :: l)
def WhyX (n : ByteArray) (out : List ByteArray) : Prop :=
  (σ n = none ∧ out = []) ∨ (∃ r, σ n = some r ∧ ¬ (r.over = true ∧ r.fail = true) ∧ out = []) ∨ (∃ r, σ n = some r ∧ r.over = true ∧ r.fail = true ∧ WhyC W σ n out)
structure WhyInv (k : Nat) (ord : ByteArray → Nat) : Prop where
  lt : ∀ n r, σ n = some r → r.over = true → ord n < k
  ok : ∀ n r, σ n = some r → r.over = true → r.fail = true → ∃ A, W n = some A ∧ (((stepOf A r.at').fin = true ∨ r.text = spentB) ∨
    (∃ b, (stepOf A r.at').fin = false ∧ b ∈ (stepOf A r.at').asks ∧ r.text = belowB ++ b ∧ ((W b = none ∧ σ b = none) ∨ ∃ q, σ b = some q ∧ q.over = true ∧ q.fail = true ∧ ord b < ord n)))
end
theorem WhyC.unique {W : Acts} {σ : Env} {n : ByteArray} {l m : List ByteArray} (h : WhyC W σ n l) (g : WhyC W σ n m) : l = m := by
  induction h generalizing m with
  | gone h =>
    cases g with
    | gone => rfl
    | own => rfl
    | more h' => rw [h] at h'; cases h'
  | own h ho hf hA he =>
    cases g with
    | gone => rfl
    | own => rfl
    | more h' ho' hf' hA' hn' ht' =>
      rw [h] at h'; cases h'
      rw [hA] at hA'; cases hA'
      rcases he with e | e
      · rw [hn'] at e; cases e
      · rw [e] at ht'; exact absurd ht'.symm below_spent
  | more h ho hf hA hn ht hb hc ih =>
    cases g with
    | gone h' => rw [h] at h'; cases h'
    | own h' ho' hf' hA' he' =>
      rw [h] at h'; cases h'
      rw [hA] at hA'; cases hA'
      rcases he' with e | e
      · rw [hn] at e; cases e
      · rw [e] at ht; exact absurd ht.symm below_spent
    | more h' ho' hf' hA' hn' ht' hb' hc' =>
      rw [h] at h'; cases h'
      have e := below_inj (ht.symm.trans ht')
      subst e
      rw [ih hc']
theorem WhyX.unique {W : Acts} {σ : Env} {n : ByteArray} {l m : List ByteArray} (h : WhyX W σ n l) (g : WhyX W σ n m) : l = m := by
  rcases h with ⟨h1, rfl⟩ | ⟨r, h1, h2, rfl⟩ | ⟨r, h1, h2, h3, h4⟩ <;> rcases g with ⟨g1, rfl⟩ | ⟨q, g1, g2, rfl⟩ | ⟨q, g1, g2, g3, g4⟩
  · rfl
  · rfl
  · rw [h1] at g1; cases g1
  · rfl
  · rfl
  · rw [h1] at g1; cases g1; exact absurd ⟨g2, g3⟩ h2
  · rw [h1] at g1; cases g1
  · rw [h1] at g1; cases g1; exact absurd ⟨h2, h3⟩ g2
  · exact h4.unique g4
theorem WhyC.len {W : Acts} {σ : Env} {n : ByteArray} {l : List ByteArray} (h : WhyC W σ n l) : 1 ≤ l.length := by
  cases h <;> simp
theorem WhyC.head {W : Acts} {σ : Env} {n : ByteArray} {l : List ByteArray} (h : WhyC W σ n l) : ∃ m, l = n :: m := by
  cases h with
  | gone => exact ⟨[], rfl⟩
  | own => exact ⟨[], rfl⟩
  | more => exact ⟨_, rfl⟩
theorem answersOf_at {W : Acts} {σ : Env} : ∀ {l : List ByteArray} {xs : List AnswerD}, answersOf W σ l = some xs → ∀ {i : Nat}, i < xs.length → i < l.length ∧ ansOf W σ (l.getD i ByteArray.empty) = some (xs.getD i AnswerD.zero)
  | [], xs, h, i, hi => by
    simp only [answersOf, Option.some.injEq] at h
    subst h
    simp at hi
  | a :: l, xs, h, i, hi => by
    unfold answersOf at h
    cases ha : ansOf W σ a with
    | none => simp [ha] at h
    | some x =>
      cases hl : answersOf W σ l with
      | none => simp [ha, hl] at h
      | some ys =>
        simp only [ha, hl, Option.some.injEq] at h
        subst h
        cases i with
        | zero => exact ⟨by simp, by simpa using ha⟩
        | succ i =>
          obtain ⟨h1, h2⟩ := answersOf_at hl (i := i) (by simpa using hi)
          exact ⟨by simpa using h1, by simpa using h2⟩
theorem goodEnv_do {webl : List NodeD} {σ : Env} {n : ByteArray} (hok : ActsOk (actsOf webl)) (h : GoodEnv webl σ) (hr : ReadyX (actsOf webl) σ n) : GoodEnv webl (doX (actsOf webl) σ n) := by
  obtain ⟨r, hr, hc⟩ := hr
  intro m q hq
  rw [doX_eq hr] at hq
  by_cases e : m = n
  · rw [if_pos e] at hq
    cases hq
    exact ⟨by rw [nextOf_name, e]; exact (h n r hr).1, nextOf_good hok h (h n r hr).2 hc⟩
  · rw [if_neg e] at hq
    cases hm : σ m with
    | some x =>
      rw [hm] at hq
      cases hq
      exact h m _ hm
    | none =>
      rw [hm] at hq
      simp only at hq
      split at hq
      · rename_i h2
        cases hq
        exact ⟨rfl, fresh_good hok h2.2⟩
      · cases hq
theorem next_why {webl : List NodeD} {σ : Env} {r : RunX} (hg : GoodEnv webl σ) (hr : σ r.name = some r) (hc : CanGo (actsOf webl) σ r) (ho : (nextOf (actsOf webl) σ r).1.over = true) : ∃ A, actsOf webl r.name = some A ∧ (((stepOf A (nextOf (actsOf webl) σ r).1.at').fin = true ∨ (nextOf (actsOf webl) σ r).1.text = spentB) ∨
    (∃ b, (stepOf A (nextOf (actsOf webl) σ r).1.at').fin = false ∧ b ∈ (stepOf A (nextOf (actsOf webl) σ r).1.at').asks ∧ (nextOf (actsOf webl) σ r).1.text = belowB ++ b ∧ ∃ x, ansOf (actsOf webl) σ b = some x ∧ x.fail = true)) := by
  have hgd := (hg _ _ hr).2
  obtain ⟨A, hA, _, _⟩ := hgd.act
  refine ⟨A, hA, ?_⟩
  have harr : ∀ q : RunX, q.over = false → (arrive A q).1.over = true → (stepOf A (arrive A q).1.at').fin = true := fun q hq h => by
    unfold arrive at h ⊢
    simp only at h ⊢
    by_cases hf : (stepOf A q.at').fin = true
    · rw [if_pos hf]; exact hf
    · rw [if_neg hf] at h; simp only at h; rw [hq] at h; cases h
  unfold nextOf at ho ⊢
  rw [hA] at ho ⊢
  simp only at ho ⊢
  by_cases hv : r.visits = 0
  · rw [if_pos hv] at ho ⊢
    exact .inl (.inl (harr r hc.1 ho))
  · rw [if_neg hv] at ho ⊢
    rcases hc.2 with e | ⟨A', xs, hA', hxs⟩
    · exact absurd e hv
    · rw [hA] at hA'
      cases hA'
      rw [hxs] at ho ⊢
      simp only at ho ⊢
      by_cases h20 : r.visits = 20
      · rw [if_pos h20]
        exact .inl (.inr rfl)
      · rw [if_neg h20] at ho ⊢
        by_cases hgo : (goOnF (stepOf A r.at') xs).over = true
        · rw [if_pos hgo]
          refine .inr ?_
          show ∃ b, (stepOf A r.at').fin = false ∧ b ∈ (stepOf A r.at').asks ∧ (goOnF (stepOf A r.at') xs).text = belowB ++ b ∧ _
          unfold goOnF at hgo ⊢
          cases hf : failAt xs 0 with
          | none => rw [hf] at hgo; simp at hgo
          | some i =>
            rw [hf] at hgo
            simp only at hgo ⊢
            obtain ⟨j, e1, h2, h3, _⟩ := failAt_some hf
            have e2 : i = j := by omega
            subst e2
            by_cases hfa : (stepOf A r.at').fall = -1
            · rw [if_pos hfa]
              obtain ⟨g1, g2⟩ := answersOf_at hxs h2
              refine ⟨(stepOf A r.at').asks.getD i ByteArray.empty, hgd.stp A hA hc.1 hv, ?_, rfl, _, g2, h3⟩
              simp only [List.getD, List.getElem?_eq_getElem g1, Option.getD_some]
              exact List.getElem_mem g1
            · rw [if_neg hfa] at hgo; simp at hgo
        · rw [if_neg hgo] at ho ⊢
          exact .inl (.inl (harr { r with texts := r.texts ++ goodOf xs, at' := (goOnF (stepOf A r.at') xs).at' } hc.1 ho))
theorem WhyInv.did {webl : List NodeD} {σ : Env} {k : Nat} {ord : ByteArray → Nat} (h : WhyInv (actsOf webl) σ k ord) (hg : GoodEnv webl σ) {n : ByteArray} (hn : ReadyX (actsOf webl) σ n) : WhyInv (actsOf webl) (doX (actsOf webl) σ n) (k + 1) (fun m => if m = n then k else ord m) := by
  obtain ⟨r, hr, hc⟩ := hn
  have hrn : r.name = n := (hg n r hr).1
  have hwn : ∀ m, actsOf webl m = none → σ m = none := fun m hm => by
    cases h1 : σ m with
    | none => rfl
    | some q =>
      obtain ⟨g1, g2⟩ := hg m q h1
      obtain ⟨A, hA, _⟩ := g2.act
      rw [g1, hm] at hA
      cases hA
  have old : ∀ m q, m ≠ n → doX (actsOf webl) σ n m = some q → q.over = true → σ m = some q := fun m q e hq ho => by
    rw [doX_eq hr, if_neg e] at hq
    cases hm : σ m with
    | some x => rw [hm] at hq; exact hq
    | none =>
      rw [hm] at hq
      simp only at hq
      split at hq
      · cases hq; cases ho
      · cases hq
  have keep : ∀ b q, σ b = some q → q.over = true → b ≠ n ∧ doX (actsOf webl) σ n b = some q := fun b q hb ho => by
    have hne : b ≠ n := fun e => by
      rw [e, hr] at hb
      cases hb
      rw [hc.1] at ho
      cases ho
    exact ⟨hne, doX_other hne hb⟩
  have none : ∀ b, actsOf webl b = none → doX (actsOf webl) σ n b = none := fun b hb => by
    have hne : b ≠ n := fun e => by
      have := hwn b hb
      rw [e, hr] at this
      cases this
    rw [doX_eq hr, if_neg hne, hwn b hb]
    simp only
    rw [if_neg (by rw [hb]; simp)]
  refine ⟨fun m q hq ho => ?_, fun m q hq ho hf => ?_⟩
  · by_cases e : m = n
    · simp only [if_pos e]; omega
    · simp only [if_neg e]
      have := h.lt m q (old m q e hq ho) ho
      omega
  · by_cases e : m = n
    · subst e
      rw [doX_here hr] at hq
      cases hq
      obtain ⟨A, hA, h2⟩ := next_why hg (by rw [hrn]; exact hr) hc ho
      rw [hrn] at hA
      refine ⟨A, hA, h2.imp id ?_⟩
      rintro ⟨b, g1, g2, g3, x, g4, g5⟩
      refine ⟨b, g1, g2, g3, ?_⟩
      unfold ansOf at g4
      cases hb : actsOf webl b with
      | none => exact .inl ⟨rfl, none b hb⟩
      | some B =>
        rw [hb] at g4
        simp only at g4
        cases hs : σ b with
        | none => rw [hs] at g4; cases g4
        | some q =>
          rw [hs] at g4
          simp only at g4
          by_cases hqo : q.over = true
          · rw [if_pos hqo] at g4
            cases g4
            obtain ⟨k1, k2⟩ := keep b q hs hqo
            exact .inr ⟨q, k2, hqo, g5, by simp only [if_neg k1, if_true]; exact h.lt b q hs hqo⟩
          · rw [if_neg hqo] at g4
            cases g4
    · obtain ⟨A, hA, h2⟩ := h.ok m q (old m q e hq ho) ho hf
      refine ⟨A, hA, h2.imp id ?_⟩
      rintro ⟨b, g1, g2, g3, ⟨g4, _⟩ | ⟨p, g4, g5, g6, g7⟩⟩
      · exact ⟨b, g1, g2, g3, .inl ⟨g4, none b g4⟩⟩
      · obtain ⟨k1, k2⟩ := keep b p g4 g5
        exact ⟨b, g1, g2, g3, .inr ⟨p, k2, g5, g6, by simp only [if_neg k1, if_neg e]; exact g7⟩⟩
theorem WhyInv.chain {webl : List NodeD} {σ : Env} {k : Nat} {ord : ByteArray → Nat} (hok : ActsOk (actsOf webl)) (h : WhyInv (actsOf webl) σ k ord) (hg : GoodEnv webl σ) : ∀ (m : Nat) (n : ByteArray) (r : RunX), ord n ≤ m → σ n = some r → r.over = true → r.fail = true → ∃ l, WhyC (actsOf webl) σ n l ∧ l.length ≤ ord n + 2 ∧ ∀ x ∈ l, 1 ≤ x.size ∧ x.size ≤ 20 := by
  intro m
  induction m with
  | zero =>
    intro n r hm hr ho hf
    obtain ⟨A, hA, h2 | ⟨b, g1, g2, g3, ⟨g4, g5⟩ | ⟨p, g4, g5, g6, g7⟩⟩⟩ := h.ok n r hr ho hf
    · exact ⟨[n], .own hr ho hf hA h2, by simp, fun x hx => by rw [List.mem_singleton] at hx; rw [hx]; exact ⟨(hok n A hA).2.1, (hok n A hA).2.2.1⟩⟩
    · obtain ⟨A', hA', h0, h1⟩ := (hg n r hr).2.act
      rw [(hg n r hr).1, hA] at hA'
      cases hA'
      have hb := (asks_ok (hok n A hA).1 h0 h1).2 b g2
      exact ⟨[n, b], .more hr ho hf hA g1 g3 hb.1 (.gone g5), by simp, fun x hx => by
        rcases List.mem_cons.1 hx with rfl | hx
        · exact ⟨(hok x A hA).2.1, (hok x A hA).2.2.1⟩
        · rw [List.mem_singleton] at hx; rw [hx]; exact ⟨hb.1, hb.2.1⟩⟩
    · omega
  | succ m ih =>
    intro n r hm hr ho hf
    obtain ⟨A, hA, h2 | ⟨b, g1, g2, g3, ⟨g4, g5⟩ | ⟨p, g4, g5, g6, g7⟩⟩⟩ := h.ok n r hr ho hf
    · exact ⟨[n], .own hr ho hf hA h2, by simp, fun x hx => by rw [List.mem_singleton] at hx; rw [hx]; exact ⟨(hok n A hA).2.1, (hok n A hA).2.2.1⟩⟩
    · obtain ⟨A', hA', h0, h1⟩ := (hg n r hr).2.act
      rw [(hg n r hr).1, hA] at hA'
      cases hA'
      have hb := (asks_ok (hok n A hA).1 h0 h1).2 b g2
      exact ⟨[n, b], .more hr ho hf hA g1 g3 hb.1 (.gone g5), by simp, fun x hx => by
        rcases List.mem_cons.1 hx with rfl | hx
        · exact ⟨(hok x A hA).2.1, (hok x A hA).2.2.1⟩
        · rw [List.mem_singleton] at hx; rw [hx]; exact ⟨hb.1, hb.2.1⟩⟩
    · obtain ⟨l, k1, k2, k3⟩ := ih b p (by omega) g4 g5 g6
      obtain ⟨A', hA', h0, h1⟩ := (hg n r hr).2.act
      rw [(hg n r hr).1, hA] at hA'
      cases hA'
      have hb := (asks_ok (hok n A hA).1 h0 h1).2 b g2
      exact ⟨n :: l, .more hr ho hf hA g1 g3 hb.1 k1, by simp only [List.length_cons]; omega, fun x hx => by
        rcases List.mem_cons.1 hx with rfl | hx
        · exact ⟨(hok x A hA).2.1, (hok x A hA).2.2.1⟩
        · exact k3 x hx⟩
def OpenOk (σ : Env) : Prop := ∀ n r, σ n = some r → r.over = false → r.fail = false
theorem arrive_open {A : ActionD} {r : RunX} (h : r.fail = false) (ho : (arrive A r).1.over = false) : (arrive A r).1.fail = false := by
  unfold arrive at ho ⊢
  simp only at ho ⊢
  by_cases hf : (stepOf A r.at').fin = true
  · rw [if_pos hf] at ho; cases ho
  · rw [if_neg hf]; exact h
theorem next_open {W : Acts} {σ : Env} {r : RunX} (h : r.fail = false) (ho : (nextOf W σ r).1.over = false) : (nextOf W σ r).1.fail = false := by
  unfold nextOf at ho ⊢
  cases hA : W r.name with
  | none => exact h
  | some A =>
    rw [hA] at ho
    simp only at ho ⊢
    by_cases hv : r.visits = 0
    · rw [if_pos hv] at ho ⊢; exact arrive_open h ho
    · rw [if_neg hv] at ho ⊢
      cases hx : answersOf W σ (stepOf A r.at').asks with
      | none => exact h
      | some xs =>
        rw [hx] at ho
        simp only at ho ⊢
        by_cases h20 : r.visits = 20
        · rw [if_pos h20] at ho; cases ho
        · rw [if_neg h20] at ho ⊢
          by_cases hgo : (goOnF (stepOf A r.at') xs).over = true
          · rw [if_pos hgo] at ho; cases ho
          · rw [if_neg hgo] at ho ⊢; exact arrive_open (by exact h) ho
theorem OpenOk.did {W : Acts} {σ : Env} (h : OpenOk σ) {n : ByteArray} (hn : ReadyX W σ n) : OpenOk (doX W σ n) := by
  obtain ⟨r, hr, hc⟩ := hn
  intro m q hq ho
  rw [doX_eq hr] at hq
  by_cases e : m = n
  · rw [if_pos e] at hq
    cases hq
    exact next_open (h n r hr hc.1) ho
  · rw [if_neg e] at hq
    cases hm : σ m with
    | some x => rw [hm] at hq; cases hq; exact h m _ hm ho
    | none =>
      rw [hm] at hq
      simp only at hq
      split at hq
      · cases hq; rfl
      · cases hq
theorem ValidX.open {webl : List NodeD} {roots : List ByteArray} {sl : List RunX} (hv : ValidX webl roots sl) : OpenOk (envOf sl) := by
  obtain ⟨_, _, _, j, L, hgL, hl, _, rfl⟩ := hv
  refine hl.keeps (P := OpenOk) (fun σ m h hm => h.did hm.1) (fun m r hr ho => ?_)
  rw [startL_env] at hr
  split at hr
  · cases hr; rfl
  · cases hr
theorem ValidX.why {webl : List NodeD} {roots : List ByteArray} {sl : List RunX} (hv : ValidX webl roots sl) (n : ByteArray) : ∃ out, WhyX (actsOf webl) (envOf sl) n out ∧ out.length ≤ 1400 ∧ ∀ x ∈ out, 1 ≤ x.size ∧ x.size ≤ 20 := by
  have hok := web_acts hv.1
  have hp : potL webl (startL webl roots) ≤ 1380 := by
    have h1 := potL_le23 webl (startL webl roots)
    have h2 := web_len hv.1
    omega
  obtain ⟨_, _, _, j, L, hgL, hl, _, rfl⟩ := hv
  have hs := startL_good hok roots
  have hinv : (fun σ : Env => GoodEnv webl σ ∧ ∃ k ord, k + potAll (webl.map (·.name)) σ ≤ 1380 ∧ WhyInv (actsOf webl) σ k ord) (envOf L) := by
    refine hl.keeps (P := fun σ : Env => GoodEnv webl σ ∧ ∃ k ord, k + potAll (webl.map (·.name)) σ ≤ 1380 ∧ WhyInv (actsOf webl) σ k ord) ?_ ⟨hs.env, 0, fun _ => 0, by unfold potL at hp; omega, ⟨fun m r hr ho => ?_, fun m r hr ho => ?_⟩⟩
    · rintro σ m ⟨hg, k, ord, hk, hI⟩ hm
      have hwf : WfX (actsOf webl) σ := fun a r hr => by
        obtain ⟨h1, h2⟩ := hg a r hr
        obtain ⟨A, hA, _⟩ := h2.act
        exact ⟨h1, by rw [← h1, hA]; rfl, h2.lo, h2.hi⟩
      refine ⟨goodEnv_do hok hg hm.1, k + 1, _, ?_, hI.did hg hm.1⟩
      obtain ⟨r, hr, _⟩ := hm.1
      have := (potAll_do hwf hm.1 (webl.map (·.name))).2 (acts_in (hwf m r hr).web)
      omega
    · rw [startL_env] at hr
      split at hr
      · cases hr; cases ho
      · cases hr
    · rw [startL_env] at hr
      split at hr
      · cases hr; cases ho
      · cases hr
  obtain ⟨hg, k, ord, hk, hI⟩ := hinv
  cases hn : envOf L n with
  | none => exact ⟨[], .inl ⟨hn, rfl⟩, by simp, fun x hx => by cases hx⟩
  | some r =>
    by_cases hof : r.over = true ∧ r.fail = true
    · obtain ⟨l, h1, h2, h3⟩ := hI.chain hok hg (ord n) n r (Nat.le_refl _) hn hof.1 hof.2
      have := hI.lt n r hn hof.1
      exact ⟨l, .inr (.inr ⟨r, hn, hof.1, hof.2, h1⟩), by omega, h3⟩
    · exact ⟨[], .inr (.inl ⟨r, hn, hof, rfl⟩), by simp, fun x hx => by cases hx⟩
def WhyAns (webl : List NodeD) (roots : List ByteArray) (sl : List RunX) (name : ByteArray) (ns : List ByteArray) : Prop := (ValidX webl roots sl ∧ WhyX (actsOf webl) (envOf sl) name ns) ∨ (¬ ValidX webl roots sl ∧ ns = [])
theorem WhyAns.len {webl : List NodeD} {roots : List ByteArray} {sl : List RunX} {name : ByteArray} {ns : List ByteArray} (h : WhyAns webl roots sl name ns) : ns.length ≤ 1400 := by
  rcases h with ⟨h1, h2⟩ | ⟨_, rfl⟩
  · obtain ⟨out, g1, g2, _⟩ := h1.why name
    rw [h2.unique g1]
    exact g2
  · exact Nat.zero_le _
theorem WhyAns.one {webl : List NodeD} {roots : List ByteArray} {sl : List RunX} {name : ByteArray} {ns ms : List ByteArray} (h : WhyAns webl roots sl name ns) (k : WhyAns webl roots sl name ms) : ms = ns := by
  rcases h with ⟨h1, h2⟩ | ⟨h1, h2⟩
  · rcases k with ⟨k1, k2⟩ | ⟨k1, k2⟩
    · exact k2.unique h2
    · exact absurd h1 k1
  · rcases k with ⟨k1, k2⟩ | ⟨k1, k2⟩
    · exact absurd k1 h1
    · rw [h2, k2]
end Go.Proofs.YtghipdfemoofhaaGreatDoor
