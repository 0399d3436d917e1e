import Derived.Test.YtghipdfemoofhaaGreatDoorKVList
import Derived.Test.YtghipdfemoofhaaGreatDoorKWGo7

namespace Go.Proofs.YtghipdfemoofhaaGreatDoor

def InAct (webl : List NodeD) (r : RunX) : Prop := ∃ A, actsOf webl r.name = some A ∧ 0 ≤ r.at' ∧ r.at' < A.steps.length
def ActsOk (W : Acts) : Prop := ∀ n A, W n = some A → ActionOk A ∧ NameOk n

theorem failAt_some : ∀ {xs : List AnswerD} {k j : Nat}, failAt xs k = some j → ∃ i, j = k + i ∧ i < xs.length ∧ IsFail (xs.getD i AnswerD.zero) ∧ NoneTo xs IsFail i
  | [], _, _, h => by simp [failAt] at h
  | x :: l, k, j, h => by
    unfold failAt at h
    by_cases hx : x.fail = true
    · rw [if_pos hx] at h
      cases h
      exact ⟨0, rfl, by simp, hx, fun j hj => absurd hj (Nat.not_lt_zero _)⟩
    · rw [if_neg hx] at h
      obtain ⟨i, h1, h2, h3, h4⟩ := failAt_some h
      refine ⟨i + 1, by omega, by simpa using h2, h3, fun j hj => ?_⟩
      cases j with
      | zero => exact hx
      | succ j => exact h4 j (by omega)
theorem failAt_none : ∀ {xs : List AnswerD} {k : Nat}, failAt xs k = none → NoneTo xs IsFail xs.length
  | [], _, _ => fun j hj => absurd hj (Nat.not_lt_zero _)
  | x :: l, k, h => by
    unfold failAt at h
    by_cases hx : x.fail = true
    · rw [if_pos hx] at h
      cases h
    · rw [if_neg hx] at h
      have := failAt_none h
      intro j hj
      cases j with
      | zero => exact hx
      | succ j => exact this j (by simpa using hj)
theorem caseAt_is (t : ByteArray) (els : Int) : ∀ (l : List CaseD), (∃ i, i < l.length ∧ (l.getD i CaseD.zero).text = t ∧ (∀ j, j < i → (l.getD j CaseD.zero).text ≠ t) ∧ caseAt t els l = (l.getD i CaseD.zero).goto) ∨ ((∀ j, j < l.length → (l.getD j CaseD.zero).text ≠ t) ∧ caseAt t els l = els)
  | [] => .inr ⟨fun j hj => absurd hj (Nat.not_lt_zero _), rfl⟩
  | c :: l => by
    by_cases hc : c.text = t
    · exact .inl ⟨0, by simp, hc, fun j hj => absurd hj (Nat.not_lt_zero _), by simp [caseAt, hc, List.getD]⟩
    · have e : caseAt t els (c :: l) = caseAt t els l := by simp [caseAt, hc]
      rw [e]
      rcases caseAt_is t els l with ⟨i, h1, h2, h3, h4⟩ | ⟨h1, h2⟩
      · refine .inl ⟨i + 1, by simpa using h1, h2, fun j hj => ?_, h4⟩
        cases j with
        | zero => exact hc
        | succ j => exact h3 j (by omega)
      · refine .inr ⟨fun j hj => ?_, h2⟩
        cases j with
        | zero => exact hc
        | succ j => exact h1 j (by simpa using hj)
theorem goOnF_followed {s : StepD} {xs : List AnswerD} (h : AnsOk s xs) : Followed s xs (goOnF s xs) := by
  refine .inr ⟨h, ?_⟩
  unfold goOnF
  cases hf : failAt xs 0 with
  | some j =>
    obtain ⟨i, h1, h2, h3, h4⟩ := failAt_some hf
    have : j = i := by omega
    subst this
    refine .inl ⟨j, h2, h3, h4, ?_⟩
    by_cases hfa : s.fall = -1
    · exact .inl ⟨hfa, by simp [hfa]⟩
    · exact .inr ⟨hfa, by simp [hfa]⟩
  | none =>
    refine .inr ⟨failAt_none hf, _, ?_, rfl⟩
    by_cases h0 : xs.length = 0
    · rw [if_pos h0]
      exact .inl ⟨h0, rfl⟩
    · rw [if_neg h0]
      refine .inr ⟨h0, ?_⟩
      rcases caseAt_is (textAt xs s.on) s.els s.cases with ⟨i, g1, g2, g3, g4⟩ | ⟨g1, g2⟩
      · exact .inl ⟨i, g1, g2, g3, g4⟩
      · exact .inr ⟨g1, g2⟩

theorem WentOn.goodX {cost : Int} {l : List StepD} {at' : Int} {ans : List AnswerD} {g : GoneD} (h : WentOn cost l at' ans g) : (g.code = 0 → g.over = false → 0 ≤ g.at' ∧ g.at' < l.length) ∧ (g.over = true → 7 ≤ g.text.size) := by
  rcases h with ⟨_, rfl⟩ | ⟨⟨hA, ⟨h1, h2⟩, hf⟩, h⟩
  · exact ⟨fun e => by simp [GoneD.none] at e, fun e => by simp [GoneD.none] at e⟩
  · have hat : at'.toNat < l.length := by omega
    have hs : StepOk (stepAt l at') l.length := hA.2.2 at'.toNat hat
    obtain ⟨⟨_, _, _, hn, _, he, hfall, _⟩, hc⟩ := hs.2 hf
    rcases h with ⟨_, rfl⟩ | ⟨hAns, ⟨i, hi, _, _, ⟨_, rfl⟩ | ⟨hne, rfl⟩⟩ | ⟨_, r, hr, rfl⟩⟩
    · exact ⟨fun e => by simp [GoneD.none] at e, fun e => by simp [GoneD.none] at e⟩
    · refine ⟨fun _ e => by simp at e, fun _ => ?_⟩
      have := (hn i (by rw [← hAns.1]; exact hi)).1.1
      show 7 ≤ (belowOf (stepAt l at') i).size
      unfold belowOf
      rw [ByteArray.size_append]
      show 7 ≤ 6 + _
      omega
    · exact ⟨fun _ _ => ⟨by show 0 ≤ (stepAt l at').fall; omega, hfall.2⟩, fun e => by simp at e⟩
    · refine ⟨fun _ _ => ?_, fun e => by simp at e⟩
      show 0 ≤ r ∧ r < l.length
      rcases hr with ⟨_, rfl⟩ | ⟨_, ⟨j, hj, _, _, rfl⟩ | ⟨_, rfl⟩⟩
      · exact he
      · exact (hc j hj).2
      · exact he

theorem goOnF_code (s : StepD) (xs : List AnswerD) : (goOnF s xs).code = 0 := by
  unfold goOnF
  split
  · split <;> rfl
  · rfl
structure RunX.Good (webl : List NodeD) (r : RunX) : Prop where
  act : InAct webl r
  lo : 0 ≤ r.visits
  hi : r.visits ≤ 20
  tl : (r.texts.length : Int) ≤ 5 * r.visits
  ts : ∀ t ∈ r.texts, t.size ≤ 200
  tx : r.text.size ≤ 200
  stp : ∀ A, actsOf webl r.name = some A → r.over = false → r.visits ≠ 0 → (stepOf A r.at').fin = false

def GoodEnv (webl : List NodeD) (σ : Env) : Prop := ∀ n r, σ n = some r → r.name = n ∧ r.Good webl

theorem noOf_size {n : ByteArray} (h : n.size ≤ 20) : (noOf n).size ≤ 200 := by
  unfold noOf
  rw [ByteArray.size_append]
  show 3 + n.size ≤ 200
  omega
theorem ansOf_size {webl : List NodeD} {σ : Env} {n : ByteArray} {x : AnswerD} (hg : GoodEnv webl σ) (hn : n.size ≤ 20) (h : ansOf (actsOf webl) σ n = some x) : x.text.size ≤ 200 := by
  unfold ansOf at h
  split at h
  · simp only [Option.some.injEq] at h
    subst h
    exact noOf_size hn
  · split at h
    · rename_i r hr
      split at h
      · simp only [Option.some.injEq] at h
        subst h
        exact (hg n r hr).2.tx
      · cases h
    · cases h
theorem answersOf_each {W : Acts} {σ : Env} {p : AnswerD → Prop} : ∀ {l : List ByteArray} {xs : List AnswerD}, (∀ n ∈ l, ∀ x, ansOf W σ n = some x → p x) → answersOf W σ l = some xs → xs.length = l.length ∧ ∀ x ∈ xs, p x
  | [], xs, _, h => by
    simp only [answersOf, Option.some.injEq] at h
    subst h
    exact ⟨rfl, fun x hx => by cases hx⟩
  | a :: l, xs, hp, h => by
    unfold answersOf at h
    cases ha : ansOf W σ a with
    | none => simp [ha] at h
    | some x =>
      cases hl : answersOf W σ l with
      | none => simp [ha, hl] at h
      | some ys =>
        simp only [ha, hl, Option.some.injEq] at h
        subst h
        obtain ⟨h1, h2⟩ := answersOf_each (p := p) (fun n hn => hp n (List.mem_cons_of_mem _ hn)) hl
        refine ⟨by simp [h1], fun y hy => ?_⟩
        rcases List.mem_cons.1 hy with rfl | hy
        · exact hp a (by simp) y ha
        · exact h2 y hy
theorem answers_ok {webl : List NodeD} {σ : Env} {s : StepD} {xs : List AnswerD} (hg : GoodEnv webl σ) (hn : ∀ n ∈ s.asks, n.size ≤ 20) (h : answersOf (actsOf webl) σ s.asks = some xs) : AnsOk s xs ∧ ∀ x ∈ xs, x.text.size ≤ 200 := by
  obtain ⟨h1, h2⟩ := answersOf_each (p := fun x => x.text.size ≤ 200) (fun n hn' x hx => ansOf_size hg (hn n hn') hx) h
  refine ⟨⟨h1, fun ⟨i, hi, hl⟩ => ?_⟩, h2⟩
  have := h2 (xs.getD i AnswerD.zero) (by simp [List.getD, hi])
  unfold IsLong at hl
  omega
theorem asks_ok {A : ActionD} (hA : ActionOk A) {i : Int} (h0 : 0 ≤ i) (h1 : i < A.steps.length) : (stepOf A i).asks.length ≤ 5 ∧ ∀ n ∈ (stepOf A i).asks, NameOk n := by
  have hs : StepOk (stepOf A i) A.steps.length := hA.2.2 i.toNat (by omega)
  cases hf : (stepOf A i).fin with
  | true =>
    have := (hs.1 hf).1
    refine ⟨by omega, fun n hn => ?_⟩
    rw [List.eq_nil_of_length_eq_zero this] at hn
    cases hn
  | false =>
    have := (hs.2 hf).1
    refine ⟨this.2.2.1, fun n hn => ?_⟩
    obtain ⟨j, hj, e⟩ := List.getElem_of_mem hn
    have := (this.2.2.2.1 j hj).1
    simp only [List.getD, List.getElem?_eq_getElem hj, e, Option.getD_some] at this
    exact this
theorem belowOf_size {s : StepD} {i : Nat} (h : ∀ n ∈ s.asks, n.size ≤ 20) : (belowOf s i).size ≤ 200 := by
  unfold belowOf
  rw [ByteArray.size_append]
  show 6 + _ ≤ 200
  by_cases hi : i < s.asks.length
  · have := h (s.asks.getD i ByteArray.empty) (by simp [List.getD, hi]); omega
  · have e : s.asks.getD i ByteArray.empty = ByteArray.empty := by simp [List.getD, hi]
    rw [e]
    decide
theorem finB_le (give : ByteArray) (l : List ByteArray) : (finB give l).size ≤ 200 := by
  show (finishOf give.data.toList (texts l)).toArray.size ≤ 200
  unfold finishOf
  split
  · simp
  · split
    · simpa using ‹_›
    · simp [hexL_length]
theorem goodOf_len (xs : List AnswerD) : (goodOf xs).length ≤ xs.length := by
  unfold goodOf
  rw [List.length_map]
  exact List.length_filter_le _ _
theorem goodOf_mem {xs : List AnswerD} {t : ByteArray} (h : t ∈ goodOf xs) : ∃ x ∈ xs, x.text = t := by
  unfold goodOf at h
  rw [List.mem_map] at h
  obtain ⟨x, hx, e⟩ := h
  exact ⟨x, (List.mem_filter.1 hx).1, e⟩

theorem arrive_good {webl : List NodeD} {A : ActionD} {r : RunX} (hw : actsOf webl r.name = some A) (h0 : 0 ≤ r.at') (h1 : r.at' < A.steps.length) (lo : 0 ≤ r.visits) (hi : r.visits < 20) (tl : (r.texts.length : Int) ≤ 5 * (r.visits + 1)) (ts : ∀ t ∈ r.texts, t.size ≤ 200) (tx : r.text.size ≤ 200) : (arrive A r).1.Good webl := by
  unfold arrive
  cases hf : (stepOf A r.at').fin with
  | true =>
    simp only [if_true]
    exact ⟨⟨A, hw, h0, h1⟩, by show 0 ≤ r.visits + 1; omega, by show r.visits + 1 ≤ 20; omega, tl, ts, finB_le _ _, fun _ _ h => by simp at h⟩
  | false =>
    simp only [Bool.false_eq_true, if_false]
    refine ⟨⟨A, hw, h0, h1⟩, by show 0 ≤ r.visits + 1; omega, by show r.visits + 1 ≤ 20; omega, tl, ts, tx, fun A' hA' _ _ => ?_⟩
    have : A = A' := Option.some.inj (hw.symm.trans hA')
    subst this
    exact hf
theorem nextOf_good {webl : List NodeD} {σ : Env} {r : RunX} (hok : ActsOk (actsOf webl)) (hg : GoodEnv webl σ) (h : r.Good webl) (hc : CanGo (actsOf webl) σ r) : (nextOf (actsOf webl) σ r).1.Good webl := by
  obtain ⟨A, hA, h0, h1⟩ := h.act
  have hAok := (hok _ _ hA).1
  unfold nextOf
  rw [hA]
  simp only
  by_cases hv : r.visits = 0
  · rw [if_pos hv]
    have := h.tl
    exact arrive_good hA h0 h1 h.lo (by omega) (by omega) h.ts h.tx
  · rw [if_neg hv]
    rcases hc.2 with e | ⟨A', xs, hA', hxs⟩
    · exact absurd e hv
    · rw [hA] at hA'
      cases hA'
      rw [hxs]
      simp only
      have lo := h.lo
      have hi := h.hi
      have tl := h.tl
      by_cases h20 : r.visits = 20
      · rw [if_pos h20]
        exact ⟨⟨A, hA, h0, h1⟩, h.lo, h.hi, h.tl, h.ts, by show spentB.size ≤ 200; decide, fun _ _ h => by simp at h⟩
      · rw [if_neg h20]
        obtain ⟨hal, han⟩ := asks_ok hAok h0 h1
        have han2 : ∀ n ∈ (stepOf A r.at').asks, n.size ≤ 20 := fun n hn => (han n hn).2.1
        obtain ⟨hAns, hxt⟩ := answers_ok hg han2 hxs
        have hfol := goOnF_followed hAns
        have hW : WentOn A.cost A.steps r.at' xs (goOnF (stepOf A r.at') xs) := .inr ⟨⟨hAok, ⟨h0, h1⟩, h.stp A hA hc.1 hv⟩, hfol⟩
        by_cases hgo : (goOnF (stepOf A r.at') xs).over = true
        · rw [if_pos hgo]
          refine ⟨⟨A, hA, h0, h1⟩, by show 0 ≤ r.visits + 1; omega, by show r.visits + 1 ≤ 20; omega, by show (r.texts.length : Int) ≤ 5 * (r.visits + 1); omega, h.ts, ?_, fun _ _ h => by simp at h⟩
          show (goOnF (stepOf A r.at') xs).text.size ≤ 200
          unfold goOnF
          split
          · split
            · exact belowOf_size han2
            · show (⟨#[]⟩ : ByteArray).size ≤ 200; decide
          · show (⟨#[]⟩ : ByteArray).size ≤ 200; decide
        · rw [if_neg hgo]
          have hgood : 0 ≤ (goOnF (stepOf A r.at') xs).at' ∧ (goOnF (stepOf A r.at') xs).at' < A.steps.length := by
            have hfF : (stepOf A r.at').fin = false := h.stp A hA hc.1 hv
            have hs : StepOk (stepOf A r.at') A.steps.length := hAok.2.2 r.at'.toNat (by omega)
            obtain ⟨⟨_, _, _, _, _, he, hfall, _⟩, hcs⟩ := hs.2 hfF
            unfold goOnF at hgo ⊢
            split
            · rename_i i hi'
              rw [hi'] at hgo
              simp only at hgo
              by_cases hfa : (stepOf A r.at').fall = -1
              · rw [if_pos hfa] at hgo; simp at hgo
              · rw [if_neg hfa]; exact ⟨by show 0 ≤ (stepOf A r.at').fall; omega, hfall.2⟩
            · show 0 ≤ (if xs.length = 0 then _ else _) ∧ (if xs.length = 0 then _ else _) < _
              split
              · exact he
              · rcases caseAt_is (textAt xs (stepOf A r.at').on) (stepOf A r.at').els (stepOf A r.at').cases with ⟨i, g1, _, _, g4⟩ | ⟨_, g2⟩
                · rw [g4]; exact (hcs i g1).2
                · rw [g2]; exact he
          have hgl := goodOf_len xs
          have hxl : xs.length ≤ 5 := by rw [hAns.1]; exact hal
          refine arrive_good (r := { r with texts := r.texts ++ goodOf xs, at' := (goOnF (stepOf A r.at') xs).at' }) hA hgood.1 hgood.2 h.lo (by show r.visits < 20; omega) ?_ (fun t ht => ?_) h.tx
          · show ((r.texts ++ goodOf xs).length : Int) ≤ 5 * (r.visits + 1)
            rw [List.length_append]
            push_cast
            omega
          · rcases List.mem_append.1 ht with ht | ht
            · exact h.ts t ht
            · obtain ⟨x, hx, rfl⟩ := goodOf_mem ht
              exact hxt x hx

end Go.Proofs.YtghipdfemoofhaaGreatDoor

namespace Go.Proofs.YtghipdfemoofhaaGreatDoor

def wantL (W : Acts) : List RunX → List ByteArray → List RunX
  | l, [] => l
  | l, a :: bs => wantL W (if (W a).isSome = true ∧ (envOf l a).isNone = true then l ++ [RunX.fresh a] else l) bs
theorem env_snoc (l : List RunX) (x : RunX) (m : ByteArray) : envOf (l ++ [x]) m = match envOf l m with | some r => some r | none => if x.name = m then some x else none := by
  unfold envOf
  rw [List.find?_append]
  cases h : l.find? fun r => decide (r.name = m) with
  | some r => rfl
  | none =>
    by_cases e : x.name = m
    · simp [e]
    · simp [e]
theorem wantL_env (W : Acts) : ∀ (bs : List ByteArray) (l : List RunX) (m : ByteArray), envOf (wantL W l bs) m = match envOf l m with | some r => some r | none => if hasN bs m = true ∧ (W m).isSome = true then some (RunX.fresh m) else none
  | [], l, m => by
    show envOf l m = _
    cases envOf l m with
    | some r => rfl
    | none => simp [hasN]
  | a :: bs, l, m => by
    show envOf (wantL W (if (W a).isSome = true ∧ (envOf l a).isNone = true then l ++ [RunX.fresh a] else l) bs) m = _
    rw [wantL_env W bs]
    have hcons : hasN (a :: bs) m = true ↔ a = m ∨ hasN bs m = true := by simp [hasN]
    by_cases hc : (W a).isSome = true ∧ (envOf l a).isNone = true
    · rw [if_pos hc, env_snoc]
      cases hm : envOf l m with
      | some r => rfl
      | none =>
        simp only
        by_cases e : a = m
        · subst e
          have e1 : (RunX.fresh a).name = a := rfl
          rw [if_pos e1]
          simp only
          rw [if_pos ⟨hcons.2 (.inl rfl), hc.1⟩]
        · have e1 : (RunX.fresh a).name ≠ m := e
          rw [if_neg e1]
          simp only
          by_cases h2 : hasN bs m = true ∧ (W m).isSome = true
          · rw [if_pos h2, if_pos ⟨hcons.2 (.inr h2.1), h2.2⟩]
          · rw [if_neg h2, if_neg]
            rintro ⟨h3, h4⟩
            rcases hcons.1 h3 with h5 | h5
            · exact e h5
            · exact h2 ⟨h5, h4⟩
    · rw [if_neg hc]
      cases hm : envOf l m with
      | some r => rfl
      | none =>
        simp only
        by_cases h2 : hasN bs m = true ∧ (W m).isSome = true
        · rw [if_pos h2, if_pos ⟨hcons.2 (.inr h2.1), h2.2⟩]
        · rw [if_neg h2, if_neg]
          rintro ⟨h3, h4⟩
          rcases hcons.1 h3 with h5 | h5
          · subst h5
            exact hc ⟨h4, by rw [hm]; rfl⟩
          · exact h2 ⟨h5, h4⟩
theorem wantL_diff (W : Acts) : ∀ (bs : List ByteArray) (l : List RunX), (∀ x ∈ l, ∀ y ∈ l, x.name = y.name → x = y) → ∀ x ∈ wantL W l bs, ∀ y ∈ wantL W l bs, x.name = y.name → x = y
  | [], _, h => h
  | a :: bs, l, h => by
    show ∀ x ∈ wantL W (if (W a).isSome = true ∧ (envOf l a).isNone = true then l ++ [RunX.fresh a] else l) bs, ∀ y ∈ wantL W (if (W a).isSome = true ∧ (envOf l a).isNone = true then l ++ [RunX.fresh a] else l) bs, _
    refine wantL_diff W bs _ ?_
    by_cases hc : (W a).isSome = true ∧ (envOf l a).isNone = true
    · rw [if_pos hc]
      have hno : ∀ x ∈ l, x.name ≠ a := fun x hx e => by
        have := (env_iff h).2 ⟨hx, e⟩
        rw [this] at hc
        simp at hc
      intro x hx y hy e
      rcases List.mem_append.1 hx with hx | hx <;> rcases List.mem_append.1 hy with hy | hy
      · exact h x hx y hy e
      · rw [List.mem_singleton] at hy; subst hy; exact absurd e (hno x hx)
      · rw [List.mem_singleton] at hx; subst hx; exact absurd e.symm (hno y hy)
      · rw [List.mem_singleton] at hx hy; rw [hx, hy]
    · rw [if_neg hc]
      exact h
def doL (W : Acts) (l : List RunX) (r : RunX) : List RunX := (wantL W (insX l (nextOf W (envOf l) r).1) (nextOf W (envOf l) r).2).foldl insX []
theorem doL_asc {W : Acts} {l : List RunX} {r : RunX} (h : AscX l) : AscX (doL W l r) := (foldl_ins _ [] List.Pairwise.nil (wantL_diff W _ _ (asc_diff (insX_asc h)))).1
theorem doL_env {W : Acts} {l : List RunX} {n : ByteArray} {r : RunX} (h : AscX l) (hr : envOf l n = some r) : envOf (doL W l r) = doX W (envOf l) n := by
  funext m
  have hn : r.name = n := (env_mem hr).2
  have hn2 : (nextOf W (envOf l) r).1.name = n := by rw [nextOf_name]; exact hn
  unfold doL
  rw [(foldl_ins _ [] List.Pairwise.nil (wantL_diff W _ _ (asc_diff (insX_asc h)))).2 m, wantL_env, insX_env h, doX_eq hr, hn2]
  by_cases e : m = n
  · rw [if_pos e, if_pos e]
  · rw [if_neg e, if_neg e]
    cases hm : envOf l m with
    | some x => rfl
    | none =>
      simp only
      by_cases c : hasN (nextOf W (envOf l) r).2 m = true ∧ (W m).isSome = true
      · rw [if_pos c]
      · rw [if_neg c]
        rfl

structure GoodL (webl : List NodeD) (l : List RunX) : Prop where
  asc : AscX l
  good : ∀ r ∈ l, r.Good webl
theorem GoodL.env {webl : List NodeD} {l : List RunX} (h : GoodL webl l) : GoodEnv webl (envOf l) := fun _n r hr => ⟨(env_mem hr).2, h.good r (env_mem hr).1⟩
theorem fresh_good {webl : List NodeD} (hok : ActsOk (actsOf webl)) {a : ByteArray} (h : (actsOf webl a).isSome = true) : (RunX.fresh a).Good webl := by
  obtain ⟨A, hA⟩ := Option.isSome_iff_exists.1 h
  have hA1 := (hok a A hA).1.2.1.1
  exact ⟨⟨A, hA, Int.le_refl _, by show (0 : Int) < A.steps.length; omega⟩, Int.le_refl _, by show (0 : Int) ≤ 20; omega, by show ((([] : List ByteArray).length : Nat) : Int) ≤ 5 * 0; simp, fun t ht => (by cases ht), by show (⟨#[]⟩ : ByteArray).size ≤ 200; decide, fun _ _ _ h => absurd rfl h⟩
theorem doL_good {webl : List NodeD} (hok : ActsOk (actsOf webl)) {l : List RunX} {r : RunX} (h : GoodL webl l) (hr : r ∈ l) (hc : CanGo (actsOf webl) (envOf l) r) : GoodL webl (doL (actsOf webl) l r) := by
  refine ⟨doL_asc h.asc, fun x hx => ?_⟩
  have he := asc_env h.asc hr
  have h1 := asc_env (doL_asc (W := actsOf webl) (r := r) h.asc) hx
  rw [doL_env h.asc he, doX_eq he] at h1
  by_cases e : x.name = r.name
  · rw [if_pos e] at h1
    cases h1
    exact nextOf_good hok h.env (h.good r hr) hc
  · rw [if_neg e] at h1
    cases hm : envOf l x.name with
    | some y =>
      rw [hm] at h1
      cases h1
      exact h.good x (env_mem hm).1
    | none =>
      rw [hm] at h1
      simp only at h1
      split at h1
      · rename_i hc2
        have e2 : RunX.fresh x.name = x := Option.some.inj h1
        rw [← e2]
        exact fresh_good hok hc2.2
      · cases h1

end Go.Proofs.YtghipdfemoofhaaGreatDoor

namespace Go.Proofs.YtghipdfemoofhaaGreatDoor

inductive ReadyL (W : Acts) (σ : Env) : List RunX → List ByteArray → Prop
  | nil : ReadyL W σ [] []
  | yes {l : List RunX} {ns : List ByteArray} {r : RunX} (h : ReadyL W σ l ns) (hr : CanGo W σ r) : ReadyL W σ (l ++ [r]) (ns ++ [r.name])
  | no {l : List RunX} {ns : List ByteArray} {r : RunX} (h : ReadyL W σ l ns) (hr : ¬ CanGo W σ r) : ReadyL W σ (l ++ [r]) ns

theorem ReadyL.mem {W : Acts} {σ : Env} {l : List RunX} {ns : List ByteArray} (h : ReadyL W σ l ns) (n : ByteArray) : n ∈ ns ↔ ∃ r ∈ l, r.name = n ∧ CanGo W σ r := by
  induction h with
  | nil => simp
  | yes h hr ih =>
    rename_i l ns r
    rw [List.mem_append, ih, List.mem_singleton]
    constructor
    · rintro (⟨x, h1, h2⟩ | rfl)
      · exact ⟨x, List.mem_append.2 (.inl h1), h2⟩
      · exact ⟨r, List.mem_append.2 (.inr (by simp)), rfl, hr⟩
    · rintro ⟨x, h1, h2, h3⟩
      rcases List.mem_append.1 h1 with h1 | h1
      · exact .inl ⟨x, h1, h2, h3⟩
      · rw [List.mem_singleton] at h1
        subst h1
        exact .inr h2.symm
  | no h hr ih =>
    rename_i l ns r
    rw [ih]
    constructor
    · rintro ⟨x, h1, h2⟩
      exact ⟨x, List.mem_append.2 (.inl h1), h2⟩
    · rintro ⟨x, h1, h2, h3⟩
      rcases List.mem_append.1 h1 with h1 | h1
      · exact ⟨x, h1, h2, h3⟩
      · rw [List.mem_singleton] at h1
        subst h1
        exact absurd h3 hr
theorem ReadyL.nodup {W : Acts} {σ : Env} {l : List RunX} {ns : List ByteArray} (h : ReadyL W σ l ns) (ha : AscX l) : ns.Nodup := by
  induction h with
  | nil => exact List.nodup_nil
  | yes h hr ih =>
    rename_i l ns r
    have ha' := List.pairwise_append.1 ha
    rw [List.nodup_append]
    refine ⟨ih ha'.1, by simp, ?_⟩
    intro a h1 b h2
    rw [List.mem_singleton] at h2
    subst h2
    obtain ⟨x, g1, rfl, _⟩ := (h.mem a).1 h1
    exact lessX_ne (ha'.2.2 x g1 r (by simp))
  | no h hr ih => exact ih (List.pairwise_append.1 ha).1
theorem ReadyL.ready {W : Acts} {l : List RunX} {ns : List ByteArray} (h : ReadyL W (envOf l) l ns) (ha : AscX l) (n : ByteArray) : n ∈ ns ↔ ReadyX W (envOf l) n := by
  rw [h.mem]
  constructor
  · rintro ⟨r, h1, rfl, h3⟩
    exact ⟨r, asc_env ha h1, h3⟩
  · rintro ⟨r, h1, h2⟩
    obtain ⟨h3, h4⟩ := env_mem h1
    exact ⟨r, h3, h4, h2⟩
theorem ReadyL.len {W : Acts} {σ : Env} {l : List RunX} {ns : List ByteArray} (h : ReadyL W σ l ns) : ns.length ≤ l.length := by
  induction h with
  | nil => exact Nat.le_refl _
  | yes _ _ ih => simp only [List.length_append, List.length_singleton]; omega
  | no _ _ ih => simp only [List.length_append, List.length_singleton]; omega
theorem ReadyL.unique {W : Acts} {σ : Env} {l : List RunX} {ns ns' : List ByteArray} (h : ReadyL W σ l ns) (g : ReadyL W σ l ns') : ns = ns' := by
  induction h generalizing ns' with
  | nil =>
    generalize e : ([] : List RunX) = l at g
    cases g with
    | nil => rfl
    | yes => simp at e
    | no => simp at e
  | yes h hr ih =>
    rename_i l ns r
    generalize e : l ++ [r] = l' at g
    cases g with
    | nil => simp at e
    | yes g gr =>
      rw [List.append_singleton_inj] at e
      obtain ⟨rfl, rfl⟩ := e
      rw [ih g]
    | no g gr =>
      rw [List.append_singleton_inj] at e
      obtain ⟨rfl, rfl⟩ := e
      exact absurd hr gr
  | no h hr ih =>
    rename_i l ns r
    generalize e : l ++ [r] = l' at g
    cases g with
    | nil => simp at e
    | yes g gr =>
      rw [List.append_singleton_inj] at e
      obtain ⟨rfl, rfl⟩ := e
      exact absurd gr hr
    | no g gr =>
      rw [List.append_singleton_inj] at e
      obtain ⟨rfl, rfl⟩ := e
      exact ih g

def startL (webl : List NodeD) (roots : List ByteArray) : List RunX := (wantL (actsOf webl) [] roots).foldl insX []
theorem startL_asc (webl : List NodeD) (roots : List ByteArray) : AscX (startL webl roots) := (foldl_ins _ [] List.Pairwise.nil (wantL_diff (actsOf webl) roots [] (fun _ h => by cases h))).1
theorem startL_env (webl : List NodeD) (roots : List ByteArray) (n : ByteArray) : envOf (startL webl roots) n = if hasN roots n = true ∧ (actsOf webl n).isSome = true then some (RunX.fresh n) else none := by
  unfold startL
  rw [(foldl_ins _ [] List.Pairwise.nil (wantL_diff (actsOf webl) roots [] (fun _ h => by cases h))).2 n, wantL_env]
  show (match (if hasN roots n = true ∧ (actsOf webl n).isSome = true then some (RunX.fresh n) else none) with | some r => some r | none => envOf [] n) = _
  split
  · rename_i r h; rw [h]
  · rename_i h; rw [h]; rfl
theorem startL_good {webl : List NodeD} (hok : ActsOk (actsOf webl)) (roots : List ByteArray) : GoodL webl (startL webl roots) := by
  refine ⟨startL_asc webl roots, fun r hr => ?_⟩
  have h1 := asc_env (startL_asc webl roots) hr
  rw [startL_env] at h1
  split at h1
  · rename_i h2
    have e2 : RunX.fresh r.name = r := Option.some.inj h1
    rw [← e2]
    exact fresh_good hok h2.2
  · cases h1

theorem GoodL.wf {webl : List NodeD} {l : List RunX} (h : GoodL webl l) : WfX (actsOf webl) (envOf l) := fun n r hr => by
  obtain ⟨h1, h2⟩ := env_mem hr
  have hg := h.good r h1
  obtain ⟨A, hA, _⟩ := hg.act
  exact ⟨h2, by rw [← h2, hA]; rfl, hg.lo, hg.hi⟩
theorem acts_in {webl : List NodeD} {n : ByteArray} (h : (actsOf webl n).isSome = true) : n ∈ webl.map (·.name) := by
  obtain ⟨A, hA⟩ := Option.isSome_iff_exists.1 h
  obtain ⟨k, h1, h2, _⟩ := acts_first hA
  rw [List.mem_map]
  refine ⟨webl.getD k NodeD.zero, ?_, h2⟩
  simp only [List.getD, List.getElem?_eq_getElem h1, Option.getD_some]
  exact List.getElem_mem h1
def potL (webl : List NodeD) (l : List RunX) : Nat := potAll (webl.map (·.name)) (envOf l)
theorem potL_do {webl : List NodeD} {l : List RunX} {n : ByteArray} {r : RunX} (h : GoodL webl l) (hr : envOf l n = some r) (hc : CanGo (actsOf webl) (envOf l) r) : potL webl (doL (actsOf webl) l r) < potL webl l := by
  unfold potL
  rw [doL_env h.asc hr]
  exact (potAll_do h.wf ⟨r, hr, hc⟩ _).2 (acts_in (h.wf n r hr).web)
theorem asc_nodup {l : List RunX} (h : AscX l) : (l.map (·.name)).Nodup := by
  rw [List.Nodup, List.pairwise_map]
  exact h.imp fun hx => lessX_ne hx
theorem GoodL.len {webl : List NodeD} {l : List RunX} (h : GoodL webl l) : l.length ≤ webl.length := by
  have h1 := List.Nodup.length_le_of_subset (asc_nodup h.asc) (l₂ := webl.map (·.name)) (fun n hn => by
    obtain ⟨r, hr, rfl⟩ := List.mem_map.1 hn
    exact acts_in (h.wf r.name r (asc_env h.asc hr)).web)
  simpa using h1

theorem ready_rest {W : Acts} {σ : Env} {ns : List ByteArray} (hn : ns.Nodup) {i : Nat} (hi : i < ns.length) (h : ∀ j, i ≤ j → j < ns.length → ReadyX W σ (ns.getD j ByteArray.empty)) : ∀ j, i + 1 ≤ j → j < ns.length → ReadyX W (doX W σ (ns.getD i ByteArray.empty)) (ns.getD j ByteArray.empty) := by
  intro j hj hjl
  refine (doX_commutes σ _ _ ?_ (h i (Nat.le_refl _) hi) (h j (by omega) hjl)).1
  simp only [List.getD, List.getElem?_eq_getElem hi, List.getElem?_eq_getElem hjl, Option.getD_some]
  exact List.pairwise_iff_getElem.1 hn i j hi hjl (by omega)

def GoalX (webl : List NodeD) (roots : List ByteArray) (sl : List RunX) : Prop :=
  ∃ k L, GoodL webl L ∧ Leads (Behind (W := actsOf webl) behindS (envOf sl)) (doX (actsOf webl)) (envOf (startL webl roots)) (envOf L) k ∧ AtEnd (Behind (W := actsOf webl) behindS (envOf sl)) (envOf L) ∧ L = sl
theorem goalX_iff {webl : List NodeD} {roots : List ByteArray} {sl L : List RunX} {k : Nat} (hg : GoodL webl L) (hl : Leads (Behind (W := actsOf webl) behindS (envOf sl)) (doX (actsOf webl)) (envOf (startL webl roots)) (envOf L) k) (he : AtEnd (Behind (W := actsOf webl) behindS (envOf sl)) (envOf L)) : L = sl ↔ GoalX webl roots sl := by
  constructor
  · intro h
    exact ⟨k, L, hg, hl, he, h⟩
  · rintro ⟨k', L', hg', hl', he', rfl⟩
    exact asc_eq hg.asc hg'.asc (Leads.unique (behind_commutes _ _) hl he hl' he')

structure RoundX (webl : List NodeD) (G : Env) (σ0 : Env) (ns : List ByteArray) (l0 l : List RunX) (i : Nat) (b : Bool) : Prop where
  good : GoodL webl l
  led : ∃ k, Leads (Behind (W := actsOf webl) behindS G) (doX (actsOf webl)) σ0 (envOf l) k
  rest : ∀ j, i ≤ j → j < ns.length → ReadyX (actsOf webl) (envOf l) (ns.getD j ByteArray.empty)
  no : b = false → l = l0 ∧ ∀ j, j < i → ¬ Behind (W := actsOf webl) behindS G (envOf l0) (ns.getD j ByteArray.empty)
  yes : b = true → potL webl l < potL webl l0
theorem RoundX.start {webl : List NodeD} {G σ0 : Env} {ns : List ByteArray} {l0 : List RunX} (hg : GoodL webl l0) (hl : ∃ k, Leads (Behind (W := actsOf webl) behindS G) (doX (actsOf webl)) σ0 (envOf l0) k) (hr : ReadyL (actsOf webl) (envOf l0) l0 ns) : RoundX webl G σ0 ns l0 l0 0 false :=
  ⟨hg, hl, fun j _ hj => by
    rw [← hr.ready hg.asc]
    simp only [List.getD, List.getElem?_eq_getElem hj, Option.getD_some]
    exact List.getElem_mem hj, fun _ => ⟨rfl, fun j hj => absurd hj (Nat.not_lt_zero _)⟩, fun h => by cases h⟩
theorem RoundX.skip {webl : List NodeD} {G σ0 : Env} {ns : List ByteArray} {l0 l : List RunX} {i : Nat} {b : Bool} (h : RoundX webl G σ0 ns l0 l i b) (hn : ¬ Behind (W := actsOf webl) behindS G (envOf l) (ns.getD i ByteArray.empty)) : RoundX webl G σ0 ns l0 l (i + 1) b :=
  ⟨h.good, h.led, fun j hj hjl => h.rest j (by omega) hjl, fun hb => ⟨(h.no hb).1, fun j hj => by
    by_cases e : j = i
    · subst e
      rw [← (h.no hb).1]
      exact hn
    · exact (h.no hb).2 j (by omega)⟩, h.yes⟩
theorem RoundX.did {webl : List NodeD} (hok : ActsOk (actsOf webl)) {G σ0 : Env} {ns : List ByteArray} (hnd : ns.Nodup) {l0 l : List RunX} {i : Nat} {b : Bool} (h : RoundX webl G σ0 ns l0 l i b) (hi : i < ns.length) (hn : Behind (W := actsOf webl) behindS G (envOf l) (ns.getD i ByteArray.empty)) {r : RunX} (hr : envOf l (ns.getD i ByteArray.empty) = some r) : RoundX webl G σ0 ns l0 (doL (actsOf webl) l r) (i + 1) true := by
  obtain ⟨k, hk⟩ := h.led
  obtain ⟨⟨r', hr', hc⟩, _⟩ := hn
  have hn : Behind (W := actsOf webl) behindS G (envOf l) (ns.getD i ByteArray.empty) := ⟨⟨r', hr', hc⟩, by assumption⟩
  rw [hr] at hr'
  cases hr'
  have he := doL_env (W := actsOf webl) h.good.asc hr
  have hp := potL_do h.good hr hc
  refine ⟨doL_good hok h.good (env_mem hr).1 hc, ⟨k + 1, by rw [he]; exact hk.snoc hn⟩, fun j hj hjl => by rw [he]; exact ready_rest hnd hi h.rest j hj hjl, fun hb => (by cases hb), fun _ => ?_⟩
  cases b with
  | true => have := h.yes rfl; omega
  | false => rw [(h.no rfl).1] at hp ⊢; exact hp
theorem RoundX.atEnd {webl : List NodeD} {G σ0 : Env} {ns : List ByteArray} {l0 l : List RunX} (hg : GoodL webl l0) (hr : ReadyL (actsOf webl) (envOf l0) l0 ns) (h : RoundX webl G σ0 ns l0 l ns.length false) : l = l0 ∧ AtEnd (Behind (W := actsOf webl) behindS G) (envOf l) := by
  obtain ⟨h1, h2⟩ := h.no rfl
  refine ⟨h1, fun n hn => ?_⟩
  rw [h1] at hn
  have hm := (hr.ready hg.asc n).2 hn.1
  obtain ⟨j, hj, e⟩ := List.getElem_of_mem hm
  have := h2 j hj
  simp only [List.getD, List.getElem?_eq_getElem hj, Option.getD_some, e] at this
  exact this hn

end Go.Proofs.YtghipdfemoofhaaGreatDoor

namespace Go.Proofs.YtghipdfemoofhaaGreatDoor

section
variable {W : Acts}

def pend (W : Acts) (σ : Env) (r : RunX) : List ByteArray :=
  if r.over = true ∨ r.visits = 0 then [] else
  match W r.name with
  | none => []
  | some A => (stepOf A r.at').asks.filter fun a => (ansOf W σ a).isNone

theorem answers_some {σ : Env} : ∀ {l : List ByteArray}, (∃ xs, answersOf W σ l = some xs) ↔ ∀ a ∈ l, (ansOf W σ a).isSome = true
  | [] => ⟨fun _ _ h => (by cases h), fun _ => ⟨[], rfl⟩⟩
  | a :: l => by
    constructor
    · rintro ⟨xs, h⟩ b hb
      unfold answersOf at h
      cases ha : ansOf W σ a with
      | none => rw [ha] at h; cases h
      | some x =>
        rw [ha] at h
        simp only at h
        cases hl : answersOf W σ l with
        | none => rw [hl] at h; cases h
        | some ys =>
          rcases List.mem_cons.1 hb with rfl | hb
          · rw [ha]; rfl
          · exact answers_some.1 ⟨ys, hl⟩ b hb
    · intro h
      obtain ⟨ys, hl⟩ := answers_some.2 (fun b hb => h b (List.mem_cons_of_mem _ hb))
      obtain ⟨x, hx⟩ := Option.isSome_iff_exists.1 (h a (by simp))
      exact ⟨x :: ys, by unfold answersOf; rw [hx, hl]⟩
theorem canGo_iff {σ : Env} {r : RunX} (hw : (W r.name).isSome = true) : CanGo W σ r ↔ r.over = false ∧ pend W σ r = [] := by
  obtain ⟨A, hA⟩ := Option.isSome_iff_exists.1 hw
  unfold CanGo pend
  constructor
  · rintro ⟨h1, h2⟩
    refine ⟨h1, ?_⟩
    rcases h2 with h2 | ⟨A', xs, hA', hx⟩
    · rw [if_pos (.inr h2)]
    · by_cases h0 : r.visits = 0
      · rw [if_pos (.inr h0)]
      · rw [if_neg (by rw [h1]; simp [h0]), hA]
        simp only
        rw [hA] at hA'
        cases hA'
        rw [List.filter_eq_nil_iff]
        intro a ha
        have := answers_some.1 ⟨xs, hx⟩ a ha
        cases hn : ansOf W σ a with
        | none => rw [hn] at this; cases this
        | some x => simp
  · rintro ⟨h1, h2⟩
    refine ⟨h1, ?_⟩
    by_cases h0 : r.visits = 0
    · exact .inl h0
    · right
      rw [if_neg (by rw [h1]; simp [h0]), hA] at h2
      simp only at h2
      rw [List.filter_eq_nil_iff] at h2
      obtain ⟨xs, hx⟩ := (answers_some (l := (stepOf A r.at').asks) (W := W) (σ := σ)).2 (fun a ha => by
        have := h2 a ha
        cases hn : ansOf W σ a with
        | none => rw [hn] at this; simp at this
        | some x => rfl)
      exact ⟨A, xs, hA, hx⟩

theorem ans_do {σ : Env} {n : ByteArray} {r : RunX} (hr : σ n = some r) (_hc : r.over = false) (a : ByteArray) : ansOf W (doX W σ n) a = if a = n ∧ (W n).isSome = true then (if (nextOf W σ r).1.over = true then some ⟨(nextOf W σ r).1.fail, (nextOf W σ r).1.text⟩ else none) else ansOf W σ a := by
  unfold ansOf
  cases hw : W a with
  | none =>
    have : ¬ (a = n ∧ (W n).isSome = true) := by rintro ⟨rfl, h⟩; rw [hw] at h; cases h
    rw [if_neg this]
  | some A =>
    simp only
    by_cases e : a = n
    · subst e
      rw [if_pos ⟨rfl, by rw [hw]; rfl⟩, doX_here hr]
    · rw [if_neg (by rintro ⟨h, _⟩; exact e h), doX_eq hr, if_neg e]
      cases hs : σ a with
      | some x => rfl
      | none =>
        simp only
        split
        · rename_i x hx
          split at hx
          · cases hx; rfl
          · cases hx
        · rfl
theorem pend_do {σ : Env} {n : ByteArray} {r x : RunX} (hr : σ n = some r) (hc : r.over = false) (hw : (W n).isSome = true) : pend W (doX W σ n) x = if (nextOf W σ r).1.over = true then (pend W σ x).filter (fun a => !decide (a = n)) else pend W σ x := by
  unfold pend
  by_cases h0 : x.over = true ∨ x.visits = 0
  · rw [if_pos h0, if_pos h0]
    split <;> rfl
  · rw [if_neg h0, if_neg h0]
    cases hA : W x.name with
    | none => simp only; split <;> rfl
    | some A =>
      simp only
      have hn : ansOf W σ n = none := by
        unfold ansOf
        obtain ⟨B, hB⟩ := Option.isSome_iff_exists.1 hw
        rw [hB, hr]
        simp [hc]
      by_cases ho : (nextOf W σ r).1.over = true
      · rw [if_pos ho, List.filter_filter]
        congr 1
        funext a
        rw [ans_do hr hc]
        by_cases e : a = n
        · rw [if_pos ⟨e, hw⟩, if_pos ho]; simp [e]
        · rw [if_neg (by rintro ⟨h, _⟩; exact e h)]; simp [e]
      · rw [if_neg ho]
        congr 1
        funext a
        rw [ans_do hr hc]
        by_cases e : a = n
        · rw [if_pos ⟨e, hw⟩, if_neg ho, e, hn]
        · rw [if_neg (by rintro ⟨h, _⟩; exact e h)]
theorem pend_fresh (σ : Env) (n : ByteArray) : pend W σ (RunX.fresh n) = [] := by
  unfold pend
  rw [if_pos (.inr rfl)]
theorem pend_nodup {σ : Env} {r : RunX} (hok : ActsOk W) {A : ActionD} (hA : W r.name = some A) (h0 : 0 ≤ r.at') (h1 : r.at' < A.steps.length) : (pend W σ r).Nodup := by
  unfold pend
  split
  · exact List.nodup_nil
  · rw [hA]
    simp only
    refine List.Pairwise.filter _ ?_
    have hst := (hok _ _ hA).1.2.2 r.at'.toNat (by omega)
    have e : A.steps.getD r.at'.toNat StepD.zero = stepOf A r.at' := rfl
    rw [e] at hst
    cases hf : (stepOf A r.at').fin with
    | true =>
      have := (hst.1 hf).1
      rw [List.length_eq_zero_iff.1 this]
      exact List.Pairwise.nil
    | false =>
      have hn := (hst.2 hf).1.2.2.2.1
      rw [List.pairwise_iff_getElem]
      intro i j hi hj hij e
      have := (hn j hj).2 i hij
      simp only [List.getD, List.getElem?_eq_getElem hi, List.getElem?_eq_getElem hj, Option.getD_some] at this
      exact this e

end
end Go.Proofs.YtghipdfemoofhaaGreatDoor
