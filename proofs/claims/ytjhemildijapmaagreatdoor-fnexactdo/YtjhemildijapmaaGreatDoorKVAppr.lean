import Derived.Test.YtjhemildijapmaaGreatDoorKVDo
import Derived.Test.YtjhemildijapmaaGreatDoorKDBase
import Derived.Test.YtjhemildijapmaaGreatDoorProg
namespace Go.Proofs.YtjhemildijapmaaGreatDoor
inductive ReadyL (W : Acts) (σ : Env) : List RunX → List ByteArray → Prop
  | nil : ReadyL W σ [] []
  | yes {l : List RunX} {ns : List ByteArray} {r : RunX} (h : ReadyL W σ l ns) (hr : CanGo W σ r) : ReadyL W σ (l ++ [r]) (ns ++ [r.name])
  | no {l : List RunX} {ns : List ByteArray} {r : RunX} (h : ReadyL W σ l ns) (hr : ¬ CanGo W σ r) : ReadyL W σ (l ++ [r]) ns
theorem ReadyL.mem {W : Acts} {σ : Env} {l : List RunX} {ns : List ByteArray} (h : ReadyL W σ l ns) (n : ByteArray) : n ∈ ns ↔ ∃ r ∈ l, r.name = n ∧ CanGo W σ r := by
  induction h with
  | nil => simp
  | yes h hr ih =>
    rename_i l ns r
    rw [List.mem_append, ih, List.mem_singleton]
    constructor
    · rintro (⟨x, h1, h2⟩ | rfl)
      · exact ⟨x, List.mem_append.2 (.inl h1), h2⟩
      · exact ⟨r, List.mem_append.2 (.inr (by simp)), rfl, hr⟩
    · rintro ⟨x, h1, h2, h3⟩
      rcases List.mem_append.1 h1 with h1 | h1
      · exact .inl ⟨x, h1, h2, h3⟩
      · rw [List.mem_singleton] at h1
        subst h1
        exact .inr h2.symm
  | no h hr ih =>
    rename_i l ns r
    rw [ih]
    constructor
    · rintro ⟨x, h1, h2⟩
      exact ⟨x, List.mem_append.2 (.inl h1), h2⟩
    · rintro ⟨x, h1, h2, h3⟩
      rcases List.mem_append.1 h1 with h1 | h1
      · exact ⟨x, h1, h2, h3⟩
      · rw [List.mem_singleton] at h1
        subst h1
        exact absurd h3 hr
theorem ReadyL.nodup {W : Acts} {σ : Env} {l : List RunX} {ns : List ByteArray} (h : ReadyL W σ l ns) (ha : AscX l) : ns.Nodup := by
  induction h with
  | nil => exact List.nodup_nil
  | yes h hr ih =>
    rename_i l ns r
    have ha' := List.pairwise_append.1 ha
    rw [List.nodup_append]
    refine ⟨ih ha'.1, by simp, ?_⟩
    intro a h1 b h2
    rw [List.mem_singleton] at h2
    subst h2
    obtain ⟨x, g1, rfl, _⟩ := (h.mem a).1 h1
    exact lessX_ne (ha'.2.2 x g1 r (by simp))
  | no h hr ih => exact ih (List.pairwise_append.1 ha).1
theorem ReadyL.ready {W : Acts} {l : List RunX} {ns : List ByteArray} (h : ReadyL W (envOf l) l ns) (ha : AscX l) (n : ByteArray) : n ∈ ns ↔ ReadyX W (envOf l) n := by
  rw [h.mem]
  constructor
  · rintro ⟨r, h1, rfl, h3⟩
    exact ⟨r, asc_env ha h1, h3⟩
  · rintro ⟨r, h1, h2⟩
    obtain ⟨h3, h4⟩ := env_mem h1
    exact ⟨r, h3, h4, h2⟩
theorem ReadyL.len {W : Acts} {σ : Env} {l : List RunX} {ns : List ByteArray} (h : ReadyL W σ l ns) : ns.length ≤ l.length := by
  induction h with
  | nil => exact Nat.le_refl _
  | yes _ _ ih => simp only [List.length_append, List.length_singleton]; omega
  | no _ _ ih => simp only [List.length_append, List.length_singleton]; omega
theorem ReadyL.unique {W : Acts} {σ : Env} {l : List RunX} {ns ns' : List ByteArray} (h : ReadyL W σ l ns) (g : ReadyL W σ l ns') : ns = ns' := by
  induction h generalizing ns' with
  | nil =>
    generalize e : ([] : List RunX) = l at g
    cases g with
    | nil => rfl
    | yes => simp at e
    | no => simp at e
  | yes h hr ih =>
    rename_i l ns r
    generalize e : l ++ [r] = l' at g
    cases g with
    | nil => simp at e
    | yes g gr =>
      rw [List.append_singleton_inj] at e
      obtain ⟨rfl, rfl⟩ := e
      rw [ih g]
    | no g gr =>
      rw [List.append_singleton_inj] at e
      obtain ⟨rfl, rfl⟩ := e
      exact absurd hr gr
  | no h hr ih =>
    rename_i l ns r
    generalize e : l ++ [r] = l' at g
    cases g with
    | nil => simp at e
    | yes g gr =>
      rw [List.append_singleton_inj] at e
      obtain ⟨rfl, rfl⟩ := e
      exact absurd gr hr
    | no g gr =>
      rw [List.append_singleton_inj] at e
      obtain ⟨rfl, rfl⟩ := e
      exact ih g
def startL (webl : List NodeD) (roots : List ByteArray) : List RunX := (wantL (actsOf webl) [] roots).foldl insX []
theorem startL_asc (webl : List NodeD) (roots : List ByteArray) : AscX (startL webl roots) := (foldl_ins _ [] List.Pairwise.nil (wantL_diff (actsOf webl) roots [] (fun _ h => by cases h))).1
theorem startL_env (webl : List NodeD) (roots : List ByteArray) (n : ByteArray) : envOf (startL webl roots) n = if hasN roots n = true ∧ (actsOf webl n).isSome = true then some (RunX.fresh n) else none := by
  unfold startL
  rw [(foldl_ins _ [] List.Pairwise.nil (wantL_diff (actsOf webl) roots [] (fun _ h => by cases h))).2 n, wantL_env]
  show (match (if hasN roots n = true ∧ (actsOf webl n).isSome = true then some (RunX.fresh n) else none) with | some r => some r | none => envOf [] n) = _
  split
  · rename_i r h; rw [h]
  · rename_i h; rw [h]; rfl
theorem startL_good {webl : List NodeD} (hok : ActsOk (actsOf webl)) (roots : List ByteArray) : GoodL webl (startL webl roots) := by
  refine ⟨startL_asc webl roots, fun r hr => ?_⟩
  have h1 := asc_env (startL_asc webl roots) hr
  rw [startL_env] at h1
  split at h1
  · rename_i h2
    have e2 : RunX.fresh r.name = r := Option.some.inj h1
    rw [← e2]
    exact fresh_good hok h2.2
  · cases h1
theorem GoodL.wf {webl : List NodeD} {l : List RunX} (h : GoodL webl l) : WfX (actsOf webl) (envOf l) := fun n r hr => by
  obtain ⟨h1, h2⟩ := env_mem hr
  have hg := h.good r h1
  obtain ⟨A, hA, _⟩ := hg.act
  exact ⟨h2, by rw [← h2, hA]; rfl, hg.lo, hg.hi⟩
theorem acts_in {webl : List NodeD} {n : ByteArray} (h : (actsOf webl n).isSome = true) : n ∈ webl.map (·.name) := by
  obtain ⟨A, hA⟩ := Option.isSome_iff_exists.1 h
  obtain ⟨k, h1, h2, _⟩ := acts_first hA
  rw [List.mem_map]
  refine ⟨webl.getD k NodeD.zero, ?_, h2⟩
  simp only [List.getD, List.getElem?_eq_getElem h1, Option.getD_some]
  exact List.getElem_mem h1
def potL (webl : List NodeD) (l : List RunX) : Nat := potAll (webl.map (·.name)) (envOf l)
theorem potL_do {webl : List NodeD} {l : List RunX} {n : ByteArray} {r : RunX} (h : GoodL webl l) (hr : envOf l n = some r) (hc : CanGo (actsOf webl) (envOf l) r) : potL webl (doL (actsOf webl) l r) < potL webl l := by
  unfold potL
  rw [doL_env h.asc hr]
  exact (potAll_do h.wf ⟨r, hr, hc⟩ _).2 (acts_in (h.wf n r hr).web)
theorem asc_nodup {l : List RunX} (h : AscX l) : (l.map (·.name)).Nodup := by
  rw [List.Nodup, List.pairwise_map]
  exact h.imp fun hx => lessX_ne hx
theorem GoodL.len {webl : List NodeD} {l : List RunX} (h : GoodL webl l) : l.length ≤ webl.length := by
  have h1 := List.Nodup.length_le_of_subset (asc_nodup h.asc) (l₂ := webl.map (·.name)) (fun n hn => by
    obtain ⟨r, hr, rfl⟩ := List.mem_map.1 hn
    exact acts_in (h.wf r.name r (asc_env h.asc hr)).web)
  simpa using h1
theorem ready_rest {W : Acts} {σ : Env} {ns : List ByteArray} (hn : ns.Nodup) {i : Nat} (hi : i < ns.length) (h : ∀ j, i ≤ j → j < ns.length → ReadyX W σ (ns.getD j ByteArray.empty)) : ∀ j, i + 1 ≤ j → j < ns.length → ReadyX W (doX W σ (ns.getD i ByteArray.empty)) (ns.getD j ByteArray.empty) := by
  intro j hj hjl
  refine (doX_commutes σ _ _ ?_ (h i (Nat.le_refl _) hi) (h j (by omega) hjl)).1
  simp only [List.getD, List.getElem?_eq_getElem hi, List.getElem?_eq_getElem hjl, Option.getD_some]
  exact List.pairwise_iff_getElem.1 hn i j hi hjl (by omega)
def GoalX (webl : List NodeD) (roots : List ByteArray) (sl : List RunX) : Prop :=
  ∃ k L, GoodL webl L ∧ Leads (Behind (W := actsOf webl) behindS (envOf sl)) (doX (actsOf webl)) (envOf (startL webl roots)) (envOf L) k ∧ AtEnd (Behind (W := actsOf webl) behindS (envOf sl)) (envOf L) ∧ L = sl
theorem goalX_iff {webl : List NodeD} {roots : List ByteArray} {sl L : List RunX} {k : Nat} (hg : GoodL webl L) (hl : Leads (Behind (W := actsOf webl) behindS (envOf sl)) (doX (actsOf webl)) (envOf (startL webl roots)) (envOf L) k) (he : AtEnd (Behind (W := actsOf webl) behindS (envOf sl)) (envOf L)) : L = sl ↔ GoalX webl roots sl := by
  constructor
  · intro h
    exact ⟨k, L, hg, hl, he, h⟩
  · rintro ⟨k', L', hg', hl', he', rfl⟩
    exact asc_eq hg.asc hg'.asc (Leads.unique (behind_commutes _ _) hl he hl' he')
structure RoundX (webl : List NodeD) (G : Env) (σ0 : Env) (ns : List ByteArray) (l0 l : List RunX) (i : Nat) (b : Bool) : Prop where
  good : GoodL webl l
  led : ∃ k, Leads (Behind (W := actsOf webl) behindS G) (doX (actsOf webl)) σ0 (envOf l) k
  rest : ∀ j, i ≤ j → j < ns.length → ReadyX (actsOf webl) (envOf l) (ns.getD j ByteArray.empty)
  no : b = false → l = l0 ∧ ∀ j, j < i → ¬ Behind (W := actsOf webl) behindS G (envOf l0) (ns.getD j ByteArray.empty)
  yes : b = true → potL webl l < potL webl l0
theorem RoundX.start {webl : List NodeD} {G σ0 : Env} {ns : List ByteArray} {l0 : List RunX} (hg : GoodL webl l0) (hl : ∃ k, Leads (Behind (W := actsOf webl) behindS G) (doX (actsOf webl)) σ0 (envOf l0) k) (hr : ReadyL (actsOf webl) (envOf l0) l0 ns) : RoundX webl G σ0 ns l0 l0 0 false :=
  ⟨hg, hl, fun j _ hj => by
    rw [← hr.ready hg.asc]
    simp only [List.getD, List.getElem?_eq_getElem hj, Option.getD_some]
    exact List.getElem_mem hj, fun _ => ⟨rfl, fun j hj => absurd hj (Nat.not_lt_zero _)⟩, fun h => by cases h⟩
theorem RoundX.skip {webl : List NodeD} {G σ0 : Env} {ns : List ByteArray} {l0 l : List RunX} {i : Nat} {b : Bool} (h : RoundX webl G σ0 ns l0 l i b) (hn : ¬ Behind (W := actsOf webl) behindS G (envOf l) (ns.getD i ByteArray.empty)) : RoundX webl G σ0 ns l0 l (i + 1) b :=
  ⟨h.good, h.led, fun j hj hjl => h.rest j (by omega) hjl, fun hb => ⟨(h.no hb).1, fun j hj => by
    by_cases e : j = i
    · subst e
      rw [← (h.no hb).1]
      exact hn
    · exact (h.no hb).2 j (by omega)⟩, h.yes⟩
theorem RoundX.did {webl : List NodeD} (hok : ActsOk (actsOf webl)) {G σ0 : Env} {ns : List ByteArray} (hnd : ns.Nodup) {l0 l : List RunX} {i : Nat} {b : Bool} (h : RoundX webl G σ0 ns l0 l i b) (hi : i < ns.length) (hn : Behind (W := actsOf webl) behindS G (envOf l) (ns.getD i ByteArray.empty)) {r : RunX} (hr : envOf l (ns.getD i ByteArray.empty) = some r) : RoundX webl G σ0 ns l0 (doL (actsOf webl) l r) (i + 1) true := by
  obtain ⟨k, hk⟩ := h.led
  obtain ⟨⟨r', hr', hc⟩, _⟩ := hn
  have hn : Behind (W := actsOf webl) behindS G (envOf l) (ns.getD i ByteArray.empty) := ⟨⟨r', hr', hc⟩, by assumption⟩
  rw [hr] at hr'
  cases hr'
  have he := doL_env (W := actsOf webl) h.good.asc hr
  have hp := potL_do h.good hr hc
  refine ⟨doL_good hok h.good (env_mem hr).1 hc, ⟨k + 1, by rw [he]; exact hk.snoc hn⟩, fun j hj hjl => by rw [he]; exact ready_rest hnd hi h.rest j hj hjl, fun hb => (by cases hb), fun _ => ?_⟩
  cases b with
  | true => have := h.yes rfl; omega
  | false => rw [(h.no rfl).1] at hp ⊢; exact hp
theorem RoundX.atEnd {webl : List NodeD} {G σ0 : Env} {ns : List ByteArray} {l0 l : List RunX} (hg : GoodL webl l0) (hr : ReadyL (actsOf webl) (envOf l0) l0 ns) (h : RoundX webl G σ0 ns l0 l ns.length false) : l = l0 ∧ AtEnd (Behind (W := actsOf webl) behindS G) (envOf l) := by
  obtain ⟨h1, h2⟩ := h.no rfl
  refine ⟨h1, fun n hn => ?_⟩
  rw [h1] at hn
  have hm := (hr.ready hg.asc n).2 hn.1
  obtain ⟨j, hj, e⟩ := List.getElem_of_mem hm
  have := h2 j hj
  simp only [List.getD, List.getElem?_eq_getElem hj, Option.getD_some, e] at this
  exact this hn
section
variable {W : Acts}
def pend (W : Acts) (σ : Env) (r : RunX) : List ByteArray :=
  if r.over = true ∨ r.visits = 0 then [] else
  match W r.name with
  | none => []
  | some A => (stepOf A r.at').asks.filter fun a => (ansOf W σ a).isNone
theorem answers_some {σ : Env} : ∀ {l : List ByteArray}, (∃ xs, answersOf W σ l = some xs) ↔ ∀ a ∈ l, (ansOf W σ a).isSome = true
  | [] => ⟨fun _ _ h => (by cases h), fun _ => ⟨[], rfl⟩⟩
  | a :: l => by
    constructor
    · rintro ⟨xs, h⟩ b hb
      unfold answersOf at h
      cases ha : ansOf W σ a with
      | none => rw [ha] at h; cases h
      | some x =>
        rw [ha] at h
        simp only at h
        cases hl : answersOf W σ l with
        | none => rw [hl] at h; cases h
        | some ys =>
          rcases List.mem_cons.1 hb with rfl | hb
          · rw [ha]; rfl
          · exact answers_some.1 ⟨ys, hl⟩ b hb
    · intro h
      obtain ⟨ys, hl⟩ := answers_some.2 (fun b hb => h b (List.mem_cons_of_mem _ hb))
      obtain ⟨x, hx⟩ := Option.isSome_iff_exists.1 (h a (by simp))
      exact ⟨x :: ys, by unfold answersOf; rw [hx, hl]⟩
theorem canGo_iff {σ : Env} {r : RunX} (hw : (W r.name).isSome = true) : CanGo W σ r ↔ r.over = false ∧ pend W σ r = [] := by
  obtain ⟨A, hA⟩ := Option.isSome_iff_exists.1 hw
  unfold CanGo pend
  constructor
  · rintro ⟨h1, h2⟩
    refine ⟨h1, ?_⟩
    rcases h2 with h2 | ⟨A', xs, hA', hx⟩
    · rw [if_pos (.inr h2)]
    · by_cases h0 : r.visits = 0
      · rw [if_pos (.inr h0)]
      · rw [if_neg (by rw [h1]; simp [h0]), hA]
        simp only
        rw [hA] at hA'
        cases hA'
        rw [List.filter_eq_nil_iff]
        intro a ha
        have := answers_some.1 ⟨xs, hx⟩ a ha
        cases hn : ansOf W σ a with
        | none => rw [hn] at this; cases this
        | some x => simp
  · rintro ⟨h1, h2⟩
    refine ⟨h1, ?_⟩
    by_cases h0 : r.visits = 0
    · exact .inl h0
    · right
      rw [if_neg (by rw [h1]; simp [h0]), hA] at h2
      simp only at h2
      rw [List.filter_eq_nil_iff] at h2
      obtain ⟨xs, hx⟩ := (answers_some (l := (stepOf A r.at').asks) (W := W) (σ := σ)).2 (fun a ha => by
        have := h2 a ha
        cases hn : ansOf W σ a with
        | none => rw [hn] at this; simp at this
        | some x => rfl)
      exact ⟨A, xs, hA, hx⟩
theorem ans_do {σ : Env} {n : ByteArray} {r : RunX} (hr : σ n = some r) (_hc : r.over = false) (a : ByteArray) : ansOf W (doX W σ n) a = if a = n ∧ (W n).isSome = true then (if (nextOf W σ r).1.over = true then some ⟨(nextOf W σ r).1.fail, (nextOf W σ r).1.text⟩ else none) else ansOf W σ a := by
  unfold ansOf
  cases hw : W a with
  | none =>
    have : ¬ (a = n ∧ (W n).isSome = true) := by rintro ⟨rfl, h⟩; rw [hw] at h; cases h
    rw [if_neg this]
  | some A =>
    simp only
    by_cases e : a = n
    · subst e
      rw [if_pos ⟨rfl, by rw [hw]; rfl⟩, doX_here hr]
    · rw [if_neg (by rintro ⟨h, _⟩; exact e h), doX_eq hr, if_neg e]
      cases hs : σ a with
      | some x => rfl
      | none =>
        simp only
        split
        · rename_i x hx
          split at hx
          · cases hx; rfl
          · cases hx
        · rfl
theorem pend_do {σ : Env} {n : ByteArray} {r x : RunX} (hr : σ n = some r) (hc : r.over = false) (hw : (W n).isSome = true) : pend W (doX W σ n) x = if (nextOf W σ r).1.over = true then (pend W σ x).filter (fun a => !decide (a = n)) else pend W σ x := by
  unfold pend
  by_cases h0 : x.over = true ∨ x.visits = 0
  · rw [if_pos h0, if_pos h0]
    split <;> rfl
  · rw [if_neg h0, if_neg h0]
    cases hA : W x.name with
    | none => simp only; split <;> rfl
    | some A =>
      simp only
      have hn : ansOf W σ n = none := by
        unfold ansOf
        obtain ⟨B, hB⟩ := Option.isSome_iff_exists.1 hw
        rw [hB, hr]
        simp [hc]
      by_cases ho : (nextOf W σ r).1.over = true
      · rw [if_pos ho, List.filter_filter]
        congr 1
        funext a
        rw [ans_do hr hc]
        by_cases e : a = n
        · rw [if_pos ⟨e, hw⟩, if_pos ho]; simp [e]
        · rw [if_neg (by rintro ⟨h, _⟩; exact e h)]; simp [e]
      · rw [if_neg ho]
        congr 1
        funext a
        rw [ans_do hr hc]
        by_cases e : a = n
        · rw [if_pos ⟨e, hw⟩, if_neg ho, e, hn]
        · rw [if_neg (by rintro ⟨h, _⟩; exact e h)]
theorem pend_fresh (σ : Env) (n : ByteArray) : pend W σ (RunX.fresh n) = [] := by
  unfold pend
  rw [if_pos (.inr rfl)]
theorem pend_nodup {σ : Env} {r : RunX} (hok : ActsOk W) {A : ActionD} (hA : W r.name = some A) (h0 : 0 ≤ r.at') (h1 : r.at' < A.steps.length) : (pend W σ r).Nodup := by
  unfold pend
  split
  · exact List.nodup_nil
  · rw [hA]
    simp only
    refine List.Pairwise.filter _ ?_
    have hst := (hok _ _ hA).1.2.2 r.at'.toNat (by omega)
    have e : A.steps.getD r.at'.toNat StepD.zero = stepOf A r.at' := rfl
    rw [e] at hst
    cases hf : (stepOf A r.at').fin with
    | true =>
      have := (hst.1 hf).1
      rw [List.length_eq_zero_iff.1 this]
      exact List.Pairwise.nil
    | false =>
      have hn := (hst.2 hf).1.2.2.2.1
      rw [List.pairwise_iff_getElem]
      intro i j hi hj hij e
      have := (hn j hj).2 i hij
      simp only [List.getD, List.getElem?_eq_getElem hi, List.getElem?_eq_getElem hj, Option.getD_some] at this
      exact this e
end
end Go.Proofs.YtjhemildijapmaaGreatDoor
namespace Go.Proofs.YtjhemildijapmaaGreatDoor
section
variable {W : Acts}
def againN (W : Acts) (σ : Env) (n : ByteArray) : Nat → RunX × List ByteArray
  | 0 => (RunX.fresh n, [])
  | k + 1 => ((nextOf W σ (againN W σ n k).1).1, (againN W σ n k).2 ++ (nextOf W σ (againN W σ n k).1).2)
def Traj (W : Acts) (σ : Env) (r : RunX) (L : List ByteArray) : Prop := ∃ k, againN W σ r.name k = (r, L) ∧ ∀ j, j < k → CanGo W σ (againN W σ r.name j).1
theorem againN_name {σ : Env} {n : ByteArray} : ∀ k, (againN W σ n k).1.name = n
  | 0 => rfl
  | k + 1 => by unfold againN; rw [nextOf_name]; exact againN_name k
theorem Traj.start {σ : Env} (n : ByteArray) : Traj W σ (RunX.fresh n) [] := ⟨0, rfl, fun _ h => absurd h (Nat.not_lt_zero _)⟩
theorem Traj.unit {σ : Env} {r : RunX} {L : List ByteArray} (h : Traj W σ r L) (hc : CanGo W σ r) : Traj W σ (nextOf W σ r).1 (L ++ (nextOf W σ r).2) := by
  obtain ⟨k, h1, h2⟩ := h
  refine ⟨k + 1, ?_, fun j hj => ?_⟩
  · rw [nextOf_name]
    unfold againN
    rw [h1]
  · rw [nextOf_name]
    rcases Nat.lt_or_ge j k with g | g
    · exact h2 j g
    · have : j = k := by omega
      subst this
      rw [h1]
      exact hc
theorem againN_mono {σ : Env} {n m : ByteArray} (hr : ReadyX W σ m) : ∀ {k : Nat}, (∀ j, j < k → CanGo W σ (againN W σ n j).1) → againN W (doX W σ m) n k = againN W σ n k
  | 0, _ => rfl
  | k + 1, h => by
    have ih := againN_mono (k := k) hr (fun j hj => h j (by omega))
    have := nextOf_mono hr (h k (by omega))
    unfold againN
    rw [ih, this]
theorem Traj.mono {σ : Env} {m : ByteArray} {r : RunX} {L : List ByteArray} (h : Traj W σ r L) (hr : ReadyX W σ m) : Traj W (doX W σ m) r L := by
  obtain ⟨k, h1, h2⟩ := h
  refine ⟨k, by rw [againN_mono hr h2]; exact h1, fun j hj => ?_⟩
  rw [againN_mono hr (fun i hi => h2 i (by omega))]
  exact (h2 j hj).mono hr
theorem againN_visits {σ : Env} {n : ByteArray} (hw : (W n).isSome = true) : ∀ {k : Nat}, (∀ j, j < k → CanGo W σ (againN W σ n j).1) → (againN W σ n k).1.over = false → (againN W σ n k).1.visits = k
  | 0, _, _ => rfl
  | k + 1, h, ho => by
    have hk := h k (by omega)
    have ih := againN_visits hw (k := k) (fun j hj => h j (by omega)) hk.1
    rcases nextOf_visits hk (by rw [againN_name]; exact hw) with g | ⟨_, _, g⟩
    · show (nextOf W σ (againN W σ n k).1).1.visits = _
      rw [g, ih]
      omega
    · exact absurd (g.symm.trans ho) (by simp)
theorem Traj.last {σ : Env} {r : RunX} {L : List ByteArray} (h : Traj W σ r L) (ho : r.over = true) {k : Nat} (h1 : ∀ j, j < k → CanGo W σ (againN W σ r.name j).1) (h2 : ¬ CanGo W σ (againN W σ r.name k).1) : againN W σ r.name k = (r, L) := by
  obtain ⟨m, g1, g2⟩ := h
  rcases Nat.lt_trichotomy k m with g | g | g
  · exact absurd (g2 k g) h2
  · subst g; exact g1
  · have := (h1 m g).1
    rw [g1] at this
    exact absurd (ho.symm.trans this) (by simp)
theorem Traj.here {σ : Env} {r : RunX} {L : List ByteArray} (hw : (W r.name).isSome = true) (h : Traj W σ r L) (ho : r.over = false) : ∃ k : Nat, r.visits = k ∧ againN W σ r.name k = (r, L) ∧ ∀ j, j < k → CanGo W σ (againN W σ r.name j).1 := by
  obtain ⟨k, h1, h2⟩ := h
  refine ⟨k, ?_, h1, h2⟩
  have := againN_visits hw h2 (by rw [h1]; exact ho)
  rw [h1] at this
  exact this
theorem Traj.zero {σ : Env} {r : RunX} {L : List ByteArray} (hw : (W r.name).isSome = true) (h : Traj W σ r L) (hv : r.visits = 0) (ho : r.over = false) : L = [] := by
  obtain ⟨k, h1, h2, _⟩ := h.here hw ho
  have : k = 0 := by omega
  subst this
  simp [againN] at h2
  exact h2.2
end
end Go.Proofs.YtjhemildijapmaaGreatDoor
namespace Go.Proofs.YtjhemildijapmaaGreatDoor
open Go.RowKit
structure KnownX (w : World) (kb : Nat) (a : Option Addr) (n cap : Nat) (d : Option Addr) (m dc : Nat) : Prop where
  row : RowT w kb 91 2
  web : w.cell? ⟨kb, 0, none⟩ = some (.slice a n cap)
  runs : w.cell? ⟨kb, 1, none⟩ = some (.slice d m dc)
theorem KnownX.kept {w w' : World} {kb n cap m dc : Nat} {a d : Option Addr} (h : KnownX w kb a n cap d m dc) (k : Kept w w') : KnownX w' kb a n cap d m dc :=
  ⟨h.row.kept k, (k.cell h.row.lt).trans h.web, (k.cell h.row.lt).trans h.runs⟩
set_option maxRecDepth 100000 in
set_option maxHeartbeats 800000 in
theorem l2At_place (w : World) (a : Option Addr) (cap : Nat) (l : List NodeD) (key : ByteArray) (hl : l.length ≤ 1048576) (hS : Nodes w a l) :
    Calls Tryz.prog 79 #[.agg #[.slice a l.length cap], .string key] w fun e w' => (∃ r, e = .returned (.int .i64 r) ∧ PlaceN l key r) ∧ Kept w w' := by
  have k0 : Kept w (w.alloc (.cells #[.slice a l.length cap] 37)) := (Kept.refl _).alloc _
  go_enter Tryz.func79, Tryz.ntmps79
  go_wp2
  go_loop [5] (fun i => ∃ k : Nat, k ≤ l.length ∧ i = .int .i64 k ∧ Hid (∀ j, j < k → (l.getD j NodeD.zero).name ≠ key)) (fun i => l.length - (intOf i).toNat)
  case atStart => exact ⟨0, Nat.zero_le _, rfl, hide fun j hj => absurd hj (Nat.not_lt_zero _)⟩
  case round =>
    obtain ⟨k, hk, rfl, HG⟩ := hrel
    by_cases hlt : k < l.length
    · obtain ⟨b, o, cs, rfl, hb, hc, aa, ca, rfl, hA⟩ := (hS.kept k0) k hlt
      obtain ⟨d, hd⟩ : ∃ d, d = l.getD k NodeD.zero := ⟨_, rfl⟩
      rw [← hd] at hc
      have c0 := hc 0 _ rfl
      rw [Nat.add_zero] at c0
      have HD := hide hd
      clear hc hd hA
      cases hne : (d.name.toList == key.toList)
      · go_wp2
        go_round
        case rel =>
          refine ⟨k + 1, by omega, by go_num, hide fun j hj => ?_⟩
          by_cases e : j = k
          · rw [e, ← HD.out]; exact beq_no hne
          · exact HG.out j (by omega)
        case measure => simp [intOf]; omega
      · go_wp2
        go_ret
        exact ⟨⟨k, rfl, .inl ⟨k, hlt, rfl, acts_at hlt (by rw [← HD.out]; exact beq_yes hne) HG.out, (by rw [← HD.out]; exact beq_yes hne), HG.out⟩⟩, k0⟩
    · go_wp2
      go_ret
      exact ⟨⟨-1, rfl, .inr ⟨rfl, acts_none fun j hj => HG.out j (by omega)⟩⟩, k0⟩
set_option maxRecDepth 100000 in
set_option maxHeartbeats 800000 in
theorem findX (w : World) (kb : Nat) (a : Option Addr) (n cap : Nat) (d : Option Addr) (dc : Nat) (l : List RunX) (key : ByteArray) (hl : l.length ≤ 1048576) (hK : KnownX w kb a n cap d l.length dc) (hS : RunsX w d l) :
    Calls Tryz.prog 83 #[.pointer (some ⟨kb, 0, none⟩), .string key] w fun e w' => (∃ r, e = .returned (.int .i64 r) ∧ PlaceX l key r) ∧ w' = w := by
  have c1 := hK.runs
  have hb := hK.row.lt
  go_enter Tryz.func83, Tryz.ntmps83
  go_wp2
  go_loop [5] (fun i => ∃ k : Nat, k ≤ l.length ∧ i = .int .i64 k ∧ Hid (∀ j, j < k → (l.getD j RunX.zero).name ≠ key)) (fun i => l.length - (intOf i).toNat)
  case atStart => exact ⟨0, Nat.zero_le _, rfl, hide fun j hj => absurd hj (Nat.not_lt_zero _)⟩
  case round =>
    obtain ⟨k, hk, rfl, HG⟩ := hrel
    by_cases hlt : k < l.length
    · obtain ⟨b, o, xa, xc, rfl, hb', hc, _, _⟩ := hS k hlt
      obtain ⟨y, hy⟩ : ∃ y, y = l.getD k RunX.zero := ⟨_, rfl⟩
      rw [← hy] at hc
      have c0 := hc 0 _ rfl
      rw [Nat.add_zero] at c0
      have HD := hide hy
      clear hc hy
      cases hne : (y.name.toList == key.toList)
      · go_wp2
        go_round
        case rel =>
          refine ⟨k + 1, by omega, by go_num, hide fun j hj => ?_⟩
          by_cases e : j = k
          · rw [e, ← HD.out]; exact beq_no hne
          · exact HG.out j (by omega)
        case measure => simp [intOf]; omega
      · go_wp2
        go_ret
        exact ⟨⟨k, rfl, .inl ⟨k, hlt, rfl, env_at hlt (by rw [← HD.out]; exact beq_yes hne) HG.out, by rw [← HD.out]; exact beq_yes hne⟩⟩, rfl⟩
    · go_wp2
      go_ret
      exact ⟨⟨-1, rfl, .inr ⟨rfl, env_none fun j hj => HG.out j (by omega)⟩⟩, rfl⟩
set_option maxRecDepth 100000 in
set_option maxHeartbeats 800000 in
theorem l4At_place (w : World) (ra : Option Addr) (rn rc : Nat) (d : Option Addr) (dc : Nat) (l : List RunX) (key : ByteArray) (hl : l.length ≤ 1048576) (hS : RunsX w d l) :
    Calls Tryz.prog 42 #[.agg #[.slice ra rn rc, .slice d l.length dc], .string key] w fun e w' => (∃ r, e = .returned (.int .i64 r) ∧ PlaceX l key r) ∧ Kept w w' := by
  have k0 : Kept w (w.alloc (.cells #[.slice ra rn rc, .slice d l.length dc] 33)) := (Kept.refl _).alloc _
  go_enter Tryz.func42, Tryz.ntmps42
  go_wp2
  go_loop [5] (fun i => ∃ k : Nat, k ≤ l.length ∧ i = .int .i64 k ∧ Hid (∀ j, j < k → (l.getD j RunX.zero).name ≠ key)) (fun i => l.length - (intOf i).toNat)
  case atStart => exact ⟨0, Nat.zero_le _, rfl, hide fun j hj => absurd hj (Nat.not_lt_zero _)⟩
  case round =>
    obtain ⟨k, hk, rfl, HG⟩ := hrel
    by_cases hlt : k < l.length
    · obtain ⟨b, o, xa, xc, rfl, hb', hc, _, _⟩ := (hS.kept k0) k hlt
      obtain ⟨y, hy⟩ : ∃ y, y = l.getD k RunX.zero := ⟨_, rfl⟩
      rw [← hy] at hc
      have c0 := hc 0 _ rfl
      rw [Nat.add_zero] at c0
      have HD := hide hy
      clear hc hy
      cases hne : (y.name.toList == key.toList)
      · go_wp2
        go_round
        case rel =>
          refine ⟨k + 1, by omega, by go_num, hide fun j hj => ?_⟩
          by_cases e : j = k
          · rw [e, ← HD.out]; exact beq_no hne
          · exact HG.out j (by omega)
        case measure => simp [intOf]; omega
      · go_wp2
        go_ret
        exact ⟨⟨k, rfl, .inl ⟨k, hlt, rfl, env_at hlt (by rw [← HD.out]; exact beq_yes hne) HG.out, by rw [← HD.out]; exact beq_yes hne⟩⟩, k0⟩
    · go_wp2
      go_ret
      exact ⟨⟨-1, rfl, .inr ⟨rfl, env_none fun j hj => HG.out j (by omega)⟩⟩, k0⟩
end Go.Proofs.YtjhemildijapmaaGreatDoor
namespace Go.Proofs.YtjhemildijapmaaGreatDoor
def putA (r : RunX) (p : List RunX × Bool) (x : RunX) : List RunX × Bool := if p.2 = false ∧ Op.bytesLess x.name.toList r.name.toList = false then (p.1 ++ [r], true) else p
def putB (r : RunX) (p : List RunX × Bool) (x : RunX) : List RunX × Bool := if (x.name.toList == r.name.toList) = true then p else (p.1 ++ [x], p.2)
def putR (r : RunX) (p : List RunX × Bool) (x : RunX) : List RunX × Bool := putB r (putA r p x) x
def putK (l : List RunX) (r : RunX) (k : Nat) : List RunX × Bool := (l.take k).foldl (putR r) ([], false)
theorem putK_zero (l : List RunX) (r : RunX) : putK l r 0 = ([], false) := rfl
theorem putK_succ {l : List RunX} {r : RunX} {k : Nat} (h : k < l.length) : putK l r (k + 1) = putR r (putK l r k) (l.getD k RunX.zero) := by
  unfold putK
  rw [List.take_succ_eq_append_getElem h, List.foldl_append]
  simp [List.getD, h]
theorem putR_len (r : RunX) (p : List RunX × Bool) (x : RunX) : (putR r p x).1.length + (if (putR r p x).2 = true then 0 else 1) ≤ p.1.length + (if p.2 = true then 0 else 1) + 1 := by
  unfold putR putB putA
  obtain ⟨o, d⟩ := p
  cases d <;> cases Op.bytesLess x.name.toList r.name.toList <;> cases (x.name.toList == r.name.toList) <;> simp <;> omega
theorem putK_len {l : List RunX} {r : RunX} : ∀ {k : Nat}, k ≤ l.length → (putK l r k).1.length + (if (putK l r k).2 = true then 0 else 1) ≤ k + 1
  | 0, _ => by rw [putK_zero]; simp
  | k + 1, h => by
    have h1 := putK_len (l := l) (r := r) (k := k) (by omega)
    have h2 := putR_len r (putK l r k) (l.getD k RunX.zero)
    rw [putK_succ (by omega)]
    omega
def putEnd (r : RunX) (p : List RunX × Bool) : List RunX := if p.2 = true then p.1 else p.1 ++ [r]
theorem put_done (r : RunX) : ∀ (l acc : List RunX), l.foldl (putR r) (acc, true) = (acc ++ l.filter (fun x => !(x.name.toList == r.name.toList)), true)
  | [], acc => by simp
  | x :: l, acc => by
    rw [List.foldl_cons]
    have e : putR r (acc, true) x = (acc ++ (if (x.name.toList == r.name.toList) = true then [] else [x]), true) := by
      unfold putR putB putA
      cases (x.name.toList == r.name.toList) <;> simp
    rw [e, put_done r l]
    cases h : (x.name.toList == r.name.toList) <;> simp [h]
theorem put_fold (r : RunX) : ∀ (l acc : List RunX), AscX l → putEnd r (l.foldl (putR r) (acc, false)) = acc ++ insX l r
  | [], acc, _ => by simp [putEnd, insX]
  | x :: l, acc, h => by
    have h' := h
    rw [AscX, List.pairwise_cons] at h'
    rw [List.foldl_cons]
    cases hx : Op.bytesLess x.name.toList r.name.toList with
    | true =>
      have hne : (x.name.toList == r.name.toList) = false := by
        rw [beq_eq_false_iff_ne]
        intro e
        exact lessX_ne (a := x.name) (b := r.name) hx (toList_inj.1 e)
      have hgt : Op.bytesLess r.name.toList x.name.toList = false := by
        cases hg : Op.bytesLess r.name.toList x.name.toList with
        | false => rfl
        | true => exact absurd hg (lessX_asymm (a := x.name) (b := r.name) hx)
      have e : putR r (acc, false) x = (acc ++ [x], false) := by simp [putR, putB, putA, hx, hne]
      rw [e, put_fold r l _ h'.2]
      simp [insX, hx, hgt]
    | false =>
      have hge : ∀ y ∈ x :: l, Op.bytesLess y.name.toList r.name.toList = false := by
        intro y hy
        rcases List.mem_cons.1 hy with rfl | hy
        · exact hx
        · cases hg : Op.bytesLess y.name.toList r.name.toList with
          | false => rfl
          | true =>
            have := lessX_trans (h'.1 y hy) (show lessX y.name r.name from hg)
            unfold lessX at this
            rw [hx] at this
            cases this
      have f1 : (x :: l).filter (fun y => Op.bytesLess y.name.toList r.name.toList) = [] := by
        rw [List.filter_eq_nil_iff]
        intro y hy
        rw [hge y hy]
        simp
      have f2 : (x :: l).filter (fun y => Op.bytesLess r.name.toList y.name.toList) = (x :: l).filter (fun y => !(y.name.toList == r.name.toList)) := by
        refine List.filter_congr fun y hy => ?_
        rcases lessX_total r.name y.name with h3 | h3 | h3
        · have e2 : (y.name.toList == r.name.toList) = false := by
            rw [beq_eq_false_iff_ne]
            intro e
            exact lessX_ne h3 (toList_inj.1 e).symm
          unfold lessX at h3
          rw [h3, e2]
          rfl
        · rw [h3, less_irrefl]
          simp
        · unfold lessX at h3
          rw [hge y hy] at h3
          cases h3
      have e : putR r (acc, false) x = (acc ++ [r] ++ (if (x.name.toList == r.name.toList) = true then [] else [x]), true) := by
        unfold putR putB putA
        cases (x.name.toList == r.name.toList) <;> simp [hx]
      rw [e, put_done]
      unfold putEnd insX
      rw [f1, f2]
      cases h : (x.name.toList == r.name.toList) <;> simp [h]
theorem put_end {l : List RunX} {r : RunX} (h : AscX l) : putEnd r (putK l r l.length) = insX l r := by
  unfold putK
  rw [List.take_length, put_fold r l [] h, List.nil_append]
section
variable {webl : List NodeD} {Gl σ0 σs σ : Env} {ns : List ByteArray} {i : Nat} {b : Bool}
structure PassX (webl : List NodeD) (Gl σ0 σs : Env) (ns : List ByteArray) (σ : Env) (i : Nat) (b : Bool) : Prop where
  led : ∃ k, Leads (Behind (W := actsOf webl) behindI Gl) (doX (actsOf webl)) σ0 σ k
  no : b = false → σ = σs ∧ ∀ j, j < i → ¬ Behind (W := actsOf webl) behindI Gl σs (ns.getD j ByteArray.empty)
  yes : b = true → potAll (webl.map (·.name)) σ < potAll (webl.map (·.name)) σs
theorem PassX.start (hl : ∃ k, Leads (Behind (W := actsOf webl) behindI Gl) (doX (actsOf webl)) σ0 σs k) : PassX webl Gl σ0 σs ns σs 0 false :=
  ⟨hl, fun _ => ⟨rfl, fun j hj => absurd hj (Nat.not_lt_zero _)⟩, fun h => by cases h⟩
theorem PassX.skip (h : PassX webl Gl σ0 σs ns σ i b) (hn : ¬ Behind (W := actsOf webl) behindI Gl σ (ns.getD i ByteArray.empty)) : PassX webl Gl σ0 σs ns σ (i + 1) b :=
  ⟨h.led, fun hb => ⟨(h.no hb).1, fun j hj => by
    by_cases e : j = i
    · subst e
      rw [← (h.no hb).1]
      exact hn
    · exact (h.no hb).2 j (by omega)⟩, h.yes⟩
theorem PassX.did (hw : WfX (actsOf webl) σ) (h : PassX webl Gl σ0 σs ns σ i b) {n : ByteArray} (hn : Behind (W := actsOf webl) behindI Gl σ n) : PassX webl Gl σ0 σs ns (doX (actsOf webl) σ n) (i + 1) true := by
  obtain ⟨k, hk⟩ := h.led
  obtain ⟨r, hr, _⟩ := hn.1
  have hp := (potAll_do hw hn.1 (webl.map (·.name))).2 (acts_in (hw n r hr).web)
  refine ⟨⟨k + 1, hk.snoc hn⟩, fun hb => (by cases hb), fun _ => ?_⟩
  cases b with
  | true => have := h.yes rfl; omega
  | false => rw [(h.no rfl).1] at hp ⊢; exact hp
theorem PassX.atEnd (h : PassX webl Gl σ0 σs ns σ ns.length false) (hns : ∀ n r, σs n = some r → n ∈ ns) : AtEnd (Behind (W := actsOf webl) behindI Gl) σ := by
  obtain ⟨h1, h2⟩ := h.no rfl
  intro n hn
  rw [h1] at hn
  obtain ⟨r, hr, _⟩ := hn.1
  obtain ⟨j, hj, e⟩ := List.getElem_of_mem (hns n r hr)
  have := h2 j hj
  simp only [List.getD, List.getElem?_eq_getElem hj, Option.getD_some, e] at this
  exact this hn
end
end Go.Proofs.YtjhemildijapmaaGreatDoor
