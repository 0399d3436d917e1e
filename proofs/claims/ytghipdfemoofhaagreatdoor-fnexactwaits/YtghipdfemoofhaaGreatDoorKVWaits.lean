import Derived.Test.YtghipdfemoofhaaGreatDoorKVWhy
import Derived.Test.YtghipdfemoofhaaGreatDoorKVOrder
namespace Go.Proofs.YtghipdfemoofhaaGreatDoor
def AscB (l : List ByteArray) : Prop := l.Pairwise lessX
theorem ascB_eq : ∀ {l m : List ByteArray}, AscB l → AscB m → (∀ s, s ∈ l ↔ s ∈ m) → l = m
  | [], [], _, _, _ => rfl
  | [], y :: m, _, _, h => by have := (h y).2 (by simp); cases this
  | x :: l, [], _, _, h => by have := (h x).1 (by simp); cases this
  | x :: l, y :: m, hl, hm, h => by
    obtain ⟨h1, h2⟩ := List.pairwise_cons.1 hl
    obtain ⟨g1, g2⟩ := List.pairwise_cons.1 hm
    have e : x = y := by
      rcases List.mem_cons.1 ((h x).1 (by simp)) with e | e
      · exact e
      · rcases List.mem_cons.1 ((h y).2 (by simp)) with e' | e'
        · exact e'.symm
        · exact absurd (h1 y e') (lessX_asymm (g1 x e))
    subst e
    congr 1
    refine ascB_eq h2 g2 (fun s => ?_)
    constructor
    · intro hs
      rcases List.mem_cons.1 ((h s).1 (List.mem_cons_of_mem _ hs)) with e | e
      · rw [e] at hs; exact absurd (h1 x hs) (lessX_irrefl x)
      · exact e
    · intro hs
      rcases List.mem_cons.1 ((h s).2 (List.mem_cons_of_mem _ hs)) with e | e
      · rw [e] at hs; exact absurd (g1 x hs) (lessX_irrefl x)
      · exact e
theorem AscB.nodup {l : List ByteArray} (h : AscB l) : l.Nodup := h.imp fun hx => lessX_ne hx
def PutB (l : List ByteArray) (x : ByteArray) (r : List ByteArray) : Prop := (x ∈ l ∧ r = l) ∨ (x ∉ l ∧ ∃ k, k ≤ l.length ∧ r = l.take k ++ x :: l.drop k ∧ (∀ y ∈ l.take k, lessX y x) ∧ ∀ y ∈ l.drop k, lessX x y)
theorem PutB.asc {l r : List ByteArray} {x : ByteArray} (h : PutB l x r) (ha : AscB l) : AscB r ∧ ∀ s, s ∈ r ↔ s ∈ l ∨ s = x := by
  rcases h with ⟨h1, rfl⟩ | ⟨h1, k, hk, rfl, h2, h3⟩
  · exact ⟨ha, fun s => ⟨.inl, fun h => h.elim id (fun e => by rw [e]; exact h1)⟩⟩
  · have h4 : AscB (l.take k ++ l.drop k) := by rw [List.take_append_drop]; exact ha
    unfold AscB at h4 ⊢
    rw [List.pairwise_append] at h4 ⊢
    refine ⟨⟨h4.1, List.pairwise_cons.2 ⟨h3, h4.2.1⟩, fun a ha b hb => ?_⟩, fun s => ?_⟩
    · rcases List.mem_cons.1 hb with rfl | hb
      · exact h2 a ha
      · exact h4.2.2 a ha b hb
    · rw [List.mem_append, List.mem_cons]
      constructor
      · rintro (h | h | h)
        · exact .inl (List.mem_of_mem_take h)
        · exact .inr h
        · exact .inl (List.mem_of_mem_drop h)
      · rintro (h | h)
        · rw [← List.take_append_drop k l] at h
          rcases List.mem_append.1 h with h | h
          · exact .inl h
          · exact .inr (.inr h)
        · exact .inr (.inl h)
section
variable (W : Acts) (σ : Env)
def OpenN (s : ByteArray) : Prop := ∃ q, σ s = some q ∧ q.over = false
def WaitsX (n s : ByteArray) : Prop := ∃ r A, σ n = some r ∧ r.over = false ∧ r.visits ≠ 0 ∧ W n = some A ∧ s ∈ (stepOf A r.at').asks ∧ OpenN σ s
def WaitL (n : ByteArray) (ns : List ByteArray) : Prop := AscB ns ∧ ∀ s, s ∈ ns ↔ WaitsX W σ n s
def AskedOk : Prop := ∀ n r A, σ n = some r → r.over = false → r.visits ≠ 0 → W n = some A → ∀ s ∈ (stepOf A r.at').asks, (W s).isSome = true → (σ s).isSome = true
end
theorem WaitL.unique {W : Acts} {σ : Env} {n : ByteArray} {l m : List ByteArray} (h : WaitL W σ n l) (g : WaitL W σ n m) : l = m := ascB_eq h.1 g.1 (fun s => (h.2 s).trans (g.2 s).symm)
theorem arrive_asks {A : ActionD} {r : RunX} : (arrive A r).2 = (stepOf A (arrive A r).1.at').asks := by
  unfold arrive
  simp only
  split <;> rfl
theorem next_asksX {W : Acts} {σ : Env} {r : RunX} {A : ActionD} (hA : W r.name = some A) (hc : CanGo W σ r) (ho : (nextOf W σ r).1.over = false) : (nextOf W σ r).2 = (stepOf A (nextOf W σ r).1.at').asks := by
  unfold nextOf at ho ⊢
  rw [hA] at ho ⊢
  simp only at ho ⊢
  by_cases hv : r.visits = 0
  · rw [if_pos hv]; exact arrive_asks
  · rw [if_neg hv] at ho ⊢
    rcases hc.2 with e | ⟨A', xs, hA', hxs⟩
    · exact absurd e hv
    · rw [hA] at hA'
      cases hA'
      rw [hxs] at ho ⊢
      simp only at ho ⊢
      by_cases h20 : r.visits = 20
      · rw [if_pos h20] at ho; cases ho
      · rw [if_neg h20] at ho ⊢
        by_cases hgo : (goOnF (stepOf A r.at') xs).over = true
        · rw [if_pos hgo] at ho; cases ho
        · rw [if_neg hgo]; exact arrive_asks
theorem AskedOk.did {webl : List NodeD} {σ : Env} (h : AskedOk (actsOf webl) σ) (hg : GoodEnv webl σ) {n : ByteArray} (hn : ReadyX (actsOf webl) σ n) : AskedOk (actsOf webl) (doX (actsOf webl) σ n) := by
  obtain ⟨r, hr, hc⟩ := hn
  have hrn : r.name = n := (hg n r hr).1
  intro m q A hq ho hv hA s hs hsW
  rw [doX_eq hr] at hq
  rw [doX_eq hr]
  by_cases e : s = n
  · rw [if_pos e]; rfl
  rw [if_neg e]
  cases hss : σ s with
  | some x => rfl
  | none =>
    simp only
    by_cases e2 : m = n
    · rw [if_pos e2] at hq
      cases hq
      subst e2
      have hh : hasN (nextOf (actsOf webl) σ r).2 s = true := by
        rw [hasN_iff, next_asksX (by rw [hrn]; exact hA) hc ho]
        exact hs
      simp [hh, hsW]
    · rw [if_neg e2] at hq
      cases hm : σ m with
      | some x =>
        rw [hm] at hq
        cases hq
        have h9 := h m _ A hm ho hv hA s hs hsW
        rw [hss] at h9
        exact absurd h9 (by simp)
      | none =>
        rw [hm] at hq
        simp only at hq
        split at hq
        · cases hq; exact absurd rfl hv
        · cases hq
theorem ValidX.asked {webl : List NodeD} {roots : List ByteArray} {sl : List RunX} (hv : ValidX webl roots sl) : AskedOk (actsOf webl) (envOf sl) := by
  have hok := web_acts hv.1
  obtain ⟨_, _, _, j, L, hgL, hl, _, rfl⟩ := hv
  have h := hl.keeps (P := fun σ : Env => GoodEnv webl σ ∧ AskedOk (actsOf webl) σ) (fun σ m h hm => ⟨goodEnv_do hok h.1 hm.1, h.2.did h.1 hm.1⟩) ⟨(startL_good hok roots).env, fun n r A hr ho hv => by
    rw [startL_env] at hr
    split at hr
    · cases hr; exact absurd rfl hv
    · cases hr⟩
  exact h.2
theorem pend_iff {webl : List NodeD} {σ : Env} (hg : GoodEnv webl σ) (ha : AskedOk (actsOf webl) σ) {n : ByteArray} {r : RunX} (hr : σ n = some r) (s : ByteArray) : s ∈ pend (actsOf webl) σ r ↔ WaitsX (actsOf webl) σ n s := by
  obtain ⟨hn, hgd⟩ := hg n r hr
  obtain ⟨A, hA, _⟩ := hgd.act
  rw [hn] at hA
  unfold pend
  constructor
  · intro h
    split at h
    · cases h
    · rename_i h0
      rw [hn, hA] at h
      simp only [List.mem_filter] at h
      obtain ⟨h1, h2⟩ := h
      have ho : r.over = false := by
        cases h3 : r.over
        · rfl
        · exact absurd (.inl h3) h0
      have hv : r.visits ≠ 0 := fun e => h0 (.inr e)
      refine ⟨r, A, hr, ho, hv, hA, h1, ?_⟩
      unfold ansOf at h2
      cases hW : actsOf webl s with
      | none => rw [hW] at h2; cases h2
      | some B =>
        rw [hW] at h2
        simp only at h2
        have h4 := ha n r A hr ho hv hA s h1 (by rw [hW]; rfl)
        cases hs : σ s with
        | none => rw [hs] at h4; cases h4
        | some q =>
          rw [hs] at h2
          simp only at h2
          cases hq : q.over
          · exact ⟨q, hs, hq⟩
          · rw [if_pos hq] at h2; cases h2
  · rintro ⟨r', A', hr', ho, hv, hA', h1, q, hq, hqo⟩
    rw [hr] at hr'
    cases hr'
    rw [hA] at hA'
    cases hA'
    rw [if_neg (by rw [ho]; simp [hv]), hn, hA]
    simp only [List.mem_filter]
    refine ⟨h1, ?_⟩
    obtain ⟨hn2, hg2⟩ := hg s q hq
    obtain ⟨B, hB, _⟩ := hg2.act
    rw [hn2] at hB
    unfold ansOf
    rw [hB, hq]
    simp [hqo]
theorem WaitsX.size {webl : List NodeD} (hok : ActsOk (actsOf webl)) {σ : Env} (hg : GoodEnv webl σ) {n s : ByteArray} (h : WaitsX (actsOf webl) σ n s) : s.size ≤ 20 := by
  obtain ⟨_, _, _, _, _, _, _, q, hq, _⟩ := h
  obtain ⟨hn, hgd⟩ := hg s q hq
  obtain ⟨A, hA, _⟩ := hgd.act
  rw [hn] at hA
  exact (hok s A hA).2.2.1
def WaitsAns (webl : List NodeD) (roots : List ByteArray) (sl : List RunX) (name : ByteArray) (ns : List ByteArray) : Prop := (ValidX webl roots sl ∧ WaitL (actsOf webl) (envOf sl) name ns) ∨ (¬ ValidX webl roots sl ∧ ns = [])
theorem WaitL.len {webl : List NodeD} (hok : ActsOk (actsOf webl)) {σ : Env} (hg : GoodEnv webl σ) {n : ByteArray} {ns : List ByteArray} (h : WaitL (actsOf webl) σ n ns) : ns.length ≤ 5 := by
  cases hns : ns with
  | nil => simp
  | cons x l =>
    obtain ⟨r, A, hr, _, _, hA, _⟩ := (h.2 x).1 (by rw [hns]; simp)
    obtain ⟨hn, hgd⟩ := hg n r hr
    obtain ⟨A', hA', h0, h1⟩ := hgd.act
    rw [hn, hA] at hA'
    cases hA'
    have h5 := (asks_ok (hok n A hA).1 h0 h1).1
    have := List.Nodup.length_le_of_subset h.1.nodup (l₂ := (stepOf A r.at').asks) (fun s hs => by
      obtain ⟨r', A', hr', _, _, hA', h2, _⟩ := (h.2 s).1 hs
      rw [hr] at hr'
      cases hr'
      rw [hA] at hA'
      cases hA'
      exact h2)
    rw [← hns]
    omega
theorem WaitsAns.len {webl : List NodeD} {roots : List ByteArray} {sl : List RunX} {name : ByteArray} {ns : List ByteArray} (h : WaitsAns webl roots sl name ns) : ns.length ≤ 5 := by
  rcases h with ⟨h1, h2⟩ | ⟨_, rfl⟩
  · obtain ⟨hW, _, _, k, L, hg, _, _, rfl⟩ := h1
    exact h2.len (web_acts hW) hg.env
  · exact Nat.zero_le _
theorem WaitsAns.one {webl : List NodeD} {roots : List ByteArray} {sl : List RunX} {name : ByteArray} {ns ms : List ByteArray} (h : WaitsAns webl roots sl name ns) (k : WaitsAns webl roots sl name ms) : ms = ns := by
  rcases h with ⟨h1, h2⟩ | ⟨h1, h2⟩
  · rcases k with ⟨k1, k2⟩ | ⟨k1, k2⟩
    · exact k2.unique h2
    · exact absurd h1 k1
  · rcases k with ⟨k1, k2⟩ | ⟨k1, k2⟩
    · exact absurd k1 h1
    · rw [h2, k2]
end Go.Proofs.YtghipdfemoofhaaGreatDoor
