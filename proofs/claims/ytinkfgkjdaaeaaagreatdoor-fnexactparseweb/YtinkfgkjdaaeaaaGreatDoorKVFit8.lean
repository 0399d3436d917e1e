import Derived.Test.YtinkfgkjdaaeaaaGreatDoorKVRead8
import Derived.Lib.AtoiAllCases

namespace Go.Proofs.YtinkfgkjdaaeaaaGreatDoor
open Go.RowKit

theorem decOf_in64 {l : List UInt8} {v : Int} (h : decOf l = some v) : In64 v := by
  unfold decOf at h
  split at h
  · next u hu =>
    split at h
    · cases h; exact Lib.atoiAll_bounds hu
    · cases h
  · cases h
theorem quotes_len : ∀ l : List UInt8, l.length ≤ (quotesL l).length
  | [] => by simp [quotesL]
  | c :: r => by
    have h2 := quotes_len r
    have h1 : 1 ≤ (quoteB c).length := by unfold quoteB; split <;> simp
    simp only [quotesL, List.flatMap_cons, List.length_append, List.length_cons] at h2 ⊢
    omega
theorem quote_len (l : List UInt8) : l.length ≤ (quoteL l).length := by
  have := quotes_len l
  simp only [quoteL, List.length_cons, List.length_append, List.length_nil]
  omega
theorem size_list (b : ByteArray) : b.size = b.data.toList.length := by simp

theorem wayOf_fits {l : List UInt8} {c : CaseD} (h : wayOf l = some c) : c.text.size ≤ l.length ∧ In64 c.goto := by
  have hb := wayOf_back h
  refine ⟨?_, ?_⟩
  · have := quote_len c.text.data.toList
    have hs := size_list c.text
    rw [hb]
    simp only [List.length_append, List.length_cons]
    omega
  · unfold wayOf at h
    split at h
    · next n t hn _ => cases h; exact decOf_in64 hn
    · cases h
theorem way_fits {ls : List (List UInt8)} {c : CaseD} {r : List (List UInt8)} {n : Nat} (h : WayR ls (.ok c r)) (hl : ∀ l ∈ ls, l.length ≤ n) : c.text.size ≤ n ∧ In64 c.goto := by
  match ls, h with
  | l :: r', h =>
    simp only [WayR, gotWay] at h
    split at h
    · split at h
      · next c' hc =>
        cases h
        obtain ⟨h1, h2⟩ := wayOf_fits hc
        have h3 := hl l (by simp)
        rcases cut1_cases 32 l with ⟨_, g⟩ | ⟨x, y, _, g2, g3⟩
        · rw [g] at h1; simp only [List.length_nil] at h1; exact ⟨by omega, h2⟩
        · rw [g3] at h1; rw [g2] at h3; simp only [List.length_append, List.length_cons] at h1 h3; exact ⟨by omega, h2⟩
      · cases h
    · cases h
theorem way_tail {ls : List (List UInt8)} {c : CaseD} {r : List (List UInt8)} (h : WayR ls (.ok c r)) : ∀ l ∈ r, l ∈ ls := by
  rw [way_back h]
  exact fun l hl => by simp [hl]
theorem many_all {α : Type} {P : List (List UInt8) → Got α → Prop} {Q : α → Prop} {n : Nat} (hP : ∀ ls x r, P ls (.ok x r) → (∀ l ∈ ls, l.length ≤ n) → Q x) (hT : ∀ ls x r, P ls (.ok x r) → (∀ l ∈ r, l ∈ ls)) (hn : ∀ ls x r, P ls (.ok x r) → r.length < ls.length) :
    ∀ {ls : List (List UInt8)} {o : Option (List α × List (List UInt8))}, Many P ls o → (∀ l ∈ ls, l.length ≤ n) → ∀ xs r, o = some (xs, r) → (∀ x ∈ xs, Q x) ∧ xs.length + r.length ≤ ls.length ∧ ∀ l ∈ r, l ∈ ls := by
  intro ls o h
  induction h with
  | stop _ => intro _ xs r e; cases e; exact ⟨fun x hx => by simp at hx, by simp, fun l hl => hl⟩
  | bad _ => intro _ xs r e; cases e
  | fall _ _ _ => intro _ xs r e; cases e
  | more hx _ ih =>
    intro hl xs r e
    cases e
    have ht := hT _ _ _ hx
    obtain ⟨h1, h2, h3⟩ := ih (fun l h => hl l (ht l h)) _ _ rfl
    refine ⟨fun x hx' => ?_, ?_, fun l h => ht l (h3 l h)⟩
    · simp only [List.mem_cons] at hx'
      rcases hx' with rfl | hx'
      · exact hP _ _ _ hx hl
      · exact h1 x hx'
    · have := hn _ _ _ hx
      simp only [List.length_cons]
      omega
theorem ways_all {ls : List (List UInt8)} {cs : List CaseD} {r : List (List UInt8)} {n : Nat} (h : Many WayR ls (some (cs, r))) (hl : ∀ l ∈ ls, l.length ≤ n) : (∀ c ∈ cs, c.text.size ≤ n ∧ In64 c.goto) ∧ cs.length + r.length ≤ ls.length ∧ ∀ l ∈ r, l ∈ ls :=
  many_all (fun _ _ _ h => way_fits h) (fun _ _ _ h => way_tail h) (fun _ _ _ h => by rw [way_back h]; simp) h hl _ _ rfl

theorem cuts_short (b : UInt8) : ∀ (l : List UInt8), (∀ x ∈ cuts b l, x.length ≤ l.length) ∧ (cuts b l).length ≤ l.length + 1
  | [] => by simp [cuts]
  | c :: r => by
    obtain ⟨ih, ih2⟩ := cuts_short b r
    unfold cuts
    split
    · refine ⟨fun x hx => ?_, by simp; omega⟩
      simp only [List.mem_cons] at hx
      rcases hx with rfl | hx
      · simp
      · have := ih x hx; simp; omega
    · match e : cuts b r, cuts_ne b r with
      | y :: t, _ =>
        rw [e] at ih ih2
        simp only [List.headD_cons, List.tail_cons, List.length_cons] at ih2 ⊢
        refine ⟨fun x hx => ?_, by omega⟩
        simp only [List.mem_cons] at hx
        rcases hx with rfl | hx
        · have := ih y (by simp); simp; omega
        · have := ih x (by simp [hx]); omega
theorem askOf_fits {l : List UInt8} {s : StepD} (h : askOf l = some s) : s.asks.length ≤ l.length + 1 ∧ (∀ x ∈ s.asks, x.size ≤ l.length) ∧ In64 s.on ∧ In64 s.els ∧ In64 s.fall ∧ s.give.size = 0 ∧ s.cases = [] := by
  unfold askOf at h
  split at h
  · next w0 w1 w2 w3 w4 w5 w6 hc =>
    have hw0 : w0.length ≤ l.length := (cuts_short 32 l).1 w0 (by rw [hc]; simp)
    split at h
    · split at h
      · next a b c ha hb hcc =>
        cases h
        obtain ⟨g1, g2⟩ := cuts_short 44 w0
        refine ⟨?_, ?_, decOf_in64 ha, decOf_in64 hb, decOf_in64 hcc, rfl, rfl⟩
        · split
          · simp
          · simp; omega
        · intro x hx
          split at hx
          · simp at hx
          · simp only [List.mem_map] at hx
            obtain ⟨y, hy, rfl⟩ := hx
            have := g1 y hy
            rw [size_list, toB_list]
            omega
      · cases h
    · cases h
  · cases h

structure StepD.Shorts (n m : Nat) (s : StepD) : Prop where
  asks : s.asks.length ≤ n + 1
  askEach : ∀ x ∈ s.asks, x.size ≤ n
  on : In64 s.on
  els : In64 s.els
  fall : In64 s.fall
  give : s.give.size ≤ n
  cases : s.cases.length ≤ m
  caseEach : ∀ c ∈ s.cases, c.text.size ≤ n ∧ In64 c.goto
theorem cut1_short {b : UInt8} {l : List UInt8} : (cut1 b l).1.length ≤ l.length ∧ (cut1 b l).2.length ≤ l.length := by
  rcases cut1_cases b l with ⟨_, g⟩ | ⟨x, r, _, g2, g3⟩
  · rw [g]; simp
  · rw [g3, g2]; simp; omega
theorem in64_0 : In64 0 := ⟨by decide, by decide⟩
theorem step_fits {ls : List (List UInt8)} {s : StepD} {r : List (List UInt8)} {n m : Nat} (h : StepR ls (.ok s r)) (hl : ∀ l ∈ ls, l.length ≤ n) (hm : ls.length ≤ m) : s.Shorts n m ∧ r.length < ls.length ∧ ∀ l ∈ r, l ∈ ls := by
  match ls, h with
  | l :: r', h =>
    have hl0 := hl l (by simp)
    have hc := cut1_short (b := 32) (l := l)
    simp only [StepR] at h
    split at h
    · split at h
      · next t ht =>
        cases h
        have := unqP_some ht
        have h3 := quote_len t
        rw [this] at h3
        exact ⟨⟨by simp, by simp, in64_0, in64_0, in64_0, by rw [size_list, toB_list]; omega, by simp, by simp⟩, by simp, fun x hx => by simp [hx]⟩
      · cases h
    · split at h
      · split at h
        · cases h
        · next s' hs =>
          rcases h with ⟨cs, r2, hM, e⟩ | ⟨_, e⟩
          · cases e
            obtain ⟨g1, g2, g3⟩ := ways_all hM (fun x hx => hl x (by simp [hx]))
            obtain ⟨a1, a2, a3, a4, a5, a6, _⟩ := askOf_fits hs
            simp only [List.length_cons] at hm
            exact ⟨⟨by show s'.asks.length ≤ _; omega, fun x hx => by have := a2 x hx; omega, a3, a4, a5, by show s'.give.size ≤ _; omega, by show cs.length ≤ _; omega, g1⟩, by simp; omega, fun x hx => by simp [g3 x hx]⟩
          · cases e
      · cases h
theorem steps_all {ls : List (List UInt8)} {ss : List StepD} {r : List (List UInt8)} {n m : Nat} (h : Many StepR ls (some (ss, r))) (hl : ∀ l ∈ ls, l.length ≤ n) (hm : ls.length ≤ m) : (∀ s ∈ ss, s.Shorts n m) ∧ ss.length + r.length ≤ ls.length ∧ ∀ l ∈ r, l ∈ ls := by
  have key : ∀ {ls : List (List UInt8)} {o : Option (List StepD × List (List UInt8))}, Many StepR ls o → (∀ l ∈ ls, l.length ≤ n) → ls.length ≤ m → ∀ xs r, o = some (xs, r) → (∀ x ∈ xs, x.Shorts n m) ∧ xs.length + r.length ≤ ls.length ∧ ∀ l ∈ r, l ∈ ls := by
    intro ls o h
    induction h with
    | stop _ => intro _ _ xs r e; cases e; exact ⟨fun x hx => by simp at hx, by simp, fun l hl => hl⟩
    | bad _ => intro _ _ xs r e; cases e
    | fall _ _ _ => intro _ _ xs r e; cases e
    | more hx _ ih =>
      intro hl hm xs r e
      cases e
      obtain ⟨s1, s2, s3⟩ := step_fits hx hl hm
      obtain ⟨h1, h2, h3⟩ := ih (fun l h => hl l (s3 l h)) (by omega) _ _ rfl
      refine ⟨fun x hx' => ?_, by simp only [List.length_cons]; omega, fun l h => s3 l (h3 l h)⟩
      simp only [List.mem_cons] at hx'
      rcases hx' with rfl | hx'
      · exact s1
      · exact h1 x hx'
  exact key h hl hm _ _ rfl

structure NodeD.Shorts (n m : Nat) (d : NodeD) : Prop where
  name : d.name.size ≤ n
  cost : In64 d.cost
  steps : d.steps.length ≤ m
  each : ∀ s ∈ d.steps, s.Shorts n m
theorem node_fits {ls : List (List UInt8)} {d : NodeD} {r : List (List UInt8)} {n m : Nat} (h : NodeR ls (.ok d r)) (hl : ∀ l ∈ ls, l.length ≤ n) (hm : ls.length ≤ m) : d.Shorts n m ∧ r.length < ls.length ∧ ∀ l ∈ r, l ∈ ls := by
  match ls, h with
  | l :: r', h =>
    have hl0 := hl l (by simp)
    have hc := cut1_short (b := 32) (l := l)
    have hc2 := cut1_short (b := 32) (l := (cut1 32 l).2)
    simp only [NodeR] at h
    split at h
    · split at h
      · cases h
      · next c hd =>
        rcases h with ⟨ss, r2, hM, e⟩ | ⟨_, e⟩
        · cases e
          simp only [List.length_cons] at hm
          obtain ⟨g1, g2, g3⟩ := steps_all (m := m) hM (fun x hx => hl x (by simp [hx])) (by omega)
          exact ⟨⟨by show (toB _).size ≤ _; rw [size_list, toB_list]; omega, decOf_in64 hd, by show ss.length ≤ _; omega, g1⟩, by simp; omega, fun x hx => by simp [g3 x hx]⟩
        · cases e
    · cases h
theorem nodes_all {ls : List (List UInt8)} {ns : List NodeD} {r : List (List UInt8)} {n m : Nat} (h : Many NodeR ls (some (ns, r))) (hl : ∀ l ∈ ls, l.length ≤ n) (hm : ls.length ≤ m) : (∀ d ∈ ns, d.Shorts n m) ∧ ns.length + r.length ≤ ls.length := by
  have key : ∀ {ls : List (List UInt8)} {o : Option (List NodeD × List (List UInt8))}, Many NodeR ls o → (∀ l ∈ ls, l.length ≤ n) → ls.length ≤ m → ∀ xs r, o = some (xs, r) → (∀ x ∈ xs, x.Shorts n m) ∧ xs.length + r.length ≤ ls.length := by
    intro ls o h
    induction h with
    | stop _ => intro _ _ xs r e; cases e; exact ⟨fun x hx => by simp at hx, by simp⟩
    | bad _ => intro _ _ xs r e; cases e
    | fall _ _ _ => intro _ _ xs r e; cases e
    | more hx _ ih =>
      intro hl hm xs r e
      cases e
      obtain ⟨s1, s2, s3⟩ := node_fits hx hl hm
      obtain ⟨h1, h2⟩ := ih (fun l h => hl l (s3 l h)) (by omega) _ _ rfl
      refine ⟨fun x hx' => ?_, by simp only [List.length_cons]; omega⟩
      simp only [List.mem_cons] at hx'
      rcases hx' with rfl | hx'
      · exact s1
      · exact h1 x hx'
  exact key h hl hm _ _ rfl
theorem NodeD.Shorts.fits {n m : Nat} {d : NodeD} (h : d.Shorts n m) (hn : n ≤ 1000000) (hm : m ≤ 1000000) : d.Fits := by
  have h1 := h.name
  have h3 := h.steps
  refine ⟨by unfold maxLen; omega, h.cost, by unfold maxLen; omega, fun s hs => ?_⟩
  have k := h.each s hs
  have k1 := k.asks
  have k2 := k.give
  have k3 := k.cases
  exact ⟨by unfold maxLen; omega, fun x hx => by have := k.askEach x hx; unfold maxLen; omega, k.on, by unfold maxLen; omega, fun c hc => ⟨by have := (k.caseEach c hc).1; unfold maxLen; omega, (k.caseEach c hc).2⟩, k.els, k.fall, by unfold maxLen; omega⟩

end Go.Proofs.YtinkfgkjdaaeaaaGreatDoor

namespace Go.Proofs.YtinkfgkjdaaeaaaGreatDoor
open Go.RowKit

theorem looseK_near : ∀ (l : List UInt8) (n B : Int), -B ≤ n → n ≤ B → -((B + 29) * 10 ^ l.length) ≤ looseK n l ∧ looseK n l ≤ (B + 29) * 10 ^ l.length
  | [], n, B, h1, h2 => by
    simp only [looseK, List.length_nil, Int.pow_zero, Int.mul_one]
    omega
  | c :: r, n, B, h1, h2 => by
    have hc := c.toNat_lt
    have ih := looseK_near r (n * 10 + (c.toNat : Int) - 48) (10 * B + 261) (by omega) (by omega)
    rw [looseK, List.length_cons, Int.pow_succ]
    have e : (B + 29) * (10 ^ r.length * 10) = (10 * B + 261 + 29) * 10 ^ r.length := by
      rw [show (10 * B + 261 + 29) = (B + 29) * 10 by omega, Int.mul_assoc, Int.mul_comm (10 ^ r.length) 10]
    rw [e]
    exact ih
theorem tens8 (k : Nat) (h : k ≤ 6) : (10 : Int) ^ k ≤ 1000000 ∧ 0 < (10 : Int) ^ k := by
  have : ∀ j : Fin 7, (10 : Int) ^ j.val ≤ 1000000 ∧ 0 < (10 : Int) ^ j.val := by decide
  exact this ⟨k, by omega⟩
theorem looseL_in64 (l : List UInt8) : In64 (looseL l) := by
  unfold looseL
  split
  · exact ⟨by decide, by decide⟩
  · have h := looseK_near (l.take 6) 0 0 (by omega) (by omega)
    have ht := tens8 (l.take 6).length (by rw [List.length_take]; omega)
    obtain ⟨P, hP⟩ : ∃ P : Int, P = (10 : Int) ^ (l.take 6).length := ⟨_, rfl⟩
    rw [← hP] at h ht
    unfold In64
    omega
theorem restL_len : ∀ (l : List UInt8) (k : Nat), (restL k l).length ≤ l.length
  | [], k => by simp [restL]
  | c :: r, k => by
    rw [restL]
    split
    · split
      · simp
      · have := restL_len r (k - 1); simp only [List.length_cons]; omega
    · have := restL_len r k; simp only [List.length_cons]; omega
theorem unq8_len : ∀ (n : Nat) (l : List UInt8), (unq8 n l).length ≤ l.length
  | 0, _ => by simp [unq8]
  | n + 1, [] => by simp [unq8]
  | n + 1, [_] => by simp [unq8]
  | n + 1, [c, a] => by
    have := unq8_len n [a]
    simp only [unq8, List.length_cons, List.length_nil] at this ⊢
    omega
  | n + 1, [c, a, b] => by
    have := unq8_len n [a, b]
    simp only [unq8, List.length_cons, List.length_nil] at this ⊢
    omega
  | n + 1, c :: a :: b :: d :: t => by
    have h1 := unq8_len n (d :: t)
    have h2 := unq8_len n (a :: b :: d :: t)
    simp only [unq8]
    split
    · simp only [List.length_cons] at h1 ⊢; omega
    · simp only [List.length_cons] at h2 ⊢; omega
theorem unqL_len (l : List UInt8) : (unqL l).length ≤ l.length := by
  unfold unqL
  have := unq8_len l.length (l.drop 1)
  rw [List.length_drop] at this
  omega
theorem wd_len (l : List UInt8) (i : Nat) : (wd l i).length ≤ l.length := by
  unfold wd
  by_cases h : i < (cuts 32 l).length
  · rw [List.getD_eq_getElem?_getD, List.getElem?_eq_getElem h, Option.getD_some]
    exact (cuts_short 32 l).1 _ (List.getElem_mem h)
  · rw [List.getD_eq_getElem?_getD, List.getElem?_eq_none (by omega)]
    simp
theorem toB_sz (l : List UInt8) : (toB l).size = l.length := by rw [size_list, toB_list]
theorem StepD.Shorts.more {n m m' : Nat} {s : StepD} (h : s.Shorts n m) (hm : m ≤ m') : s.Shorts n m' :=
  ⟨h.asks, h.askEach, h.on, h.els, h.fall, h.give, Nat.le_trans h.cases hm, h.caseEach⟩
theorem NodeD.Shorts.more {n m m' : Nat} {d : NodeD} (h : d.Shorts n m) (hm : m ≤ m') : d.Shorts n m' :=
  ⟨h.name, h.cost, Nat.le_trans h.steps hm, fun s hs => (h.each s hs).more hm⟩
theorem endD_short {l : List UInt8} {n m : Nat} (hl : l.length ≤ n) : (endD l).Shorts n m := by
  have h1 := unqL_len (restL 1 l)
  have h2 := restL_len l 1
  refine ⟨by simp [endD], fun x hx => by simp [endD] at hx, in64_0, in64_0, in64_0, ?_, by simp [endD], fun c hc => by simp [endD] at hc⟩
  show (toB _).size ≤ n
  rw [toB_sz]
  omega
theorem askD_short {l : List UInt8} {n m : Nat} (hl : l.length ≤ n) : (askD l).Shorts n m := by
  have h1 := wd_len l 1
  obtain ⟨g1, g2⟩ := cuts_short 44 (wd l 1)
  refine ⟨?_, ?_, looseL_in64 _, looseL_in64 _, looseL_in64 _, Nat.zero_le _, by simp [askD], fun c hc => by simp [askD] at hc⟩
  · unfold askD
    split
    · simp
    · simp only [List.length_map]; omega
  · intro x hx
    unfold askD at hx
    split at hx
    · simp at hx
    · simp only [List.mem_map] at hx
      obtain ⟨y, hy, rfl⟩ := hx
      have := g1 y hy
      rw [toB_sz]
      omega
theorem caseD_short {l : List UInt8} {n : Nat} (hl : l.length ≤ n) : (caseD l).text.size ≤ n ∧ In64 (caseD l).goto := by
  have h1 := unqL_len (restL 2 l)
  have h2 := restL_len l 2
  refine ⟨?_, looseL_in64 _⟩
  show (toB _).size ≤ n
  rw [toB_sz]
  omega
theorem putCase_short {n m : Nat} {c : CaseD} (hc : c.text.size ≤ n ∧ In64 c.goto) : ∀ {ss : List StepD}, (∀ s ∈ ss, s.Shorts n m) → (putCase c ss).length = ss.length ∧ ∀ s ∈ putCase c ss, s.Shorts n (m + 1)
  | [], _ => ⟨rfl, fun s hs => by simp [putCase] at hs⟩
  | [x], h => by
    refine ⟨rfl, fun s hs => ?_⟩
    simp only [putCase, List.mem_cons, List.not_mem_nil, or_false] at hs
    subst hs
    have k := h x (by simp)
    refine ⟨k.asks, k.askEach, k.on, k.els, k.fall, k.give, by have := k.cases; simp; omega, fun y hy => ?_⟩
    simp only [List.mem_append, List.mem_cons, List.not_mem_nil, or_false] at hy
    rcases hy with hy | rfl
    · exact k.caseEach y hy
    · exact hc
  | x :: y :: r, h => by
    obtain ⟨i1, i2⟩ := putCase_short hc (ss := y :: r) (fun s hs => h s (by simp [hs]))
    refine ⟨by simp only [putCase, List.length_cons] at i1 ⊢; omega, fun s hs => ?_⟩
    rw [putCase] at hs
    · simp only [List.mem_cons] at hs
      rcases hs with rfl | hs
      · exact (h _ (by simp)).more (Nat.le_succ m)
      · exact i2 s hs
    · simp
theorem stepsF_short {l : List UInt8} {n m : Nat} (hl : l.length ≤ n) {ss : List StepD} (hm : ss.length ≤ m) (h : ∀ s ∈ ss, s.Shorts n m) : (stepsF l ss).length ≤ m + 1 ∧ ∀ s ∈ stepsF l ss, s.Shorts n (m + 1) := by
  unfold stepsF
  split
  · refine ⟨by simp; omega, fun s hs => ?_⟩
    simp only [List.mem_append, List.mem_cons, List.not_mem_nil, or_false] at hs
    rcases hs with hs | rfl
    · exact (h s hs).more (Nat.le_succ m)
    · exact endD_short hl
  · split
    · refine ⟨by simp; omega, fun s hs => ?_⟩
      simp only [List.mem_append, List.mem_cons, List.not_mem_nil, or_false] at hs
      rcases hs with hs | rfl
      · exact (h s hs).more (Nat.le_succ m)
      · exact askD_short hl
    · split
      · obtain ⟨i1, i2⟩ := putCase_short (caseD_short hl) h
        exact ⟨by omega, i2⟩
      · exact ⟨by omega, fun s hs => (h s hs).more (Nat.le_succ m)⟩
theorem inLast_short {l : List UInt8} {n m : Nat} (hl : l.length ≤ n) : ∀ {L : List NodeD}, (∀ d ∈ L, d.Shorts n m) → (inLast (stepsF l) L).length = L.length ∧ ∀ d ∈ inLast (stepsF l) L, d.Shorts n (m + 1)
  | [], _ => ⟨rfl, fun d hd => by simp [inLast] at hd⟩
  | [x], h => by
    refine ⟨rfl, fun d hd => ?_⟩
    simp only [inLast, List.mem_cons, List.not_mem_nil, or_false] at hd
    subst hd
    have k := h x (by simp)
    obtain ⟨i1, i2⟩ := stepsF_short hl k.steps k.each
    exact ⟨k.name, k.cost, i1, i2⟩
  | x :: y :: r, h => by
    obtain ⟨i1, i2⟩ := inLast_short hl (L := y :: r) (fun d hd => h d (by simp [hd]))
    refine ⟨by simp only [inLast, List.length_cons] at i1 ⊢; omega, fun d hd => ?_⟩
    rw [inLast] at hd
    · simp only [List.mem_cons] at hd
      rcases hd with rfl | hd
      · exact (h _ (by simp)).more (Nat.le_succ m)
      · exact i2 d hd
    · simp
theorem lineF_short {l : List UInt8} {n m : Nat} (hl : l.length ≤ n) {L : List NodeD} (hm : L.length ≤ m) (h : ∀ d ∈ L, d.Shorts n m) : (lineF L l).length ≤ m + 1 ∧ ∀ d ∈ lineF L l, d.Shorts n (m + 1) := by
  unfold lineF
  split
  · refine ⟨by simp; omega, fun d hd => ?_⟩
    simp only [List.mem_append, List.mem_cons, List.not_mem_nil, or_false] at hd
    rcases hd with hd | rfl
    · exact (h d hd).more (Nat.le_succ m)
    · have := wd_len l 1
      exact ⟨by show (toB _).size ≤ n; rw [toB_sz]; omega, looseL_in64 _, by simp, fun s hs => by simp at hs⟩
  · obtain ⟨i1, i2⟩ := inLast_short hl h
    exact ⟨by omega, i2⟩
theorem foldl_short {n : Nat} : ∀ (ls : List (List UInt8)) (m : Nat) (L : List NodeD), (∀ l ∈ ls, l.length ≤ n) → L.length ≤ m → (∀ d ∈ L, d.Shorts n m) → (ls.foldl lineF L).length ≤ m + ls.length ∧ ∀ d ∈ ls.foldl lineF L, d.Shorts n (m + ls.length)
  | [], m, L, _, h1, h2 => ⟨h1, h2⟩
  | l :: ls, m, L, hl, h1, h2 => by
    obtain ⟨i1, i2⟩ := lineF_short (hl l (by simp)) h1 h2
    have := foldl_short ls (m + 1) (lineF L l) (fun x hx => hl x (by simp [hx])) i1 i2
    rw [List.foldl_cons, List.length_cons, show m + (ls.length + 1) = m + 1 + ls.length by omega]
    exact this
theorem readL_fits {src : List UInt8} (h : src.length ≤ 900000) (j : Nat) : (((cuts 10 src).take j).foldl lineF []).length ≤ 900001 ∧ ∀ d ∈ ((cuts 10 src).take j).foldl lineF [], d.Shorts 900000 900001 ∧ d.Fits := by
  obtain ⟨g1, g2⟩ := cuts_short 10 src
  have hj : ((cuts 10 src).take j).length ≤ 900001 := by rw [List.length_take]; omega
  obtain ⟨i1, i2⟩ := foldl_short (n := 900000) ((cuts 10 src).take j) 0 [] (fun l hl => by have := g1 l (List.mem_of_mem_take hl); omega) (Nat.le_refl _) (fun d hd => by simp at hd)
  refine ⟨by omega, fun d hd => ?_⟩
  have := (i2 d hd).more (m' := 900001) (by omega)
  exact ⟨this, this.fits (by omega) (by omega)⟩

end Go.Proofs.YtinkfgkjdaaeaaaGreatDoor
