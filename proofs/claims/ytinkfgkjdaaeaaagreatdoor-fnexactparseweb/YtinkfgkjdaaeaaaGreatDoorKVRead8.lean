import Derived.Test.YtinkfgkjdaaeaaaGreatDoorKQPlain
import Derived.Lib.AtoiAll
import Derived.Lib.ItoaNum

namespace Go.Proofs.YtinkfgkjdaaeaaaGreatDoor
open Go.RowKit

def cut1 (b : UInt8) : List UInt8 → List UInt8 × List UInt8
  | [] => ([], [])
  | c :: r => if c = b then ([], r) else (c :: (cut1 b r).1, (cut1 b r).2)
def cuts (b : UInt8) : List UInt8 → List (List UInt8)
  | [] => [[]]
  | c :: r => if c = b then [] :: cuts b r else (c :: (cuts b r).headD []) :: (cuts b r).tail

theorem cuts_ne (b : UInt8) : ∀ l, cuts b l ≠ []
  | [] => by simp [cuts]
  | c :: r => by unfold cuts; split <;> simp
theorem cuts_none {b : UInt8} : ∀ {l : List UInt8}, b ∉ l → cuts b l = [l]
  | [], _ => rfl
  | c :: r, h => by
    simp only [List.mem_cons, not_or] at h
    have ih := cuts_none h.2
    have hcb : ¬ c = b := fun e => h.1 e.symm
    simp [cuts, hcb, ih]
theorem cuts_app {b : UInt8} : ∀ {x r : List UInt8}, b ∉ x → cuts b (x ++ b :: r) = x :: cuts b r
  | [], r, _ => by simp [cuts]
  | c :: x, r, h => by
    simp only [List.mem_cons, not_or] at h
    have ih := cuts_app (r := r) h.2
    have hcb : ¬ c = b := fun e => h.1 e.symm
    simp [cuts, hcb, ih]
theorem cut1_app {b : UInt8} : ∀ {x r : List UInt8}, b ∉ x → cut1 b (x ++ b :: r) = (x, r)
  | [], r, _ => by simp [cut1]
  | c :: x, r, h => by
    simp only [List.mem_cons, not_or] at h
    have ih := cut1_app (r := r) h.2
    have hcb : ¬ c = b := fun e => h.1 e.symm
    simp [cut1, hcb, ih]
theorem cut1_none {b : UInt8} : ∀ {x : List UInt8}, b ∉ x → cut1 b x = (x, [])
  | [], _ => rfl
  | c :: x, h => by
    simp only [List.mem_cons, not_or] at h
    have ih := cut1_none h.2
    have hcb : ¬ c = b := fun e => h.1 e.symm
    simp [cut1, hcb, ih]
theorem cut1_cases (b : UInt8) : ∀ l : List UInt8, (b ∉ l ∧ cut1 b l = (l, [])) ∨ ∃ x r, b ∉ x ∧ l = x ++ b :: r ∧ cut1 b l = (x, r)
  | [] => .inl ⟨by simp, rfl⟩
  | c :: l => by
    by_cases h : c = b
    · subst h
      exact .inr ⟨[], l, by simp, rfl, by simp [cut1]⟩
    · rcases cut1_cases b l with ⟨g1, g2⟩ | ⟨x, r, g1, g2, g3⟩
      · exact .inl ⟨by simp [g1, Ne.symm h], by simp [cut1, h, g2]⟩
      · exact .inr ⟨c :: x, r, by simp [g1, Ne.symm h], by simp [g2], by simp [cut1, h, g3]⟩

def glue (b : UInt8) : List (List UInt8) → List UInt8
  | [] => []
  | [x] => x
  | x :: y :: r => x ++ b :: glue b (y :: r)
theorem glue_cons {b : UInt8} {x : List UInt8} : ∀ {L : List (List UInt8)}, L ≠ [] → glue b (x :: L) = x ++ b :: glue b L
  | [], h => absurd rfl h
  | _ :: _, _ => rfl
theorem glue_cuts (b : UInt8) : ∀ l, glue b (cuts b l) = l
  | [] => rfl
  | c :: r => by
    have ih := glue_cuts b r
    have hn := cuts_ne b r
    unfold cuts
    split
    · next h => rw [glue_cons hn, ih, h]; rfl
    · match e : cuts b r, hn with
      | [x], _ => rw [e] at ih; simp only [glue] at ih; simp [glue, ih]
      | x :: y :: t, _ =>
        rw [e] at ih
        simp only [List.headD_cons, List.tail_cons]
        rw [glue_cons (by simp)] at ih ⊢
        rw [← ih]
        rfl
theorem cuts_glue {b : UInt8} : ∀ {L : List (List UInt8)}, L ≠ [] → (∀ x ∈ L, b ∉ x) → cuts b (glue b L) = L
  | [], h, _ => absurd rfl h
  | [x], _, h => cuts_none (h x (by simp))
  | x :: y :: r, _, h => by
    rw [glue_cons (by simp), cuts_app (h x (by simp)), cuts_glue (by simp) (fun z hz => h z (by simp [hz]))]

def unlines (L : List (List UInt8)) : List UInt8 := L.flatMap (· ++ [10])
theorem unlines_cons (x : List UInt8) (L : List (List UInt8)) : unlines (x :: L) = x ++ 10 :: unlines L := by simp [unlines]
theorem unlines_append (L M : List (List UInt8)) : unlines (L ++ M) = unlines L ++ unlines M := by simp [unlines]
theorem unlines_glue : ∀ L : List (List UInt8), glue 10 (L ++ [[]]) = unlines L
  | [] => rfl
  | x :: L => by rw [List.cons_append, glue_cons (by simp), unlines_glue L, unlines_cons]
theorem lines_src {src : List UInt8} {L : List (List UInt8)} (h : cuts 10 src = L ++ [[]]) : src = unlines L := by
  rw [← glue_cuts 10 src, h, unlines_glue]
theorem src_lines {L : List (List UInt8)} (h : ∀ x ∈ L, (10 : UInt8) ∉ x) : cuts 10 (unlines L) = L ++ [[]] := by
  rw [← unlines_glue]
  refine cuts_glue (by simp) (fun x hx => ?_)
  simp only [List.mem_append, List.mem_singleton] at hx
  rcases hx with hx | rfl
  · exact h x hx
  · simp

def decOf (l : List UInt8) : Option Int := match Lib.atoiAll l with
  | .ok v => if Lib.itoa v = l then some v else none
  | _ => none
theorem decOf_some {l : List UInt8} {v : Int} (h : decOf l = some v) : Lib.itoa v = l := by
  unfold decOf at h
  split at h
  · split at h
    · next g => cases h; exact g
    · cases h
  · cases h
theorem itoa_decL {n : Int} (h0 : -1 ≤ n) (h1 : n < 100) : Lib.itoa n = decL n := by
  have : ∀ m : Fin 101, Lib.itoa ((m.val : Int) - 1) = decL ((m.val : Int) - 1) := by decide +kernel
  have := this ⟨(n + 1).toNat, by omega⟩
  have e : ((n + 1).toNat : Int) - 1 = n := by omega
  dsimp only at this
  rw [e] at this
  exact this
theorem decOf_decL {n : Int} (h0 : -1 ≤ n) (h1 : n < 100) : decOf (decL n) = some n := by
  have : ∀ m : Fin 101, decOf (decL ((m.val : Int) - 1)) = some ((m.val : Int) - 1) := by decide +kernel
  have := this ⟨(n + 1).toNat, by omega⟩
  have e : ((n + 1).toNat : Int) - 1 = n := by omega
  dsimp only at this
  rw [e] at this
  exact this
theorem decL_bytes (n : Int) (h0 : -1 ≤ n) (h1 : n < 100) : ∀ c ∈ decL n, c ≠ 10 ∧ c ≠ 32 := by
  have : ∀ m : Fin 101, ∀ c ∈ decL ((m.val : Int) - 1), c ≠ 10 ∧ c ≠ 32 := by decide +kernel
  have := this ⟨(n + 1).toNat, by omega⟩
  have e : ((n + 1).toNat : Int) - 1 = n := by omega
  dsimp only at this
  rw [e] at this
  exact this

def hexD (c : UInt8) : Option Nat :=
  if 48 ≤ c.toNat ∧ c.toNat ≤ 57 then some (c.toNat - 48) else if 97 ≤ c.toNat ∧ c.toNat ≤ 102 then some (c.toNat - 87) else if 65 ≤ c.toNat ∧ c.toNat ≤ 70 then some (c.toNat - 55) else none
def hexU : List UInt8 → Option Nat
  | [a] => hexD a
  | [a, b] => match hexD a, hexD b with
    | some x, some y => some (x * 16 + y)
    | _, _ => none
  | _ => none
def unqI : Nat → List UInt8 → Option (List UInt8)
  | _, [] => some []
  | 0, _ => none
  | n + 1, c :: r => if c = 92 then match hexU (r.take 2) with
      | none => none
      | some v => (unqI n (r.drop 2)).map (UInt8.ofNat v :: ·)
    else (unqI n r).map (c :: ·)
def inner (l : List UInt8) : List UInt8 := Lib.trimSuffix (Lib.trimPrefix l [34]) [34]
def unqP (l : List UInt8) : Option (List UInt8) := match unqI (inner l).length (inner l) with
  | some t => if quoteL t = l then some t else none
  | none => none
theorem unqP_some {l t : List UInt8} (h : unqP l = some t) : quoteL t = l := by
  unfold unqP at h
  split at h
  · split at h
    · next g => cases h; exact g
    · cases h
  · cases h
theorem inner_quoteL (t : List UInt8) : inner (quoteL t) = quotesL t := by
  unfold inner
  have h1 : Lib.trimPrefix (quoteL t) [34] = quotesL t ++ [34] := by
    unfold Lib.trimPrefix quoteL
    simp [Lib.hasPrefix]
  rw [h1]
  unfold Lib.trimSuffix
  simp [Lib.hasSuffix]
theorem quoteB_other : ∀ c : UInt8, ¬ PlainB c → hexU (hexL 2 c.toNat) = some c.toNat := by
  have : ∀ n : Fin 256, hexU (hexL 2 n.val) = some n.val := by decide +kernel
  exact fun c _ => this ⟨c.toNat, c.toNat_lt⟩
theorem unqI_more : ∀ (n : Nat) (l : List UInt8), l.length ≤ n → unqI n l = unqI l.length l := by
  intro n
  induction n using Nat.strongRecOn with
  | _ n ih =>
    intro l hl
    match n, l with
    | _, [] => simp [unqI]
    | 0, c :: r => simp at hl
    | n + 1, c :: r =>
      simp only [List.length_cons] at hl ⊢
      unfold unqI
      split
      · have h2 : (r.drop 2).length ≤ r.length := by rw [List.length_drop]; omega
        rw [ih n (by omega) (r.drop 2) (by omega)]
        by_cases hr : r.length < n + 1
        · rw [← ih r.length (by omega) (r.drop 2) h2]
        · omega
      · rw [ih n (by omega) r (by omega)]
theorem unqI_quotes : ∀ t : List UInt8, unqI (quotesL t).length (quotesL t) = some t
  | [] => rfl
  | c :: t => by
    have ih := unqI_quotes t
    have e : quotesL (c :: t) = quoteB c ++ quotesL t := by simp [quotesL]
    rw [e]
    unfold quoteB
    split
    · next g =>
      have hne : c ≠ 92 := fun e => g.2.2.2 (by rw [e]; rfl)
      simp only [List.cons_append, List.nil_append, List.length_cons]
      rw [unqI, if_neg hne, ih]
      rfl
    · next g =>
      have h2 : (hexL 2 c.toNat).length = 2 := hexL_length _ _
      have hx := quoteB_other c g
      match hh : hexL 2 c.toNat, h2 with
      | [a, b], _ =>
        rw [hh] at hx
        simp only [List.cons_append, List.nil_append, List.length_cons]
        rw [unqI, if_pos rfl]
        simp only [List.take_succ_cons, List.take_zero, List.drop_succ_cons, List.drop_zero, hx]
        rw [unqI_more _ _ (by omega), ih]
        simp
theorem unqP_quote (t : List UInt8) : unqP (quoteL t) = some t := by
  unfold unqP
  rw [inner_quoteL, unqI_quotes]
  simp
theorem quoteL_bytes (t : List UInt8) : (10 : UInt8) ∉ quoteL t := by
  have hB : ∀ c : UInt8, (10 : UInt8) ∉ quoteB c := by
    have : ∀ n : Fin 256, (10 : UInt8) ∉ quoteB (UInt8.ofNat n.val) := by decide +kernel
    intro c
    have := this ⟨c.toNat, c.toNat_lt⟩
    simpa using this
  unfold quoteL quotesL
  simp only [List.mem_cons, List.mem_append, List.mem_flatMap, not_or]
  exact ⟨by decide, fun ⟨c, _, hc⟩ => hB c hc, by decide, by simp⟩

end Go.Proofs.YtinkfgkjdaaeaaaGreatDoor

namespace Go.Proofs.YtinkfgkjdaaeaaaGreatDoor
open Go.RowKit

def toB (l : List UInt8) : ByteArray := ⟨l.toArray⟩
theorem toB_list (l : List UInt8) : (toB l).data.toList = l := rfl
theorem toB_data (b : ByteArray) : toB b.data.toList = b := rfl

def wCase : List UInt8 := [99, 97, 115, 101]
def wNode : List UInt8 := [110, 111, 100, 101]
def wEnd : List UInt8 := [101, 110, 100]
def wBad : List UInt8 := [98, 97, 100]
def wAsk : List UInt8 := [97, 115, 107]
def wOn : List UInt8 := [111, 110]
def wElse : List UInt8 := [101, 108, 115, 101]
def wFall : List UInt8 := [102, 97, 108, 108]

inductive Got (α : Type) where
  | ok (x : α) (rest : List (List UInt8))
  | other
  | bad

inductive Many {α : Type} (P : List (List UInt8) → Got α → Prop) : List (List UInt8) → Option (List α × List (List UInt8)) → Prop
  | stop {ls : List (List UInt8)} : P ls .other → Many P ls (some ([], ls))
  | bad {ls : List (List UInt8)} : P ls .bad → Many P ls none
  | fall {ls r : List (List UInt8)} {x : α} : P ls (.ok x r) → Many P r none → Many P ls none
  | more {ls r r' : List (List UInt8)} {x : α} {xs : List α} : P ls (.ok x r) → Many P r (some (xs, r')) → Many P ls (some (x :: xs, r'))

def wayOf (l : List UInt8) : Option CaseD := match decOf (cut1 32 l).1, unqP (cut1 32 l).2 with
  | some n, some t => some ⟨toB t, n⟩
  | _, _ => none
def gotWay (l : List UInt8) (r : List (List UInt8)) : Got CaseD :=
  if (cut1 32 l).1 = wCase then match wayOf (cut1 32 l).2 with
    | some c => .ok c r
    | none => .bad
  else .other
def WayR : List (List UInt8) → Got CaseD → Prop
  | [], g => g = .other
  | l :: r, g => g = gotWay l r

def askOf (rest : List UInt8) : Option StepD := match cuts 32 rest with
  | [w0, w1, w2, w3, w4, w5, w6] => if w1 = wOn ∧ w3 = wElse ∧ w5 = wFall then match decOf w2, decOf w4, decOf w6 with
      | some a, some b, some c => some ⟨if w0 = [45] then [] else (cuts 44 w0).map toB, a, [], b, c, false, false, toB []⟩
      | _, _, _ => none
    else none
  | _ => none

def StepR : List (List UInt8) → Got StepD → Prop
  | [], g => g = .other
  | l :: r, g =>
    if (cut1 32 l).1 = wEnd ∨ (cut1 32 l).1 = wBad then match unqP (cut1 32 l).2 with
      | some t => g = .ok ⟨[], 0, [], 0, 0, true, decide ((cut1 32 l).1 = wBad), toB t⟩ r
      | none => g = .bad
    else if (cut1 32 l).1 = wAsk then match askOf (cut1 32 l).2 with
      | none => g = .bad
      | some s => (∃ cs r', Many WayR r (some (cs, r')) ∧ g = .ok { s with cases := cs } r') ∨ (Many WayR r none ∧ g = .bad)
    else g = .other

def NodeR : List (List UInt8) → Got NodeD → Prop
  | [], g => g = .other
  | l :: r, g =>
    if (cut1 32 l).1 = wNode then match decOf (cut1 32 (cut1 32 l).2).2 with
      | none => g = .bad
      | some c => (∃ ss r', Many StepR r (some (ss, r')) ∧ g = .ok ⟨toB (cut1 32 (cut1 32 l).2).1, c, ss⟩ r') ∨ (Many StepR r none ∧ g = .bad)
    else g = .other

def WebR (ls : List (List UInt8)) (o : Option (List NodeD)) : Prop :=
  (∃ ns r, Many NodeR ls (some (ns, r)) ∧ o = if r = [] then some ns else none) ∨ (Many NodeR ls none ∧ o = none)

def caseW (f : Int → List UInt8) (c : CaseD) : List UInt8 := wCase ++ 32 :: (f c.goto ++ 32 :: quoteL c.text.data.toList)
def namesW (l : List ByteArray) : List UInt8 := if l = [] then [45] else glue 44 (texts l)
def askW (f : Int → List UInt8) (s : StepD) : List UInt8 := glue 32 [namesW s.asks, wOn, f s.on, wElse, f s.els, wFall, f s.fall]
def stepW (f : Int → List UInt8) (s : StepD) : List (List UInt8) :=
  if s.fin = true then [(if s.bad = true then wBad else wEnd) ++ 32 :: quoteL s.give.data.toList] else (wAsk ++ 32 :: askW f s) :: s.cases.map (caseW f)
def headW (f : Int → List UInt8) (d : NodeD) : List UInt8 := wNode ++ 32 :: (d.name.data.toList ++ 32 :: f d.cost)
def nodeW (f : Int → List UInt8) (d : NodeD) : List (List UInt8) := headW f d :: d.steps.flatMap (stepW f)

theorem cut1_word {b : UInt8} {l x : List UInt8} (h : (cut1 b l).1 = x) : l = x ∧ (cut1 b l).2 = [] ∨ l = x ++ b :: (cut1 b l).2 := by
  rcases cut1_cases b l with ⟨_, g⟩ | ⟨y, r, _, g2, g3⟩
  · rw [g] at h ⊢; exact .inl ⟨h, rfl⟩
  · rw [g3] at h ⊢; subst h; exact .inr g2
theorem decOf_nil : decOf [] = none := by rfl
theorem unqP_nil : unqP [] = none := by decide +kernel
theorem wayOf_back {l : List UInt8} {c : CaseD} (h : wayOf l = some c) : l = Lib.itoa c.goto ++ 32 :: quoteL c.text.data.toList := by
  unfold wayOf at h
  split at h
  · next n t hn ht =>
    cases h
    rcases cut1_word (b := 32) (l := l) rfl with ⟨_, g⟩ | g
    · rw [g, unqP_nil] at ht; cases ht
    · simp only [toB_list]
      rw [decOf_some hn, unqP_some ht]
      exact g
  · cases h
theorem wayOf_nil : wayOf [] = none := by
  unfold wayOf
  simp only [cut1, decOf_nil]
theorem way_back {ls : List (List UInt8)} {c : CaseD} {r : List (List UInt8)} (h : WayR ls (.ok c r)) : ls = caseW Lib.itoa c :: r := by
  match ls, h with
  | l :: r', h =>
    simp only [WayR, gotWay] at h
    split at h
    · next hw =>
      split at h
      · next c' hc =>
        cases h
        rcases cut1_word hw with ⟨_, g⟩ | g
        · rw [g, wayOf_nil] at hc; cases hc
        · rw [wayOf_back hc] at g
          rw [g]; rfl
      · cases h
    · cases h
theorem many_back {α : Type} {P : List (List UInt8) → Got α → Prop} {f : α → List (List UInt8)} (hP : ∀ ls x r, P ls (.ok x r) → ls = f x ++ r) :
    ∀ {ls : List (List UInt8)} {o : Option (List α × List (List UInt8))}, Many P ls o → ∀ xs r, o = some (xs, r) → ls = xs.flatMap f ++ r := by
  intro ls o h
  induction h with
  | stop _ => intro xs r e; cases e; simp
  | bad _ => intro xs r e; cases e
  | fall _ _ _ => intro xs r e; cases e
  | more hx _ ih =>
    intro xs r e
    cases e
    rw [hP _ _ _ hx, ih _ _ rfl]
    simp
theorem flatMap_single {α β : Type} (f : α → β) : ∀ l : List α, l.flatMap (fun c => [f c]) = l.map f
  | [] => rfl
  | c :: t => by rw [List.flatMap_cons, flatMap_single f t]; rfl
theorem ways_back {ls : List (List UInt8)} {cs : List CaseD} {r : List (List UInt8)} (h : Many WayR ls (some (cs, r))) : ls = cs.map (caseW Lib.itoa) ++ r := by
  have := many_back (f := fun c => [caseW Lib.itoa c]) (fun ls x r h => by simpa using way_back h) h _ _ rfl
  rw [this, flatMap_single]
theorem texts_toB (L : List (List UInt8)) : texts (L.map toB) = L := by
  unfold texts
  rw [List.map_map]
  induction L with
  | nil => rfl
  | cons x t ih => rw [List.map_cons, ih]; rfl
theorem namesW_back (w0 : List UInt8) : namesW (if w0 = [45] then [] else (cuts 44 w0).map toB) = w0 := by
  unfold namesW
  split
  · next h => simp [h]
  · have hn := cuts_ne 44 w0
    rw [if_neg (by simpa using hn), texts_toB, glue_cuts]
theorem askOf_back {l : List UInt8} {s : StepD} (h : askOf l = some s) : l = askW Lib.itoa s ∧ s.fin = false ∧ s.cases = [] := by
  unfold askOf at h
  split at h
  · next w0 w1 w2 w3 w4 w5 w6 hc =>
    split at h
    · next hw =>
      split at h
      · next a b c ha hb hcc =>
        cases h
        refine ⟨?_, rfl, rfl⟩
        rw [← glue_cuts 32 l, hc]
        unfold askW
        simp only [namesW_back, decOf_some ha, decOf_some hb, decOf_some hcc]
        rw [hw.1, hw.2.1, hw.2.2]
      · cases h
    · cases h
  · cases h
theorem askOf_nil : askOf [] = none := by rfl
theorem step_back {ls : List (List UInt8)} {s : StepD} {r : List (List UInt8)} (h : StepR ls (.ok s r)) : ls = stepW Lib.itoa s ++ r := by
  match ls, h with
  | l :: r', h =>
    simp only [StepR] at h
    split at h
    · next hw =>
      split at h
      · next t ht =>
        cases h
        have hq := unqP_some ht
        unfold stepW
        simp only [if_true, toB_list, decide_eq_true_eq]
        rw [hq]
        have hx : ∀ x, (cut1 32 l).1 = x → l = x ++ 32 :: (cut1 32 l).2 := fun x hx => by
          rcases cut1_word hx with ⟨_, g⟩ | g
          · rw [g, unqP_nil] at ht; cases ht
          · exact g
        by_cases hb : (cut1 32 l).1 = wBad
        · rw [if_pos hb, ← hx _ hb]; rfl
        · rw [if_neg hb, ← hx _ (hw.resolve_right hb)]; rfl
      · cases h
    · split at h
      · next hw =>
        split at h
        · cases h
        · next s' hs =>
          rcases h with ⟨cs, r2, hm, e⟩ | ⟨_, e⟩
          · cases e
            obtain ⟨g1, g2, g3⟩ := askOf_back hs
            rcases cut1_word hw with ⟨_, g⟩ | g
            · rw [g, askOf_nil] at hs; cases hs
            · have : ∀ b, askW Lib.itoa { s' with cases := cs, fin := b } = askW Lib.itoa s' := fun _ => rfl
              unfold stepW
              simp only [g2, Bool.false_eq_true, if_false]
              rw [this, ← g1, ← g, ways_back hm]
              simp
          · cases e
      · cases h
theorem node_back {ls : List (List UInt8)} {d : NodeD} {r : List (List UInt8)} (h : NodeR ls (.ok d r)) : ls = nodeW Lib.itoa d ++ r := by
  match ls, h with
  | l :: r', h =>
    simp only [NodeR] at h
    split at h
    · next hw =>
      split at h
      · cases h
      · next c hc =>
        rcases h with ⟨ss, r2, hm, e⟩ | ⟨_, e⟩
        · cases e
          have hs := many_back (f := stepW Lib.itoa) (fun ls x r h => step_back h) hm _ _ rfl
          rcases cut1_word hw with ⟨_, g⟩ | g
          · rw [g] at hc; simp only [cut1, decOf_nil] at hc; cases hc
          · rcases cut1_word (b := 32) (l := (cut1 32 l).2) rfl with ⟨_, g'⟩ | g'
            · rw [g', decOf_nil] at hc; cases hc
            · unfold nodeW headW
              simp only [toB_list]
              rw [decOf_some hc, ← g', ← g, hs]
              simp
        · cases e
    · cases h
theorem web_back {ls : List (List UInt8)} {ns : List NodeD} (h : WebR ls (some ns)) : ls = ns.flatMap (nodeW Lib.itoa) := by
  rcases h with ⟨ns', r, hm, e⟩ | ⟨_, e⟩
  · split at e
    · next hr =>
      cases e
      have := many_back (f := nodeW Lib.itoa) (fun ls x r h => node_back h) hm _ _ rfl
      rw [this, hr, List.append_nil]
    · cases e
  · cases e

theorem caseW_ok {c : CaseD} {n : Int} (h : CaseOk n c) (hn : n ≤ 20) : caseW Lib.itoa c = caseW decL c := by
  unfold caseW
  rw [itoa_decL (by have := h.2.1; omega) (by have := h.2.2; omega)]
theorem casesOk_mem {s : StepD} {n : Int} (h : CasesOk s n) {c : CaseD} (hc : c ∈ s.cases) : CaseOk n c := by
  obtain ⟨i, hi, rfl⟩ := List.getElem_of_mem hc
  have := h i hi
  unfold CaseOkAt at this
  simpa [List.getD, hi] using this
theorem askNums {s : StepD} {n : Int} (h : FrontOk s n) (hn : n ≤ 20) : (-1 ≤ s.on ∧ s.on < 100) ∧ (-1 ≤ s.els ∧ s.els < 100) ∧ (-1 ≤ s.fall ∧ s.fall < 100) := by
  obtain ⟨_, _, h1, _, _, h2, h3, h4⟩ := h
  refine ⟨?_, ⟨by omega, by omega⟩, ⟨by omega, by omega⟩⟩
  rcases h4 with h4 | h4
  · omega
  · omega
theorem stepW_ok {s : StepD} {n : Int} (h : StepOk s n) (hn : n ≤ 20) : stepW Lib.itoa s = stepW decL s := by
  unfold stepW
  by_cases hf : s.fin = true
  · rw [if_pos hf, if_pos hf]
  · rw [if_neg hf, if_neg hf]
    have hA := h.2 (by simpa using hf)
    obtain ⟨h1, h2, h3⟩ := askNums hA.1 hn
    congr 1
    · unfold askW
      rw [itoa_decL h1.1 h1.2, itoa_decL h2.1 h2.2, itoa_decL h3.1 h3.2]
    · exact List.map_congr_left fun c hc => caseW_ok (casesOk_mem hA.2 hc) hn
theorem stepsOk_mem {d : NodeD} (h : NodeOk d) {s : StepD} (hs : s ∈ d.steps) : StepOk s (d.steps.length : Int) ∧ (d.steps.length : Int) ≤ 20 := by
  obtain ⟨i, hi, rfl⟩ := List.getElem_of_mem hs
  have h1 := h.2.2.2 i hi
  have h2 := h.2.2.1.2
  simp only at h1 h2
  exact ⟨by simpa [List.getD, hi] using h1, by omega⟩
theorem flatMap_congr' {α β : Type} {f g : α → List β} : ∀ {l : List α}, (∀ x ∈ l, f x = g x) → l.flatMap f = l.flatMap g
  | [], _ => rfl
  | x :: r, h => by rw [List.flatMap_cons, List.flatMap_cons, h x (by simp), flatMap_congr' (fun y hy => h y (by simp [hy]))]
theorem nodeW_ok {d : NodeD} (h : NodeOk d) : nodeW Lib.itoa d = nodeW decL d := by
  unfold nodeW headW
  have hc := h.2.1
  simp only at hc
  rw [itoa_decL (by omega) (by omega)]
  congr 1
  exact flatMap_congr' fun s hs => stepW_ok (stepsOk_mem h hs).1 (stepsOk_mem h hs).2

theorem glue_join : ∀ l : List (List UInt8), glue 44 l = Lib.join l [44]
  | [] => rfl
  | [x] => by rw [Lib.join_one]; rfl
  | x :: y :: r => by
    rw [glue_cons (by simp), glue_join (y :: r), Lib.join_cons, Lib.join_cons]
    simp [Lib.joinTail]
theorem namesW_eq (l : List ByteArray) : namesW l = namesL l := by
  unfold namesW namesL
  by_cases h : l = []
  · simp [h]
  · rw [if_neg h, if_neg (by simpa using h), glue_join]
theorem unlines_flatMap {α : Type} (f : α → List (List UInt8)) (g : α → List UInt8) (h : ∀ x, unlines (f x) = g x) : ∀ l : List α, unlines (l.flatMap f) = l.flatMap g
  | [] => rfl
  | x :: r => by rw [List.flatMap_cons, unlines_append, h, unlines_flatMap f g h r, List.flatMap_cons]
theorem unlines_case (c : CaseD) : unlines [caseW decL c] = caseL c := by
  simp [unlines, caseW, caseL, wCase]
theorem unlines_cases (l : List CaseD) : unlines (l.map (caseW decL)) = casesL l := by
  have := unlines_flatMap (fun c => [caseW decL c]) caseL unlines_case l
  unfold casesL
  rw [← this, flatMap_single]
theorem unlines_step (s : StepD) : unlines (stepW decL s) = stepL s := by
  unfold stepW stepL
  by_cases hf : s.fin = true
  · by_cases hb : s.bad = true
    · simp [hf, hb, unlines, wBad]
    · simp [hf, hb, unlines, wEnd]
  · rw [if_neg hf, if_neg (fun g => hf g.1), if_neg hf, unlines_cons, unlines_cases]
    simp [askW, askL, glue, namesW_eq, wAsk, wOn, wElse, wFall]
theorem unlines_node (d : NodeD) : unlines (nodeW decL d) = nodeL d := by
  unfold nodeW nodeL stepsL
  rw [unlines_cons, unlines_flatMap _ _ unlines_step]
  simp [headW, headL, wNode]
theorem unlines_nodes (l : List NodeD) : unlines (l.flatMap (nodeW decL)) = nodesL l := unlines_flatMap _ _ unlines_node l

theorem read_back {src : List UInt8} {L : List (List UInt8)} {ns : List NodeD} (h : cuts 10 src = L ++ [[]]) (hr : WebR L (some ns)) (hok : WebOkL ns) : src = nodesL ns := by
  rw [lines_src h, web_back hr, ← unlines_nodes]
  congr 1
  refine flatMap_congr' fun d hd => nodeW_ok ?_
  obtain ⟨i, hi, rfl⟩ := List.getElem_of_mem hd
  have := hok.2 i hi
  simpa [List.getD, hi] using this

theorem way_forth {c : CaseD} {n : Int} (h : CaseOk n c) (hn : n ≤ 20) (r : List (List UInt8)) {g : Got CaseD} (hg : WayR (caseW decL c :: r) g) : g = .ok c r := by
  have h1 := h.2.1
  have h2 := h.2.2
  have hb := decL_bytes c.goto (by omega) (by omega)
  simp only [WayR] at hg
  subst hg
  unfold gotWay caseW
  rw [cut1_app (by decide)]
  simp only [if_true]
  unfold wayOf
  rw [cut1_app (fun hm => (hb 32 hm).2 rfl)]
  simp only [decOf_decL (show -1 ≤ c.goto by omega) (by omega), unqP_quote, toB_data]
def NoCase : List (List UInt8) → Prop
  | [] => True
  | l :: _ => (cut1 32 l).1 ≠ wCase
theorem ways_forth {n : Int} (hn : n ≤ 20) : ∀ (cs : List CaseD) (r : List (List UInt8)), (∀ c ∈ cs, CaseOk n c) → NoCase r → ∀ {o : Option (List CaseD × List (List UInt8))}, Many WayR (cs.map (caseW decL) ++ r) o → o = some (cs, r)
  | [], r, _, hr, o, hm => by
    have hg : ∀ g, WayR r g → g = .other := fun g hg => by
      match r, hr with
      | [], _ => exact hg
      | l :: r, hr =>
        simp only [WayR, gotWay] at hg
        rw [if_neg hr] at hg
        exact hg
    simp only [List.map_nil, List.nil_append] at hm
    cases hm with
    | stop _ => rfl
    | bad h => cases hg _ h
    | fall h _ => cases hg _ h
    | more h _ => cases hg _ h
  | c :: cs, r, hc, hr, o, hm => by
    have hg : ∀ g, WayR (caseW decL c :: (cs.map (caseW decL) ++ r)) g → g = .ok c (cs.map (caseW decL) ++ r) := fun g hg => way_forth (hc c (by simp)) hn _ hg
    simp only [List.map_cons, List.cons_append] at hm
    have ih := fun o => ways_forth hn cs r (fun x hx => hc x (by simp [hx])) hr (o := o)
    cases hm with
    | stop h => cases hg _ h
    | bad h => cases hg _ h
    | fall h h' =>
      have e := hg _ h
      cases e
      cases ih _ h'
    | more h h' =>
      have e := hg _ h
      cases e
      cases ih _ h'
      rfl
theorem name_bytes {x : ByteArray} (h : NameOk x) : ∀ c ∈ x.data.toList, c ≠ 10 ∧ c ≠ 32 ∧ c ≠ 44 := by
  intro c hc
  obtain ⟨i, hi, rfl⟩ := List.getElem_of_mem hc
  have hi' : i < x.size := by simpa using hi
  have g := h.2.2.2 i hi'
  have e : x.data.toList[i] = x[i] := by simp; rfl
  rw [e]
  obtain ⟨g1, g2, g3⟩ := g
  refine ⟨fun e => ?_, fun e => ?_, fun e => ?_⟩ <;> (rw [e] at g1 g2 g3; simp at g1 g2 g3)
theorem name_ne {x : ByteArray} (h : NameOk x) : x.data.toList ≠ [45] := by
  intro e
  have := h.2.2.1
  rw [ByteArray.toList_eq, e] at this
  simp at this
theorem namesOk_mem {l : List ByteArray} (h : NamesOk l) {x : ByteArray} (hx : x ∈ l) : NameOk x := by
  obtain ⟨i, hi, rfl⟩ := List.getElem_of_mem hx
  have := (h i hi).1
  simpa [List.getD, hi] using this
theorem mem_glue {b c : UInt8} : ∀ {L : List (List UInt8)}, c ∈ glue b L → c = b ∨ ∃ x ∈ L, c ∈ x
  | [], h => by simp [glue] at h
  | [x], h => .inr ⟨x, by simp, h⟩
  | x :: y :: r, h => by
    rw [glue_cons (by simp)] at h
    simp only [List.mem_append, List.mem_cons] at h
    rcases h with h | h | h
    · exact .inr ⟨x, by simp, h⟩
    · exact .inl h
    · rcases mem_glue h with h | ⟨z, hz, h⟩
      · exact .inl h
      · exact .inr ⟨z, by simp [hz], h⟩
theorem namesW_forth {l : List ByteArray} (h : NamesOk l) : (if namesW l = [45] then [] else (cuts 44 (namesW l)).map toB) = l ∧ ∀ c ∈ namesW l, c ≠ 10 ∧ c ≠ 32 := by
  unfold namesW
  by_cases hn : l = []
  · subst hn
    exact ⟨by simp, by simp⟩
  · rw [if_neg hn]
    have hne : texts l ≠ [] := by simpa [texts] using hn
    have hno : ∀ x ∈ texts l, (44 : UInt8) ∉ x := by
      intro x hx hc
      simp only [texts, List.mem_map] at hx
      obtain ⟨y, hy, rfl⟩ := hx
      exact (name_bytes (namesOk_mem h hy) 44 hc).2.2 rfl
    have hne2 : glue 44 (texts l) ≠ [45] := by
      intro e
      match l, hn with
      | [x], _ => exact name_ne (namesOk_mem h (x := x) (by simp)) (by simpa [texts, glue] using e)
      | x :: y :: r, _ =>
        have : (44 : UInt8) ∈ glue 44 (texts (x :: y :: r)) := by
          simp only [texts, List.map_cons]
          rw [glue_cons (by simp)]
          simp
        rw [e] at this
        simp at this
    refine ⟨?_, fun c hc => ?_⟩
    · rw [if_neg hne2, cuts_glue hne hno]
      unfold texts
      rw [List.map_map]
      exact (List.map_congr_left (fun x _ => toB_data x)).trans (List.map_id _)
    · rcases mem_glue hc with rfl | ⟨x, hx, hc⟩
      · decide
      · simp only [texts, List.mem_map] at hx
        obtain ⟨y, hy, rfl⟩ := hx
        have := name_bytes (namesOk_mem h hy) c hc
        exact ⟨this.1, this.2.1⟩
theorem ask_forth {s : StepD} {n : Int} (h : FrontOk s n) (hn : n ≤ 20) : askOf (askW decL s) = some { s with cases := [], fin := false } := by
  obtain ⟨h1, h2, h3⟩ := askNums h hn
  obtain ⟨hm, hb⟩ := namesW_forth h.2.2.2.1
  have hc : cuts 32 (askW decL s) = [namesW s.asks, wOn, decL s.on, wElse, decL s.els, wFall, decL s.fall] := by
    refine cuts_glue (by simp) (fun x hx => ?_)
    simp only [List.mem_cons, List.not_mem_nil, or_false] at hx
    rcases hx with rfl | rfl | rfl | rfl | rfl | rfl | rfl
    · exact fun hc => (hb 32 hc).2 rfl
    · decide
    · exact fun hc => (decL_bytes _ h1.1 h1.2 32 hc).2 rfl
    · decide
    · exact fun hc => (decL_bytes _ h2.1 h2.2 32 hc).2 rfl
    · decide
    · exact fun hc => (decL_bytes _ h3.1 h3.2 32 hc).2 rfl
  unfold askOf
  rw [hc]
  simp only [and_self, if_true, decOf_decL h1.1 h1.2, decOf_decL h2.1 h2.2, decOf_decL h3.1 h3.2, hm]
  have hg : s.give = toB [] := by
    have := h.2.1
    obtain ⟨⟨l⟩⟩ : ∃ x : ByteArray, x = s.give := ⟨_, rfl⟩
    match hx : s.give with
    | ⟨⟨l⟩⟩ =>
      rw [hx] at this
      have : l = [] := List.eq_nil_of_length_eq_zero this
      subst this
      rfl
  rw [← h.1, ← hg]
def NoStep : List (List UInt8) → Prop
  | [] => True
  | l :: _ => (cut1 32 l).1 = wNode
theorem NoStep.noCase {r : List (List UInt8)} (h : NoStep r) : NoCase r := by
  match r, h with
  | [], _ => trivial
  | l :: _, h =>
    simp only [NoStep] at h
    simp only [NoCase, h]
    decide
theorem step_noCase (s : StepD) (r : List (List UInt8)) : NoCase (stepW decL s ++ r) := by
  unfold stepW
  by_cases hf : s.fin = true
  · rw [if_pos hf]
    simp only [List.cons_append, NoCase]
    by_cases hb : s.bad = true
    · rw [if_pos hb, cut1_app (by decide)]; exact (by decide : wBad ≠ wCase)
    · rw [if_neg hb, cut1_app (by decide)]; exact (by decide : wEnd ≠ wCase)
  · rw [if_neg hf]
    simp only [List.cons_append, NoCase]
    rw [cut1_app (by decide)]; exact (by decide : wAsk ≠ wCase)
theorem step_forth {s : StepD} {n : Int} (h : StepOk s n) (hn : n ≤ 20) {r : List (List UInt8)} (hr : NoCase r) {g : Got StepD} (hg : StepR (stepW decL s ++ r) g) : g = .ok s r := by
  unfold stepW at hg
  by_cases hf : s.fin = true
  · rw [if_pos hf] at hg
    obtain ⟨e1, e2, e3, e4, e5, _⟩ := h.1 hf
    have hs : ∀ b : Bool, s.bad = b → s = ⟨[], 0, [], 0, 0, true, b, s.give⟩ := fun b hb => by
      cases s
      simp only at *
      rw [List.eq_nil_of_length_eq_zero e1, List.eq_nil_of_length_eq_zero e3, e2, e4, e5, hf, hb]
    by_cases hb : s.bad = true
    · rw [if_pos hb] at hg
      simp only [List.cons_append, List.nil_append, StepR] at hg
      rw [cut1_app (by decide)] at hg
      simp only [or_true, if_true, unqP_quote, decide_true] at hg
      rw [hg]
      exact congrArg (fun x => Got.ok x r) (hs true hb).symm
    · rw [if_neg hb] at hg
      simp only [List.cons_append, List.nil_append, StepR] at hg
      rw [cut1_app (by decide)] at hg
      simp only [true_or, if_true, unqP_quote] at hg
      rw [hg]
      exact congrArg (fun x => Got.ok x r) (hs false (by simpa using hb)).symm
  · rw [if_neg hf] at hg
    have hA := h.2 (by simpa using hf)
    simp only [List.cons_append, StepR] at hg
    rw [cut1_app (by decide), if_neg (by exact (by decide : ¬ (wAsk = wEnd ∨ wAsk = wBad))), if_pos rfl] at hg
    simp only [ask_forth hA.1 hn] at hg
    have hm := fun o => ways_forth hn s.cases r (fun c hc => casesOk_mem hA.2 hc) hr (o := o)
    rcases hg with ⟨cs, r', hm', e⟩ | ⟨hm', _⟩
    · cases hm _ hm'
      rw [e]
      have hf' : s.fin = false := by simpa using hf
      cases s
      simp only at hf' ⊢
      rw [hf']
    · cases hm _ hm'
theorem steps_forth {n : Int} (hn : n ≤ 20) : ∀ (ss : List StepD) (r : List (List UInt8)), (∀ s ∈ ss, StepOk s n) → NoStep r → ∀ {o : Option (List StepD × List (List UInt8))}, Many StepR (ss.flatMap (stepW decL) ++ r) o → o = some (ss, r)
  | [], r, _, hr, o, hm => by
    have hg : ∀ g, StepR r g → g = .other := fun g hg => by
      match r, hr with
      | [], _ => exact hg
      | l :: r, hr =>
        simp only [NoStep] at hr
        simp only [StepR, hr] at hg
        rw [if_neg (by decide), if_neg (by decide)] at hg
        exact hg
    simp only [List.flatMap_nil, List.nil_append] at hm
    cases hm with
    | stop _ => rfl
    | bad h => cases hg _ h
    | fall h _ => cases hg _ h
    | more h _ => cases hg _ h
  | s :: ss, r, hs, hr, o, hm => by
    have hnc : NoCase (ss.flatMap (stepW decL) ++ r) := by
      match ss with
      | [] => exact hr.noCase
      | t :: ss => rw [List.flatMap_cons, List.append_assoc]; exact step_noCase t _
    have hg : ∀ g, StepR (stepW decL s ++ (ss.flatMap (stepW decL) ++ r)) g → g = .ok s (ss.flatMap (stepW decL) ++ r) := fun g hg => step_forth (hs s (by simp)) hn hnc hg
    rw [List.flatMap_cons, List.append_assoc] at hm
    have ih := fun o => steps_forth hn ss r (fun x hx => hs x (by simp [hx])) hr (o := o)
    generalize hL : stepW decL s ++ (ss.flatMap (stepW decL) ++ r) = L at hm hg
    cases hm with
    | stop h => cases hg _ h
    | bad h => cases hg _ h
    | fall h h' =>
      have e := hg _ h
      cases e
      cases ih _ h'
    | more h h' =>
      have e := hg _ h
      cases e
      cases ih _ h'
      rfl
theorem node_forth {d : NodeD} (h : NodeOk d) {r : List (List UInt8)} (hr : NoStep r) {g : Got NodeD} (hg : NodeR (nodeW decL d ++ r) g) : g = .ok d r := by
  have hc := h.2.1
  simp only at hc
  unfold nodeW headW at hg
  simp only [List.cons_append, NodeR] at hg
  rw [cut1_app (by decide), if_pos rfl] at hg
  simp only at hg
  rw [cut1_app (fun hm => (name_bytes h.1 32 hm).2.1 rfl)] at hg
  simp only [decOf_decL (show -1 ≤ d.cost by omega) (by omega), toB_data] at hg
  have hm := fun o => steps_forth (n := d.steps.length) (by have := h.2.2.1.2; simp only at this; omega) d.steps r (fun s hs => (stepsOk_mem h hs).1) hr (o := o)
  rcases hg with ⟨ss, r', hm', e⟩ | ⟨hm', _⟩
  · cases hm _ hm'
    exact e
  · cases hm _ hm'
theorem nodes_forth : ∀ (ns : List NodeD), (∀ d ∈ ns, NodeOk d) → ∀ {o : Option (List NodeD × List (List UInt8))}, Many NodeR (ns.flatMap (nodeW decL)) o → o = some (ns, [])
  | [], _, o, hm => by
    simp only [List.flatMap_nil] at hm
    have hg : ∀ g, NodeR [] g → g = .other := fun g hg => hg
    cases hm with
    | stop _ => rfl
    | bad h => cases hg _ h
    | fall h _ => cases hg _ h
    | more h _ => cases hg _ h
  | d :: ns, hd, o, hm => by
    have hns : NoStep (ns.flatMap (nodeW decL)) := by
      match ns with
      | [] => trivial
      | t :: ns =>
        rw [List.flatMap_cons]
        unfold nodeW headW
        simp only [List.cons_append, NoStep]
        rw [cut1_app (by decide)]
    have hg : ∀ g, NodeR (nodeW decL d ++ ns.flatMap (nodeW decL)) g → g = .ok d (ns.flatMap (nodeW decL)) := fun g hg => node_forth (hd d (by simp)) hns hg
    rw [List.flatMap_cons] at hm
    have ih := fun o => nodes_forth ns (fun x hx => hd x (by simp [hx])) (o := o)
    generalize hL : nodeW decL d ++ ns.flatMap (nodeW decL) = L at hm hg
    cases hm with
    | stop h => cases hg _ h
    | bad h => cases hg _ h
    | fall h h' =>
      have e := hg _ h
      cases e
      cases ih _ h'
    | more h h' =>
      have e := hg _ h
      cases e
      cases ih _ h'
      rfl
theorem lines_ok {d : NodeD} (h : NodeOk d) : ∀ x ∈ nodeW decL d, (10 : UInt8) ∉ x := by
  intro x hx
  have hc := h.2.1
  simp only at hc
  unfold nodeW at hx
  simp only [List.mem_cons, List.mem_flatMap] at hx
  rcases hx with rfl | ⟨s, hs, hx⟩
  · unfold headW
    simp only [List.mem_append, List.mem_cons, not_or]
    exact ⟨by decide, by decide, fun hm => (name_bytes h.1 10 hm).1 rfl, by decide, fun hm => (decL_bytes _ (show -1 ≤ d.cost by omega) (by omega) 10 hm).1 rfl⟩
  · obtain ⟨hS, hn⟩ := stepsOk_mem h hs
    unfold stepW at hx
    split at hx
    · simp only [List.mem_cons, List.not_mem_nil, or_false] at hx
      subst hx
      simp only [List.mem_append, List.mem_cons, not_or]
      refine ⟨?_, by decide, quoteL_bytes _⟩
      split <;> decide
    · next hf =>
      have hA := hS.2 (by simpa using hf)
      obtain ⟨h1, h2, h3⟩ := askNums hA.1 hn
      simp only [List.mem_cons, List.mem_map] at hx
      rcases hx with rfl | ⟨c, hcm, rfl⟩
      · simp only [List.mem_append, List.mem_cons, not_or]
        refine ⟨by decide, by decide, fun hm => ?_⟩
        rcases mem_glue hm with hm | ⟨y, hy, hm⟩
        · exact absurd hm (by decide)
        · simp only [List.mem_cons, List.not_mem_nil, or_false] at hy
          rcases hy with rfl | rfl | rfl | rfl | rfl | rfl | rfl
          · exact ((namesW_forth hA.1.2.2.2.1).2 10 hm).1 rfl
          · exact absurd hm (by decide)
          · exact (decL_bytes _ h1.1 h1.2 10 hm).1 rfl
          · exact absurd hm (by decide)
          · exact (decL_bytes _ h2.1 h2.2 10 hm).1 rfl
          · exact absurd hm (by decide)
          · exact (decL_bytes _ h3.1 h3.2 10 hm).1 rfl
      · have hco := casesOk_mem hA.2 hcm
        have g1 := hco.2.1
        have g2 := hco.2.2
        unfold caseW
        simp only [List.mem_append, List.mem_cons, not_or]
        exact ⟨by decide, by decide, fun hm => (decL_bytes _ (show -1 ≤ c.goto by omega) (by omega) 10 hm).1 rfl, by decide, quoteL_bytes _⟩
theorem form_lines {ns : List NodeD} (h : ∀ d ∈ ns, NodeOk d) : cuts 10 (nodesL ns) = ns.flatMap (nodeW decL) ++ [[]] := by
  rw [← unlines_nodes]
  refine src_lines fun x hx => ?_
  simp only [List.mem_flatMap] at hx
  obtain ⟨d, hd, hx⟩ := hx
  exact lines_ok (h d hd) x hx
theorem webOkL_mem {ns : List NodeD} (h : WebOkL ns) : ∀ d ∈ ns, NodeOk d := by
  intro d hd
  obtain ⟨i, hi, rfl⟩ := List.getElem_of_mem hd
  have := h.2 i hi
  simpa [List.getD, hi] using this
theorem read_forth {ns : List NodeD} (h : WebOkL ns) {L : List (List UInt8)} (hL : cuts 10 (nodesL ns) = L ++ [[]]) {o : Option (List NodeD)} (hr : WebR L o) : o = some ns := by
  have hok := webOkL_mem h
  rw [form_lines hok] at hL
  obtain rfl := List.append_cancel_right hL
  have hm := fun o => nodes_forth ns hok (o := o)
  rcases hr with ⟨ns', r, hm', e⟩ | ⟨hm', _⟩
  · cases hm _ hm'
    simpa using e
  · cases hm _ hm'

end Go.Proofs.YtinkfgkjdaaeaaaGreatDoor

namespace Go.Proofs.YtinkfgkjdaaeaaaGreatDoor
open Go.RowKit

def looseK (n : Int) : List UInt8 → Int
  | [] => n
  | c :: r => looseK (n * 10 + (c.toNat : Int) - 48) r
def looseL (l : List UInt8) : Int := if l = [45, 49] then -1 else looseK 0 (l.take 6)
theorem looseL_dec {n : Int} (h0 : -1 ≤ n) (h1 : n < 100) : looseL (decL n) = n := by
  have : ∀ m : Fin 101, looseL (decL ((m.val : Int) - 1)) = ((m.val : Int) - 1) := by decide +kernel
  have := this ⟨(n + 1).toNat, by omega⟩
  have e : ((n + 1).toNat : Int) - 1 = n := by omega
  dsimp only at this
  rw [e] at this
  exact this

def restL : Nat → List UInt8 → List UInt8
  | _, [] => []
  | k, c :: r => if c = 32 then (if k = 1 then r else restL (k - 1) r) else restL k r
theorem restL_skip {k : Nat} : ∀ {x : List UInt8}, (32 : UInt8) ∉ x → ∀ r, restL k (x ++ r) = restL k r
  | [], _, r => rfl
  | c :: x, h, r => by
    simp only [List.mem_cons, not_or] at h
    have hc : ¬ c = 32 := fun e => h.1 e.symm
    simp only [List.cons_append, restL]
    rw [if_neg hc, restL_skip h.2]
theorem restL_one {x : List UInt8} (h : (32 : UInt8) ∉ x) (r : List UInt8) : restL 1 (x ++ 32 :: r) = r := by
  rw [restL_skip h]
  simp [restL]
theorem restL_two {x y : List UInt8} (h : (32 : UInt8) ∉ x) (h' : (32 : UInt8) ∉ y) (r : List UInt8) : restL 2 (x ++ 32 :: (y ++ 32 :: r)) = r := by
  rw [restL_skip h, restL, if_pos rfl, if_neg (by decide), restL_one h']

def hex8 (c : UInt8) : Option Nat := if 48 ≤ c.toNat ∧ c.toNat ≤ 57 then some (c.toNat - 48) else if 97 ≤ c.toNat ∧ c.toNat ≤ 102 then some (c.toNat - 87) else none
def unq8 : Nat → List UInt8 → List UInt8
  | 0, _ => []
  | _, [] => []
  | _, [_] => []
  | n + 1, c :: a :: b :: d :: t => if c = 92 ∧ (hex8 a).isSome = true ∧ (hex8 b).isSome = true then UInt8.ofNat (16 * (hex8 a).getD 0 + (hex8 b).getD 0) :: unq8 n (d :: t) else c :: unq8 n (a :: b :: d :: t)
  | n + 1, c :: r => c :: unq8 n r
def unqL (l : List UInt8) : List UInt8 := unq8 l.length (l.drop 1)

theorem hex8_two : ∀ c : UInt8, ∃ a b, hexL 2 c.toNat = [a, b] ∧ (hex8 a).isSome = true ∧ (hex8 b).isSome = true ∧ UInt8.ofNat (16 * (hex8 a).getD 0 + (hex8 b).getD 0) = c := by
  have : ∀ n : Fin 256, (hex8 ((hexL 2 n.val).getD 0 0)).isSome = true ∧ (hex8 ((hexL 2 n.val).getD 1 0)).isSome = true ∧ 16 * (hex8 ((hexL 2 n.val).getD 0 0)).getD 0 + (hex8 ((hexL 2 n.val).getD 1 0)).getD 0 = n.val := by decide +kernel
  intro c
  have h := this ⟨c.toNat, c.toNat_lt⟩
  have h2 : (hexL 2 c.toNat).length = 2 := hexL_length _ _
  match hh : hexL 2 c.toNat, h2 with
  | [a, b], _ =>
    simp only [hh] at h
    refine ⟨a, b, rfl, h.1, h.2.1, ?_⟩
    have e : 16 * (hex8 a).getD 0 + (hex8 b).getD 0 = c.toNat := h.2.2
    rw [e]
    simp
theorem unq8_plain {n : Nat} {c : UInt8} {r : List UInt8} (h : c ≠ 92) (hr : r ≠ []) : unq8 (n + 1) (c :: r) = c :: unq8 n r := by
  match r, hr with
  | [a], _ => simp [unq8]
  | [a, b], _ => simp [unq8]
  | a :: b :: d :: t, _ => simp [unq8, h]
theorem unq8_quotes : ∀ (t : List UInt8) (n : Nat), (quotesL t).length + 1 ≤ n → unq8 n (quotesL t ++ [34]) = t
  | [], n, h => by
    match n, h with
    | n + 1, _ => simp [quotesL, unq8]
  | c :: t, n, h => by
    have e : quotesL (c :: t) = quoteB c ++ quotesL t := by simp [quotesL]
    rw [e] at h ⊢
    unfold quoteB at h ⊢
    split at h
    · next g =>
      have hne : c ≠ 92 := fun e => g.2.2.2 (by rw [e]; rfl)
      rw [if_pos g]
      simp only [List.cons_append, List.nil_append, List.length_cons] at h ⊢
      match n, h with
      | n + 1, h => rw [unq8_plain hne (by simp), unq8_quotes t n (by omega)]
    · next g =>
      rw [if_neg g]
      obtain ⟨a, b, hh, h1, h2, h3⟩ := hex8_two c
      rw [hh] at h ⊢
      simp only [List.cons_append, List.nil_append, List.length_cons] at h ⊢
      match n, h with
      | n + 1, h =>
        have ih := unq8_quotes t n (by omega)
        match hq : quotesL t ++ [34], (show quotesL t ++ [34] ≠ [] by simp) with
        | d :: u, _ =>
          rw [hq] at ih
          simp [unq8, h1, h2, h3, ih]
theorem unqL_quote (t : List UInt8) : unqL (quoteL t) = t := by
  unfold unqL quoteL
  simp only [List.drop_succ_cons, List.drop_zero, List.length_cons, List.length_append, List.length_nil]
  exact unq8_quotes t _ (by omega)

def wd (l : List UInt8) (i : Nat) : List UInt8 := (cuts 32 l).getD i []
def endD (l : List UInt8) : StepD := ⟨[], 0, [], 0, 0, true, decide (wd l 0 = wBad), toB (unqL (restL 1 l))⟩
def askD (l : List UInt8) : StepD := ⟨if wd l 1 = [45] then [] else (cuts 44 (wd l 1)).map toB, looseL (wd l 3), [], looseL (wd l 5), looseL (wd l 7), false, false, ByteArray.empty⟩
def caseD (l : List UInt8) : CaseD := ⟨toB (unqL (restL 2 l)), looseL (wd l 1)⟩
def putCase (c : CaseD) : List StepD → List StepD
  | [] => []
  | [s] => [{ s with cases := s.cases ++ [c] }]
  | s :: r => s :: putCase c r
def stepsF (l : List UInt8) (ss : List StepD) : List StepD :=
  if wd l 0 = wEnd ∨ wd l 0 = wBad then ss ++ [endD l] else if wd l 0 = wAsk then ss ++ [askD l] else if wd l 0 = wCase then putCase (caseD l) ss else ss
def inLast (f : List StepD → List StepD) : List NodeD → List NodeD
  | [] => []
  | [d] => [{ d with steps := f d.steps }]
  | d :: r => d :: inLast f r
def lineF (L : List NodeD) (l : List UInt8) : List NodeD :=
  if wd l 0 = wNode then L ++ [⟨toB (wd l 1), looseL (wd l 2), []⟩] else inLast (stepsF l) L
def readL (src : List UInt8) : List NodeD := (cuts 10 src).foldl lineF []

theorem inLast_last (f : List StepD → List StepD) (d : NodeD) : ∀ L, inLast f (L ++ [d]) = L ++ [{ d with steps := f d.steps }]
  | [] => rfl
  | [x] => rfl
  | x :: y :: r => by
    have := inLast_last f d (y :: r)
    simp only [List.cons_append] at this ⊢
    rw [inLast, this]
    simp
theorem putCase_last (c : CaseD) (s : StepD) : ∀ L, putCase c (L ++ [s]) = L ++ [{ s with cases := s.cases ++ [c] }]
  | [] => rfl
  | [x] => rfl
  | x :: y :: r => by
    have := putCase_last c s (y :: r)
    simp only [List.cons_append] at this ⊢
    rw [putCase, this]
    simp
theorem wd_app {x r : List UInt8} (h : (32 : UInt8) ∉ x) : wd (x ++ 32 :: r) 0 = x ∧ ∀ i, wd (x ++ 32 :: r) (i + 1) = wd r i := by
  unfold wd
  rw [cuts_app h]
  exact ⟨rfl, fun _ => rfl⟩
theorem wd_one {x : List UInt8} (h : (32 : UInt8) ∉ x) : wd x 0 = x := by
  unfold wd
  rw [cuts_none h]
  rfl
theorem case8 {c : CaseD} {n : Int} (h : CaseOk n c) (hn : n ≤ 20) (ss : List StepD) (s : StepD) : stepsF (caseW decL c) (ss ++ [s]) = ss ++ [{ s with cases := s.cases ++ [c] }] := by
  have h1 := h.2.1
  have h2 := h.2.2
  have hb : (32 : UInt8) ∉ decL c.goto := fun hm => (decL_bytes c.goto (by omega) (by omega) 32 hm).2 rfl
  have hw := wd_app (x := wCase) (r := decL c.goto ++ 32 :: quoteL c.text.data.toList) (by decide)
  have hw1 := wd_app (x := decL c.goto) (r := quoteL c.text.data.toList) hb
  have e0 : wd (caseW decL c) 0 = wCase := hw.1
  have e1 : wd (caseW decL c) 1 = decL c.goto := by unfold caseW; rw [hw.2 0, hw1.1]
  have e2 : restL 2 (caseW decL c) = quoteL c.text.data.toList := restL_two (by decide) hb _
  unfold stepsF
  rw [e0, if_neg (by decide), if_neg (by decide), if_pos rfl, putCase_last]
  unfold caseD
  rw [e1, e2, looseL_dec (by omega) (by omega), unqL_quote, toB_data]
theorem cases8 {n : Int} (hn : n ≤ 20) (L : List NodeD) (d : NodeD) (ss : List StepD) : ∀ (cs : List CaseD) (s : StepD), (∀ c ∈ cs, CaseOk n c) →
    (cs.map (caseW decL)).foldl lineF (L ++ [{ d with steps := ss ++ [s] }]) = L ++ [{ d with steps := ss ++ [{ s with cases := s.cases ++ cs }] }]
  | [], s, _ => by simp
  | c :: cs, s, h => by
    have e0 : wd (caseW decL c) 0 = wCase := (wd_app (x := wCase) (r := decL c.goto ++ 32 :: quoteL c.text.data.toList) (by decide)).1
    have e1 : lineF (L ++ [{ d with steps := ss ++ [s] }]) (caseW decL c) = L ++ [{ d with steps := ss ++ [{ s with cases := s.cases ++ [c] }] }] := by
      unfold lineF
      rw [e0, if_neg (by decide), inLast_last, case8 (h c (by simp)) hn]
    rw [List.map_cons, List.foldl_cons, e1, cases8 hn L d ss cs _ (fun x hx => h x (by simp [hx]))]
    simp
theorem step8 {s : StepD} {n : Int} (h : StepOk s n) (hn : n ≤ 20) (L : List NodeD) (d : NodeD) (ss : List StepD) :
    (stepW decL s).foldl lineF (L ++ [{ d with steps := ss }]) = L ++ [{ d with steps := ss ++ [s] }] := by
  unfold stepW
  by_cases hf : s.fin = true
  · rw [if_pos hf]
    obtain ⟨e1, e2, e3, e4, e5, _⟩ := h.1 hf
    have hs : ∀ b : Bool, s.bad = b → s = ⟨[], 0, [], 0, 0, true, b, s.give⟩ := fun b hb => by
      cases s
      simp only at *
      rw [List.eq_nil_of_length_eq_zero e1, List.eq_nil_of_length_eq_zero e3, e2, e4, e5, hf, hb]
    have key : ∀ x : List UInt8, x = wEnd ∨ x = wBad → (32 : UInt8) ∉ x → decide (x = wBad) = s.bad → lineF (L ++ [{ d with steps := ss }]) (x ++ 32 :: quoteL s.give.data.toList) = L ++ [{ d with steps := ss ++ [s] }] := by
      intro x hx hb hbad
      have e0 : wd (x ++ 32 :: quoteL s.give.data.toList) 0 = x := (wd_app hb).1
      have e6 : restL 1 (x ++ 32 :: quoteL s.give.data.toList) = quoteL s.give.data.toList := restL_one hb _
      have hnn : x ≠ wNode := by rcases hx with rfl | rfl <;> decide
      unfold lineF
      rw [e0, if_neg hnn, inLast_last]
      unfold stepsF
      rw [e0, if_pos hx]
      unfold endD
      rw [e0, e6, unqL_quote, toB_data, hbad]
      simp only
      rw [← hs s.bad rfl]
    by_cases hb : s.bad = true
    · rw [if_pos hb]
      exact key wBad (.inr rfl) (by decide) (by rw [hb]; decide)
    · rw [if_neg hb]
      exact key wEnd (.inl rfl) (by decide) (by rw [show s.bad = false by simpa using hb]; decide)
  · rw [if_neg hf]
    have hf' : s.fin = false := by simpa using hf
    have hA := h.2 hf'
    obtain ⟨h1, h2, h3⟩ := askNums hA.1 hn
    obtain ⟨hm, hb⟩ := namesW_forth hA.1.2.2.2.1
    have b0 : (32 : UInt8) ∉ namesW s.asks := fun hc => (hb 32 hc).2 rfl
    have b1 : (32 : UInt8) ∉ decL s.on := fun hc => (decL_bytes _ h1.1 h1.2 32 hc).2 rfl
    have b2 : (32 : UInt8) ∉ decL s.els := fun hc => (decL_bytes _ h2.1 h2.2 32 hc).2 rfl
    have b3 : (32 : UInt8) ∉ decL s.fall := fun hc => (decL_bytes _ h3.1 h3.2 32 hc).2 rfl
    have hc : cuts 32 (wAsk ++ 32 :: askW decL s) = [wAsk, namesW s.asks, wOn, decL s.on, wElse, decL s.els, wFall, decL s.fall] := by
      rw [cuts_app (by decide)]
      unfold askW
      rw [cuts_glue (by simp) (fun x hx => ?_)]
      simp only [List.mem_cons, List.not_mem_nil, or_false] at hx
      rcases hx with rfl | rfl | rfl | rfl | rfl | rfl | rfl
      · exact b0
      · decide
      · exact b1
      · decide
      · exact b2
      · decide
      · exact b3
    have e0 : wd (wAsk ++ 32 :: askW decL s) 0 = wAsk := by unfold wd; rw [hc]; rfl
    have e1 : wd (wAsk ++ 32 :: askW decL s) 1 = namesW s.asks := by unfold wd; rw [hc]; rfl
    have e3 : wd (wAsk ++ 32 :: askW decL s) 3 = decL s.on := by unfold wd; rw [hc]; rfl
    have e5 : wd (wAsk ++ 32 :: askW decL s) 5 = decL s.els := by unfold wd; rw [hc]; rfl
    have e7 : wd (wAsk ++ 32 :: askW decL s) 7 = decL s.fall := by unfold wd; rw [hc]; rfl
    have hl : lineF (L ++ [{ d with steps := ss }]) (wAsk ++ 32 :: askW decL s) = L ++ [{ d with steps := ss ++ [{ s with cases := [] }] }] := by
      unfold lineF
      rw [e0, if_neg (by decide), inLast_last]
      unfold stepsF
      rw [e0, if_neg (by decide), if_pos rfl]
      unfold askD
      rw [e1, e3, e5, e7, hm, looseL_dec h1.1 h1.2, looseL_dec h2.1 h2.2, looseL_dec h3.1 h3.2]
      have hg : s.give = ByteArray.empty := by
        have := hA.1.2.1
        match hx : s.give with
        | ⟨⟨l⟩⟩ =>
          rw [hx] at this
          have : l = [] := List.eq_nil_of_length_eq_zero this
          subst this
          rfl
      have : ({ s with cases := [] } : StepD) = ⟨s.asks, s.on, [], s.els, s.fall, false, false, ByteArray.empty⟩ := by
        have hbad := hA.1.1
        cases s
        simp only at hf' hg hbad ⊢
        rw [hf', hg, hbad]
      rw [this]
    rw [List.foldl_cons, hl, cases8 hn L d ss s.cases _ (fun c hc => casesOk_mem hA.2 hc)]
    simp
theorem steps8 {n : Int} (hn : n ≤ 20) (L : List NodeD) (d : NodeD) : ∀ (ss ts : List StepD), (∀ s ∈ ss, StepOk s n) →
    (ss.flatMap (stepW decL)).foldl lineF (L ++ [{ d with steps := ts }]) = L ++ [{ d with steps := ts ++ ss }]
  | [], ts, _ => by simp
  | s :: ss, ts, h => by
    rw [List.flatMap_cons, List.foldl_append, step8 (h s (by simp)) hn, steps8 hn L d ss _ (fun x hx => h x (by simp [hx]))]
    simp
theorem node8 {d : NodeD} (h : NodeOk d) (L : List NodeD) : (nodeW decL d).foldl lineF L = L ++ [d] := by
  have hc := h.2.1
  simp only at hc
  have bn : (32 : UInt8) ∉ d.name.data.toList := fun hm => (name_bytes h.1 32 hm).2.1 rfl
  have bc : (32 : UInt8) ∉ decL d.cost := fun hm => (decL_bytes _ (show -1 ≤ d.cost by omega) (by omega) 32 hm).2 rfl
  have hw := wd_app (x := wNode) (r := d.name.data.toList ++ 32 :: decL d.cost) (by decide)
  have hw1 := wd_app (x := d.name.data.toList) (r := decL d.cost) bn
  have e0 : wd (headW decL d) 0 = wNode := hw.1
  have e1 : wd (headW decL d) 1 = d.name.data.toList := by unfold headW; rw [hw.2 0, hw1.1]
  have e2 : wd (headW decL d) 2 = decL d.cost := by unfold headW; rw [hw.2 1, hw1.2 0, wd_one bc]
  have e3 : lineF L (headW decL d) = L ++ [{ d with steps := [] }] := by
    unfold lineF
    rw [e0, if_pos rfl, e1, e2, toB_data, looseL_dec (by omega) (by omega)]
  unfold nodeW
  rw [List.foldl_cons, e3, steps8 (n := d.steps.length) (by have := h.2.2.1.2; simp only at this; omega) L d d.steps [] (fun s hs => (stepsOk_mem h hs).1)]
  simp
theorem nodes8 : ∀ (ns L : List NodeD), (∀ d ∈ ns, NodeOk d) → (ns.flatMap (nodeW decL)).foldl lineF L = L ++ ns
  | [], L, _ => by simp
  | d :: ns, L, h => by
    rw [List.flatMap_cons, List.foldl_append, node8 (h d (by simp)), nodes8 ns _ (fun x hx => h x (by simp [hx]))]
    simp
theorem readL_form {ns : List NodeD} (h : WebOkL ns) : readL (nodesL ns) = ns := by
  unfold readL
  rw [form_lines (webOkL_mem h), List.foldl_append, nodes8 ns [] (webOkL_mem h)]
  simp only [List.nil_append, List.foldl_cons, List.foldl_nil]
  unfold lineF
  have e : wd [] 0 = [] := rfl
  rw [e, if_neg (by decide)]
  have hF : ∀ ss, stepsF [] ss = ss := fun ss => by
    unfold stepsF
    rw [e, if_neg (by decide), if_neg (by decide), if_neg (by decide)]
  have hI : ∀ L : List NodeD, inLast (stepsF []) L = L := by
    intro L
    induction L with
    | nil => rfl
    | cons x r ih =>
      match r, ih with
      | [], _ => simp only [inLast, hF]
      | y :: r, ih => rw [inLast, ih]; simp
  exact hI ns

end Go.Proofs.YtinkfgkjdaaeaaaGreatDoor
