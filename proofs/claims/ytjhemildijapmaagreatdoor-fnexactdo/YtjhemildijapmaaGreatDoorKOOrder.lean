import Derived.OrdersHeld
import Derived.Test.YtjhemildijapmaaGreatDoorKDBase
import Derived.Deep.RegionHeld
namespace Go.Proofs.YtjhemildijapmaaGreatDoor
section
variable {P : Program} {ops : Array Oper} {Q : Exit → Act → World → Prop} {md : Region.Mode} {S : World → Prop} {z : Nat}
def UpTo (P : Program) (md : Region.Mode) (ops : Array Oper) (Q : Exit → Act → World → Prop) (S : World → Prop) (z : Nat) : Nat → Array Bool → Act → World → Prop
  | 0, up, a, w => Region.ready md ops up = [] ∧ Q .normal a w
  | n + 1, up, a, w => (Region.ready md ops up = [] → Q .normal a w) ∧ ∀ k ∈ Region.ready md ops up, wpOp P ops Q k (fun b u => (k ≠ z → S u) ∧ UpTo P md ops Q S z n (up.setIfInBounds k true) b u) a w
theorem UpTo.any : ∀ (n : Nat) (up : Array Bool) (a : Act) (w : World), UpTo P md ops Q S z n up a w → wpAny P md ops Q n up a w
  | 0, _, _, _, h => h
  | n + 1, _, _, _, h => ⟨h.1, fun k hk => wpOp_mono (fun b u g => UpTo.any n _ b u g.2) (h.2 k hk)⟩
theorem UpTo.region {id : Nat} {a : Act} {w : World} (hm : P.follows .mixedOrders = true) (S : World → Prop) (z : Nat) (hS : S w.drew)
    (h : S w.drew → UpTo P .any ops Q S z ops.size (Array.replicate ops.size false) a w.drew) : (Code.region id ops true).wp P Q a w :=
  wp_region_any hm (UpTo.any _ _ _ _ (h hS))
def waitB (md : Region.Mode) (ops : Array Oper) (i : Nat) (D : List Nat) : Bool :=
  D.all fun d => match ops[d]? with
    | some o => o.after.toList.any fun e => Region.binds md e && (e.on == i || D.contains e.on)
    | none => false
theorem wait_not {i : Nat} {D : List Nat} {up : Array Bool} (hD : waitB md ops i D = true) (hi : up.getD i true = false) (hun : ∀ d ∈ D, up.getD d true = false) {k : Nat}
    (hk : k ∈ Region.ready md ops up) : k ∉ D := by
  intro hkD
  obtain ⟨_, o, ho, hall⟩ := mem_ready.1 hk
  have h1 := List.all_eq_true.1 hD k hkD
  simp only [ho, List.any_eq_true, Array.mem_toList_iff, Bool.and_eq_true, Bool.or_eq_true, beq_iff_eq, List.contains_iff_mem] at h1
  obtain ⟨e, he, hb, hon⟩ := h1
  have h2 := hall e he hb
  have h3 : up.getD e.on true = false := by
    rcases hon with h | h
    · rw [h]; exact hi
    · exact hun _ h
  rcases Nat.lt_or_ge e.on up.size with h' | h'
  · simp [h'] at h2 h3
    rw [h3] at h2
    cases h2
  · simp [Array.getElem?_eq_none h'] at h2
theorem UpTo.take' {i : Nat} {oi : Oper} {v : Value} (hi : ops[i]? = some oi) (hsel : Region.noSelect ops = true) (hQ : ∀ c a w, Q (.panic c) (a.put oi.dst v) w → Q (.panic c) a w)
    {D : List Nat} (hz : z ∈ D) (hD : waitB md ops i D = true) :
    ∀ (n : Nat) (up : Array Bool) (a : Act) (w : World), (∀ j oj, ops[j]? = some oj → j ≠ i → up.getD j true = false → (∀ e ∈ oj.after, Region.binds md e = true → e.on ≠ i) → oi.apart ops oj = true) →
      (∀ d ∈ D, up.getD d true = false) → i ∈ Region.ready md ops up → YieldsIf P ops S oi v a → S w →
      UpTo P md ops Q S z n (up.setIfInBounds i true) (a.put oi.dst v) w → UpTo P md ops Q S z (n + 1) up a w := by
  intro n
  induction n with
  | zero =>
    intro up a w _ _ hr hy hS H
    refine ⟨fun h => (by rw [h] at hr; cases hr), fun j hj => ?_⟩
    by_cases e : j = i
    · exact e ▸ hy.wpOp hi hS ⟨fun _ => hS, H⟩
    · have := ready_mono hj e
      rw [H.1] at this
      cases this
  | succ n ih =>
    intro up a w hfree hun hr hy hS H
    refine ⟨fun h => (by rw [h] at hr; cases hr), fun j hj => ?_⟩
    by_cases e : j = i
    · exact e ▸ hy.wpOp hi hS ⟨fun _ => hS, H⟩
    · have hiu := (mem_ready.1 hr).1
      have hjD := wait_not hD hiu hun hj
      have hjz : j ≠ z := fun h => hjD (h ▸ hz)
      obtain ⟨hju, oj, hoj, hall⟩ := mem_ready.1 hj
      have hno : ∀ e ∈ oj.after, Region.binds md e = true → e.on ≠ i := fun e he hb heq => by
        have h1 := hall e he hb
        rw [heq] at h1
        rcases Nat.lt_or_ge i up.size with h' | h'
        · simp [h'] at hiu h1; rw [hiu] at h1; cases h1
        · simp [Array.getElem?_eq_none h'] at h1
      have h2 := wpOp_putIf hoj (hfree j oj hoj e hju hno) (fun cs b => Region.noSelect_spec hsel i oi cs b hi) (fun cs b => Region.noSelect_spec hsel j oj cs b hoj) hQ hy (H.2 j (ready_mono hj e))
      refine wpOp_mono (fun b u g => ⟨g.2.1, ih (up.setIfInBounds j true) b u (fun k ok hk hki hku hkn => hfree k ok hk hki ?_ hkn) (fun d hd => ?_) (ready_mono hr (Ne.symm e)) g.1 (g.2.1 hjz) ?_⟩) h2
      · by_cases hjk : j = k
        · exact hjk ▸ hju
        · rw [getD_set_ne true hjk] at hku; exact hku
      · rw [getD_set_ne true (fun h : j = d => hjD (h ▸ hd))]; exact hun d hd
      · rw [Array.setIfInBounds_comm _ _ e]; exact g.2.2
theorem UpTo.take (i : Nat) (D : List Nat) {oi : Oper} {v : Value} {n : Nat} {up : Array Bool} {a : Act} {w : World} (hi : ops[i]? = some oi) (hsel : Region.noSelect ops = true)
    (hf : Region.free md ops up i = true) (hr : (Region.ready md ops up).contains i = true) (hD : (D.contains z && waitB md ops i D && D.all fun d => !up.getD d true) = true)
    (hQ : ∀ c a w, Q (.panic c) (a.put oi.dst v) w → Q (.panic c) a w) (hy : YieldsIf P ops S oi v a) (hS : S w)
    (h : UpTo P md ops Q S z n (up.setIfInBounds i true) (a.put oi.dst v) w) : UpTo P md ops Q S z (n + 1) up a w := by
  simp only [Bool.and_eq_true, List.contains_iff_mem, List.all_eq_true, Bool.not_eq_true'] at hD
  exact UpTo.take' hi hsel hQ hD.1.1 hD.1.2 n up a w (Region.free_spec hi hf) hD.2 (by simpa using hr) hy hS h
theorem UpTo.next (i : Nat) {o : Oper} {n : Nat} {up : Array Bool} {a : Act} {w : World} (hr : Region.ready md ops up = [i]) (ho : ops[i]? = some o)
    (h : ∀ K : Act → World → Prop, Shut (∀ b u, (i ≠ z → S u) → UpTo P md ops Q S z n (up.setIfInBounds i true) b u → K b u) → if Region.wanted o (yielded ops a.tmps) = true then Oper.wp P o a w K Q else K (a.put o.dst undef) w) :
    UpTo P md ops Q S z (n + 1) up a w := by
  refine ⟨fun h0 => (by rw [hr] at h0; cases h0), fun k hk => ?_⟩
  rw [hr] at hk
  obtain rfl : k = i := by simpa using hk
  exact wpOp_step ho (fun K hK => h K (fun b u h1 h2 => hK b u ⟨h1, h2⟩))
theorem UpTo.two (i j : Nat) {oi oj : Oper} {n : Nat} {up : Array Bool} {a : Act} {w : World} (hr : Region.ready md ops up = [i, j]) (hoi : ops[i]? = some oi) (hoj : ops[j]? = some oj)
    (h1 : ∀ K : Act → World → Prop, Shut (∀ b u, (i ≠ z → S u) → UpTo P md ops Q S z n (up.setIfInBounds i true) b u → K b u) → if Region.wanted oi (yielded ops a.tmps) = true then Oper.wp P oi a w K Q else K (a.put oi.dst undef) w)
    (h2 : ∀ K : Act → World → Prop, Shut (∀ b u, (j ≠ z → S u) → UpTo P md ops Q S z n (up.setIfInBounds j true) b u → K b u) → if Region.wanted oj (yielded ops a.tmps) = true then Oper.wp P oj a w K Q else K (a.put oj.dst undef) w) :
    UpTo P md ops Q S z (n + 1) up a w := by
  refine ⟨fun h0 => (by rw [hr] at h0; cases h0), fun k hk => ?_⟩
  rw [hr] at hk
  simp only [List.mem_cons, List.not_mem_nil, or_false] at hk
  rcases hk with rfl | rfl
  · exact wpOp_step hoi (fun K hK => h1 K (fun b u h1 h2 => hK b u ⟨h1, h2⟩))
  · exact wpOp_step hoj (fun K hK => h2 K (fun b u h1 h2 => hK b u ⟨h1, h2⟩))
theorem UpTo.done {n : Nat} {up : Array Bool} {a : Act} {w : World} (hr : Region.ready md ops up = []) (h : Q .normal a w) : UpTo P md ops Q S z n up a w := by
  cases n with
  | zero => exact ⟨hr, h⟩
  | succ n => exact ⟨fun _ => h, by rw [hr]; simp⟩
theorem upA {α : Type} {l : List α} {i : Nat} {a : α} : l.toArray.setIfInBounds i a = (l.set i a).toArray := List.setIfInBounds_toArray ..
theorem upB {α : Type} {x : α} {xs : List α} {a : α} : (x :: xs).set 0 a = a :: xs := List.set_cons_zero
theorem upC {α : Type} {x : α} {xs : List α} {i : Nat} {a : α} : (x :: xs).set (i + 1) a = x :: xs.set i a := List.set_cons_succ
def waitsOf (md : Region.Mode) (ops : Array Oper) (i : Nat) : List Nat :=
  (List.range ops.size).foldl (fun D d => match ops[d]? with
    | some o => if (o.after.toList.any fun e => Region.binds md e && (e.on == i || D.contains e.on)) = true then D ++ [d] else D
    | none => D) []
theorem UpTo.tk (i : Nat) {v : Value} {oi : Oper} {n : Nat} {up : Array Bool} {a b : Act} {w : World} (hS : S w)
    (h : UpTo P md ops Q S z n (up.setIfInBounds i true) b w) (hi : ops[i]? = some oi := by (simp only [List.getElem?_toArray]; rfl)) (hy : ∀ u, S u → (execOp a.eval oi).run P u = .ok (.value v) u := by (intro u hu; (try dsimp only at hu); go_simp; (try with_reducible rfl)))
    (hb : a.put oi.dst v = b := by (first | (simp only [Act.put, upA, upB, upC]; exact rfl) | simp only [Act.put, upA, upB, upC] | exact rfl)) (hsel : Region.noSelect ops = true := by kernel_rfl)
    (hf : Region.free md ops up i = true := by kernel_rfl) (hr : (Region.ready md ops up).contains i = true := by kernel_rfl) (hD : ((waitsOf md ops i).contains z && waitB md ops i (waitsOf md ops i) && (waitsOf md ops i).all fun d => !up.getD d true) = true := by kernel_rfl)
    (hQ : ∀ c a w, Q (.panic c) (a.put oi.dst v) w → Q (.panic c) a w := by (first | exact fun _ _ _ h => h | exact fun _ _ _ h => nomatch h.1)) (hw : Region.wanted oi (yielded ops a.tmps) = true := by rfl) : UpTo P md ops Q S z (n + 1) up a w :=
  UpTo.take i _ hi hsel hf hr hD hQ (Or.inl ⟨hw, hy⟩) hS (by rw [hb]; exact h)
theorem UpTo.un (i : Nat) {oi : Oper} {n : Nat} {up : Array Bool} {a b : Act} {w : World} (hS : S w)
    (h : UpTo P md ops Q S z n (up.setIfInBounds i true) b w) (hi : ops[i]? = some oi := by (simp only [List.getElem?_toArray]; rfl))
    (hb : a.put oi.dst undef = b := by (first | (simp only [Act.put, upA, upB, upC]; exact rfl) | simp only [Act.put, upA, upB, upC] | exact rfl)) (hsel : Region.noSelect ops = true := by kernel_rfl)
    (hf : Region.free md ops up i = true := by kernel_rfl) (hr : (Region.ready md ops up).contains i = true := by kernel_rfl) (hD : ((waitsOf md ops i).contains z && waitB md ops i (waitsOf md ops i) && (waitsOf md ops i).all fun d => !up.getD d true) = true := by kernel_rfl)
    (hQ : ∀ c a w, Q (.panic c) (a.put oi.dst undef) w → Q (.panic c) a w := by (first | exact fun _ _ _ h => h | exact fun _ _ _ h => nomatch h.1)) (hw : Region.wanted oi (yielded ops a.tmps) = false := by rfl) : UpTo P md ops Q S z (n + 1) up a w :=
  UpTo.take i _ hi hsel hf hr hD hQ (Or.inr ⟨hw, rfl⟩) hS (by rw [hb]; exact h)
theorem UpTo.nx (i : Nat) {o : Oper} {n : Nat} {up : Array Bool} {a : Act} {w : World}
    (h : ∀ K : Act → World → Prop, Shut (∀ b u, (i ≠ z → S u) → UpTo P md ops Q S z n (up.setIfInBounds i true) b u → K b u) → if Region.wanted o (yielded ops a.tmps) = true then Oper.wp P o a w K Q else K (a.put o.dst undef) w)
    (hr : Region.ready md ops up = [i] := by kernel_rfl) (ho : ops[i]? = some o := by (simp only [List.getElem?_toArray]; rfl)) : UpTo P md ops Q S z (n + 1) up a w := UpTo.next i hr ho h
theorem UpTo.tw (i j : Nat) {oi oj : Oper} {n : Nat} {up : Array Bool} {a : Act} {w : World}
    (h1 : ∀ K : Act → World → Prop, Shut (∀ b u, (i ≠ z → S u) → UpTo P md ops Q S z n (up.setIfInBounds i true) b u → K b u) → if Region.wanted oi (yielded ops a.tmps) = true then Oper.wp P oi a w K Q else K (a.put oi.dst undef) w)
    (h2 : ∀ K : Act → World → Prop, Shut (∀ b u, (j ≠ z → S u) → UpTo P md ops Q S z n (up.setIfInBounds j true) b u → K b u) → if Region.wanted oj (yielded ops a.tmps) = true then Oper.wp P oj a w K Q else K (a.put oj.dst undef) w)
    (hr : Region.ready md ops up = [i, j] := by kernel_rfl) (hoi : ops[i]? = some oi := by (simp only [List.getElem?_toArray]; rfl)) (hoj : ops[j]? = some oj := by (simp only [List.getElem?_toArray]; rfl)) : UpTo P md ops Q S z (n + 1) up a w := UpTo.two i j hr hoi hoj h1 h2
theorem UpTo.rg (z : Nat) {id : Nat} {a : Act} {w : World} (hS : ∀ u, Kept w u → S u) (h : ∀ wd, Kept w wd → S wd → UpTo P .any ops Q S z ops.size (Array.replicate ops.size false) a wd) (hm : P.follows .mixedOrders = true := by kernel_rfl) : (Code.region id ops true).wp P Q a w :=
  UpTo.region hm S z (hS _ ((Kept.refl w).drew)) fun hh => h _ ((Kept.refl w).drew) hh
theorem UpTo.rk (z : Nat) {R : World → Prop} {id : Nat} {a : Act} {w : World} (hS : ∀ u, R u → S u) (h0 : R w.drew) (h : S w.drew → UpTo P .any ops Q S z ops.size (Array.replicate ops.size false) a w.drew) (hm : P.follows .mixedOrders = true := by kernel_rfl) : (Code.region id ops true).wp P Q a w :=
  UpTo.region hm S z (hS _ h0) h
theorem UpTo.dn {n : Nat} {up : Array Bool} {a : Act} {w : World} (h : Q .normal a w) (hr : Region.ready md ops up = [] := by kernel_rfl) : UpTo P md ops Q S z n up a w := UpTo.done hr h
end
end Go.Proofs.YtjhemildijapmaaGreatDoor
