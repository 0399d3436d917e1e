import Derived.Test.YtghipdfemoofhaaGreatDoorKBOrd
import Derived.Test.YtghipdfemoofhaaGreatDoorKRInts
import Derived.Test.YtghipdfemoofhaaGreatDoorKRTo
import Derived.Test.YtghipdfemoofhaaGreatDoorKVOrder
import Derived.Test.YtghipdfemoofhaaGreatDoorKRWalk
namespace Go.Proofs.YtghipdfemoofhaaGreatDoor
open Go.RowKit Go.Shelf
attribute [local go_sem] Oper.semAt_some
def DoIEnd (webl : List NodeD) (roots : List ByteArray) (sl : List RunX) (name : ByteArray) (w w' : World) (e : Ending) : Prop :=
  (ValidX webl roots sl ∧ ∃ T, DoneX webl sl name T ∧ StEnd roots T w w' e) ∨ (¬ ValidX webl roots sl ∧ e = .returned (.agg #[.slice none 0 0, .slice none 0 0]) ∧ Kept w w')
def DoI1 (W0 : World) (p : Nat → Prop) (i : Nat) (W : World) : Prop := Kept W0 W ∧ ∀ j, j < i → ¬ p j
theorem DoI1.calm {W0 : World} {p : Nat → Prop} {i : Nat} : Calm W0.heap.size (DoI1 W0 p i) := by
  constructor
  · rintro W o hB ⟨k, h⟩
    exact ⟨k.alloc o, h⟩
  · rintro W l o o' hl ho hn ⟨k, h⟩
    have kb : But (fun b => b = l) W (W.putObj l o') := ⟨rfl, rfl, rfl, by rw [World.putObj_size]; exact Nat.le_refl _, fun b _ e => World.putObj_heap_other e⟩
    exact ⟨kb.kept k (fun b e => by rw [e]; exact hl), h⟩
def DoI2 (W0 : World) (Kf Kc : Nat → Prop) (webl : List NodeD) (wz : World) (bb : Nat) (a : Option Addr) (cap : Nat) (rd : Option Addr) (rn rc mb : Nat) (σ : Env) (name : ByteArray) (c : Code) (W : World) : Prop :=
  c = .exit 0 ∧ ∃ (mx : Nat) (ts2 : List TaskM) (d2 : Option Addr) (dc2 : Nat) (f2 : ByteArray → Value) (ws2 : ByteArray → List Nat), InB W0.heap.size Kf Kc [] W0 webl wz W bb a cap rd rn rc mb mx ts2 d2 dc2 f2 ws2 ∧ BS webl ts2 ws2 ∧ envOf (runsOf ts2) = doX (actsOf webl) σ name ∧ ReadyX (actsOf webl) σ name
theorem DoI2.calm {W0 : World} {Kf Kc : Nat → Prop} {webl : List NodeD} {wz : World} {bb : Nat} {a : Option Addr} {cap : Nat} {rd : Option Addr} {rn rc mb : Nat} {σ : Env} {name : ByteArray} {c : Code} : Calm W0.heap.size (DoI2 W0 Kf Kc webl wz bb a cap rd rn rc mb σ name c) := by
  constructor
  · rintro W o hB ⟨hc, mx, ts2, d2, dc2, f2, ws2, h1, h2⟩
    exact ⟨hc, mx, ts2, d2, dc2, f2, ws2, h1.kept ((Kept.refl W).alloc o), h2⟩
  · rintro W l o o' hl ho hn ⟨hc, mx, ts2, d2, dc2, f2, ws2, h1, h2⟩
    exact ⟨hc, mx, ts2, d2, dc2, f2, ws2, h1.calm o' hl ho hn, h2⟩
end Go.Proofs.YtghipdfemoofhaaGreatDoor
namespace Go.Proofs.YtghipdfemoofhaaGreatDoor
open Go.RowKit
theorem strs_sets {w u : World} {lo g : Nat} {vs : List Value} {a : Option Addr} {l : List ByteArray} (h : Strs w a l) (hb : l ≠ [] → ∀ ad : Addr, a = some ad → lo ≤ ad.block) (hg : g < lo ∨ w.heap.size ≤ g) (k : Kept w u) : Strs (u.setCells g 0 vs) a l := by
  intro i hi
  obtain ⟨b, o, rfl, h1, hc⟩ := h i hi
  have h2 : lo ≤ b := hb (by rintro rfl; simp at hi) _ rfl
  have h3 := k.size
  exact ⟨b, o, rfl, by rw [size_setCells]; omega, by rw [World.cell?_setCells_out g vs 0 u _ (fun e _ => by simp at e; omega), k.cell h1]; exact hc⟩
def RunsLo (w : World) (lo : Nat) (d : Option Addr) (l : List RunX) : Prop :=
  ∀ i, i < l.length → ∃ b o xa xc, d = some ⟨b, o, none⟩ ∧ b < w.heap.size ∧ lo ≤ b ∧ w.rangeAt b (o + i * 7) ((l.getD i RunX.zero).cells xa xc) ∧ Strs w xa (l.getD i RunX.zero).texts ∧ (xa = none → xc = 0) ∧ ((l.getD i RunX.zero).texts ≠ [] → ∀ ad : Addr, xa = some ad → lo ≤ ad.block)
theorem RunsLo.sets {w u : World} {lo g : Nat} {vs : List Value} {d : Option Addr} {l : List RunX} (h : RunsLo w lo d l) (hg : g < lo ∨ w.heap.size ≤ g) (k : Kept w u) : RunsX (u.setCells g 0 vs) d l := by
  intro i hi
  obtain ⟨b, o, xa, xc, rfl, h1, h2, h3, h4, h5, h6⟩ := h i hi
  have hk := k.size
  have h3u : u.rangeAt b (o + i * 7) ((l.getD i RunX.zero).cells xa xc) := fun j v hv => (k.cell h1).trans (h3 j v hv)
  exact ⟨b, o, xa, xc, rfl, by rw [size_setCells]; omega, World.rangeAt_setCells_apart h3u g 0 vs (.inl (by omega)), strs_sets h4 h6 hg k, h5⟩
theorem owns_lo {w : World} {base k m n c : Nat} {t : TypeId} {a : Option Addr} {xs : List Value} (h : w.ownsRow base t k (.slice a n c) m xs) : ∀ ad : Addr, a = some ad → base ≤ ad.block := by
  intro ad e
  subst e
  rcases h.2 with ⟨e, _⟩ | ⟨g, cap, cur, e, hb, _⟩
  · cases e
  · cases e; exact hb
theorem RunsXP.lo {w : World} {lo : Nat} {d : Option Addr} {l : List RunX} (h : RunsXP w (fun b => lo ≤ b) d l) (hd : ∀ ad : Addr, d = some ad → lo ≤ ad.block) : RunsLo w lo d l := fun i hi => by
  obtain ⟨b, o, xa, xc, e, h1, h2, h3, h4, h5⟩ := h i hi
  exact ⟨b, o, xa, xc, e, h1, hd _ e, h2, h3, h4, fun _ => h5⟩
theorem RunsInX.lo {w : World} {lo hi : Nat} {d : Option Addr} {l : List RunX} (h : RunsInX w lo hi d l) : RunsLo w lo d l := by
  rcases h with rfl | ⟨b, c, ha, h1, h2, h3, hr, hm, hc⟩
  · intro i hi
    simp at hi
  · intro i hi
    obtain ⟨xa, xc, g1, g2, g3⟩ := hc i hi
    refine ⟨b, 0, xa, xc, ha, hr.lt, h1, by rw [Nat.zero_add]; exact g1, g2.strs, g3, fun hne ad e => ?_⟩
    have q := hm 0 i (Nat.zero_le _)
    rcases g2 with g2 | ⟨b', e', q1, _⟩
    · exact absurd g2 hne
    · rw [e'] at e
      cases e
      show lo ≤ b'
      omega
theorem StrsIn.lo {w : World} {lo hi : Nat} {a : Option Addr} {l : List ByteArray} (h : StrsIn w lo hi a l) : l ≠ [] → ∀ ad : Addr, a = some ad → lo ≤ ad.block := by
  intro hne ad e
  rcases h with h | ⟨b', e', q1, _⟩
  · exact absurd h hne
  · rw [e'] at e
    cases e
    exact q1
def DoD (webl : List NodeD) (roots : List ByteArray) (sl : List RunX) (name : ByteArray) (R : List ByteArray) (T : List RunX) : Prop :=
  (ValidX webl roots sl ∧ R = roots ∧ DoneX webl sl name T) ∨ (¬ ValidX webl roots sl ∧ R = [] ∧ T = [])
theorem DoD.one {webl : List NodeD} {roots R R' : List ByteArray} {sl T T' : List RunX} {name : ByteArray} (h : DoD webl roots sl name R T) (k : DoD webl roots sl name R' T') : R' = R ∧ T' = T := by
  rcases h with ⟨h1, rfl, h2⟩ | ⟨h1, rfl, rfl⟩
  · rcases k with ⟨_, rfl, k2⟩ | ⟨k1, _⟩
    · exact ⟨rfl, k2.unique h2⟩
    · exact absurd h1 k1
  · rcases k with ⟨k1, _⟩ | ⟨_, rfl, rfl⟩
    · exact absurd k1 h1
    · exact ⟨rfl, rfl⟩
theorem sum_le_len {α : Type} (f : α → Nat) (c : Nat) : ∀ l : List α, (∀ x ∈ l, f x ≤ c) → (l.map f).sum ≤ c * l.length
  | [], _ => by simp
  | x :: r, h => by
    have h1 := h x (List.mem_cons_self ..)
    have h2 := sum_le_len f c r fun y hy => h y (List.mem_cons_of_mem _ hy)
    simp only [List.map_cons, List.sum_cons, List.length_cons, Nat.mul_add]
    omega
theorem DoD.small {webl : List NodeD} {roots R : List ByteArray} {sl T : List RunX} {name : ByteArray} (h : DoD webl roots sl name R T) (hf : ∀ s ∈ webl, s.Fits) : R.length ≤ roots.length ∧ T.length ≤ 60 ∧ (∀ r ∈ T, r.Fits) ∧ (T.map cntRun).sum ≤ 60360 := by
  rcases h with ⟨h1, rfl, h2⟩ | ⟨h1, rfl, rfl⟩
  · have g := h2.good (web_acts h1.1) h1.good
    have hl : T.length ≤ 60 := Nat.le_trans g.len (web_len h1.1)
    have hs := sum_le_len cntRun 1006 T fun x hx => by
      have := g.texts x hx
      have e : cntRun x = 6 + x.texts.length := rfl
      omega
    refine ⟨Nat.le_refl _, hl, fun r hr => ?_, by omega⟩
    have q := g.good r hr
    obtain ⟨A, hA, _⟩ := q.act
    obtain ⟨k, hk, hn, _⟩ := acts_first hA
    have q1 := g.texts r hr
    have q2 := q.tx
    refine ⟨?_, by unfold maxLen; omega, by unfold maxLen; omega, fun t ht => by have := q.ts t ht; unfold maxLen; omega⟩
    rw [← hn]
    have hm : webl.getD k NodeD.zero ∈ webl := by
      simp only [List.getD, List.getElem?_eq_getElem hk, Option.getD_some]
      exact List.getElem_mem hk
    exact (hf _ hm).name
  · exact ⟨Nat.zero_le _, Nat.zero_le _, (fun r hr => by cases hr), by simp⟩
def DoOut (webl : List NodeD) (roots : List ByteArray) (sl : List RunX) (name : ByteArray) (w w' : World) (e : Ending) : Prop :=
  ∃ (R : List ByteArray) (T : List RunX) (ra : Option Addr) (rc : Nat) (d : Option Addr) (dc : Nat), e = .returned (.agg #[.slice ra R.length rc, .slice d T.length dc]) ∧ DoD webl roots sl name R T ∧ (∀ (u : World) (g : Nat) (vs : List Value), (g < w.heap.size ∨ w'.heap.size ≤ g) → Kept w' u → Strs (u.setCells g 0 vs) ra R ∧ RunsX (u.setCells g 0 vs) d T) ∧ Kept w w'
theorem DoEnd.out {webl : List NodeD} {roots : List ByteArray} {sl : List RunX} {name : ByteArray} {w w' : World} {e : Ending} (h : DoEnd webl roots sl name w w' e) : DoOut webl roots sl name w w' e := by
  rcases h with ⟨h1, T, h2, ra, rc, d, dc, xs, rfl, hO, hQ, hP, k⟩ | ⟨h1, rfl, k⟩
  · refine ⟨roots, T, ra, rc, d, dc, rfl, .inl ⟨h1, rfl, h2⟩, fun u g vs hg ku => ?_, k⟩
    obtain ⟨a9, c9, e9, h9⟩ := owned_strs hO
    simp only [Value.slice.injEq, true_and] at e9
    rw [← e9.1] at h9
    obtain ⟨_, a8, c8, e8, h8⟩ := PackedX.runs hQ hP (Kept.refl _)
    simp only [Value.slice.injEq, true_and] at e8
    rw [← e8.1] at h8
    exact ⟨strs_sets h9 (fun _ => owns_lo hO) hg ku, (h8.lo (owns_lo hQ)).sets hg ku⟩
  · exact ⟨[], [], none, 0, none, 0, rfl, .inr ⟨h1, rfl, rfl⟩, fun u g vs _ _ => ⟨fun i hi => by simp at hi, fun i hi => by simp at hi⟩, k⟩
theorem DoIEnd.ins {webl : List NodeD} {roots : List ByteArray} {sl : List RunX} {name : ByteArray} {w w' : World} {e : Ending} (h : DoIEnd webl roots sl name w w' e) : ∃ (R : List ByteArray) (T : List RunX) (ra : Option Addr) (rc : Nat) (d : Option Addr) (dc mid : Nat), e = .returned (.agg #[.slice ra R.length rc, .slice d T.length dc]) ∧ DoD webl roots sl name R T ∧ StrsIn w' w.heap.size mid ra R ∧ RunsInX w' mid w'.heap.size d T ∧ w.heap.size ≤ mid ∧ mid ≤ w'.heap.size ∧ Kept w w' := by
  rcases h with ⟨h1, T, h2, ra, ds, mid, rfl, hO, hQ, m1, m2, k⟩ | ⟨h1, rfl, k⟩
  · exact ⟨roots, T, ra, _, ds, _, mid, rfl, .inl ⟨h1, rfl, h2⟩, hO, hQ, m1, m2, k⟩
  · exact ⟨[], [], none, 0, none, 0, w.heap.size, rfl, .inr ⟨h1, rfl, rfl⟩, .inl rfl, .inl rfl, Nat.le_refl _, k.size, k⟩
theorem DoIEnd.out {webl : List NodeD} {roots : List ByteArray} {sl : List RunX} {name : ByteArray} {w w' : World} {e : Ending} (h : DoIEnd webl roots sl name w w' e) : DoOut webl roots sl name w w' e := by
  obtain ⟨R, T, ra, rc, d, dc, mid, rfl, hD, hS, hR, m1, m2, k⟩ := h.ins
  exact ⟨R, T, ra, rc, d, dc, rfl, hD, fun u g vs hg ku => ⟨strs_sets hS.strs hS.lo hg ku, (hR.mono m1 (Nat.le_refl _)).lo.sets hg ku⟩, k⟩
theorem RowT.there {w : World} {b n : Nat} {t : TypeId} (h : RowT w b t n) : w.there b 0 n := fun j hj => by
  obtain ⟨⟨v, hv⟩, hf⟩ := h.row.at hj
  rw [Nat.zero_add]
  exact ⟨by rw [hv]; rfl, hf⟩
theorem OrdW.good {webl : List NodeD} {picks : List Int} {T T' : List RunX} {D D' : List ByteArray} (h : OrdW webl picks T D T' D') (hok : ActsOk (actsOf webl)) : GoodL webl T → GoodL webl T' ∧ D'.length + potL webl T' ≤ D.length + potL webl T := by
  induction h with
  | stop _ => exact fun hg => ⟨hg, Nat.le_refl _⟩
  | @step T T' D D' ns r hR hn hr _ ih =>
    intro hg
    have hm : ns.getD (placeX picks D.length ns.length) ByteArray.empty ∈ ns := by
      have hk := placeX_lt picks D.length hn
      simp only [List.getD, List.getElem?_eq_getElem hk, Option.getD_some]
      exact List.getElem_mem hk
    obtain ⟨r', hr', hc⟩ := (hR.ready hg.asc _).1 hm
    obtain rfl : r = r' := Option.some.inj (hr.symm.trans hr')
    have hp := potL_do hg hr hc
    obtain ⟨h1, h2⟩ := ih (doL_good hok hg (env_mem hr).1 hc)
    rw [List.length_append] at h2
    simp only [List.length_cons, List.length_nil] at h2
    exact ⟨h1, by omega⟩
theorem GoodL.small {webl : List NodeD} {T : List RunX} (g : GoodL webl T) (hl : webl.length ≤ 60) (hf : ∀ s ∈ webl, s.Fits) : T.length ≤ 60 ∧ (∀ r ∈ T, r.Fits) ∧ (T.map cntRun).sum ≤ 60360 := by
  have h1 : T.length ≤ 60 := Nat.le_trans g.len hl
  have hs := sum_le_len cntRun 1006 T fun x hx => by
    have := g.texts x hx
    have e : cntRun x = 6 + x.texts.length := rfl
    omega
  refine ⟨h1, fun r hr => ?_, by omega⟩
  have q := g.good r hr
  obtain ⟨A, hA, _⟩ := q.act
  obtain ⟨k, hk, hn, _⟩ := acts_first hA
  have q1 := g.texts r hr
  have q2 := q.tx
  refine ⟨?_, by unfold maxLen; omega, by unfold maxLen; omega, fun t ht => by have := q.ts t ht; unfold maxLen; omega⟩
  rw [← hn]
  have hm : webl.getD k NodeD.zero ∈ webl := by
    simp only [List.getD, List.getElem?_eq_getElem hk, Option.getD_some]
    exact List.getElem_mem hk
  exact (hf _ hm).name
def OrderD (webl : List NodeD) (roots : List ByteArray) (picks : List Int) (R : List ByteArray) (T : List RunX) (D : List ByteArray) : Prop :=
  ((WebCode webl 0 ∧ RootsOk roots) ∧ R = roots ∧ OrdW webl picks (startL webl roots) [] T D) ∨ (¬ (WebCode webl 0 ∧ RootsOk roots) ∧ R = [] ∧ T = [] ∧ D = [])
theorem OrderD.one {webl : List NodeD} {roots R R' D D' : List ByteArray} {picks : List Int} {T T' : List RunX} (h : OrderD webl roots picks R T D) (k : OrderD webl roots picks R' T' D') : R' = R ∧ T' = T ∧ D' = D := by
  rcases h with ⟨h1, rfl, h2⟩ | ⟨h1, rfl, rfl, rfl⟩
  · rcases k with ⟨_, rfl, k2⟩ | ⟨k1, _⟩
    · exact ⟨rfl, k2.unique h2⟩
    · exact absurd h1 k1
  · rcases k with ⟨k1, _⟩ | ⟨_, rfl, rfl, rfl⟩
    · exact absurd k1 h1
    · exact ⟨rfl, rfl, rfl⟩
theorem OrderD.small {webl : List NodeD} {roots R D : List ByteArray} {picks : List Int} {T : List RunX} (h : OrderD webl roots picks R T D) (hf : ∀ s ∈ webl, s.Fits) : R.length ≤ roots.length ∧ T.length ≤ 60 ∧ (∀ r ∈ T, r.Fits) ∧ (T.map cntRun).sum ≤ 60360 ∧ D.length ≤ 1380 := by
  rcases h with ⟨h1, rfl, h2⟩ | ⟨h1, rfl, rfl, rfl⟩
  · obtain ⟨g, h3⟩ := h2.good (web_acts h1.1) (startL_good (web_acts h1.1) _)
    have hl := web_len h1.1
    obtain ⟨s1, s2, s3⟩ := g.small hl hf
    have h4 := potL_le23 webl (startL webl R)
    simp only [List.length_nil] at h3
    exact ⟨Nat.le_refl _, s1, s2, s3, by omega⟩
  · exact ⟨Nat.zero_le _, Nat.zero_le _, (fun r hr => by cases hr), by simp, by simp⟩
theorem OrderEnd.data {webl : List NodeD} {roots : List ByteArray} {picks : List Int} {w w' : World} {e : Ending} (h : OrderEnd webl roots picks w w' e) : ∃ (R : List ByteArray) (T : List RunX) (D : List ByteArray) (ra : Option Addr) (rc : Nat) (d : Option Addr) (dc : Nat) (f : Option Addr) (fc : Nat), e = .returned (.agg #[.slice ra R.length rc, .slice d T.length dc, .slice f D.length fc]) ∧ OrderD webl roots picks R T D ∧ Strs w' ra R ∧ RunsX w' d T ∧ Strs w' f D ∧ Kept w w' := by
  rcases h with ⟨h1, T, D, h2, ra, rc, d, dc, xs, f, fc, rfl, hO, hQ, hP, hF, k⟩ | ⟨h1, rfl, k⟩
  · obtain ⟨a9, c9, e9, h9⟩ := owned_strs hO
    simp only [Value.slice.injEq, true_and] at e9
    rw [← e9.1] at h9
    obtain ⟨_, a8, c8, e8, h8⟩ := PackedX.runs hQ hP (Kept.refl _)
    simp only [Value.slice.injEq, true_and] at e8
    rw [← e8.1] at h8
    obtain ⟨a7, c7, e7, h7⟩ := owned_strs hF
    simp only [Value.slice.injEq, true_and] at e7
    rw [← e7.1] at h7
    exact ⟨roots, T, D, ra, rc, d, dc, f, fc, rfl, .inl ⟨h1, rfl, h2⟩, h9, h8.runs, h7, k⟩
  · exact ⟨[], [], [], none, 0, none, 0, none, 0, rfl, .inr ⟨h1, rfl, rfl, rfl⟩, fun i hi => by simp at hi, fun i hi => by simp at hi, fun i hi => by simp at hi, k⟩
theorem OrderIEnd.ins {webl : List NodeD} {roots : List ByteArray} {picks : List Int} {w w' : World} {e : Ending} (h : OrderIEnd webl roots picks w w' e) : ∃ (R : List ByteArray) (T : List RunX) (D : List ByteArray) (ra : Option Addr) (rc : Nat) (d : Option Addr) (dc : Nat) (f : Option Addr) (fc mid mid2 : Nat), e = .returned (.agg #[.slice ra R.length rc, .slice d T.length dc, .slice f D.length fc]) ∧ OrderD webl roots picks R T D ∧ StrsIn w' w.heap.size mid ra R ∧ RunsInX w' mid mid2 d T ∧ StrsIn w' mid2 w'.heap.size f D ∧ w.heap.size ≤ mid ∧ mid ≤ mid2 ∧ mid2 ≤ w'.heap.size ∧ Kept w w' := by
  rcases h with ⟨h1, T, D, h2, _, _, ra, ds, da, mid, mid2, rfl, hO, hQ, hF, m1, m2, m3, k⟩ | ⟨h1, rfl, k⟩
  · exact ⟨roots, T, D, ra, _, ds, _, da, _, mid, mid2, rfl, .inl ⟨h1, rfl, h2⟩, hO, hQ, hF, m1, m2, m3, k⟩
  · exact ⟨[], [], [], none, 0, none, 0, none, 0, w.heap.size, w.heap.size, rfl, .inr ⟨h1, rfl, rfl, rfl⟩, .inl rfl, .inl rfl, .inl rfl, Nat.le_refl _, Nat.le_refl _, k.size, k⟩
set_option maxRecDepth 100000 in
set_option maxHeartbeats 25600000 in
theorem lawOrder (w : World) (a : Option Addr) (cap : Nat) (l : List NodeD) (rd : Option Addr) (rc : Nat) (roots : List ByteArray) (pa : Option Addr) (pc : Nat) (picks : List Int) (hl : l.length ≤ maxLen) (hs : ∀ s ∈ l, s.Fits) (hrl : roots.length ≤ maxLen) (hrs : ∀ s ∈ roots, s.size ≤ maxLen) (hp64 : ∀ p ∈ picks, In64 p) (hN : Nodes w a l) (hR : Strs w rd roots) (hP : Ints w pa picks) (hFi : FinishOk w) :
    Calls Tryz.prog 6 #[.agg #[.slice a l.length cap], .slice rd roots.length rc, .slice pa picks.length pc] w fun e w' => e = .returned (.bool true) ∧ Kept w w' := by
  obtain ⟨W0, hW0⟩ : ∃ W0, W0 = w.alloc (.cells #[.slice a l.length cap] 24) := ⟨_, rfl⟩
  have k0 : Kept w W0 := by rw [hW0]; exact (Kept.refl _).alloc _
  have HBox : Hid (∀ w', Kept W0 w' → (fun w' => w'.cell? ⟨w.heap.size, 0, none⟩ = some (.slice a l.length cap)) w') := fun w' kk => (box1 (w := w) (v := .slice a l.length cap) (t := 24) (w1 := w') (Kept.trans (by rw [hW0]; exact Kept.refl _) kk)).1
  have z0 : w.heap.size + 1 ≤ W0.heap.size := by rw [hW0]; simp
  go_enter Tryz.func6, Tryz.ntmps6
  by_cases hnm : (1048576 : Int) < (picks.length : Int)
  · go_wp2
    rw [← hW0]
    go_ret
    exact ⟨rfl, k0⟩
  have hpl : picks.length ≤ 1048576 := by omega
  go_wp2_with fail
  rw [← hW0]
  clear hW0 hnm
  refine (szWeb_any _ a cap l 1048576 hl hs (hN.kept k0) (by omega) (by omega)).mono ?_
  rintro e w1 ⟨rfl, K1⟩
  by_cases hle : (szNodesD l : Int) ≤ 1048576
  rotate_left
  · rw [szL_neg (by omega)]
    go_wp2
    go_ret
    exact ⟨rfl, k0.trans K1⟩
  rw [szL_pos hle]
  obtain ⟨hl2, hs2⟩ := small_of_szN (l := l) (n := 1048576) (by omega)
  go_wp2_with fail
  refine (szStringS_any _ rd rc roots _ hrl hrs (hR.kept (k0.trans K1)) (by omega) (by omega)).mono ?_
  rintro e w2 ⟨rfl, e2⟩
  have K2 : Kept W0 w2 := by rw [e2]; exact K1
  clear e2 K1
  by_cases hle2 : (szStrs roots : Int) ≤ 1048576 - szNodesD l
  rotate_left
  · rw [szL_neg (by omega)]
    go_wp2
    go_ret
    exact ⟨rfl, k0.trans K2⟩
  rw [szL_pos hle2]
  have hr2 : roots.length ≤ 1048576 := by unfold szStrs at hle2; omega
  have hcN : 1 + (l.map cntNode).sum + roots.length + picks.length ≤ 33554432 := by
    have h1 := cntNodesR_le l
    omega
  have hnn : ¬ ((1048576 : Int) - szNodesD l - szStrs roots < 0) := by omega
  have HCn := hide hcN
  clear hle hle2 hcN
  have b0 := HBox.out _ K2
  have hz2 := K2.size
  go_wp2_with fail
  refine (toWeb_any _ a cap l hl2 hs2 (hN.kept (k0.trans K2))).mono ?_
  rintro e w3 ⟨bw, rfl, hN3, k3, hb1⟩
  have HN3 := hide hN3
  clear hN3 hb1 hnn b0
  go_wp2_with fail
  refine (toStringS_any _ rd rc roots hr2 (hR.kept (k0.trans (K2.trans k3)))).mono ?_
  rintro e w4 ⟨c1, rfl, hR4, k4, _⟩
  have HR4 := hide hR4
  clear hR4
  go_wp2_with fail
  refine (toIntS_in _ pa pc picks hpl (hP.kept (k0.trans (K2.trans (k3.trans k4))))).mono ?_
  rintro e wi ⟨c2, rfl, hPi, ki⟩
  have HPi := hide hPi
  clear hPi
  go_wp2_with fail
  refine (specOrder_any _ (some ⟨bw, 0, none⟩) l.length l (some ⟨c1, 0, none⟩) roots.length roots (some ⟨c2, 0, none⟩) picks.length picks hl2 hs hr2 hrs hpl hp64 (HN3.out.kept (k4.trans ki)).nodes (HR4.out.kept ki) HPi.out.ints).mono ?_
  rintro e w5 h5
  obtain ⟨R, T, D, r8, rc8, d8, dc8, f8, fc8, rfl, hD5, hS5, hT5, hF5, k5⟩ := h5.data
  obtain ⟨W5, hW5⟩ : ∃ W5, W5 = w5.alloc (.cells #[.slice r8 R.length rc8, .slice d8 T.length dc8, .slice f8 D.length fc8] 52) := ⟨_, rfl⟩
  have kC5 : Kept w5 W5 := by rw [hW5]; exact (Kept.refl _).alloc _
  have z5 : W5.heap.size = w5.heap.size + 1 := by rw [hW5]; simp
  have K5 : Kept W0 W5 := K2.trans ((k3.trans k4).trans ((ki.trans k5).trans kC5))
  have HP8 : Hid (∀ w', Kept W5 w' → w'.cell? ⟨w5.heap.size, 0, none⟩ = some (.slice r8 R.length rc8) ∧ w'.cell? ⟨w5.heap.size, 1, none⟩ = some (.slice d8 T.length dc8) ∧ w'.cell? ⟨w5.heap.size, 2, none⟩ = some (.slice f8 D.length fc8)) := fun w' kk => threeCells (w := w5) (w1 := w') (t := 52) (Kept.trans (by rw [hW5]; exact Kept.refl _) kk)
  have HT := hide (hS5.kept kC5)
  have HU := hide (hT5.kept kC5)
  have HF := hide (hF5.kept kC5)
  have HD5 := hide hD5
  clear hS5 hT5 hF5 hD5 h5 HN3 HR4 HPi
  go_upto_region 11 with fail
  rw [← hW5]
  clear hW5 kC5 k3 k4 ki k5 K2
  have b0 := HBox.out _ K5
  go_wp2_with fail
  refine (toWeb_in _ a cap l hl2 hs2 (hN.kept (k0.trans K5))).mono ?_
  rintro e w6 ⟨bx, rfl, hNx, k6⟩
  obtain ⟨W6, hW6⟩ : ∃ W6, W6 = w6.alloc (.cells #[.slice (some ⟨bx, 0, none⟩) l.length l.length] 34) := ⟨_, rfl⟩
  have kA : Kept w6 W6 := by rw [hW6]; exact (Kept.refl _).alloc _
  have z6 : W6.heap.size = w6.heap.size + 1 := by rw [hW6]; simp
  have K56 : Kept W5 W6 := k6.trans kA
  have HX : Hid (∀ w', Kept W6 w' → (fun w' => w'.cell? ⟨w6.heap.size, 0, none⟩ = some (.slice (some ⟨bx, 0, none⟩) l.length l.length) ∧ (w'.cell? ⟨w.heap.size, 0, none⟩ = some (.slice a l.length cap))) w') := fun w' kk => ⟨(box1 (w := w6) (w1 := w') (Kept.trans (by rw [← hW6]; exact Kept.refl _) kk)).1, HBox.out _ ((K5.trans K56).trans kk)⟩
  have HN6 := hide (hNx.same (kA.same _ _))
  have hz6 := k6.size
  have hz5 := K5.size
  clear b0 hNx kA k6
  go_upto_region 12 with fail
  rw [← hW6]
  clear hW6
  go_wp2_with fail
  refine (toStringS_in _ rd rc roots hr2 (hR.kept (k0.trans (K5.trans K56)))).mono ?_
  rintro e w7 ⟨bu, rfl, hU7, k7⟩
  have HU7 := hide hU7
  clear hU7
  go_wp2_with fail
  refine (toIntS_in _ pa pc picks hpl (hP.kept (k0.trans ((K5.trans K56).trans k7)))).mono ?_
  rintro e wj ⟨bi, rfl, hIj, kj⟩
  have HIj := hide hIj
  have hz7 := k7.size
  have hzj := kj.size
  have K6j := k7.trans kj
  have K57 : Kept W5 wj := K56.trans K6j
  have HN7 := hide (HN6.out.same (K6j.same _ _))
  have HR7 := hide (HU7.out.same (kj.same _ _))
  clear hIj HN6 HU7 k7 kj
  obtain ⟨x0, b0⟩ := HX.out wj K6j
  go_wp2_with fail
  refine (implOrder_any wj (some ⟨bx, 0, none⟩) l.length l (some ⟨bu, 0, none⟩) roots.length roots (some ⟨bi, 0, none⟩) picks.length picks hl2 hs hr2 (Nat.le_refl _) hrs hpl hp64 HN7.out.nodes HR7.out.strs HIj.out.ints (hFi.kept (k0.trans (K5.trans K57)))).mono ?_
  rintro e w8 h8
  obtain ⟨U, V, Z, gr, grc, gd, gdc, gf, gfc, mid8, top8, rfl, hD8, hI8, hJ8, hL8, n1, n2, n3, k8⟩ := h8.ins
  obtain ⟨rfl, rfl, rfl⟩ := HD5.out.one hD8
  obtain ⟨hUl, hVl, hVf, hVc, hZl⟩ := hD8.small hs
  obtain ⟨W8, hW8⟩ : ∃ W8, W8 = w8.alloc (.cells #[.slice gr U.length grc, .slice gd V.length gdc, .slice gf Z.length gfc] 52) := ⟨_, rfl⟩
  have kC : Kept w8 W8 := by rw [hW8]; exact (Kept.refl _).alloc _
  have z8' : W8.heap.size = w8.heap.size + 1 := by rw [hW8]; simp
  have z8 := k8.size
  have HGB : Hid (∀ w', Kept W8 w' → w'.cell? ⟨w8.heap.size, 0, none⟩ = some (.slice gr U.length grc) ∧ w'.cell? ⟨w8.heap.size, 1, none⟩ = some (.slice gd V.length gdc) ∧ w'.cell? ⟨w8.heap.size, 2, none⟩ = some (.slice gf Z.length gfc)) := fun w' kk => threeCells (w := w8) (w1 := w') (t := 52) (Kept.trans (by rw [hW8]; exact Kept.refl _) kk)
  have HI8 := hide (hI8.same (kC.same _ _))
  have HJ8 := hide (hJ8.same (kC.same _ _))
  have HL8 := hide (hL8.same (kC.same _ _))
  have K78 := k8.trans kC
  clear hI8 hJ8 hL8 hD8 h8 x0 b0
  have hml : U.length ≤ maxLen := by unfold maxLen; omega
  have hmv : V.length ≤ maxLen := by unfold maxLen; omega
  have hmz : Z.length ≤ maxLen := by unfold maxLen; omega
  have HVf := hide hVf
  clear hVf
  go_upto_region 15 with fail
  rw [← hW8]
  clear hW8 kC k8
  obtain ⟨g0, g1, g2⟩ := HGB.out W8 (Kept.refl _)
  obtain ⟨p0, p1, p2⟩ := HP8.out W8 (K57.trans K78)
  go_wp2_with fail
  refine (eqWalk_yes _ gr r8 gd d8 gf f8 grc rc8 gdc dc8 gfc fc8 U V Z hml hmv HVf.out hmz HI8.out.strs (HT.out.kept (K57.trans K78)) HJ8.out.runs (HU.out.kept (K57.trans K78)) HL8.out.strs (HF.out.kept (K57.trans K78))).mono ?_
  rintro e w9 ⟨rfl, k9⟩
  have K79 := K78.trans k9
  have HX9 : Hid (∀ w', Kept w9 w' → (fun w' => w'.cell? ⟨w6.heap.size, 0, none⟩ = some (.slice (some ⟨bx, 0, none⟩) l.length l.length) ∧ (w'.cell? ⟨w.heap.size, 0, none⟩ = some (.slice a l.length cap))) w') := fun w' kk => HX.out w' (K6j.trans (K79.trans kk))
  have KW9 := k0.trans ((K5.trans K57).trans K79)
  have HN9 := hide (HN7.out.same (K79.same _ _))
  have HR9 := hide (HR7.out.same (K79.same _ _))
  have HP9 := hide (HIj.out.same (K79.same _ _))
  have HI9 := hide (HI8.out.same (k9.same _ _))
  have HJ9 := hide (HJ8.out.same (k9.same _ _))
  have HL9 := hide (HL8.out.same (k9.same _ _))
  obtain ⟨x0, b0⟩ := HX9.out w9 (Kept.refl _)
  clear HN7 HR7 HIj HI8 HJ8 HL8 g0 g1 g2 p0 p1 p2
  go_upto_region 17 with fail
  refine UpTo.region (by kernel_rfl) (fun w' => w'.cell? ⟨w6.heap.size, 0, none⟩ = some (.slice (some ⟨bx, 0, none⟩) l.length l.length) ∧ (w'.cell? ⟨w.heap.size, 0, none⟩ = some (.slice a l.length cap))) 4 (HX9.out _ ((Kept.refl w9).drew)) (fun hHeld => ?_)
  have KD : Kept w9 w9.drew := (Kept.refl w9).drew
  generalize hwd : w9.drew = wd at hHeld KD ⊢
  clear hwd
  refine UpTo.tk 0 [3, 4] ?_ hHeld ?_ ?_
  rotate_left
  · intro u hu; (try dsimp only at hu); go_simp; (try with_reducible rfl)
  try simp only [Act.put, List.setIfInBounds_toArray, List.set_cons_zero, List.set_cons_succ]
  refine UpTo.tk 1 [2, 3, 4] ?_ hHeld ?_ ?_
  rotate_left
  · intro u hu; (try dsimp only at hu); go_simp; (try with_reducible rfl)
  try simp only [Act.put, List.setIfInBounds_toArray, List.set_cons_zero, List.set_cons_succ]
  refine UpTo.nx 2 (fun K hK => ?_)
  rw [if_pos (by rfl)]
  go_simp
  go_at_call 12
  refine (toWeb_any _ a cap l hl2 hs2 (hN.kept (KW9.trans KD))).mono ?_
  rintro e wq ⟨bq, rfl, hNq, kq, hbq⟩
  refine hK.out _ _ (fun _ => HX9.out _ (KD.trans kq)) ?_
  clear hK K
  try simp only [Act.put, List.setIfInBounds_toArray, List.set_cons_zero, List.set_cons_succ]
  refine UpTo.nx 3 (fun K hK => ?_)
  rw [if_pos (by rfl)]
  go_simp
  go_at_call 16
  refine (eqWeb_yes _ (some ⟨bx, 0, none⟩) (some ⟨bq, 0, none⟩) l.length l.length l hl hs (HN9.out.same ((KD.trans kq).same _ _)).nodes hNq.nodes).mono ?_
  rintro e w10 ⟨rfl, k10⟩
  refine hK.out _ _ (fun _ => HX9.out _ ((KD.trans kq).trans k10)) ?_
  clear hK K
  try simp only [Act.put, List.setIfInBounds_toArray, List.set_cons_zero, List.set_cons_succ]
  refine UpTo.nx 4 (fun K hK => ?_)
  go_simp
  refine hK.out _ _ (fun h => absurd rfl h) ?_
  clear hK K
  try simp only [Act.put, List.setIfInBounds_toArray, List.set_cons_zero, List.set_cons_succ]
  refine UpTo.done (by kernel_rfl) ?_
  have K9b := (KD.trans kq).trans k10
  clear KD kq k10 x0 b0 hNq hbq
  go_wp2_with fail
  refine (toStringS_any _ rd rc roots hr2 (hR.kept (KW9.trans K9b))).mono ?_
  rintro e w11 ⟨d1, rfl, hR11, k11, _⟩
  go_wp2_with fail
  refine (eqStringS_yes _ (some ⟨bu, 0, none⟩) (some ⟨d1, 0, none⟩) roots.length roots.length roots hrl (HR9.out.same ((K9b.trans k11).same _ _)).strs hR11).mono ?_
  rintro e w11b ⟨rfl, k11b⟩
  have K9d := (K9b.trans k11).trans k11b
  clear hR11 k11 k11b K9b
  go_wp2_with fail
  refine (toIntS_in _ pa pc picks hpl (hP.kept (KW9.trans K9d))).mono ?_
  rintro e w11c ⟨d2, rfl, hP11, k11c⟩
  have HP11 := hide hP11.ints
  clear hP11
  go_wp2_with fail
  refine (eqIntS_yes _ (some ⟨bi, 0, none⟩) (some ⟨d2, 0, none⟩) picks.length picks.length picks (by unfold maxLen; omega) (HP9.out.same ((K9d.trans k11c).same _ _)).ints HP11.out).mono ?_
  rintro e w12 ⟨rfl, k12⟩
  have K9c : Kept w9 w12 := (K9d.trans k11c).trans k12
  have K7c := K79.trans K9c
  clear k11c k12 K9d HP11
  obtain ⟨x0, b0⟩ := HX.out w12 (K6j.trans K7c)
  have HN12 := hide (HN9.out.same (K9c.same _ _))
  have HR12 := hide (HR9.out.same (K9c.same _ _))
  have HP12 := hide (HP9.out.same (K9c.same _ _))
  have HI12 := hide (HI9.out.same (K9c.same _ _))
  have HJ12 := hide (HJ9.out.same (K9c.same _ _))
  have HL12 := hide (HL9.out.same (K9c.same _ _))
  have K8c : Kept W8 w12 := k9.trans K9c
  have z8c := K8c.size
  have HG12b := hide (HGB.out w12 K8c)
  have z12 := K7c.size
  have K512 := K57.trans K7c
  have hcn := HCn.out
  clear HN9 HR9 HP9 HI9 HJ9 HL9 HX9 K9c
  go_wp2_with fail
  refine (markWeb_any _ W5.heap.size w6.heap.size (some ⟨bx, 0, none⟩) l.length l 1 (by omega) (by omega) HN12.out).mono ?_
  rintro e w13 ⟨rfl, _, kb13⟩
  have K513 : Kept W5 w13 := kb13.kept K512 (Nat.le_refl _)
  have z13 := kb13.size
  have HGc13 : Hid (∀ o, w13.cell? ⟨w8.heap.size, o, none⟩ = w12.cell? ⟨w8.heap.size, o, none⟩) := fun o => World.cell?_of_block (w := w12) (kb13.block _ (by show w8.heap.size < _; omega) (.inr (by show w6.heap.size ≤ w8.heap.size; omega)))
  have HR13 := hide (HR12.out.same (kb13.same (l2 := W6.heap.size) (h2 := w7.heap.size) (by omega)))
  have HP13 := hide (HP12.out.same (kb13.same (l2 := w7.heap.size) (h2 := wj.heap.size) (by omega)))
  have HI13 := hide (HI12.out.same (kb13.same (l2 := wj.heap.size) (h2 := mid8) (by omega)))
  have HJ13 := hide (HJ12.out.same (kb13.same (l2 := mid8) (h2 := top8) (by omega)))
  have HL13 := hide (HL12.out.same (kb13.same (l2 := top8) (h2 := w8.heap.size) (by omega)))
  obtain ⟨kn, hkn⟩ : ∃ kn, kn = 1 + (l.map cntNode).sum := ⟨_, rfl⟩
  rw [← hkn]
  have hkn0 : 0 < kn := by omega
  have hkn1 : kn + roots.length + picks.length ≤ 33554432 := by omega
  clear hkn x0 b0 kb13 HN12 HR12 HP12 HI12 HJ12 HL12
  go_wp2_with fail
  refine (markStringS_any _ W6.heap.size w7.heap.size (some ⟨bu, 0, none⟩) roots.length roots kn hkn0 (by omega) HR13.out).mono ?_
  rintro e w13b ⟨rfl, _, kb13b⟩
  have K513b : Kept W5 w13b := kb13b.kept K513 (by have := K56.size; omega)
  have z13b := kb13b.size
  have HGc13b : Hid (∀ o, w13b.cell? ⟨w8.heap.size, o, none⟩ = w12.cell? ⟨w8.heap.size, o, none⟩) := fun o => (World.cell?_of_block (w := w13) (kb13b.block _ (by show w8.heap.size < _; omega) (.inr (by show w7.heap.size ≤ w8.heap.size; omega)))).trans (HGc13.out o)
  have HP13b := hide (HP13.out.same (kb13b.same (l2 := w7.heap.size) (h2 := wj.heap.size) (by omega)))
  have HI13b := hide (HI13.out.same (kb13b.same (l2 := wj.heap.size) (h2 := mid8) (by omega)))
  have HJ13b := hide (HJ13.out.same (kb13b.same (l2 := mid8) (h2 := top8) (by omega)))
  have HL13b := hide (HL13.out.same (kb13b.same (l2 := top8) (h2 := w8.heap.size) (by omega)))
  obtain ⟨kp, hkp⟩ : ∃ kp, kp = kn + roots.length := ⟨_, rfl⟩
  rw [← hkp]
  have hkp0 : 0 < kp := by omega
  have hkp1 : kp + picks.length ≤ 33554432 := by omega
  clear hkp kb13b HR13 HP13 HI13 HJ13 HL13 HGc13
  go_wp2_with fail
  refine (markIntS_any _ w7.heap.size wj.heap.size (some ⟨bi, 0, none⟩) picks.length picks kp hkp0 (by omega) HP13b.out).mono ?_
  rintro e w14 ⟨rfl, kb14⟩
  have K514 : Kept W5 w14 := kb14.kept K513b (by have := K56.size; omega)
  have z14 := kb14.size
  have HGc14 : Hid (∀ o, w14.cell? ⟨w8.heap.size, o, none⟩ = w12.cell? ⟨w8.heap.size, o, none⟩) := fun o => (World.cell?_of_block (w := w13b) (kb14.block _ (by show w8.heap.size < _; omega) (.inr (by show wj.heap.size ≤ w8.heap.size; omega)))).trans (HGc13b.out o)
  have HI14 := hide (HI13b.out.same (kb14.same (l2 := wj.heap.size) (h2 := mid8) (by omega)))
  have HJ14 := hide (HJ13b.out.same (kb14.same (l2 := mid8) (h2 := top8) (by omega)))
  have HL14 := hide (HL13b.out.same (kb14.same (l2 := top8) (h2 := w8.heap.size) (by omega)))
  obtain ⟨km, hkm⟩ : ∃ km, km = kp + picks.length := ⟨_, rfl⟩
  rw [← hkm]
  have hkm0 : ¬ ((km : Int) < 0) := by omega
  have g0 := (HGc14.out 0).trans HG12b.out.1
  have g1 := (HGc14.out 1).trans HG12b.out.2.1
  have g2 := (HGc14.out 2).trans HG12b.out.2.2
  obtain ⟨p0, p1, p2⟩ := HP8.out w14 K514
  clear hkm kb14 HP13b HI13b HJ13b HL13b hkn0 hkn1 hkp0 hkp1 hcn HCn HGc13b HGc14 HG12b
  go_wp2_with fail
  refine (eqWalk_yes _ gr r8 gd d8 gf f8 grc rc8 gdc dc8 gfc fc8 U V Z hml hmv HVf.out hmz HI14.out.strs (HT.out.kept K514) HJ14.out.runs (HU.out.kept K514) HL14.out.strs (HF.out.kept K514)).mono ?_
  rintro e w15 ⟨rfl, k15⟩
  have K515 := K514.trans k15
  have HI15 := hide (HI14.out.same (k15.same _ _))
  have HJ15 := hide (HJ14.out.same (k15.same _ _))
  have HL15 := hide (HL14.out.same (k15.same _ _))
  have z15 := k15.size
  have gl : w8.heap.size < w14.heap.size := by omega
  have h0 := (k15.cell gl).trans g0
  have h1 := (k15.cell gl).trans g1
  have h2 := (k15.cell gl).trans g2
  clear HI14 HJ14 HL14 k15 g0 g1 g2 p0 p1 p2
  go_wp2_with fail
  refine (markWalk_any _ wj.heap.size mid8 top8 w8.heap.size gr gd gf grc gdc gfc U V Z 1 (by omega) (by omega) n1 n2 n3 (by omega) HI15.out HJ15.out HL15.out).mono ?_
  rintro e w16 ⟨rfl, hI16, hJ16, hL16, kb16⟩
  have K516 : Kept W5 w16 := kb16.kept K515 (by have := K57.size; omega)
  have z16 := kb16.size
  have gk : ∀ o, w16.cell? ⟨w8.heap.size, o, none⟩ = w15.cell? ⟨w8.heap.size, o, none⟩ := fun o => World.cell?_of_block (w := w15) (kb16.block _ (by show w8.heap.size < _; omega) (.inr (Nat.le_refl _)))
  have i0 := (gk 0).trans h0
  have i1 := (gk 1).trans h1
  have i2 := (gk 2).trans h2
  have gl16 : w8.heap.size < w16.heap.size := by omega
  obtain ⟨M, hM⟩ : ∃ M, M = 1 + U.length + (V.map cntRun).sum + Z.length := ⟨_, rfl⟩
  rw [← hM]
  have hMM : ((M : Int) != (M : Int)) = false := by simp
  have hM0 : ¬ ((M : Int) < 0) := by omega
  have HI16 := hide hI16
  have HJ16 := hide hJ16
  have HL16 := hide hL16
  have HM := hide hM
  clear hM hI16 hJ16 hL16 kb16 HI15 HJ15 HL15 h0 h1 h2 gk
  go_wp2_with fail
  refine (heldWalk_yes _ gr gd gf grc gdc gfc U V Z 1 (by omega) (by omega) HI16.out.strs HJ16.out.runs HL16.out.strs).mono ?_
  rintro e w17 ⟨rfl, k17⟩
  rw [← HM.out]
  have K517 := K516.trans k17
  have HI17 := hide (HI16.out.same (k17.same _ _))
  have HJ17 := hide (HJ16.out.same (k17.same _ _))
  have HL17 := hide (HL16.out.same (k17.same _ _))
  have KW17 := k0.trans (K5.trans K517)
  have HGB17 : Hid (∀ w', Kept w17 w' → w'.cell? ⟨w8.heap.size, 0, none⟩ = some (.slice gr U.length grc) ∧ w'.cell? ⟨w8.heap.size, 1, none⟩ = some (.slice gd V.length gdc) ∧ w'.cell? ⟨w8.heap.size, 2, none⟩ = some (.slice gf Z.length gfc)) := fun w' kk => ⟨((k17.trans kk).cell gl16).trans i0, ((k17.trans kk).cell gl16).trans i1, ((k17.trans kk).cell gl16).trans i2⟩
  have b0 := HBox.out w17 (K5.trans K517)
  clear k17 HI16 HJ16 HL16 i0 i1 i2 gl16
  go_wp2_with fail
  refine (toWeb_any _ a cap l hl2 hs2 (hN.kept KW17)).mono ?_
  rintro e w18 ⟨bw2, rfl, hN18, k18, hb18⟩
  have HN18 := hide hN18
  clear hN18 hb18 b0
  go_wp2_with fail
  refine (toStringS_any _ rd rc roots hr2 (hR.kept (KW17.trans k18))).mono ?_
  rintro e w19 ⟨c19, rfl, hR19, k19, _⟩
  have HR19 := hide hR19
  clear hR19
  go_wp2_with fail
  refine (toIntS_in _ pa pc picks hpl (hP.kept (KW17.trans (k18.trans k19)))).mono ?_
  rintro e wk ⟨c20, rfl, hPk, kk9⟩
  have HPk := hide hPk
  clear hPk
  go_wp2_with fail
  refine (implOrder_any _ (some ⟨bw2, 0, none⟩) l.length l (some ⟨c19, 0, none⟩) roots.length roots (some ⟨c20, 0, none⟩) picks.length picks hl2 hs hr2 (Nat.le_refl _) hrs hpl hp64 (HN18.out.kept (k19.trans kk9)).nodes (HR19.out.kept kk9) HPk.out.ints (hFi.kept (KW17.trans ((k18.trans k19).trans kk9)))).mono ?_
  rintro e w20 h20
  obtain ⟨R9, T9, D9, r9, rc9, d9, dc9, f9, fc9, mid9, top9, rfl, hD9, hI9, hJ9, hL9, _, _, _, k20⟩ := h20.ins
  obtain ⟨rfl, rfl, rfl⟩ := hD9.one HD5.out
  obtain ⟨W20, hW20⟩ : ∃ W20, W20 = w20.alloc (.cells #[.slice r9 U.length rc9, .slice d9 V.length dc9, .slice f9 Z.length fc9] 52) := ⟨_, rfl⟩
  have kC20 : Kept w20 W20 := by rw [hW20]; exact (Kept.refl _).alloc _
  have K17c : Kept w17 W20 := ((k18.trans k19).trans kk9).trans (k20.trans kC20)
  have HS9 := hide (hI9.strs.kept kC20)
  have HT9 := hide (hJ9.runs.kept kC20)
  have HF9 := hide (hL9.strs.kept kC20)
  have HH : Hid (W20.cell? ⟨w20.heap.size, 0, none⟩ = some (.slice r9 U.length rc9) ∧ W20.cell? ⟨w20.heap.size, 1, none⟩ = some (.slice d9 V.length dc9) ∧ W20.cell? ⟨w20.heap.size, 2, none⟩ = some (.slice f9 Z.length fc9)) := threeCells (w := w20) (w1 := W20) (t := 52) (by rw [hW20]; exact Kept.refl _)
  have K520 := K517.trans K17c
  have HI20 := hide (HI17.out.same (K17c.same _ _))
  have HJ20 := hide (HJ17.out.same (K17c.same _ _))
  have HL20 := hide (HL17.out.same (K17c.same _ _))
  clear hI9 hJ9 hL9 hD9 h20 HI17 HJ17 HL17 k18 k19 kk9 k20 kC20 HN18 HR19 HPk
  go_upto_region 38 with fail
  rw [← hW20]
  clear hW20
  obtain ⟨p0, p1, p2⟩ := HP8.out W20 K520
  obtain ⟨q0, q1, q2⟩ := HH.out
  go_wp2_with fail
  refine (eqWalk_yes _ r9 r8 d9 d8 f9 f8 rc9 rc8 dc9 dc8 fc9 fc8 U V Z hml hmv HVf.out hmz HS9.out (HT.out.kept K520) HT9.out (HU.out.kept K520) HF9.out (HF.out.kept K520)).mono ?_
  rintro e w21 ⟨rfl, k21⟩
  have HI21 := hide (HI20.out.same (k21.same _ _))
  have HJ21 := hide (HJ20.out.same (k21.same _ _))
  have HL21 := hide (HL20.out.same (k21.same _ _))
  have K521 := K520.trans k21
  obtain ⟨g0, g1, g2⟩ := HGB17.out w21 (K17c.trans k21)
  clear k21 HI20 HJ20 HL20 HS9 HT9 HF9 p0 p1 p2 q0 q1 q2 HH
  go_wp2_with fail
  refine (heldWalk_yes _ gr gd gf grc gdc gfc U V Z 1 (by omega) (by omega) HI21.out.strs HJ21.out.runs HL21.out.strs).mono ?_
  rintro e w22 ⟨rfl, k22⟩
  rw [← HM.out]
  have KF := k0.trans (K5.trans (K521.trans k22))
  clear k22 g0 g1 g2
  go_wp2
  go_ret
  exact ⟨rfl, KF⟩
end Go.Proofs.YtghipdfemoofhaaGreatDoor
