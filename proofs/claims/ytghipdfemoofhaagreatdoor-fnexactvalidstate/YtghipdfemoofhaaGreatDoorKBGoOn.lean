import Derived.Test.YtghipdfemoofhaaGreatDoorKBApp
import Derived.Test.YtghipdfemoofhaaGreatDoorKBEnd
import Derived.Test.YtghipdfemoofhaaGreatDoorKXGood
import Derived.Test.YtghipdfemoofhaaGreatDoorKWGo4

namespace Go.Proofs.YtghipdfemoofhaaGreatDoor
open Go.RowKit

section
variable {G : Ghost} {webl : List NodeD} {wz w w' : World} {bb : Nat} {a : Option Addr} {cap : Nat} {rd : Option Addr} {rn rc : Nat} {mb mx : Nat} {ts : List TaskM} {d : Option Addr} {dc : Nat} {f : ByteArray → Value} {ws : ByteArray → List Nat}
theorem BM.grown_look (h : BM G webl wz w bb a cap rd rn rc mb mx ts d dc f ws) {s : ByteArray} (hs : s.size ≤ maxLen) {w1 : World} (hg : w.grownBy w1 (f s).ownBlock) : (Instr.lookup 131 (.map (some mb)) (.string s) false).run Tryz.prog w1 = .ok (f s) w1 := by
  obtain ⟨N, D, _, hM, hf⟩ := h.map
  have hM1 : w1.ownsMap Tryz.prog 9 asIs mb N D := map_but (S := fun b => (f s).ownBlock = some b) hM (But.of_grown hg (fun b e => e)) (fun e => map_ne hM (owns_type (h.wrow s) e) rfl)
  obtain ⟨v, ps, hrun, hv⟩ := hM1.lookup Tryz.keyed Tryz.underlying131 (Tryz.zeroW w1) (zd := .held (.slice none 0 0)) (zp := []) rfl (WideMaps.keyOf_string_mk Tryz.underlying9 hs)
  have e := hf s hs
  unfold asIs at hv
  simp only [Option.some.injEq, Prod.mk.injEq] at hv
  have e2 : (DataW.held v : DataW Value) = .held (f s) := hv.1.trans e
  cases e2
  exact hrun
theorem BM.wait (h : BM G webl wz w bb a cap rd rn rc mb mx ts d dc f ws) {s : ByteArray} (hs : s.size ≤ maxLen) {tb : Nat} {w1 : World} {v' : Value} (ho : w1.ownsRow wz.heap.size 70 1 v' ((ws s).length + 1) ((ws s).map ptrB ++ [ptrB tb])) (hg : w.grownBy w1 (f s).ownBlock) (hv : ∀ g, v'.ownBlock = some g → (f s).ownBlock = some g ∨ w.heap.size ≤ g) (hmx : mx ≤ 1000000) :
    ∃ w2, (Instr.mapUpdate 131 (.map (some mb)) (.string s) v').run Tryz.prog w1 = .ok () w2 ∧ BM G webl wz w2 bb a cap rd rn rc mb (mx + 1) ts d dc (fun n => if n = s then v' else f n) (fun n => if n = s then ws s ++ [tb] else ws n) := by
  obtain ⟨N, D, hNl, hM, hf⟩ := h.map
  have k1 : But (fun b => (f s).ownBlock = some b) w w1 := But.of_grown hg (fun b e => e)
  have hM1 := map_but hM k1 (fun e => map_ne hM (owns_type (h.wrow s) e) rfl)
  obtain ⟨w2, hrun, hM2, hg2⟩ := hM1.update Tryz.keyed Tryz.underlying131 (by unfold maxLen; omega) (WideMaps.keyOf_string_mk Tryz.underlying9 hs) (d := .held v') (ps := []) rfl
  refine ⟨w2, hrun, ?_⟩
  have kS : But (fun b => (f s).ownBlock = some b ∨ b = mb) w w2 := (k1.mono (fun b _ e => .inl e)).trans (But.of_grown hg2 (fun b e => .inr (Option.some.inj e).symm))
  have k2 : But (fun b => b = mb) w1 w2 := But.of_grown hg2 (fun b e => (Option.some.inj e).symm)
  have ne : ∀ {b : Nat} {t : TypeId}, TypeAt w b t → t ≠ 70 → ¬ ((f s).ownBlock = some b ∨ b = mb) := fun hu hn e => by
    rcases e with e | e
    · exact type_ne hu (owns_type (h.wrow s) e) hn rfl
    · exact map_ne hM hu e
  have ne1 : ∀ {b : Nat} {t : TypeId}, TypeAt w1 b t → ¬ b = mb := fun hu e => map_ne hM1 hu e
  have hb := h.row.lt
  have nb := ne h.row.type (by decide)
  have hmp : Maps.IsMap D := by obtain ⟨es, clock, _, _, _, rfl⟩ := hM; exact ⟨_, rfl⟩
  have hfen : Fen G w2 bb mb ts (fun n => if n = s then v' else f n) := by
    have h0 := h.oth.but kS (fun b e => by
      rcases e with e | e
      · exact h.oth.nf s b e
      · rw [e]; exact h.oth.nm)
    refine ⟨h0.size, h0.lt, h0.same, h0.nb, h0.nm, h0.nt, fun n x hx => ?_, h0.has⟩
    by_cases e : n = s
    · simp only [if_pos e] at hx
      rcases hv x hx with g | g
      · exact h.oth.nf s x g
      · exact h.oth.far g
    · simp only [if_neg e] at hx
      exact h.oth.nf n x hx
  refine ⟨kS.kept h.kw (fun b e => ?_), kS.row h.row nb, (kS.cell hb nb).trans h.c0, (kS.cell hb nb).trans h.c1, (kS.cell hb nb).trans h.c2, (kS.cell hb nb).trans h.c3, (kS.cell hb nb).trans h.c4, (kS.cell hb nb).trans h.c5, h.low, kS.owns h.items (fun b e e2 => ?_), fun t ht => (h.task t ht).but kS (ne (h.task t ht).row.type (by decide)) (fun x hx => ne ((h.task t ht).own_type hx).1 (by decide)), h.act, h.asc, h.tbs, h.sep, h.sep2, ⟨N + 1, _, by omega, hM2, fun n hn => ?_⟩, h.mlow, fun n => ?_, fun n n' hnn x hx hx' => ?_, fun n x hx e => ?_, fun t ht => Nat.le_trans (h.qb t ht) (by omega), hfen⟩
  · rcases e with e | e
    · exact ((h.wrow s).lt b e).1
    · rw [e]; exact h.mlow
  · rcases e2 with e2 | e2
    · exact h.isep s b e2 e
    · exact map_ne hM (owns_type h.items e) e2
  · by_cases e : n = s
    · rw [if_pos e, e]
      exact Maps.atKey_put_same (k := keyLit s) hmp (by show WideAt.IsKeyLit (.string _); exact trivial) _ _
    · rw [if_neg e, ← hf n hn]
      exact Maps.atKey_put_other (keyLit_ne e) _ _
  · by_cases e : n = s
    · simp only [if_pos e]
      have e1 : (ws s ++ [tb]).length = (ws s).length + 1 := by simp
      have e2 : (ws s ++ [tb]).map ptrB = (ws s).map ptrB ++ [ptrB tb] := by simp
      rw [e1, e2]
      exact k2.owns ho (fun b e => ne1 (owns_type ho e))
    · simp only [if_neg e]
      refine kS.owns (h.wrow n) (fun b e1 e2 => ?_)
      rcases e2 with e2 | e2
      · exact h.wsep n s e b e1 e2
      · exact map_ne hM (owns_type (h.wrow n) e1) e2
  · by_cases e : n = s
    · rw [if_pos e] at hx
      rw [if_neg (fun e' => hnn (e.trans e'.symm))] at hx'
      rcases hv x hx with g | g
      · exact h.wsep s n' (fun e' => hnn (e.trans e')) x g hx'
      · have := ((h.wrow n').lt x hx').2; omega
    · rw [if_neg e] at hx
      by_cases e' : n' = s
      · rw [if_pos e'] at hx'
        rcases hv x hx' with g | g
        · exact h.wsep n s e x hx g
        · have := ((h.wrow n).lt x hx).2; omega
      · rw [if_neg e'] at hx'
        exact h.wsep n n' hnn x hx hx'
  · by_cases e' : n = s
    · rw [if_pos e'] at hx
      rcases hv x hx with g | g
      · exact h.isep s x g e
      · have := (h.items.lt x e).2; omega
    · rw [if_neg e'] at hx
      exact h.isep n x hx e
end

def unans (webl : List NodeD) (ts : List TaskM) (l : List ByteArray) : List ByteArray := l.filter fun a => (ansOf (actsOf webl) (envOf (runsOf ts)) a).isNone
structure AskI (webl : List NodeD) (ts0 : List TaskM) (ws0 : ByteArray → List Nat) (tb : Nat) (L1 L2 : List ByteArray) (ts : List TaskM) (ws : ByteArray → List Nat) : Prop where
  env : ∀ n, envOf (runsOf ts) n = match envOf (runsOf ts0) n with | some x => some x | none => if hasN L1 n = true ∧ (actsOf webl n).isSome = true then some (RunX.fresh n) else none
  me : ∃ t0 ∈ ts0, ∃ t ∈ ts, t0.tb = tb ∧ t.tb = tb ∧ t.r = t0.r ∧ t.op = t0.op + (unans webl ts0 L2).length ∧ t.bq = t0.bq
  other : ∀ t ∈ ts, t.tb ≠ tb → (∃ t0 ∈ ts0, t0.tb = t.tb ∧ t0.r = t.r ∧ t0.op = t.op ∧ t0.bq = t.bq) ∨ (t.r = RunX.fresh t.r.name ∧ (t.op = 0 ∧ t.bq = (⟨#[]⟩, [])) ∧ envOf (runsOf ts0) t.r.name = none)
  old : ∀ t0 ∈ ts0, ∃ t ∈ ts, t.tb = t0.tb ∧ t.r = t0.r
  wt : ∀ s, ws s = if hasN (unans webl ts0 L2) s = true then ws0 s ++ [tb] else ws0 s
theorem AskI.start {webl : List NodeD} {ts0 : List TaskM} {ws0 : ByteArray → List Nat} {t : TaskM} (h : t ∈ ts0) : AskI webl ts0 ws0 t.tb [] [] ts0 ws0 :=
  ⟨fun n => by cases envOf (runsOf ts0) n <;> simp [hasN], ⟨t, h, t, h, rfl, rfl, rfl, rfl, rfl⟩, fun u hu _ => .inl ⟨u, hu, rfl, rfl, rfl, rfl⟩, fun u hu => ⟨u, hu, rfl, rfl⟩, fun s => by simp [unans, hasN]⟩
theorem env_none_iff {ts : List TaskM} {n : ByteArray} : envOf (runsOf ts) n = none ↔ ∀ t ∈ ts, t.r.name ≠ n := by
  unfold envOf
  rw [List.find?_eq_none]
  simp [runsOf]
theorem AskI.want {webl : List NodeD} {ts0 ts ts' : List TaskM} {ws0 ws : ByteArray → List Nat} {tb : Nat} {L1 L2 : List ByteArray} (h : AskI webl ts0 ws0 tb L1 L2 ts ws) {n : ByteArray} (ha : AscX (runsOf ts)) (ha' : AscX (runsOf ts')) (hn : (ts'.map (·.tb)).Nodup) (hw : WantR webl ts n ts') : AskI webl ts0 ws0 tb (L1 ++ [n]) L2 ts' ws := by
  have hL : ∀ m, hasN (L1 ++ [n]) m = true ↔ hasN L1 m = true ∨ m = n := fun m => by simp [hasN_iff]
  rcases hw with ⟨rfl, hw⟩ | ⟨p, new, rfl, hr, hop, hno, hsome⟩
  · refine ⟨fun m => ?_, h.me, h.other, h.old, h.wt⟩
    rw [h.env m]
    cases h0 : envOf (runsOf ts0) m with
    | some x => rfl
    | none =>
      simp only
      by_cases e : m = n
      · subst e
        rcases hw with hw | ⟨t, ht, e⟩
        · rw [if_neg (by rw [hw]; simp), if_neg (by rw [hw]; simp)]
        · by_cases hc : hasN L1 m = true ∧ (actsOf webl m).isSome = true
          · rw [if_pos hc, if_pos ⟨(hL m).2 (.inl hc.1), hc.2⟩]
          · have := h.env m
            rw [h0] at this
            simp only at this
            rw [if_neg hc] at this
            exact absurd e (env_none_iff.1 this t ht)
      · by_cases hc : hasN L1 m = true ∧ (actsOf webl m).isSome = true
        · rw [if_pos hc, if_pos ⟨(hL m).2 (.inl hc.1), hc.2⟩]
        · rw [if_neg hc, if_neg]
          rintro ⟨h1, h2⟩
          rcases (hL m).1 h1 with g | g
          · exact hc ⟨g, h2⟩
          · exact e g
  · have hmem : ∀ u, u ∈ ts.take p ++ new :: ts.drop p ↔ u = new ∨ u ∈ ts := fun u => by
      rw [List.mem_append, List.mem_cons]
      constructor
      · rintro (h | h | h)
        · exact .inr (List.mem_of_mem_take h)
        · exact .inl h
        · exact .inr (List.mem_of_mem_drop h)
      · rintro (h | h)
        · exact .inr (.inl h)
        · rw [← List.take_append_drop p ts] at h
          rcases List.mem_append.1 h with h | h
          · exact .inl h
          · exact .inr (.inr h)
    have hnone : envOf (runsOf ts) n = none := env_none_iff.2 hno
    have h0n : envOf (runsOf ts0) n = none := by
      have := h.env n
      rw [hnone] at this
      cases h0 : envOf (runsOf ts0) n with
      | none => rfl
      | some x => rw [h0] at this; cases this
    have henv : ∀ m, envOf (runsOf (ts.take p ++ new :: ts.drop p)) m = if m = n then some (RunX.fresh n) else envOf (runsOf ts) m := fun m => by
      by_cases e : m = n
      · rw [if_pos e, e]
        have := asc_env ha' (r := new.r) (List.mem_map_of_mem ((hmem new).2 (.inl rfl)))
        rw [hr] at this
        exact this
      · rw [if_neg e]
        cases h1 : envOf (runsOf ts) m with
        | some x =>
          obtain ⟨g1, g2⟩ := env_mem h1
          obtain ⟨u, hu, rfl⟩ := List.mem_map.1 g1
          have := asc_env ha' (r := u.r) (List.mem_map_of_mem ((hmem u).2 (.inr hu)))
          rw [g2] at this
          exact this
        | none =>
          rw [env_none_iff] at h1 ⊢
          intro u hu
          rcases (hmem u).1 hu with rfl | hu
          · rw [hr]; exact fun e2 => e e2.symm
          · exact h1 u hu
    have htb : ∀ u ∈ ts, u.tb ≠ new.tb := fun u hu e => by
      have e1 : (ts.take p ++ new :: ts.drop p).map (·.tb) = (ts.take p).map (·.tb) ++ new.tb :: (ts.drop p).map (·.tb) := by simp
      rw [e1] at hn
      have h2 := List.nodup_append.1 hn
      rw [← List.take_append_drop p ts] at hu
      rcases List.mem_append.1 hu with hu | hu
      · exact h2.2.2 _ (List.mem_map_of_mem hu) _ (by simp) e
      · exact (List.nodup_cons.1 h2.2.1).1 (by rw [← e]; exact List.mem_map_of_mem hu)
    refine ⟨fun m => ?_, ?_, fun u hu hne => ?_, fun t0 ht0 => ?_, h.wt⟩
    · rw [henv m]
      by_cases e : m = n
      · rw [if_pos e, e, h0n]
        simp only
        rw [if_pos ⟨(hL n).2 (.inr rfl), hsome⟩]
      · rw [if_neg e, h.env m]
        cases h0 : envOf (runsOf ts0) m with
        | some x => rfl
        | none =>
          simp only
          by_cases hc : hasN L1 m = true ∧ (actsOf webl m).isSome = true
          · rw [if_pos hc, if_pos ⟨(hL m).2 (.inl hc.1), hc.2⟩]
          · rw [if_neg hc, if_neg]
            rintro ⟨h1, h2⟩
            rcases (hL m).1 h1 with g | g
            · exact hc ⟨g, h2⟩
            · exact e g
    · obtain ⟨t0, h1, t, h2, h3⟩ := h.me
      exact ⟨t0, h1, t, (hmem t).2 (.inr h2), h3⟩
    · rcases (hmem u).1 hu with rfl | hu
      · exact .inr ⟨by rw [hr]; rfl, hop, by rw [hr]; exact h0n⟩
      · exact h.other u hu hne
    · obtain ⟨t, h1, h2⟩ := h.old t0 ht0
      exact ⟨t, (hmem t).2 (.inr h1), h2⟩
theorem AskI.ans {webl : List NodeD} {ts0 ts : List TaskM} {ws0 ws : ByteArray → List Nat} {tb : Nat} {L1 L2 : List ByteArray} (h : AskI webl ts0 ws0 tb L1 L2 ts ws) (n : ByteArray) : ansOf (actsOf webl) (envOf (runsOf ts)) n = ansOf (actsOf webl) (envOf (runsOf ts0)) n := by
  unfold ansOf
  cases hA : actsOf webl n with
  | none => rfl
  | some A =>
    simp only
    rw [h.env n]
    cases h0 : envOf (runsOf ts0) n with
    | some x => rfl
    | none =>
      simp only
      split
      · rename_i r hr
        split at hr
        · cases hr; rfl
        · cases hr
      · rfl
theorem AskI.skip {webl : List NodeD} {ts0 ts : List TaskM} {ws0 ws : ByteArray → List Nat} {tb : Nat} {L1 L2 : List ByteArray} (h : AskI webl ts0 ws0 tb L1 L2 ts ws) {n : ByteArray} (hn : (ansOf (actsOf webl) (envOf (runsOf ts0)) n).isSome = true) : AskI webl ts0 ws0 tb L1 (L2 ++ [n]) ts ws := by
  have e : unans webl ts0 (L2 ++ [n]) = unans webl ts0 L2 := by
    unfold unans
    rw [List.filter_append]
    cases ha : ansOf (actsOf webl) (envOf (runsOf ts0)) n with
    | none => rw [ha] at hn; cases hn
    | some x => simp [ha]
  exact ⟨h.env, by rw [e]; exact h.me, h.other, h.old, by rw [e]; exact h.wt⟩
theorem AskI.wait {webl : List NodeD} {ts0 ts : List TaskM} {ws0 ws : ByteArray → List Nat} {tb : Nat} {L1 L2 : List ByteArray} (h : AskI webl ts0 ws0 tb L1 L2 ts ws) {n : ByteArray} (hn : ansOf (actsOf webl) (envOf (runsOf ts0)) n = none) (hni : n ∉ L2) {i : Nat} {t t' : TaskM} (hi : ts[i]? = some t) (ht : t.tb = tb) (hnd : (ts.map (·.tb)).Nodup) (e1 : t'.tb = tb) (e2 : t'.r = t.r) (e3 : t'.op = t.op + 1) (e0 : t'.bq = t.bq) : AskI webl ts0 ws0 tb L1 (L2 ++ [n]) (ts.set i t') (fun m => if m = n then ws n ++ [tb] else ws m) := by
  obtain ⟨hl, rfl⟩ := List.getElem?_eq_some_iff.1 hi
  have e : unans webl ts0 (L2 ++ [n]) = unans webl ts0 L2 ++ [n] := by
    unfold unans
    rw [List.filter_append]
    simp [hn]
  have hni2 : n ∉ unans webl ts0 L2 := fun h => hni (List.mem_filter.1 h).1
  have hru : runsOf (ts.set i t') = runsOf ts := by
    rw [runs_set hl, e2]
    have e0 : ts[i].r = (runsOf ts)[i]'(by simpa [runsOf] using hl) := by simp [runsOf]
    rw [e0, List.set_getElem_self]
  have mem : ∀ u ∈ ts.set i t', u = t' ∨ (u ∈ ts ∧ u.tb ≠ tb) := fun u hu => by
    obtain ⟨j, hj, rfl⟩ := List.getElem_of_mem hu
    rw [List.length_set] at hj
    rw [List.getElem_set]
    split
    · exact .inl rfl
    · rename_i hne
      refine .inr ⟨List.getElem_mem hj, fun e => ?_⟩
      have hnd2 := List.pairwise_iff_getElem.1 hnd
      rcases Nat.lt_or_gt_of_ne hne with g | g
      · have := hnd2 i j (by simpa using hl) (by simpa using hj) g
        simp at this
        exact this (ht.trans e.symm)
      · have := hnd2 j i (by simpa using hj) (by simpa using hl) g
        simp at this
        exact this (e.trans ht.symm)
  have one : ∀ u ∈ ts, u.tb = tb → u = ts[i] := fun u hu e => by
    obtain ⟨j, hj, rfl⟩ := List.getElem_of_mem hu
    by_cases hij : i = j
    · subst hij; rfl
    · have hnd2 := List.pairwise_iff_getElem.1 hnd
      rcases Nat.lt_or_gt_of_ne hij with g | g
      · have := hnd2 i j (by simpa using hl) (by simpa using hj) g
        simp at this
        exact absurd (ht.trans e.symm) this
      · have := hnd2 j i (by simpa using hj) (by simpa using hl) g
        simp at this
        exact absurd (e.trans ht.symm) this
  have hin : t' ∈ ts.set i t' := List.mem_iff_getElem.2 ⟨i, by rw [List.length_set]; exact hl, by simp⟩
  have keep : ∀ u ∈ ts, u.tb ≠ tb → u ∈ ts.set i t' := fun u hu hne => by
    obtain ⟨j, hj, rfl⟩ := List.getElem_of_mem hu
    refine List.mem_iff_getElem.2 ⟨j, by rw [List.length_set]; exact hj, ?_⟩
    rw [List.getElem_set, if_neg (fun e => hne (by subst e; exact ht))]
  refine ⟨by rw [hru]; exact h.env, ?_, fun u hu hne => ?_, fun t0 ht0 => ?_, fun s => ?_⟩
  · obtain ⟨t0, h1, t, h2, h3, h4, h5, h6, h7⟩ := h.me
    have := one t h2 h4
    subst this
    exact ⟨t0, h1, t', hin, h3, e1, by rw [e2, h5], by rw [e3, h6, e]; simp; omega, e0.trans h7⟩
  · rcases mem u hu with rfl | ⟨hu, _⟩
    · exact absurd e1 hne
    · exact h.other u hu hne
  · obtain ⟨t, h1, h2, h3⟩ := h.old t0 ht0
    by_cases e4 : t.tb = tb
    · have := one t h1 e4
      subst this
      exact ⟨t', hin, by rw [e1, ← e4, h2], by rw [e2, h3]⟩
    · exact ⟨t, keep t h1 e4, h2, h3⟩
  · rw [e]
    by_cases e4 : s = n
    · subst e4
      rw [if_pos rfl, if_pos (hasN_iff.2 (by simp)), h.wt s, if_neg (fun g => hni2 (hasN_iff.1 g))]
    · rw [if_neg e4, h.wt s]
      by_cases h5 : hasN (unans webl ts0 L2) s = true
      · rw [if_pos h5, if_pos (hasN_iff.2 (List.mem_append.2 (.inl (hasN_iff.1 h5))))]
      · rw [if_neg h5, if_neg (fun g => by
          rcases List.mem_append.1 (hasN_iff.1 g) with g | g
          · exact h5 (hasN_iff.2 g)
          · exact e4 (List.mem_singleton.1 g))]

end Go.Proofs.YtghipdfemoofhaaGreatDoor

namespace Go.Proofs.YtghipdfemoofhaaGreatDoor
open Go.RowKit

section
variable {G : Ghost} {webl : List NodeD} {wz w w' : World} {bb : Nat} {a : Option Addr} {cap : Nat} {rd : Option Addr} {rn rc : Nat} {mb mx : Nat} {ts : List TaskM} {d : Option Addr} {dc : Nat} {f : ByteArray → Value} {ws : ByteArray → List Nat}
theorem BM.len (h : BM G webl wz w bb a cap rd rn rc mb mx ts d dc f ws) (hw : webl.length ≤ 60) : ts.length ≤ 60 := by
  have h1 := List.Nodup.length_le_of_subset (asc_nodup h.asc) (l₂ := webl.map (·.name)) (fun n hn => by
    obtain ⟨r, hr, rfl⟩ := List.mem_map.1 hn
    obtain ⟨t, ht, rfl⟩ := List.mem_map.1 hr
    exact acts_in (by rw [(h.act t ht).1]; rfl))
  simp [runsOf] at h1
  omega
def AskEnd (G : Ghost) (webl : List NodeD) (wz : World) (bb : Nat) (a : Option Addr) (cap : Nat) (rd : Option Addr) (rn rc mb mx : Nat) (ts0 : List TaskM) (ws0 : ByteArray → List Nat) (i : Nat) (t : TaskM) (asks : List ByteArray) (w' : World) : Prop :=
  ∃ (ts0' ts : List TaskM) (d : Option Addr) (dc : Nat) (f : ByteArray → Value) (ws : ByteArray → List Nat), (ts0'.map fun t => (t.tb, t.r, t.op, t.bq)) = ((ts0.set i { t with qs := t.qs ++ asks.map Value.string }).map fun t => (t.tb, t.r, t.op, t.bq)) ∧ BM G webl wz w' bb a cap rd rn rc mb (mx + 6) ts d dc f ws ∧ AskI webl ts0' ws0 t.tb asks asks ts ws

set_option maxRecDepth 100000 in
set_option maxHeartbeats 6400000 in
theorem benchAsk_any (hB : BM G webl wz w bb a cap rd rn rc mb mx ts d dc f ws) {i : Nat} {t : TaskM} (hi : ts[i]? = some t) (aa : Option Addr) (ca : Nat) (asks : List ByteArray) (hal : asks.length ≤ 5) (hsz : ∀ x ∈ asks, x.size ≤ 20) (hnd : asks.Nodup) (hA : Strs wz aa asks) (hmx : mx ≤ 100000) (hwl : webl.length ≤ 60) (hwr : Rises webl) (hN : Nodes wz a webl) (_hww : ∀ s b, b ∈ ws s → ∃ t ∈ ts, t.tb = b) (hwn : ∀ s, (ws s).length ≤ 1000) (hop0 : t.op ≤ 1000) :
    Calls Tryz.prog 95 #[.pointer (some ⟨bb, 0, none⟩), .pointer (some ⟨t.tb, 0, none⟩), .slice aa asks.length ca] w fun e w' => e = .returned (.tuple #[]) ∧ AskEnd G webl wz bb a cap rd rn rc mb mx ts ws i t asks w' := by
  obtain ⟨is, hst0, hst1, hst2, hst3⟩ := xInfo_parts Tryz.xInfoStr
  obtain ⟨ip, hp0, hp1, hp2, hp3⟩ := xInfo_parts Tryz.infoPtrB
  have hT := hB.at hi
  have q10 : w.cell? ⟨t.tb, 10, none⟩ = some t.qv := hT.rng 10 _ rfl
  have tz := hT.row.lt
  have hqb := hB.qb t (List.mem_of_getElem? hi)
  have hzw := hB.kw.size
  have HB := hide hB
  have HI := hide hi
  have HT := hide hT
  clear hB hi hT
  go_enter Tryz.func95, Tryz.ntmps95
  go_wp2_with (at_builtin; refine wpList_append_strs rfl (.tmp 14) (.tmp 15) 25 rfl wz.heap.size 9 is _ 16 Tryz.underlying25 hst0 hst1 hst2 hst3 rfl t.qv t.qs.length t.qs rfl HT.out.ask aa ca asks rfl (hA.kept HB.out.kw) (by unfold maxLen; omega) (by omega) hzw ?_; intro v1 w1 ho1 hg1 hv1; obtain ⟨av1, cv1, rfl⟩ := own_slice ho1; have hb1 : w1.heap[t.tb]? = w.heap[t.tb]? := hg1.block _ tz (fun e => type_ne HT.out.row.type (owns_type HT.out.ask e.symm) (by decide) rfl); have hr1 := HT.out.row.block hb1; obtain ⟨⟨_, x10⟩, f10⟩ := hr1.row.at (i := 10) (by omega); have tz1 := hr1.lt; have HB1 := hide (HB.out.asked HI.out (l := asks.map Value.string) (by rw [List.length_map]; exact ho1) hg1 hv1 (by simpa using hal)); clear ho1 hg1 hv1 hb1 hr1)
  obtain ⟨n0, hn0⟩ : ∃ n0, n0 = asks.length := ⟨_, rfl⟩
  obtain ⟨ts1, hts1⟩ : ∃ ts1, ts1 = ts.set i { t with qv := .slice av1 (t.qs.length + asks.length) cv1, qs := t.qs ++ asks.map Value.string } := ⟨_, rfl⟩
  rw [← hts1] at HB1
  have HMp : Hid ((ts1.map fun t => (t.tb, t.r, t.op, t.bq)) = ((ts.set i { t with qs := t.qs ++ asks.map Value.string }).map fun t => (t.tb, t.r, t.op, t.bq))) := by
    show _ = _
    rw [hts1, List.map_set, List.map_set]
    rfl
  have HNd : Hid (ts1.map (·.tb)).Nodup := HB1.out.tbs
  have HT1 : Hid (∃ u ∈ ts1, u.tb = t.tb ∧ u.op = t.op) := by
    obtain ⟨hl, rfl⟩ := List.getElem?_eq_some_iff.1 HI.out
    exact ⟨{ ts[i] with qv := .slice av1 (ts[i].qs.length + asks.length) cv1, qs := ts[i].qs ++ asks.map Value.string }, by rw [hts1]; exact List.mem_iff_getElem.2 ⟨i, by rw [List.length_set]; exact hl, by rw [List.getElem_set_self]⟩, rfl, rfl⟩
  obtain ⟨W1, hW1⟩ : ∃ W1, W1 = w1.setCell ⟨t.tb, 10, none⟩ (.slice av1 (t.qs.length + asks.length) cv1) := ⟨_, rfl⟩
  rw [← hW1] at HB1 ⊢
  obtain ⟨tb, htb⟩ : ∃ tb, tb = t.tb := ⟨_, rfl⟩
  rw [← htb] at HT1 ⊢
  have HTB := hide htb
  have hop : t.op ≤ 1000 := hop0
  obtain ⟨op0, hop1⟩ : ∃ op0, op0 = t.op := ⟨_, rfl⟩
  rw [← hop1] at HT1 hop
  have Hn0 := hide hn0
  rw [← hn0]
  have hn5 : n0 ≤ 5 := by omega
  clear hW1 hts1 htb x10 f10 tz1 q10 tz HT HI HB hqb hzw hop1 hn0
  go_wp2
  go_loopw [21] (fun x wr => ∃ (k : Nat) (ts2 : List TaskM) (d2 : Option Addr) (dc2 : Nat) (f2 : ByteArray → Value) (ws2 : ByteArray → List Nat), k ≤ n0 ∧ x = .int .i64 k ∧ BM G webl wz wr bb a cap rd rn rc mb (mx + 1 + k) ts2 d2 dc2 f2 ws2 ∧ AskI webl ts1 ws tb (asks.take k) (asks.take k) ts2 ws2) (fun x _ => n0 - (intOf x).toNat)
  case atStart =>
    obtain ⟨u, hu, e1, _⟩ := HT1.out
    exact ⟨0, ts1, d, dc, f, ws, Nat.zero_le _, rfl, HB1.out, by rw [← e1]; exact AskI.start hu⟩
  case round =>
    clear HB1
    obtain ⟨k, ts2, d2, dc2, f2, ws2, hk, rfl, hB2, hI2⟩ := hrel
    by_cases hlt : k < n0
    rotate_left
    · obtain rfl : k = n0 := by omega
      have htk : asks.take k = asks := by rw [Hn0.out]; exact List.take_length
      rw [htk] at hI2
      go_wp2
      go_end0
      exact ⟨rfl, ts1, ts2, d2, dc2, f2, ws2, HMp.out, hB2.more (by omega), by rw [← HTB.out]; exact hI2⟩
    obtain ⟨n, hn⟩ : ∃ n, asks[k]? = some n := ⟨_, List.getElem?_eq_getElem (by have := Hn0.out; omega)⟩
    have hmem : n ∈ asks := List.mem_of_getElem? hn
    have hnsz := hsz n hmem
    have htk : asks.take (k + 1) = asks.take k ++ [n] := by
      obtain ⟨h1, h2⟩ := List.getElem?_eq_some_iff.1 hn
      rw [List.take_succ_eq_append_getElem h1, h2]
    have hni : n ∉ asks.take k := fun h => by
      obtain ⟨h1, h2⟩ := List.getElem?_eq_some_iff.1 hn
      obtain ⟨q, hq, e⟩ := List.getElem_of_mem h
      rw [List.length_take] at hq
      rw [List.getElem_take] at e
      exact List.pairwise_iff_getElem.1 hnd q k (by omega) h1 (by omega) (e.trans h2.symm)
    obtain ⟨b, o, rfl, hb0, hc0⟩ := hA k (by have := Hn0.out; omega)
    have c0 : wr.cell? ⟨b, o + k, none⟩ = some (.string n) := by
      rw [hB2.kw.cell hb0, hc0]
      simp [List.getD, hn]
    have hl2 := hB2.len hwl
    have i0 : (k : Int) < (n0 : Int) := by omega
    have HTk := hide htk
    have HNi := hide hni
    have HB2 := hide hB2
    have HI2 := hide hI2
    clear hn htk hni hc0 hB2 hI2
    go_wp2_with fail
    refine (benchWant_b HB2.out n (by omega) (by omega) hwr hN).mono ?_
    rintro e w3 ⟨rfl, ts3, d3, dc3, hB3, hw3⟩
    have hl3 := hB3.len hwl
    have HI3 := hide (HI2.out.want HB2.out.asc hB3.asc hB3.tbs hw3)
    have HAn : Hid ((∃ t ∈ ts3, t.r.name = n) ∨ actsOf webl n = none) := by
      rcases hw3 with ⟨rfl, h | h⟩ | ⟨p, new, rfl, hr, _⟩
      · exact .inr h
      · exact .inl h
      · exact .inl ⟨new, List.mem_append.2 (.inr (by simp)), by rw [hr]; rfl⟩
    have HB3 := hide hB3
    clear hB3 hw3 c0
    go_wp2_with fail
    refine (benchAnswer_any HB3.out n (by omega) (by omega) HAn.out).mono ?_
    rintro e w4 ⟨⟨fa, tx, ok, rfl, hans⟩, k4⟩
    rw [HI3.out.ans n] at hans
    have HAns := hide hans
    have HB4 := hide (HB3.out.kept k4)
    clear hans
    cases ok
    rotate_left
    · go_wp2
      go_roundw
      case rel => exact ⟨k + 1, ts3, d3, dc3, f2, ws2, by omega, by go_num, (HB4.out.more (by omega)).kept ((Kept.refl _).alloc _), by rw [HTk.out]; exact HI3.out.skip (by rw [HAns.out]; rfl)⟩
      case measure => simp [intOf]; omega
    obtain ⟨va, vc, hf⟩ := own_slice (HB4.out.wrow n)
    obtain ⟨j, t4, hj4, htb4, hop4⟩ : ∃ (j : Nat) (t4 : TaskM), ts3[j]? = some t4 ∧ t4.tb = tb ∧ t4.op ≤ 2000 := by
      obtain ⟨t0, h0, t4, h4, e1, e2, e3, e4⟩ := HI3.out.me
      obtain ⟨j, hj, rfl⟩ := List.getElem_of_mem h4
      refine ⟨j, ts3[j], List.getElem?_eq_getElem hj, e2, ?_⟩
      obtain ⟨u, hu, g1, g2⟩ := HT1.out
      have hun : (unans webl ts1 (asks.take k)).length ≤ 5 := Nat.le_trans (List.length_filter_le _ _) (by rw [List.length_take]; omega)
      have h01 : t0.op = op0 := by
        rw [← g2]
        have hnd1 := HNd.out
        obtain ⟨p1, hp1', rfl⟩ := List.getElem_of_mem h0
        obtain ⟨p2, hp2', rfl⟩ := List.getElem_of_mem hu
        have : p1 = p2 := by
          rcases Nat.lt_trichotomy p1 p2 with g | g | g
          · have := List.pairwise_iff_getElem.1 hnd1 p1 p2 (by simpa using hp1') (by simpa using hp2') g
            simp at this
            exact absurd (e1.trans g1.symm) this
          · exact g
          · have := List.pairwise_iff_getElem.1 hnd1 p2 p1 (by simpa using hp2') (by simpa using hp1') g
            simp at this
            exact absurd (g1.trans e1.symm) this
        subst this
        rfl
      omega
    have hwn2 : (ws2 n).length ≤ 1001 := by
      rw [HI3.out.wt n]
      have := hwn n
      split
      · rw [List.length_append]; simp; omega
      · omega
    have Hf := hide hf
    have HJ4 := hide hj4
    have HTb := hide htb4
    clear hf hj4 htb4
    obtain ⟨W4, hW4⟩ : ∃ W4, W4 = w4.alloc (.cells #[.bool fa, .string tx] 178) := ⟨_, rfl⟩
    have HB5 : Hid (BM G webl wz W4 bb a cap rd rn rc mb (mx + 1 + k) ts3 d3 dc3 f2 ws2) := by rw [hW4]; exact HB4.out.kept ((Kept.refl _).alloc _)
    have HSO : Hid (∀ w', Kept W4 w' → w'.cell? ⟨bb, 5, none⟩ = some (.map (some mb)) ∧ (Instr.lookup 131 (.map (some mb)) (.string n) false).run Tryz.prog w' = .ok (.slice va (ws2 n).length vc) w') := fun w' K => ⟨(HB5.out.kept K).c5, by rw [← Hf.out]; exact (HB5.out.kept K).look (by unfold maxLen; omega)⟩
    go_upto_region 7 with fail
    rw [← hW4]
    clear hW4 k4
    refine UpTo.region (by kernel_rfl) (fun w' => w'.cell? ⟨bb, 5, none⟩ = some (.map (some mb)) ∧ (Instr.lookup 131 (.map (some mb)) (.string n) false).run Tryz.prog w' = .ok (.slice va (ws2 n).length vc) w') 14 (HSO.out _ ((Kept.refl W4).drew)) (fun hHeld => ?_)
    have KD : Kept W4 W4.drew := (Kept.refl W4).drew
    generalize hwd : W4.drew = wd at hHeld KD ⊢
    clear hwd
    refine UpTo.take 0 [1, 2, 3, 14] (v := ?_) (by (simp only [List.getElem?_toArray, List.getElem?_cons_zero]; rfl)) (by kernel_rfl) (by kernel_rfl) (by kernel_rfl) (by kernel_rfl) (by exact fun _ _ _ h => h) (Or.inl ⟨by rfl, ?_⟩) hHeld ?_
    rotate_left
    · intro u hu
      try dsimp only at hu
      go_simp
      try with_reducible rfl
    try simp only [Act.put, List.setIfInBounds_toArray, List.set_cons_zero, List.set_cons_succ]
    refine UpTo.take 1 [2, 3, 14] (v := ?_) (by (simp only [List.getElem?_toArray, List.getElem?_cons_succ, List.getElem?_cons_zero]; rfl)) (by kernel_rfl) (by kernel_rfl) (by kernel_rfl) (by kernel_rfl) (by exact fun _ _ _ h => h) (Or.inl ⟨by rfl, ?_⟩) hHeld ?_
    rotate_left
    · intro u hu
      try dsimp only at hu
      go_simp
      try with_reducible rfl
    try simp only [Act.put, List.setIfInBounds_toArray, List.set_cons_zero, List.set_cons_succ]
    refine UpTo.take 2 [3, 14] (v := ?_) (by (simp only [List.getElem?_toArray, List.getElem?_cons_succ, List.getElem?_cons_zero]; rfl)) (by kernel_rfl) (by kernel_rfl) (by kernel_rfl) (by kernel_rfl) (by exact fun _ _ _ h => h) (Or.inl ⟨by rfl, ?_⟩) hHeld ?_
    rotate_left
    · intro u hu
      try dsimp only at hu
      go_simp
      try with_reducible rfl
    try simp only [Act.put, List.setIfInBounds_toArray, List.set_cons_zero, List.set_cons_succ]
    refine UpTo.take 3 [14] (v := ?_) (by (simp only [List.getElem?_toArray, List.getElem?_cons_succ, List.getElem?_cons_zero]; rfl)) (by kernel_rfl) (by kernel_rfl) (by kernel_rfl) (by kernel_rfl) (by exact fun _ _ _ h => h) (Or.inl ⟨by rfl, ?_⟩) hHeld ?_
    rotate_left
    · intro u hu
      try dsimp only at hu
      go_simp
      try with_reducible rfl
    try simp only [Act.put, List.setIfInBounds_toArray, List.set_cons_zero, List.set_cons_succ]
    refine UpTo.take 4 [14] (v := ?_) (by (simp only [List.getElem?_toArray, List.getElem?_cons_succ, List.getElem?_cons_zero]; rfl)) (by kernel_rfl) (by kernel_rfl) (by kernel_rfl) (by kernel_rfl) (by exact fun _ _ _ h => h) (Or.inl ⟨by rfl, ?_⟩) hHeld ?_
    rotate_left
    · intro u hu
      try dsimp only at hu
      go_simp
      try with_reducible rfl
    try simp only [Act.put, List.setIfInBounds_toArray, List.set_cons_zero, List.set_cons_succ]
    refine UpTo.take 5 [6, 7, 8, 10, 13, 14] (v := ?_) (by (simp only [List.getElem?_toArray, List.getElem?_cons_succ, List.getElem?_cons_zero]; rfl)) (by kernel_rfl) (by kernel_rfl) (by kernel_rfl) (by kernel_rfl) (by exact fun _ _ _ h => h) (Or.inl ⟨by rfl, ?_⟩) hHeld ?_
    rotate_left
    · intro u hu
      try dsimp only at hu
      go_simp
      try with_reducible rfl
    try simp only [Act.put, List.setIfInBounds_toArray, List.set_cons_zero, List.set_cons_succ]
    refine UpTo.take 6 [7, 8, 10, 13, 14] (v := ?_) (by (simp only [List.getElem?_toArray, List.getElem?_cons_succ, List.getElem?_cons_zero]; rfl)) (by kernel_rfl) (by kernel_rfl) (by kernel_rfl) (by kernel_rfl) (by exact fun _ _ _ h => h) (Or.inl ⟨by rfl, ?_⟩) hHeld ?_
    rotate_left
    · intro u hu
      try dsimp only at hu
      go_simp
      try with_reducible rfl
    try simp only [Act.put, List.setIfInBounds_toArray, List.set_cons_zero, List.set_cons_succ]
    refine UpTo.take 7 [8, 10, 13, 14] (v := ?_) (by (simp only [List.getElem?_toArray, List.getElem?_cons_succ, List.getElem?_cons_zero]; rfl)) (by kernel_rfl) (by kernel_rfl) (by kernel_rfl) (by kernel_rfl) (by exact fun _ _ _ h => h) (Or.inl ⟨by rfl, ?_⟩) hHeld ?_
    rotate_left
    · intro u hu
      try dsimp only at hu
      go_simp
      try with_reducible rfl
    try simp only [Act.put, List.setIfInBounds_toArray, List.set_cons_zero, List.set_cons_succ]
    refine UpTo.take 8 [10, 13, 14] (v := ?_) (by (simp only [List.getElem?_toArray, List.getElem?_cons_succ, List.getElem?_cons_zero]; rfl)) (by kernel_rfl) (by kernel_rfl) (by kernel_rfl) (by kernel_rfl) (by exact fun _ _ _ h => h) (Or.inl ⟨by rfl, ?_⟩) hHeld ?_
    rotate_left
    · intro u hu
      try dsimp only at hu
      go_simp
      try with_reducible rfl
    try simp only [Act.put, List.setIfInBounds_toArray, List.set_cons_zero, List.set_cons_succ]
    refine UpTo.take 9 [10, 13, 14] (v := ?_) (by (simp only [List.getElem?_toArray, List.getElem?_cons_succ, List.getElem?_cons_zero]; rfl)) (by kernel_rfl) (by kernel_rfl) (by kernel_rfl) (by kernel_rfl) (by exact fun _ _ _ h => h) (Or.inl ⟨by rfl, ?_⟩) hHeld ?_
    rotate_left
    · intro u hu
      try dsimp only at hu
      go_simp
      try with_reducible rfl
    try simp only [Act.put, List.setIfInBounds_toArray, List.set_cons_zero, List.set_cons_succ]
    refine UpTo.take 10 [13, 14] (v := ?_) (by (simp only [List.getElem?_toArray, List.getElem?_cons_succ, List.getElem?_cons_zero]; rfl)) (by kernel_rfl) (by kernel_rfl) (by kernel_rfl) (by kernel_rfl) (by exact fun _ _ _ h => h) (Or.inl ⟨by rfl, ?_⟩) hHeld ?_
    rotate_left
    · intro u hu
      try dsimp only at hu
      go_simp
      try with_reducible rfl
    try simp only [Act.put, List.setIfInBounds_toArray, List.set_cons_zero, List.set_cons_succ]
    refine UpTo.take 11 [12, 13, 14] (v := ?_) (by (simp only [List.getElem?_toArray, List.getElem?_cons_succ, List.getElem?_cons_zero]; rfl)) (by kernel_rfl) (by kernel_rfl) (by kernel_rfl) (by kernel_rfl) (by exact fun _ _ _ h => h) (Or.inl ⟨by rfl, ?_⟩) hHeld ?_
    rotate_left
    · intro u hu
      try dsimp only at hu
      go_simp
      try with_reducible rfl
    try simp only [Act.put, List.setIfInBounds_toArray, List.set_cons_zero, List.set_cons_succ]
    refine UpTo.next 12 (by kernel_rfl) (by (simp only [List.getElem?_toArray, List.getElem?_cons_succ, List.getElem?_cons_zero]; rfl)) (fun K hK => ?_)
    go_simp
    have K5 : Kept wd (wd.alloc (.cells #[.pointer (some ⟨tb, 0, none⟩)] 70)) := (Kept.refl _).alloc _
    have hc5 : (wd.alloc (.cells #[.pointer (some ⟨tb, 0, none⟩)] 70)).cell? ⟨wd.heap.size, 0, none⟩ = some (.pointer (some ⟨tb, 0, none⟩)) := range_new wd #[.pointer (some ⟨tb, 0, none⟩)] 70 0 _ rfl
    have K5b := KD.trans K5
    refine hK.out _ _ (fun _ => HSO.out _ K5b) ?_
    clear hK K hHeld
    have HB6 := hide (HB5.out.kept K5b)
    obtain ⟨eb, heb⟩ : ∃ eb, eb = wd.heap.size := ⟨_, rfl⟩
    rw [← heb] at hc5 ⊢
    generalize hwe : wd.alloc (.cells #[.pointer (some ⟨tb, 0, none⟩)] 70) = w6 at hc5 K5b HB6 ⊢
    clear hwe K5 heb
    have hrow6 := HB6.out.wrow n
    rw [Hf.out] at hrow6
    have HR6 := hide hrow6
    have hz6 := HB6.out.kw.size
    clear hrow6
    try simp only [Act.put, List.setIfInBounds_toArray, List.set_cons_zero, List.set_cons_succ]
    refine UpTo.next 13 (by kernel_rfl) (by (simp only [List.getElem?_toArray, List.getElem?_cons_succ, List.getElem?_cons_zero]; rfl)) (fun K hK => ?_)
    refine step_append_lies _ rfl (.tmp 46) (.tmp 48) 124 rfl wz.heap.size 70 ip _ 1 8 Tryz.underlying124 hp0 hp1 hp2 hp3 rfl (by decide) (.slice va (ws2 n).length vc) (ws2 n).length ((ws2 n).map ptrB) rfl HR6.out ⟨eb, 0, none⟩ 1 1 [ptrB tb] rfl rfl (fun j u hu => ?_) (fun u hu => ?_) (by decide) (by unfold maxLen; omega) (by omega) hz6 w6.heap.size rfl ?_
    · match j, hu with
      | 0, hu => simp at hu; subst hu; rw [Addr.add_mid]; exact hc5
      | j + 1, hu => simp at hu
    · simp at hu; subst hu; rfl
    intro g gc w7 ho7 hg7 hv7 hgz7
    rw [← Hf.out] at hg7 hv7
    obtain ⟨w8, hrun, hB8⟩ := HB6.out.wait (s := n) (tb := tb) (by unfold maxLen; omega) ho7 hg7 (fun x e => by simp only [Value.ownBlock, Option.some.injEq] at e; subst e; rcases hv7 with h | h; exact .inl h; exact .inr (Nat.le_of_eq h.symm)) (by omega)
    have HB8 := hide hB8
    have k67 : But (fun b => (f2 n).ownBlock = some b) w6 w7 := But.of_grown hg7 (fun b e => e)
    have HS7b : Hid (w7.cell? ⟨bb, 5, none⟩ = some (.map (some mb)) ∧ (Instr.lookup 131 (.map (some mb)) (.string n) false).run Tryz.prog w7 = .ok (.slice va (ws2 n).length vc) w7) := by
      have w' := w7
      exact ⟨(k67.cell HB6.out.row.lt (fun e => type_ne HB6.out.row.type (owns_type (HB6.out.wrow n) e) (by decide) rfl)).trans HB6.out.c5, by have h := HB6.out.grown_look (s := n) (by unfold maxLen; omega) hg7; rw [Hf.out] at h; exact h⟩
    refine hK.out _ _ (fun _ => HS7b.out) ?_
    clear hK K hB8 ho7 hg7 hv7 k67
    try simp only [Act.put, List.setIfInBounds_toArray, List.set_cons_zero, List.set_cons_succ]
    refine UpTo.next 14 (by kernel_rfl) (by (simp only [List.getElem?_toArray, List.getElem?_cons_succ, List.getElem?_cons_zero]; rfl)) (fun K hK => ?_)
    go_simp
    refine hK.out _ _ (fun h => absurd rfl h) ?_
    clear hK K
    try simp only [Act.put, List.setIfInBounds_toArray, List.set_cons_zero, List.set_cons_succ]
    refine UpTo.done (by kernel_rfl) ?_
    have hT8 := HB8.out.at HJ4.out
    have o9 : w8.cell? ⟨tb, 9, none⟩ = some (.int .i64 (t4.op : Int)) := by rw [← HTb.out]; exact hT8.rng 9 _ rfl
    have uz : tb < w8.heap.size := by rw [← HTb.out]; exact hT8.row.lt
    obtain ⟨_, g9⟩ := hT8.row.row.at (i := 9) (by omega)
    rw [HTb.out] at g9
    have HSt := hide (HB8.out.store (t' := { t4 with op := t4.op + 1 }) HJ4.out (o := 9) (v := .int .i64 ((t4.op + 1 : Nat) : Int)) (by omega) rfl rfl rfl rfl rfl rfl rfl rfl rfl rfl)
    have hnum : ((t4.op + 1 : Nat) : Int) = (t4.op : Int) + 1 := by omega
    rw [hnum, HTb.out] at HSt
    have HFi := hide (HI3.out.wait (n := n) (by rw [HAns.out]; rfl) HNi.out HJ4.out HTb.out HB5.out.tbs (t' := { t4 with op := t4.op + 1 }) HTb.out rfl rfl rfl)
    rw [HTb.out] at HFi
    clear hT8 hnum
    go_wp2
    go_roundw
    case rel => exact ⟨k + 1, _, d3, dc3, _, _, by omega, by go_num, HSt.out, by rw [HTk.out]; exact HFi.out⟩
    case measure => simp [intOf]; omega
end

end Go.Proofs.YtghipdfemoofhaaGreatDoor

namespace Go.Proofs.YtghipdfemoofhaaGreatDoor
open Go.RowKit

def GoodsI (xs : List AnswerD) (w' : World) (e : Ending) : Prop := ∃ (a : Option Addr) (c : Nat), e = .returned (.slice a (goodOf xs).length c) ∧ Strs w' a (goodOf xs)

set_option maxRecDepth 100000 in
set_option maxHeartbeats 3200000 in
theorem goodTexts_any (w : World) (d : Option Addr) (dc : Nat) (xs : List AnswerD) (hxl : xs.length ≤ 1000) (hS : Answers w d xs) :
    Calls Tryz.prog 134 #[.slice d xs.length dc] w fun e w' => GoodsI xs w' e ∧ Kept w w' := by
  obtain ⟨ic, hc0, hc1, hc2, hc3⟩ := xInfo_parts Tryz.xInfoStr
  go_enter Tryz.func134, Tryz.ntmps134
  go_wp2
  go_loopg [3, 8] xs.length (fun gg x3 x8 wr => ∃ (i : Nat) (av : Option Addr) (cv : Nat), x3 = .slice av (goodOf (xs.take i)).length cv ∧ x8 = .int .i64 (i : Int) ∧ i + gg = xs.length ∧ (goodOf (xs.take i)).length ≤ i ∧ Kept w wr ∧ Hid (wr.ownsRow w.heap.size 9 1 (.slice av (goodOf (xs.take i)).length cv) (goodOf (xs.take i)).length ((goodOf (xs.take i)).map Value.string)))
  case atStart => exact ⟨0, none, 0, rfl, rfl, by omega, Nat.le_refl _, Kept.refl _, World.ownsRow_nil _ _ _ _⟩
  case round =>
    obtain ⟨i, av, cv, rfl, rfl, hi, hnl, Kr, HO⟩ := hrel
    by_cases hlt : (i : Int) < (xs.length : Int)
    · have hil : i < xs.length := by omega
      obtain ⟨b, o, rfl, hb, hc⟩ := (hS.kept Kr) i hil
      obtain ⟨x, hx⟩ : ∃ x, x = xs.getD i AnswerD.zero := ⟨_, rfl⟩
      rw [← hx] at hc
      have t0 := hc 0 _ rfl
      have t1 := hc 1 _ rfl
      rw [Nat.add_zero] at t0
      have HT : Hid (xs.take (i + 1) = xs.take i ++ [x]) := by show _ = _; rw [List.take_succ_eq_append_getElem hil, hx]; simp [List.getD, hil]
      obtain ⟨ns, hns⟩ : ∃ ns, ns = goodOf (xs.take i) := ⟨_, rfl⟩
      rw [← hns] at hnl HO ⊢
      have HNs := hide hns
      clear hc hx hns
      obtain ⟨W2, hW2⟩ : ∃ W2, W2 = wr.alloc (.cells #[.bool x.fail, .string x.text] 178) := ⟨_, rfl⟩
      have K2 : Kept wr W2 := by rw [hW2]; exact (Kept.refl _).alloc _
      have q0 : W2.cell? ⟨wr.heap.size, 0, none⟩ = some (.bool x.fail) := by rw [hW2]; exact range_new wr #[.bool x.fail, .string x.text] 178 0 _ rfl
      have q1 : W2.cell? ⟨wr.heap.size, 1, none⟩ = some (.string x.text) := by rw [hW2]; exact range_new wr #[.bool x.fail, .string x.text] 178 1 _ rfl
      have qz : wr.heap.size < W2.heap.size := by rw [hW2]; simp
      go_upto_region 5 with fail
      rw [← hW2]
      clear hW2
      obtain ⟨fb, hfb⟩ : ∃ fb, fb = wr.heap.size := ⟨_, rfl⟩
      rw [← hfb] at q0 q1 qz ⊢
      clear hfb
      have HO2 := hide (ownsRow_kept' HO.out K2)
      have KW2 := Kr.trans K2
      cases hf : x.fail
      · rw [hf] at q0
        have k1 : Kept W2 (W2.alloc (.cells #[.string x.text] 9)) := (Kept.refl _).alloc _
        have HOw := hide (ownsRow_kept' HO2.out k1)
        have KK := hide (KW2.trans k1)
        have hbz : w.heap.size ≤ (W2.alloc (.cells #[.string x.text] 9)).heap.size := KK.out.size
        have HNw : Hid (∀ j u, ([.string x.text] : List Value)[j]? = some u → (W2.alloc (.cells #[.string x.text] 9)).cell? ((⟨W2.heap.size, 0, none⟩ : Addr).add j) = some u) := fun j u hu => by rw [Addr.add_mid]; exact range_new W2 #[.string x.text] 9 j u hu
        have HOne : Hid (∀ u ∈ ([.string x.text] : List Value), u.oneCell' = true) := fun u hu => by simp only [List.mem_cons, List.not_mem_nil, or_false] at hu; subst hu; rfl
        clear k1
        go_wp2_with (at_builtin; refine wpList_append_own _ rfl (.tmp 15) (.tmp 18) 25 rfl w.heap.size 9 ic _ 1 16 Tryz.underlying25 hc0 hc1 hc2 hc3 rfl (by decide) (.slice av ns.length cv) ns.length (ns.map Value.string) rfl HOw.out ⟨W2.heap.size, 0, none⟩ 1 1 [.string x.text] rfl rfl HNw.out HOne.out (by unfold maxLen; omega) (by omega) hbz ?_; intro v' w6 hown2 hgr _; have KP := kept_of_grown KK.out (Nat.le_refl _) HOw.out hgr; have HP := hide hown2; obtain ⟨av2, cv2, rfl⟩ := own_slice hown2; clear hown2 hgr)
        go_roundg (gk - 1)
        case measure => omega
        case rel =>
          have e : goodOf (xs.take (i + 1)) = ns ++ [x.text] := by rw [HT.out, goodOf_snoc, ← HNs.out, hf]; rfl
          exact ⟨i + 1, av2, cv2, by rw [e, List.length_append]; rfl, by go_num, by omega, by rw [e, List.length_append]; show ns.length + 1 ≤ i + 1; omega, KP, hide (by rw [e, List.map_append, List.length_append]; exact HP.out)⟩
      · rw [hf] at q0
        go_wp2
        go_roundg (gk - 1)
        case measure => omega
        case rel =>
          have e : goodOf (xs.take (i + 1)) = ns := by rw [HT.out, goodOf_snoc, ← HNs.out, hf]; simp
          exact ⟨i + 1, av, cv, by rw [e], by go_num, by omega, by rw [e]; omega, KW2, hide (by rw [e]; exact HO2.out)⟩
    · have hie : i = xs.length := by omega
      obtain ⟨a9, c9, e9, h9⟩ := owned_strs HO.out
      simp only [Value.slice.injEq, true_and] at e9
      rw [← e9.1] at h9
      have H9 := hide h9
      clear h9 e9
      go_wp2_with fail
      go_ret
      rw [hie, List.take_length] at H9
      exact ⟨⟨av, cv, rfl, H9.out⟩, Kr⟩

section
variable {G : Ghost} {webl : List NodeD} {wz w w' : World} {bb : Nat} {a : Option Addr} {cap : Nat} {rd : Option Addr} {rn rc : Nat} {mb mx : Nat} {ts : List TaskM} {d : Option Addr} {dc : Nat} {f : ByteArray → Value} {ws : ByteArray → List Nat}
theorem BM.texts (h : BM G webl wz w bb a cap rd rn rc mb mx ts d dc f ws) {i : Nat} {t : TaskM} (hi : ts[i]? = some t) {w1 : World} {v' : Value} {l : List ByteArray} (ho : w1.ownsRow wz.heap.size 9 1 v' (t.r.texts.length + l.length) (t.r.texts.map Value.string ++ l.map Value.string)) (hg : w.grownBy w1 t.tv.ownBlock) (hv : ∀ g, v'.ownBlock = some g → t.tv.ownBlock = some g ∨ w.heap.size ≤ g) :
    BM G webl wz (w1.setCell ⟨t.tb, 6, none⟩ v') bb a cap rd rn rc mb mx (ts.set i { t with tv := v', r := { t.r with texts := t.r.texts ++ l } }) d dc f ws := by
  obtain ⟨hl, rfl⟩ := List.getElem?_eq_some_iff.1 hi
  have hT := h.task _ (List.getElem_mem hl)
  have hn := h.sep2 _ (List.getElem_mem hl)
  have k1 : But (fun b => b = ts[i].tb ∨ b ∈ ts[i].own) w w1 := But.of_grown hg (fun b e => .inr (List.mem_append.2 (.inl (Option.mem_toList.2 e))))
  have k : But (fun b => b = ts[i].tb ∨ b ∈ ts[i].own) w (w1.setCell ⟨ts[i].tb, 6, none⟩ v') := But.set k1 (p := ⟨ts[i].tb, 6, none⟩) (.inl rfl) v'
  have hb1 : w1.heap[ts[i].tb]? = w.heap[ts[i].tb]? := hg.block _ hT.row.lt (fun e => type_ne hT.row.type (owns_type hT.txt e.symm) (by decide) rfl)
  have hr1 : RowT w1 ts[i].tb 77 12 := hT.row.block hb1
  have hc1 : w1.rangeAt ts[i].tb 0 ts[i].cells := fun j u hu => (World.cell?_of_block (w := w) hb1).trans (hT.rng j u hu)
  have ne1 : ∀ {b : Nat}, TypeAt w1 b 9 → b ≠ ts[i].tb := fun hu => type_ne hu hr1.type (by decide)
  have kt : But (fun b => b = ts[i].tb) w1 (w1.setCell ⟨ts[i].tb, 6, none⟩ v') := But.set (S := fun b => b = ts[i].tb) (But.of_kept (Kept.refl w1)) (p := ⟨ts[i].tb, 6, none⟩) rfl v'
  have ask1 : w1.ownsRow wz.heap.size 9 1 ts[i].qv ts[i].qs.length ts[i].qs := (But.of_grown (S := fun b => ts[i].tv.ownBlock = some b) hg (fun b e => e)).owns hT.ask (fun b e e2 => by
    have h1 : b ∈ ts[i].tv.ownBlock.toList := Option.mem_toList.2 e2
    have h2 : b ∈ ts[i].qv.ownBlock.toList := Option.mem_toList.2 e
    unfold TaskM.own at hn
    exact (List.nodup_append.1 hn).2.2 b h1 b h2 rfl)
  refine h.turn hl k (fun b hb => hb) ⟨hr1.set v', range_set hc1 hr1.row (by omega) v', ?_, kt.owns ask1 (fun b e => ne1 (owns_type ask1 e)), hT.low⟩ rfl rfl rfl rfl rfl (fun x hx => ?_) ?_ (by have := h.qb ts[i] (List.getElem_mem hl); exact this)
  · show World.ownsRow _ _ _ _ v' (ts[i].r.texts ++ l).length ((ts[i].r.texts ++ l).map Value.string)
    rw [List.length_append, List.map_append]
    exact kt.owns ho (fun b e => ne1 (owns_type ho e))
  · unfold TaskM.own at hx ⊢
    rcases List.mem_append.1 hx with hx | hx
    · rcases hv x (Option.mem_toList.1 hx) with e | e
      · exact .inl (List.mem_append.2 (.inl (Option.mem_toList.2 e)))
      · exact .inr e
    · exact .inl (List.mem_append.2 (.inr hx))
  · unfold TaskM.own at hn ⊢
    rw [List.nodup_append] at hn ⊢
    refine ⟨?_, hn.2.1, fun x hx y hy => ?_⟩
    · show (v'.ownBlock.toList).Nodup
      cases v'.ownBlock <;> simp
    · rcases hv x (Option.mem_toList.1 hx) with e | e
      · exact hn.2.2 x (Option.mem_toList.2 e) y hy
      · have := (hT.ask.lt y (Option.mem_toList.1 hy)).2
        omega
end
theorem answers_at {W : Acts} {σ : Env} : ∀ {l : List ByteArray} {xs : List AnswerD}, answersOf W σ l = some xs → xs.length = l.length ∧ ∀ k, k < l.length → ansOf W σ (l.getD k ByteArray.empty) = some (xs.getD k AnswerD.zero)
  | [], xs, h => by
    unfold answersOf at h
    cases h
    exact ⟨rfl, fun k hk => absurd hk (Nat.not_lt_zero _)⟩
  | n :: l, xs, h => by
    unfold answersOf at h
    cases ha : ansOf W σ n with
    | none => rw [ha] at h; cases h
    | some x =>
      rw [ha] at h
      simp only at h
      cases hl : answersOf W σ l with
      | none => rw [hl] at h; cases h
      | some ys =>
        rw [hl] at h
        simp only [Option.some.injEq] at h
        subst h
        obtain ⟨h1, h2⟩ := answers_at hl
        refine ⟨by simp [h1], fun k hk => ?_⟩
        cases k with
        | zero => simpa using ha
        | succ k => simpa using h2 k (by simpa using hk)

end Go.Proofs.YtghipdfemoofhaaGreatDoor

namespace Go.Proofs.YtghipdfemoofhaaGreatDoor
open Go.RowKit

section
variable {G : Ghost} {webl : List NodeD} {wz w w' : World} {bb : Nat} {a : Option Addr} {cap : Nat} {rd : Option Addr} {rn rc : Nat} {mb mx : Nat} {ts : List TaskM} {d : Option Addr} {dc : Nat} {f : ByteArray → Value} {ws : ByteArray → List Nat}
def GoOnEnd (G : Ghost) (webl : List NodeD) (wz : World) (bb : Nat) (a : Option Addr) (cap : Nat) (rd : Option Addr) (rn rc mb mx : Nat) (ts : List TaskM) (d : Option Addr) (dc : Nat) (f : ByteArray → Value) (ws : ByteArray → List Nat) (i : Nat) (t : TaskM) (g : GoneD) (xs : List AnswerD) (w' : World) (e : Ending) : Prop :=
  (g.over = true ∧ e = .returned (.bool false) ∧ ∃ bl, (bl ∈ (stepOf ⟨t.cost, t.steps⟩ t.r.at').asks ∧ g.text = (⟨#[98, 101, 108, 111, 119, 32]⟩ : ByteArray) ++ bl) ∧ BM G webl wz w' bb a cap rd rn rc mb mx (decT (ts.set i (({ t with bl := bl } : TaskM).ended true g.text)) (ws t.r.name)) d dc (fun n => if n = t.r.name then .slice none 0 0 else f n) (fun n => if n = t.r.name then [] else ws n)) ∨
  (g.over = false ∧ e = .returned (.bool true) ∧ ∃ tv', BM G webl wz w' bb a cap rd rn rc mb mx (ts.set i { t with tv := tv', r := { t.r with at' := g.at', texts := t.r.texts ++ goodOf xs } }) d dc f ws)

set_option maxRecDepth 100000 in
set_option maxHeartbeats 6400000 in
theorem benchGoOn_any (hB : BM G webl wz w bb a cap rd rn rc mb mx ts d dc f ws) {i : Nat} {t : TaskM} (hi : ts[i]? = some t) (s : StepD) (hs : s = stepOf ⟨t.cost, t.steps⟩ t.r.at') (h0 : 0 ≤ t.r.at') (h1 : t.r.at' < t.steps.length) (hfin : s.fin = false) (xs : List AnswerD) (hxs : answersOf (actsOf webl) (envOf (runsOf ts)) s.asks = some xs) (hxt : ∀ x ∈ xs, x.text.size ≤ 200) (hfo : Followed s xs (goOnF s xs)) (hF : s.Fits) (hal : s.asks.length ≤ 5) (hasz : ∀ x ∈ s.asks, x.size ≤ 20) (hon : s.asks.length ≠ 0 → 0 ≤ s.on ∧ s.on < s.asks.length) (hwl : webl.length ≤ 60) (htx : t.r.texts.length ≤ 1000)
    (hsz : t.r.name.size ≤ 1000) (hwn : (ws t.r.name).length ≤ 1000) (hw : ∀ b ∈ ws t.r.name, ∃ (j : Nat) (u : TaskM), j ≠ i ∧ ts[j]? = some u ∧ u.tb = b ∧ 1 ≤ u.op ∧ u.op ≤ 1000) (hwd : (ws t.r.name).Nodup) :
    Calls Tryz.prog 93 #[.pointer (some ⟨bb, 0, none⟩), .pointer (some ⟨t.tb, 0, none⟩)] w fun e w' => GoOnEnd G webl wz bb a cap rd rn rc mb mx ts d dc f ws i t (goOnF s xs) xs w' e := by
  obtain ⟨ia, ha0, ha1, ha2, ha3⟩ := xInfo_parts Tryz.dInfoAns
  obtain ⟨is, hst0, hst1, hst2, hst3⟩ := xInfo_parts Tryz.xInfoStr
  obtain ⟨ix, hix⟩ : ∃ ix : Nat, t.r.at' = (ix : Int) := ⟨t.r.at'.toNat, by omega⟩
  have hixl : ix < t.steps.length := by omega
  have hT := hB.at hi
  have hact := hB.act t (List.mem_of_getElem? hi)
  obtain ⟨sb, so, cs, esa, hsb, hcs, aa, ca, ac, cc, rfl, hAs, hCs, _⟩ := hact.2 ix hixl
  have hse : t.steps.getD ix StepD.zero = s := by rw [hs]; unfold stepOf; rw [hix]; rfl
  rw [hse] at hcs hAs hCs
  have c8 : w.cell? ⟨t.tb, 8, none⟩ = some (.slice t.sa t.steps.length t.sc) := hT.rng 8 _ rfl
  have c4 : w.cell? ⟨t.tb, 4, none⟩ = some (.int .i64 t.r.at') := hT.rng 4 _ rfl
  rw [esa] at c8
  rw [hix] at c4
  have tz := hT.row.lt
  have sz : sb < w.heap.size := Nat.lt_of_lt_of_le hsb hB.kw.size
  have t0 : w.cell? ⟨sb, so + ix * 8, none⟩ = some (.slice aa s.asks.length ca) := (hB.kw.cell hsb).trans (hcs 0 _ rfl)
  have t1 : w.cell? ⟨sb, so + ix * 8 + 1, none⟩ = some (.int .i64 s.on) := (hB.kw.cell hsb).trans (hcs 1 _ rfl)
  have t2 : w.cell? ⟨sb, so + ix * 8 + 2, none⟩ = some (.slice ac s.cases.length cc) := (hB.kw.cell hsb).trans (hcs 2 _ rfl)
  have t3 : w.cell? ⟨sb, so + ix * 8 + 3, none⟩ = some (.int .i64 s.els) := (hB.kw.cell hsb).trans (hcs 3 _ rfl)
  have t4 : w.cell? ⟨sb, so + ix * 8 + 4, none⟩ = some (.int .i64 s.fall) := (hB.kw.cell hsb).trans (hcs 4 _ rfl)
  have t5 : w.cell? ⟨sb, so + ix * 8 + 5, none⟩ = some (.bool false) := by rw [← hfin]; exact (hB.kw.cell hsb).trans (hcs 5 _ rfl)
  have t6 : w.cell? ⟨sb, so + ix * 8 + 6, none⟩ = some (.bool s.bad) := (hB.kw.cell hsb).trans (hcs 6 _ rfl)
  have t7 : w.cell? ⟨sb, so + ix * 8 + 7, none⟩ = some (.string s.give) := (hB.kw.cell hsb).trans (hcs 7 _ rfl)
  have HSO : Hid (∀ w', Kept w w' → w'.cell? ⟨t.tb, 8, none⟩ = some (.slice (some ⟨sb, so, none⟩) t.steps.length t.sc) ∧ w'.cell? ⟨t.tb, 4, none⟩ = some (.int .i64 (ix : Int)) ∧ w'.cell? ⟨sb, so + ix * 8, none⟩ = some (.slice aa s.asks.length ca) ∧ w'.cell? ⟨sb, so + ix * 8 + 1, none⟩ = some (.int .i64 s.on) ∧ w'.cell? ⟨sb, so + ix * 8 + 2, none⟩ = some (.slice ac s.cases.length cc) ∧ w'.cell? ⟨sb, so + ix * 8 + 3, none⟩ = some (.int .i64 s.els) ∧ w'.cell? ⟨sb, so + ix * 8 + 4, none⟩ = some (.int .i64 s.fall) ∧ w'.cell? ⟨sb, so + ix * 8 + 5, none⟩ = some (.bool false) ∧ w'.cell? ⟨sb, so + ix * 8 + 6, none⟩ = some (.bool s.bad) ∧ w'.cell? ⟨sb, so + ix * 8 + 7, none⟩ = some (.string s.give)) := fun w' K => ⟨(K.cell tz).trans c8, (K.cell tz).trans c4, (K.cell sz).trans t0, (K.cell sz).trans t1, (K.cell sz).trans t2, (K.cell sz).trans t3, (K.cell sz).trans t4, (K.cell sz).trans t5, (K.cell sz).trans t6, (K.cell sz).trans t7⟩
  obtain ⟨hxl, hxa⟩ := answers_at hxs
  have HXa := hide hxa
  have HB := hide hB
  have HI := hide hi
  have HAs := hide hAs
  have HCs := hide hCs
  have HFo := hide hfo
  have HW := hide hw
  have HSe := hide hs
  have hbz := hB.kw.size
  have hii : (ix : Int) < (t.steps.length : Int) := by omega
  have hn6 := hB.len hwl
  clear hB hi hT hact esa hcs hAs hCs hse c8 c4 t0 t1 t2 t3 t4 t5 t6 t7 hxa hfo hw hix hs
  go_enter Tryz.func93, Tryz.ntmps93
  go_upto_region 1 with fail
  refine UpTo.region (by kernel_rfl) (fun w' => w'.cell? ⟨t.tb, 8, none⟩ = some (.slice (some ⟨sb, so, none⟩) t.steps.length t.sc) ∧ w'.cell? ⟨t.tb, 4, none⟩ = some (.int .i64 (ix : Int)) ∧ w'.cell? ⟨sb, so + ix * 8, none⟩ = some (.slice aa s.asks.length ca) ∧ w'.cell? ⟨sb, so + ix * 8 + 1, none⟩ = some (.int .i64 s.on) ∧ w'.cell? ⟨sb, so + ix * 8 + 2, none⟩ = some (.slice ac s.cases.length cc) ∧ w'.cell? ⟨sb, so + ix * 8 + 3, none⟩ = some (.int .i64 s.els) ∧ w'.cell? ⟨sb, so + ix * 8 + 4, none⟩ = some (.int .i64 s.fall) ∧ w'.cell? ⟨sb, so + ix * 8 + 5, none⟩ = some (.bool false) ∧ w'.cell? ⟨sb, so + ix * 8 + 6, none⟩ = some (.bool s.bad) ∧ w'.cell? ⟨sb, so + ix * 8 + 7, none⟩ = some (.string s.give)) 13 (HSO.out _ ((Kept.refl w).drew)) (fun hHeld => ?_)
  have KD : Kept w w.drew := (Kept.refl w).drew
  generalize hwd : w.drew = wd at hHeld KD ⊢
  clear hwd
  refine UpTo.take 0 [1, 2, 3, 4, 10, 11, 13] (v := ?_) (by (simp only [List.getElem?_toArray, List.getElem?_cons_zero]; rfl)) (by kernel_rfl) (by kernel_rfl) (by kernel_rfl) (by kernel_rfl) (by exact fun _ _ _ h => h) (Or.inl ⟨by rfl, ?_⟩) hHeld ?_
  rotate_left
  · intro u hu
    try dsimp only at hu
    go_simp
    try with_reducible rfl
  try simp only [Act.put, List.setIfInBounds_toArray, List.set_cons_zero, List.set_cons_succ]
  refine UpTo.take 1 [2, 3, 4, 10, 11, 13] (v := ?_) (by (simp only [List.getElem?_toArray, List.getElem?_cons_succ, List.getElem?_cons_zero]; rfl)) (by kernel_rfl) (by kernel_rfl) (by kernel_rfl) (by kernel_rfl) (by exact fun _ _ _ h => h) (Or.inl ⟨by rfl, ?_⟩) hHeld ?_
  rotate_left
  · intro u hu
    try dsimp only at hu
    go_simp
    try with_reducible rfl
  try simp only [Act.put, List.setIfInBounds_toArray, List.set_cons_zero, List.set_cons_succ]
  refine UpTo.take 2 [3, 4, 10, 11, 13] (v := ?_) (by (simp only [List.getElem?_toArray, List.getElem?_cons_succ, List.getElem?_cons_zero]; rfl)) (by kernel_rfl) (by kernel_rfl) (by kernel_rfl) (by kernel_rfl) (by exact fun _ _ _ h => h) (Or.inl ⟨by rfl, ?_⟩) hHeld ?_
  rotate_left
  · intro u hu
    try dsimp only at hu
    go_simp
    try with_reducible rfl
  try simp only [Act.put, List.setIfInBounds_toArray, List.set_cons_zero, List.set_cons_succ]
  refine UpTo.take 3 [4, 10, 11, 13] (v := ?_) (by (simp only [List.getElem?_toArray, List.getElem?_cons_succ, List.getElem?_cons_zero]; rfl)) (by kernel_rfl) (by kernel_rfl) (by kernel_rfl) (by kernel_rfl) (by exact fun _ _ _ h => h) (Or.inl ⟨by rfl, ?_⟩) hHeld ?_
  rotate_left
  · intro u hu
    try dsimp only at hu
    go_simp
    try with_reducible rfl
  try simp only [Act.put, List.setIfInBounds_toArray, List.set_cons_zero, List.set_cons_succ]
  refine UpTo.take 4 [10, 11, 13] (v := ?_) (by (simp only [List.getElem?_toArray, List.getElem?_cons_succ, List.getElem?_cons_zero]; rfl)) (by kernel_rfl) (by kernel_rfl) (by kernel_rfl) (by kernel_rfl) (by exact fun _ _ _ h => h) (Or.inl ⟨by rfl, ?_⟩) hHeld ?_
  rotate_left
  · intro u hu
    try dsimp only at hu
    go_simp
    try with_reducible rfl
  try simp only [Act.put, List.setIfInBounds_toArray, List.set_cons_zero, List.set_cons_succ]
  refine UpTo.take 5 [6, 7, 8, 9, 10, 11, 13] (v := ?_) (by (simp only [List.getElem?_toArray, List.getElem?_cons_succ, List.getElem?_cons_zero]; rfl)) (by kernel_rfl) (by kernel_rfl) (by kernel_rfl) (by kernel_rfl) (by exact fun _ _ _ h => h) (Or.inl ⟨by rfl, ?_⟩) hHeld ?_
  rotate_left
  · intro u hu
    try dsimp only at hu
    go_simp
    try with_reducible rfl
  try simp only [Act.put, List.setIfInBounds_toArray, List.set_cons_zero, List.set_cons_succ]
  refine UpTo.take 6 [7, 8, 9, 10, 11, 13] (v := ?_) (by (simp only [List.getElem?_toArray, List.getElem?_cons_succ, List.getElem?_cons_zero]; rfl)) (by kernel_rfl) (by kernel_rfl) (by kernel_rfl) (by kernel_rfl) (by exact fun _ _ _ h => h) (Or.inl ⟨by rfl, ?_⟩) hHeld ?_
  rotate_left
  · intro u hu
    try dsimp only at hu
    go_simp
    try with_reducible rfl
  try simp only [Act.put, List.setIfInBounds_toArray, List.set_cons_zero, List.set_cons_succ]
  refine UpTo.take 7 [8, 9, 10, 11, 13] (v := ?_) (by (simp only [List.getElem?_toArray, List.getElem?_cons_succ, List.getElem?_cons_zero]; rfl)) (by kernel_rfl) (by kernel_rfl) (by kernel_rfl) (by kernel_rfl) (by exact fun _ _ _ h => h) (Or.inl ⟨by rfl, ?_⟩) hHeld ?_
  rotate_left
  · intro u hu
    try dsimp only at hu
    go_simp
    try with_reducible rfl
  try simp only [Act.put, List.setIfInBounds_toArray, List.set_cons_zero, List.set_cons_succ]
  refine UpTo.take 8 [9, 10, 11, 13] (v := ?_) (by (simp only [List.getElem?_toArray, List.getElem?_cons_succ, List.getElem?_cons_zero]; rfl)) (by kernel_rfl) (by kernel_rfl) (by kernel_rfl) (by kernel_rfl) (by exact fun _ _ _ h => h) (Or.inl ⟨by rfl, ?_⟩) hHeld ?_
  rotate_left
  · intro u hu
    try dsimp only at hu
    go_simp
    try with_reducible rfl
  try simp only [Act.put, List.setIfInBounds_toArray, List.set_cons_zero, List.set_cons_succ]
  refine UpTo.take 9 [10, 11, 13] (v := ?_) (by (simp only [List.getElem?_toArray, List.getElem?_cons_succ, List.getElem?_cons_zero]; rfl)) (by kernel_rfl) (by kernel_rfl) (by kernel_rfl) (by kernel_rfl) (by exact fun _ _ _ h => h) (Or.inl ⟨by rfl, ?_⟩) hHeld ?_
  rotate_left
  · intro u hu
    try dsimp only at hu
    go_simp
    try with_reducible rfl
  try simp only [Act.put, List.setIfInBounds_toArray, List.set_cons_zero, List.set_cons_succ]
  refine UpTo.take 10 [11, 13] (v := ?_) (by (simp only [List.getElem?_toArray, List.getElem?_cons_succ, List.getElem?_cons_zero]; rfl)) (by kernel_rfl) (by kernel_rfl) (by kernel_rfl) (by kernel_rfl) (by exact fun _ _ _ h => h) (Or.inl ⟨by rfl, ?_⟩) hHeld ?_
  rotate_left
  · intro u hu
    try dsimp only at hu
    go_simp
    try with_reducible rfl
  try simp only [Act.put, List.setIfInBounds_toArray, List.set_cons_zero, List.set_cons_succ]
  refine UpTo.take 11 [13] (v := ?_) (by (simp only [List.getElem?_toArray, List.getElem?_cons_succ, List.getElem?_cons_zero]; rfl)) (by kernel_rfl) (by kernel_rfl) (by kernel_rfl) (by kernel_rfl) (by exact fun _ _ _ h => h) (Or.inl ⟨by rfl, ?_⟩) hHeld ?_
  rotate_left
  · intro u hu
    try dsimp only at hu
    go_simp
    try with_reducible rfl
  try simp only [Act.put, List.setIfInBounds_toArray, List.set_cons_zero, List.set_cons_succ]
  refine UpTo.next 12 (by kernel_rfl) (by (simp only [List.getElem?_toArray, List.getElem?_cons_succ, List.getElem?_cons_zero]; rfl)) (fun K hK => ?_)
  go_simp
  have K2 : Kept wd (wd.alloc (.cells #[.slice none 0 0, .int .i64 0, .slice none 0 0, .int .i64 0, .int .i64 0, .bool false, .bool false, .string ⟨#[]⟩] 99)) := (Kept.refl _).alloc _
  have hRw : RowT (wd.alloc (.cells #[.slice none 0 0, .int .i64 0, .slice none 0 0, .int .i64 0, .int .i64 0, .bool false, .bool false, .string ⟨#[]⟩] 99)) wd.heap.size 99 8 := RowT.made wd _ _
  have KE := KD.trans K2
  have nz := KD.size
  obtain ⟨gb, hgb⟩ : ∃ gb, gb = wd.heap.size := ⟨_, rfl⟩
  refine hK.out _ _ (fun _ => HSO.out _ KE) ?_
  clear hK K hHeld
  rw [← hgb] at hRw nz ⊢
  generalize hwe : wd.alloc (.cells #[.slice none 0 0, .int .i64 0, .slice none 0 0, .int .i64 0, .int .i64 0, .bool false, .bool false, .string ⟨#[]⟩] 99) = wE at hRw KE ⊢
  clear hwe K2 hgb
  try simp only [Act.put, List.setIfInBounds_toArray, List.set_cons_zero, List.set_cons_succ]
  obtain ⟨⟨_, v0⟩, f0⟩ := hRw.row.at (i := 0) (by omega)
  obtain ⟨⟨_, v1⟩, f1⟩ := hRw.row.at (i := 1) (by omega)
  obtain ⟨⟨_, v2⟩, f2⟩ := hRw.row.at (i := 2) (by omega)
  obtain ⟨⟨_, v3⟩, f3⟩ := hRw.row.at (i := 3) (by omega)
  obtain ⟨⟨_, v4⟩, f4⟩ := hRw.row.at (i := 4) (by omega)
  obtain ⟨⟨_, v5⟩, f5⟩ := hRw.row.at (i := 5) (by omega)
  obtain ⟨⟨_, v6⟩, f6⟩ := hRw.row.at (i := 6) (by omega)
  obtain ⟨⟨_, v7⟩, f7⟩ := hRw.row.at (i := 7) (by omega)
  have vz := hRw.lt
  refine UpTo.next 13 (by kernel_rfl) (by (simp only [List.getElem?_toArray, List.getElem?_cons_succ, List.getElem?_cons_zero]; rfl)) (fun K hK => ?_)
  go_simp
  refine hK.out _ _ (fun h => absurd rfl h) ?_
  clear hK K
  try simp only [Act.put, List.setIfInBounds_toArray, List.set_cons_zero, List.set_cons_succ]
  refine UpTo.done (by kernel_rfl) ?_
  have HR2 := hide (World.rangeAt_setCells_same wE gb 0 [.slice aa s.asks.length ca, .int .i64 s.on, .slice ac s.cases.length cc, .int .i64 s.els, .int .i64 s.fall, .bool false, .bool s.bad, .string s.give] (hRw.row.there (o := 0) (m := 8) (Nat.le_refl _)))
  have HK2 := hide (kept_sets (g := gb) nz [.slice aa s.asks.length ca, .int .i64 s.on, .slice ac s.cases.length cc, .int .i64 s.els, .int .i64 s.fall, .bool false, .bool s.bad, .string s.give] 0 KE)
  have HRw2 := hide (RowT.sets [.slice aa s.asks.length ca, .int .i64 s.on, .slice ac s.cases.length cc, .int .i64 s.els, .int .i64 s.fall, .bool false, .bool s.bad, .string s.give] 0 hRw)
  obtain ⟨w2, hw2⟩ : ∃ w2, w2 = wE.setCells gb 0 [.slice aa s.asks.length ca, .int .i64 s.on, .slice ac s.cases.length cc, .int .i64 s.els, .int .i64 s.fall, .bool false, .bool s.bad, .string s.give] := ⟨_, rfl⟩
  rw [← hw2] at HR2 HK2 HRw2
  go_upto_region 2 with fail
  have e2 : ((((((((wE.setCell ⟨gb, 0, none⟩ (.slice aa s.asks.length ca)).setCell ⟨gb, 1, none⟩ (.int .i64 s.on)).setCell ⟨gb, 2, none⟩ (.slice ac s.cases.length cc)).setCell ⟨gb, 3, none⟩ (.int .i64 s.els)).setCell ⟨gb, 4, none⟩ (.int .i64 s.fall)).setCell ⟨gb, 5, none⟩ (.bool false)).setCell ⟨gb, 6, none⟩ (.bool s.bad)).setCell ⟨gb, 7, none⟩ (.string s.give)) = w2 := by rw [hw2]; rfl
  rw [e2]
  clear e2 hw2 v0 v1 v2 v3 v4 v5 v6 v7 f0 f1 f2 f3 f4 f5 f6 f7 vz hRw KE nz KD
  have HB2 := hide (HB.out.kept HK2.out)
  have q0 : w2.cell? ⟨gb, 0, none⟩ = some (.slice aa s.asks.length ca) := HR2.out 0 _ rfl
  have gz := HRw2.out.lt
  have HSL : Hid (∀ w', Kept w2 w' → w'.cell? ⟨gb, 0, none⟩ = some (.slice aa s.asks.length ca) ∧ w'.cell? ⟨gb, 1, none⟩ = some (.int .i64 s.on) ∧ w'.cell? ⟨gb, 2, none⟩ = some (.slice ac s.cases.length cc) ∧ w'.cell? ⟨gb, 3, none⟩ = some (.int .i64 s.els) ∧ w'.cell? ⟨gb, 4, none⟩ = some (.int .i64 s.fall) ∧ w'.cell? ⟨gb, 5, none⟩ = some (.bool false) ∧ w'.cell? ⟨gb, 6, none⟩ = some (.bool s.bad) ∧ w'.cell? ⟨gb, 7, none⟩ = some (.string s.give)) := fun w' K => ⟨(K.cell gz).trans (HR2.out 0 _ rfl), (K.cell gz).trans (HR2.out 1 _ rfl), (K.cell gz).trans (HR2.out 2 _ rfl), (K.cell gz).trans (HR2.out 3 _ rfl), (K.cell gz).trans (HR2.out 4 _ rfl), (K.cell gz).trans (HR2.out 5 _ rfl), (K.cell gz).trans (HR2.out 6 _ rfl), (K.cell gz).trans (HR2.out 7 _ rfl)⟩
  go_wp2
  go_loopg [6, 27] s.asks.length (fun gg x6 x27 wr => ∃ (k : Nat) (av : Option Addr) (cv : Nat), x6 = .slice av k cv ∧ x27 = .int .i64 (k : Int) ∧ k + gg = s.asks.length ∧ Kept w2 wr ∧ Hid (wr.ownsRow w2.heap.size 178 2 (.slice av k cv) k (dAnsCells (xs.take k))))
  case atStart => exact ⟨0, none, 0, rfl, rfl, by omega, Kept.refl _, World.ownsRow_nil _ _ _ _⟩
  case round =>
    obtain ⟨k, av, cv, rfl, rfl, hkg, Kr, HO⟩ := hrel
    by_cases hlt : (k : Int) < (s.asks.length : Int)
    · have hkl : k < s.asks.length := by omega
      obtain ⟨n, hn⟩ : ∃ n, n = s.asks.getD k ByteArray.empty := ⟨_, rfl⟩
      obtain ⟨x, hx⟩ : ∃ x, x = xs.getD k AnswerD.zero := ⟨_, rfl⟩
      have hans := HXa.out k hkl
      rw [← hn, ← hx] at hans
      obtain ⟨b, o, rfl, hb0, hc0⟩ := HAs.out k hkl
      rw [← hn] at hc0
      have KWr := HB.out.kw.trans (HK2.out.trans Kr)
      have c0 : wr.cell? ⟨b, o + k, none⟩ = some (.string n) := (KWr.cell hb0).trans hc0
      have hnsz : n.size ≤ 20 := by rw [hn]; simp only [List.getD, List.getElem?_eq_getElem hkl, Option.getD_some]; exact hasz _ (List.getElem_mem hkl)
      have HTk : Hid (xs.take (k + 1) = xs.take k ++ [x]) := by
        show _ = _
        rw [List.take_succ_eq_append_getElem (by omega), hx]
        simp [List.getD, (by omega : k < xs.length)]
      have HAn : Hid ((∃ t ∈ ts, t.r.name = n) ∨ actsOf webl n = none) := by
        cases hA : actsOf webl n with
        | none => exact .inr rfl
        | some A =>
          refine .inl ?_
          unfold ansOf at hans
          rw [hA] at hans
          simp only at hans
          cases he : envOf (runsOf ts) n with
          | none => rw [he] at hans; cases hans
          | some r =>
            obtain ⟨h1, h2⟩ := env_mem he
            obtain ⟨u, hu, rfl⟩ := List.mem_map.1 h1
            exact ⟨u, hu, h2⟩
      have HAns := hide hans
      clear hn hx hans hc0
      go_wp2_with fail
      refine (benchAnswer_any (HB2.out.kept Kr) n (by omega) (by omega) HAn.out).mono ?_
      rintro e w4 ⟨⟨fa, tx, ok, rfl, ha4⟩, k4⟩
      rw [HAns.out] at ha4
      cases ok
      · simp at ha4
      simp only [if_true, Option.some.injEq] at ha4
      have K4 := Kr.trans k4
      have HO4 := hide (ownsRow_kept' HO.out k4)
      have HX : Hid (x = ⟨fa, tx⟩) := ha4
      clear ha4 c0
      obtain ⟨W5, hW5⟩ : ∃ W5, W5 = (w4.alloc (.cells #[.bool fa, .string tx] 178)).alloc (.cells #[.bool fa, .string tx] 178) := ⟨_, rfl⟩
      have K5 : Kept w4 W5 := by rw [hW5]; exact ((Kept.refl _).alloc _).alloc _
      have HOw := hide (ownsRow_kept' HO4.out K5)
      have KK := hide (K4.trans K5)
      have hbz5 : w2.heap.size ≤ W5.heap.size := KK.out.size
      have HNw : Hid (∀ j u, ([.bool fa, .string tx] : List Value)[j]? = some u → W5.cell? ((⟨w4.heap.size + 1, 0, none⟩ : Addr).add j) = some u) := fun j u hu => by
        rw [Addr.add_mid, hW5]
        have := range_new (w4.alloc (.cells #[.bool fa, .string tx] 178)) #[.bool fa, .string tx] 178 j u hu
        rw [World.size_alloc] at this
        exact this
      have HOne : Hid (∀ u ∈ ([.bool fa, .string tx] : List Value), u.oneCell' = true) := fun u hu => by simp only [List.mem_cons, List.not_mem_nil, or_false] at hu; rcases hu with rfl | rfl <;> rfl
      have hk5 : k ≤ 5 := by omega
      have HW5 := hide hW5
      clear hW5
      go_wp2_with (at_builtin; rw [← HW5.out]; refine wpList_append_own _ rfl (.tmp 37) (.tmp 39) 162 rfl w2.heap.size 178 ia _ 2 24 Tryz.underlying162 ha0 ha1 ha2 ha3 rfl (by decide) (.slice av k cv) k (dAnsCells (xs.take k)) rfl HOw.out ⟨w4.heap.size + 1, 0, none⟩ 1 1 [.bool fa, .string tx] rfl rfl HNw.out HOne.out (by unfold maxLen; omega) (by omega) hbz5 ?_; intro v' w6 hown2 hgr _; have KP := kept_of_grown KK.out (Nat.le_refl _) HOw.out hgr; have HP := hide hown2; obtain ⟨av2, cv2, rfl⟩ := own_slice hown2; clear hown2 hgr)
      go_roundg (gk - 1)
      case measure => omega
      case rel => exact ⟨k + 1, av2, cv2, rfl, by go_num, by omega, KP, hide (by rw [HTk.out, dAnsCells_snoc, HX.out]; exact HP.out)⟩
    · have hxk : xs.length = k := by omega
      have HXk := hide hxk
      have hO := HO.out
      rw [List.take_of_length_le (by omega)] at hO
      obtain ⟨a9, c9, e9, _, hTA⟩ := d_tans_of_owned hO
      simp only [Value.slice.injEq] at e9
      obtain ⟨rfl, hq9, rfl⟩ := e9
      clear hq9
      have HTA := hide hTA
      have HAn0 := hide hTA.answers
      obtain ⟨u0, u1, u2, u3, u4, u5, u6, u7⟩ := HSL.out wr Kr
      have gzr := Nat.lt_of_lt_of_le gz Kr.size
      clear hO hTA q0 hxk
      go_wp2_with fail
      refine (kindOf_ask wr s aa ac ca cc).mono ?_
      rintro e w5 ⟨rfl, k5⟩
      have K5 := Kr.trans k5
      clear u0 u1 u2 u3 u4 u5 u6 u7
      go_wp2_with fail
      have hfol := follow_ask w5 s hfin aa ac av ca cc cv xs hF (HAs.out.kept (HB.out.kw.trans (HK2.out.trans K5))) (HCs.out.kept (HB.out.kw.trans (HK2.out.trans K5))) (by unfold maxLen; omega) (fun c hc => by have := hxt c hc; unfold maxLen; omega) (HAn0.out.kept k5) hon (fun q hq => by simp only [List.getD, List.getElem?_eq_getElem hq, Option.getD_some]; exact hasz _ (List.getElem_mem hq))
      rw [HXk.out] at hfol
      refine hfol.mono ?_
      rintro e w6 ⟨⟨g, rfl, hfg⟩, k6⟩
      have hgg : goOnF s xs = g := HFo.out.unique hfg
      have HGG := hide hgg
      have HFg := hide hfg
      dsimp only [GoneD.cells]
      have K6 := K5.trans k6
      clear hfol hfg hgg
      obtain ⟨w7, hw7⟩ : ∃ w7, w7 = w6.alloc (.cells #[.int .i64 g.code, .bool g.over, .int .i64 g.at', .string g.text] 173) := ⟨_, rfl⟩
      have K67 : Kept w6 w7 := by rw [hw7]; exact (Kept.refl _).alloc _
      have p1 : w7.cell? ⟨w6.heap.size, 1, none⟩ = some (.bool g.over) := by rw [hw7]; exact range_new w6 #[.int .i64 g.code, .bool g.over, .int .i64 g.at', .string g.text] 173 1 _ rfl
      have p2 : w7.cell? ⟨w6.heap.size, 2, none⟩ = some (.int .i64 g.at') := by rw [hw7]; exact range_new w6 #[.int .i64 g.code, .bool g.over, .int .i64 g.at', .string g.text] 173 2 _ rfl
      have p3 : w7.cell? ⟨w6.heap.size, 3, none⟩ = some (.string g.text) := by rw [hw7]; exact range_new w6 #[.int .i64 g.code, .bool g.over, .int .i64 g.at', .string g.text] 173 3 _ rfl
      have hz67 : w6.heap.size < w7.heap.size := by rw [hw7]; simp
      go_upto_region 10 with fail
      rw [← hw7]
      clear hw7
      have K7 := K6.trans K67
      have k57 : Kept wr w7 := (k5.trans k6).trans K67
      have HAn := HAn0
      have HAs8 : Hid (∀ (v : Value) (b : Nat), b < w2.heap.size → Answers (w7.setCell ⟨b, 4, none⟩ v) av xs) := fun v b hb => by
        have h1 := ownsRow_kept' HO.out k57
        rw [List.take_of_length_le (by have := HXk.out; omega)] at h1
        obtain ⟨a9, c9, e9, _, hTA⟩ := d_tans_of_owned (owns_set h1 (p := ⟨b, 4, none⟩) hb v)
        simp only [Value.slice.injEq] at e9
        rw [e9.1]
        exact hTA.answers
      cases hgo : g.over
      · rw [hgo] at p1
        have hB7 := HB2.out.kept K7
        have hT7 := hB7.at HI.out
        obtain ⟨⟨_, x4⟩, f4⟩ := hT7.row.row.at (i := 4) (by omega)
        have tz7 := hT7.row.lt
        have HB8 := hide (hB7.store (t' := { t with r := { t.r with at' := g.at' } }) HI.out (o := 4) (v := .int .i64 g.at') (by omega) rfl rfl rfl rfl rfl rfl rfl rfl rfl rfl)
        clear hB7 hT7
        go_upto_region 15 with fail
        obtain ⟨w8, hw8⟩ : ∃ w8, w8 = w7.setCell ⟨t.tb, 4, none⟩ (.int .i64 g.at') := ⟨_, rfl⟩
        have htn8 : t.tb < w2.heap.size := Nat.lt_of_lt_of_le tz HK2.out.size
        have HA8 : Hid (Answers w8 av xs) := by rw [hw8]; exact HAs8.out _ _ htn8
        rw [← hw8] at HB8 ⊢
        clear hw8 x4 f4 tz7 p1 p2 p3
        have hil : i < ts.length := (List.getElem?_eq_some_iff.1 HI.out).1
        have HI8 : Hid ((ts.set i { t with r := { t.r with at' := g.at' } })[i]? = some { t with r := { t.r with at' := g.at' } }) := List.getElem?_set_self hil
        have HT8 := hide (HB8.out.at HI8.out)
        obtain ⟨ta, tc, htv⟩ := own_slice HT8.out.txt
        have Htv := hide htv
        have HS15 : Hid (∀ w', Kept w8 w' → w'.cell? ⟨t.tb, 6, none⟩ = some (t.tv)) := fun w' K => ((HB8.out.kept K).at HI8.out).rng 6 _ rfl
        refine UpTo.region (by kernel_rfl) (fun w' => w'.cell? ⟨t.tb, 6, none⟩ = some (t.tv)) 12 (HS15.out _ ((Kept.refl w8).drew)) (fun hHeld => ?_)
        have KD : Kept w8 w8.drew := (Kept.refl w8).drew
        generalize hwd : w8.drew = wd at hHeld KD ⊢
        clear hwd
        refine UpTo.take 0 [9, 10, 11, 12] (v := ?_) (by (simp only [List.getElem?_toArray, List.getElem?_cons_zero]; rfl)) (by kernel_rfl) (by kernel_rfl) (by kernel_rfl) (by kernel_rfl) (by exact fun _ _ _ h => h) (Or.inl ⟨by rfl, ?_⟩) hHeld ?_
        rotate_left
        · intro u hu
          try dsimp only at hu
          go_simp
          try with_reducible rfl
        try simp only [Act.put, List.setIfInBounds_toArray, List.set_cons_zero, List.set_cons_succ]
        refine UpTo.take 1 [2, 3, 4, 5, 8, 9, 10, 11, 12] (v := ?_) (by (simp only [List.getElem?_toArray, List.getElem?_cons_succ, List.getElem?_cons_zero]; rfl)) (by kernel_rfl) (by kernel_rfl) (by kernel_rfl) (by kernel_rfl) (by exact fun _ _ _ h => h) (Or.inl ⟨by rfl, ?_⟩) hHeld ?_
        rotate_left
        · intro u hu
          try dsimp only at hu
          go_simp
          try with_reducible rfl
        try simp only [Act.put, List.setIfInBounds_toArray, List.set_cons_zero, List.set_cons_succ]
        refine UpTo.take 2 [3, 4, 5, 8, 9, 10, 11, 12] (v := ?_) (by (simp only [List.getElem?_toArray, List.getElem?_cons_succ, List.getElem?_cons_zero]; rfl)) (by kernel_rfl) (by kernel_rfl) (by kernel_rfl) (by kernel_rfl) (by exact fun _ _ _ h => h) (Or.inl ⟨by rfl, ?_⟩) hHeld ?_
        rotate_left
        · intro u hu
          try dsimp only at hu
          go_simp
          try with_reducible rfl
        try simp only [Act.put, List.setIfInBounds_toArray, List.set_cons_zero, List.set_cons_succ]
        refine UpTo.take 3 [4, 5, 8, 9, 10, 11, 12] (v := ?_) (by (simp only [List.getElem?_toArray, List.getElem?_cons_succ, List.getElem?_cons_zero]; rfl)) (by kernel_rfl) (by kernel_rfl) (by kernel_rfl) (by kernel_rfl) (by exact fun _ _ _ h => h) (Or.inl ⟨by rfl, ?_⟩) hHeld ?_
        rotate_left
        · intro u hu
          try dsimp only at hu
          go_simp
          try with_reducible rfl
        try simp only [Act.put, List.setIfInBounds_toArray, List.set_cons_zero, List.set_cons_succ]
        refine UpTo.take 4 [5, 8, 9, 10, 11, 12] (v := ?_) (by (simp only [List.getElem?_toArray, List.getElem?_cons_succ, List.getElem?_cons_zero]; rfl)) (by kernel_rfl) (by kernel_rfl) (by kernel_rfl) (by kernel_rfl) (by exact fun _ _ _ h => h) (Or.inl ⟨by rfl, ?_⟩) hHeld ?_
        rotate_left
        · intro u hu
          try dsimp only at hu
          go_simp
          try with_reducible rfl
        try simp only [Act.put, List.setIfInBounds_toArray, List.set_cons_zero, List.set_cons_succ]
        refine UpTo.take 5 [8, 9, 10, 11, 12] (v := ?_) (by (simp only [List.getElem?_toArray, List.getElem?_cons_succ, List.getElem?_cons_zero]; rfl)) (by kernel_rfl) (by kernel_rfl) (by kernel_rfl) (by kernel_rfl) (by exact fun _ _ _ h => h) (Or.inl ⟨by rfl, ?_⟩) hHeld ?_
        rotate_left
        · intro u hu
          try dsimp only at hu
          go_simp
          try with_reducible rfl
        try simp only [Act.put, List.setIfInBounds_toArray, List.set_cons_zero, List.set_cons_succ]
        refine UpTo.take 6 [7, 8, 9, 10, 11, 12] (v := ?_) (by (simp only [List.getElem?_toArray, List.getElem?_cons_succ, List.getElem?_cons_zero]; rfl)) (by kernel_rfl) (by kernel_rfl) (by kernel_rfl) (by kernel_rfl) (by exact fun _ _ _ h => h) (Or.inl ⟨by rfl, ?_⟩) hHeld ?_
        rotate_left
        · intro u hu
          try dsimp only at hu
          go_simp
          try with_reducible rfl
        try simp only [Act.put, List.setIfInBounds_toArray, List.set_cons_zero, List.set_cons_succ]
        refine UpTo.next 7 (by kernel_rfl) (by (simp only [List.getElem?_toArray, List.getElem?_cons_succ, List.getElem?_cons_zero]; rfl)) (fun K hK => ?_)
        rw [if_pos (by rfl)]
        go_simp
        go_at_call 134
        have hgt := goodTexts_any wd av cv xs (by omega) (HA8.out.kept KD)
        rw [HXk.out] at hgt
        refine hgt.mono ?_
        rintro e w9 ⟨⟨ga, gc, rfl, hG9⟩, k9⟩
        have K9 := KD.trans k9
        have HB9 := hide (HB8.out.kept K9)
        have HT9 := hide (HB9.out.at HI8.out)
        have HG9 := hide hG9
        have hz9 := HB9.out.kw.size
        have hgl : (goodOf xs).length ≤ 5 := by have := List.length_filter_le (fun x : AnswerD => !x.fail) xs; unfold goodOf; rw [List.length_map]; omega
        refine hK.out _ _ (fun _ => HS15.out _ K9) ?_
        clear hK K hHeld hgt hG9
        try simp only [Act.put, List.setIfInBounds_toArray, List.set_cons_zero, List.set_cons_succ]
        refine UpTo.next 8 (by kernel_rfl) (by (simp only [List.getElem?_toArray, List.getElem?_cons_succ, List.getElem?_cons_zero]; rfl)) (fun K hK => ?_)
        rw [if_pos (by rfl)]
        refine wp_append_strs (.tmp 73) (.tmp 75) 25 rfl wz.heap.size 9 is _ 16 Tryz.underlying25 hst0 hst1 hst2 hst3 rfl t.tv t.r.texts.length (t.r.texts.map Value.string) rfl HT9.out.txt ga gc (goodOf xs) rfl HG9.out (by unfold maxLen; omega) (by omega) hz9 ?_
        intro v' wA hoA hgA hvA
        obtain ⟨va, vc, rfl⟩ := own_slice hoA
        have HBA := hide (HB9.out.texts (l := goodOf xs) HI8.out hoA hgA hvA)
        have hbA : wA.heap[t.tb]? = w9.heap[t.tb]? := hgA.block _ HT9.out.row.lt (fun e => type_ne HT9.out.row.type (owns_type HT9.out.txt e.symm) (by decide) rfl)
        have hrA : RowT wA t.tb 77 12 := HT9.out.row.block hbA
        have HSA : Hid (wA.cell? ⟨t.tb, 6, none⟩ = some t.tv) := (World.cell?_of_block (w := w9) hbA).trans (HT9.out.rng 6 _ rfl)
        obtain ⟨⟨_, x6⟩, f6⟩ := hrA.row.at (i := 6) (by omega)
        have tzA := hrA.lt
        refine hK.out _ _ (fun _ => HSA.out) ?_
        clear hK K hoA hgA hvA hbA hrA
        have hHeld := HSA.out
        try simp only [Act.put, List.setIfInBounds_toArray, List.set_cons_zero, List.set_cons_succ]
        refine UpTo.take 9 [10, 11, 12] (v := ?_) (by (simp only [List.getElem?_toArray, List.getElem?_cons_succ, List.getElem?_cons_zero]; rfl)) (by kernel_rfl) (by kernel_rfl) (by kernel_rfl) (by kernel_rfl) (by exact fun _ _ _ h => h) (Or.inl ⟨by rfl, ?_⟩) hHeld ?_
        rotate_left
        · intro u hu
          try dsimp only at hu
          go_simp
          try with_reducible rfl
        try simp only [Act.put, List.setIfInBounds_toArray, List.set_cons_zero, List.set_cons_succ]
        refine UpTo.take 10 [11, 12] (v := ?_) (by (simp only [List.getElem?_toArray, List.getElem?_cons_succ, List.getElem?_cons_zero]; rfl)) (by kernel_rfl) (by kernel_rfl) (by kernel_rfl) (by kernel_rfl) (by exact fun _ _ _ h => h) (Or.inl ⟨by rfl, ?_⟩) hHeld ?_
        rotate_left
        · intro u hu
          try dsimp only at hu
          go_simp
          try with_reducible rfl
        try simp only [Act.put, List.setIfInBounds_toArray, List.set_cons_zero, List.set_cons_succ]
        refine UpTo.take 11 [12] (v := ?_) (by (simp only [List.getElem?_toArray, List.getElem?_cons_succ, List.getElem?_cons_zero]; rfl)) (by kernel_rfl) (by kernel_rfl) (by kernel_rfl) (by kernel_rfl) (by exact fun _ _ _ h => h) (Or.inl ⟨by rfl, ?_⟩) hHeld ?_
        rotate_left
        · intro u hu
          try dsimp only at hu
          go_simp
          try with_reducible rfl
        try simp only [Act.put, List.setIfInBounds_toArray, List.set_cons_zero, List.set_cons_succ]
        refine UpTo.next 12 (by kernel_rfl) (by (simp only [List.getElem?_toArray, List.getElem?_cons_succ, List.getElem?_cons_zero]; rfl)) (fun K hK => ?_)
        go_simp
        refine hK.out _ _ (fun h => absurd rfl h) ?_
        clear hK K hHeld
        try simp only [Act.put, List.setIfInBounds_toArray, List.set_cons_zero, List.set_cons_succ]
        refine UpTo.done (by kernel_rfl) ?_
        have hBA := HBA.out
        rw [List.set_set] at hBA
        have HBB := hide hBA
        clear hBA
        go_wp2_with fail
        go_ret
        rw [HGG.out]
        exact .inr ⟨hgo, rfl, .slice va (t.r.texts.length + (goodOf xs).length) vc, HBB.out⟩
      · rw [hgo] at p1
        obtain ⟨q, hql, hqf, hqn, hqt⟩ : ∃ q, q < xs.length ∧ IsFail (xs.getD q AnswerD.zero) ∧ NoneTo xs IsFail q ∧ g.text = belowOf s q := by
          rcases HFg.out with ⟨_, e⟩ | ⟨_, ⟨q, h1, h2, h3, ⟨_, e⟩ | ⟨_, e⟩⟩ | ⟨_, r, _, e⟩⟩
          · rw [e] at hgo; cases hgo
          · exact ⟨q, h1, h2, h3, by rw [e]⟩
          · rw [e] at hgo; cases hgo
          · rw [e] at hgo; cases hgo
        have hqa : q < s.asks.length := by omega
        obtain ⟨b, o, rfl, hb0, hc0⟩ := HAs.out q hqa
        obtain ⟨nm, hnm⟩ : ∃ nm, nm = s.asks.getD q ByteArray.empty := ⟨_, rfl⟩
        rw [← hnm] at hc0
        have HBl : Hid (nm ∈ (stepOf ⟨t.cost, t.steps⟩ t.r.at').asks ∧ g.text = (⟨#[98, 101, 108, 111, 119, 32]⟩ : ByteArray) ++ nm) := by
          refine ⟨?_, by rw [hqt, hnm]; rfl⟩
          rw [← HSe.out, hnm]
          simp only [List.getD, List.getElem?_eq_getElem hqa, Option.getD_some]
          exact List.getElem_mem hqa
        have HS11 : Hid (∀ w', Kept w7 w' → w'.cell? ⟨gb, 0, none⟩ = some (.slice (some ⟨b, o, none⟩) s.asks.length ca) ∧ w'.cell? ⟨b, o + q, none⟩ = some (.string nm)) := fun w' K => ⟨(HSL.out w' (K7.trans K)).1, ((HB.out.kw.trans (HK2.out.trans (K7.trans K))).cell hb0).trans hc0⟩
        have HFq : Hid (∀ r, FirstAt xs IsFail r → r = (q : Int)) := fun r hr => by
          rcases hr with ⟨j, hj, rfl, hp, hn⟩ | ⟨_, hn⟩
          · rcases Nat.lt_trichotomy j q with h | h | h
            · exact absurd hp (hqn j h)
            · rw [h]
            · exact absurd hqf (hn q h)
          · exact absurd hqf (hn q hql)
        have hqi : (q : Int) < (s.asks.length : Int) := by omega
        clear hc0 hnm hqf hqn hqt
        go_upto_region 11 with fail
        refine UpTo.region (by kernel_rfl) (fun w' => w'.cell? ⟨gb, 0, none⟩ = some (.slice (some ⟨b, o, none⟩) s.asks.length ca) ∧ w'.cell? ⟨b, o + q, none⟩ = some (.string nm)) 9 (HS11.out _ ((Kept.refl w7).drew)) (fun hHeld => ?_)
        have KD : Kept w7 w7.drew := (Kept.refl w7).drew
        generalize hwd : w7.drew = wd at hHeld KD ⊢
        clear hwd
        refine UpTo.take 0 [7, 8, 9] (v := ?_) (by (simp only [List.getElem?_toArray, List.getElem?_cons_zero]; rfl)) (by kernel_rfl) (by kernel_rfl) (by kernel_rfl) (by kernel_rfl) (by exact fun _ _ _ h => h) (Or.inl ⟨by rfl, ?_⟩) hHeld ?_
        rotate_left
        · intro u hu
          try dsimp only at hu
          go_simp
          try with_reducible rfl
        try simp only [Act.put, List.setIfInBounds_toArray, List.set_cons_zero, List.set_cons_succ]
        refine UpTo.take 1 [2, 5, 6, 7, 8, 9] (v := ?_) (by (simp only [List.getElem?_toArray, List.getElem?_cons_succ, List.getElem?_cons_zero]; rfl)) (by kernel_rfl) (by kernel_rfl) (by kernel_rfl) (by kernel_rfl) (by exact fun _ _ _ h => h) (Or.inl ⟨by rfl, ?_⟩) hHeld ?_
        rotate_left
        · intro u hu
          try dsimp only at hu
          go_simp
          try with_reducible rfl
        try simp only [Act.put, List.setIfInBounds_toArray, List.set_cons_zero, List.set_cons_succ]
        refine UpTo.take 2 [5, 6, 7, 8, 9] (v := ?_) (by (simp only [List.getElem?_toArray, List.getElem?_cons_succ, List.getElem?_cons_zero]; rfl)) (by kernel_rfl) (by kernel_rfl) (by kernel_rfl) (by kernel_rfl) (by exact fun _ _ _ h => h) (Or.inl ⟨by rfl, ?_⟩) hHeld ?_
        rotate_left
        · intro u hu
          try dsimp only at hu
          go_simp
          try with_reducible rfl
        try simp only [Act.put, List.setIfInBounds_toArray, List.set_cons_zero, List.set_cons_succ]
        refine UpTo.take 3 [4, 5, 6, 7, 8, 9] (v := ?_) (by (simp only [List.getElem?_toArray, List.getElem?_cons_succ, List.getElem?_cons_zero]; rfl)) (by kernel_rfl) (by kernel_rfl) (by kernel_rfl) (by kernel_rfl) (by exact fun _ _ _ h => h) (Or.inl ⟨by rfl, ?_⟩) hHeld ?_
        rotate_left
        · intro u hu
          try dsimp only at hu
          go_simp
          try with_reducible rfl
        try simp only [Act.put, List.setIfInBounds_toArray, List.set_cons_zero, List.set_cons_succ]
        refine UpTo.next 4 (by kernel_rfl) (by (simp only [List.getElem?_toArray, List.getElem?_cons_succ, List.getElem?_cons_zero]; rfl)) (fun K hK => ?_)
        rw [if_pos (by rfl)]
        go_simp
        go_at_call 132
        have hixf := indexFail wd av cv xs (by unfold maxLen; omega) (fun c hc => by have := hxt c hc; unfold maxLen; omega) (HAn.out.kept (k57.trans KD))
        rw [HXk.out] at hixf
        refine hixf.mono ?_
        rintro e w8 ⟨⟨r8, rfl, hr8⟩, k8⟩
        obtain rfl := HFq.out r8 hr8
        have K8 := KD.trans k8
        refine hK.out _ _ (fun _ => HS11.out _ K8) ?_
        clear hK K hHeld hr8 hixf
        have hHeld := HS11.out _ K8
        try simp only [Act.put, List.setIfInBounds_toArray, List.set_cons_zero, List.set_cons_succ]
        refine UpTo.take 5 [6, 7, 8, 9] (v := ?_) (by (simp only [List.getElem?_toArray, List.getElem?_cons_succ, List.getElem?_cons_zero]; rfl)) (by kernel_rfl) (by kernel_rfl) (by kernel_rfl) (by kernel_rfl) (by exact fun _ _ _ h => h) (Or.inl ⟨by rfl, ?_⟩) hHeld ?_
        rotate_left
        · intro u hu
          try dsimp only at hu
          go_simp
          try with_reducible rfl
        try simp only [Act.put, List.setIfInBounds_toArray, List.set_cons_zero, List.set_cons_succ]
        refine UpTo.take 6 [7, 8, 9] (v := ?_) (by (simp only [List.getElem?_toArray, List.getElem?_cons_succ, List.getElem?_cons_zero]; rfl)) (by kernel_rfl) (by kernel_rfl) (by kernel_rfl) (by kernel_rfl) (by exact fun _ _ _ h => h) (Or.inl ⟨by rfl, ?_⟩) hHeld ?_
        rotate_left
        · intro u hu
          try dsimp only at hu
          go_simp
          try with_reducible rfl
        try simp only [Act.put, List.setIfInBounds_toArray, List.set_cons_zero, List.set_cons_succ]
        refine UpTo.take 7 [8, 9] (v := ?_) (by (simp only [List.getElem?_toArray, List.getElem?_cons_succ, List.getElem?_cons_zero]; rfl)) (by kernel_rfl) (by kernel_rfl) (by kernel_rfl) (by kernel_rfl) (by exact fun _ _ _ h => h) (Or.inl ⟨by rfl, ?_⟩) hHeld ?_
        rotate_left
        · intro u hu
          try dsimp only at hu
          go_simp
          try with_reducible rfl
        try simp only [Act.put, List.setIfInBounds_toArray, List.set_cons_zero, List.set_cons_succ]
        refine UpTo.take 8 [9] (v := ?_) (by (simp only [List.getElem?_toArray, List.getElem?_cons_succ, List.getElem?_cons_zero]; rfl)) (by kernel_rfl) (by kernel_rfl) (by kernel_rfl) (by kernel_rfl) (by exact fun _ _ _ h => h) (Or.inl ⟨by rfl, ?_⟩) hHeld ?_
        rotate_left
        · intro u hu
          try dsimp only at hu
          go_simp
          try with_reducible rfl
        try simp only [Act.put, List.setIfInBounds_toArray, List.set_cons_zero, List.set_cons_succ]
        have hB8 := HB2.out.kept (K7.trans K8)
        have hT8 := hB8.at HI.out
        obtain ⟨⟨_, x11⟩, f11⟩ := hT8.row.row.at (i := 11) (by omega)
        have tz8 := hT8.row.lt
        have HB9 := hide (hB8.store (t' := { t with bl := nm }) HI.out (o := 11) (v := .string nm) (by omega) rfl rfl rfl rfl rfl rfl rfl rfl rfl rfl)
        have p3 := (K8.cell (b := w6.heap.size) (o := 3) hz67).trans p3
        have hz8 : w6.heap.size < w8.heap.size := Nat.lt_of_lt_of_le hz67 K8.size
        have hne8 : w6.heap.size ≠ t.tb := by have := (HB.out.at HI.out).row.lt; have h9 := (HK2.out.trans K6).size; omega
        clear hB8 hT8
        refine UpTo.next 9 (by kernel_rfl) (by (simp only [List.getElem?_toArray, List.getElem?_cons_succ, List.getElem?_cons_zero]; rfl)) (fun K hK => ?_)
        go_simp
        refine hK.out _ _ (fun h => absurd rfl h) ?_
        clear hK K hHeld
        try simp only [Act.put, List.setIfInBounds_toArray, List.set_cons_zero, List.set_cons_succ]
        refine UpTo.done (by kernel_rfl) ?_
        have hil : i < ts.length := (List.getElem?_eq_some_iff.1 HI.out).1
        have p3b : (w8.setCell ⟨t.tb, 11, none⟩ (.string nm)).cell? ⟨w6.heap.size, 3, none⟩ = some (.string g.text) := by rw [cell_set_ne hne8]; exact p3
        have hz9 : w6.heap.size < (w8.setCell ⟨t.tb, 11, none⟩ (.string nm)).heap.size := by rw [size_setCell]; exact hz8
        obtain ⟨w9, hw9⟩ : ∃ w9, w9 = w8.setCell ⟨t.tb, 11, none⟩ (.string nm) := ⟨_, rfl⟩
        rw [← hw9] at HB9 p3b hz9 ⊢
        clear hw9 p3 x11 f11 tz8 hz8
        go_wp2_with fail
        refine (benchEnd_any HB9.out (i := i) (t := { t with bl := nm }) (List.getElem?_set_self hil) true g.text hsz hwn (fun b hb => ?_) hwd).mono ?_
        · obtain ⟨j, u, hji, hju, h3, h4, h5⟩ := HW.out b hb
          exact ⟨j, u, by rw [List.getElem?_set_ne (Ne.symm hji), List.getElem?_set_ne (Ne.symm hji)]; exact hju, h3, h4, h5⟩
        rintro e wF ⟨rfl, hBF⟩
        rw [List.set_set] at hBF
        have HBF := hide hBF
        clear hBF
        go_wp2_with fail
        go_ret
        rw [HGG.out]
        exact .inl ⟨hgo, rfl, nm, HBl.out, HBF.out⟩
end

end Go.Proofs.YtghipdfemoofhaaGreatDoor
