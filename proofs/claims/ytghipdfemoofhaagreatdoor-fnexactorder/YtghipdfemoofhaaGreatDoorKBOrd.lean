import Derived.Test.YtghipdfemoofhaaGreatDoorKLValid
import Derived.Test.YtghipdfemoofhaaGreatDoorKBRound
import Derived.Test.YtghipdfemoofhaaGreatDoorKFImpl2
import Derived.Test.YtghipdfemoofhaaGreatDoorKRInts
import Derived.Test.YtghipdfemoofhaaGreatDoorKRTo
import Derived.Test.YtghipdfemoofhaaGreatDoorKVOrder
import Derived.Test.YtghipdfemoofhaaGreatDoorKOMark4
import Derived.OwnWalkIn
import Derived.Test.YtghipdfemoofhaaGreatDoorKBSem
import Derived.Test.YtghipdfemoofhaaGreatDoorKRCopy
namespace Go.Proofs.YtghipdfemoofhaaGreatDoor
open Go.RowKit Go.Shelf
attribute [local go_sem] Oper.semAt_some
def RdI (w1 : World) (c : Nat) (webl : List NodeD) (σ : Env) (rs : List RunX) (i : Nat) (W : World) : Prop :=
  Kept w1 W ∧ c < W.heap.size ∧ ∃ (ns : List ByteArray) (v : Value), W.cell? ⟨c, 0, none⟩ = some v ∧ W.frozen? ⟨c, 0, none⟩ = false ∧ W.ownsRow (c + 1) 9 1 v ns.length (ns.map Value.string) ∧ ReadyL (actsOf webl) σ (rs.take i) ns
theorem RdI.calm {w1 : World} {c : Nat} {webl : List NodeD} {σ : Env} {rs : List RunX} {i B : Nat} (hw : w1.heap.size ≤ c) (hc : c < B) : Calm B (RdI w1 c webl σ rs i) := by
  constructor
  · rintro W o hB ⟨k, hz, ns, v, h1, h2, h3, h4⟩
    have ka := (Kept.refl W).alloc o
    exact ⟨k.trans ka, by rw [World.size_alloc]; omega, ns, v, (ka.cell hz).trans h1, (ka.rules.2 c 0 hz).trans h2, (But.of_kept (S := fun _ => False) ka).owns h3 (fun _ _ => id), h4⟩
  · rintro W l o o' hl ho hn ⟨k, hz, ns, v, h1, h2, h3, h4⟩
    have kb : But (fun b => b = l) W (W.putObj l o') := ⟨rfl, rfl, rfl, by rw [World.putObj_size]; exact Nat.le_refl _, fun b _ e => World.putObj_heap_other e⟩
    refine ⟨kb.kept k (fun b e => by rw [e]; omega), by rw [World.putObj_size]; exact hz, ns, v, (put_cell o' (by omega)).trans h1, (put_frozen o' (by omega)).trans h2, kb.owns h3 (fun b hb e => ?_), h4⟩
    have := type_cells (owns_type h3 hb) (by rw [e]; exact ho)
    rw [hn] at this
    cases this
theorem ready_small {webl : List NodeD} {σ : Env} {l : List RunX} {ns : List ByteArray} (hok : ActsOk (actsOf webl)) (hg : ∀ r ∈ l, r.Good webl) (h : ReadyL (actsOf webl) σ l ns) : ∀ s ∈ ns, s.size ≤ 1048576 := fun s hs => by
  obtain ⟨r, hr, rfl, _⟩ := (h.mem s).1 hs
  obtain ⟨A, hA, _⟩ := (hg r hr).act
  have := (hok _ _ hA).2.2.1
  omega
end Go.Proofs.YtghipdfemoofhaaGreatDoor
namespace Go.Proofs.YtghipdfemoofhaaGreatDoor
open Go.RowKit
theorem le_sumR {α : Type} (f g : α → Nat) (c : Nat) (h : ∀ x, f x ≤ c * g x) : ∀ l : List α, (l.map f).sum ≤ c * (l.map g).sum
  | [] => by simp
  | x :: r => by
    have h1 := h x
    have h2 := le_sumR f g c h r
    simp only [List.map_cons, List.sum_cons, Nat.mul_add]
    omega
theorem sum_oneR {α : Type} (f : α → Nat) : ∀ l : List α, (l.map (fun x => f x + 1)).sum = (l.map f).sum + l.length
  | [] => rfl
  | x :: r => by simp only [List.map_cons, List.sum_cons, List.length_cons, sum_oneR f r]; omega
theorem cntStepsR_le (l : List StepD) : (l.map cntStep).sum ≤ 8 * szSteps l := by
  have h := le_sumR cntStep (fun s => szStepD s + 1) 8 (fun s => by
    have h2 : szStepD s = (s.asks.length + (s.asks.map (·.size)).sum) + (s.cases.length + (s.cases.map (·.text.size)).sum) + s.give.size := rfl
    unfold cntStep
    omega) l
  rw [sum_oneR] at h
  unfold szSteps
  omega
theorem cntNodesR_le (l : List NodeD) : (l.map cntNode).sum ≤ 8 * szNodesD l := by
  have h := le_sumR cntNode (fun s => szNodeD s + 1) 8 (fun d => by
    have h := cntStepsR_le d.steps
    have h2 : szNodeD d = d.name.size + szSteps d.steps := rfl
    unfold cntNode
    omega) l
  rw [sum_oneR] at h
  unfold szNodesD
  omega
theorem ReadyL.one {webl : List NodeD} {roots : List ByteArray} {sl : List RunX} {ns ms : List ByteArray} (h : (ValidX webl roots sl ∧ ReadyL (actsOf webl) (envOf sl) sl ns) ∨ (¬ ValidX webl roots sl ∧ ns = [])) (k : (ValidX webl roots sl ∧ ReadyL (actsOf webl) (envOf sl) sl ms) ∨ (¬ ValidX webl roots sl ∧ ms = [])) : ms = ns := by
  rcases h with ⟨h1, h2⟩ | ⟨h1, h2⟩
  · rcases k with ⟨k1, k2⟩ | ⟨k1, k2⟩
    · exact k2.unique h2
    · exact absurd h1 k1
  · rcases k with ⟨k1, k2⟩ | ⟨k1, k2⟩
    · exact absurd k1 h1
    · rw [h2, k2]
end Go.Proofs.YtghipdfemoofhaaGreatDoor
namespace Go.Proofs.YtghipdfemoofhaaGreatDoor
open Go.RowKit Go.Shelf
attribute [local go_sem] Oper.semAt_some
def PkI (w1 : World) (c : Nat) (webl : List NodeD) (ts : List TaskM) (i : Nat) (W : World) : Prop :=
  Kept w1 W ∧ c < W.heap.size ∧ ∃ (us : List TaskM) (v : Value), W.cell? ⟨c, 0, none⟩ = some v ∧ W.frozen? ⟨c, 0, none⟩ = false ∧ W.ownsRow (c + 1) 70 1 v us.length (us.map fun t => Value.pointer (some ⟨t.tb, 0, none⟩)) ∧ ReadyL (actsOf webl) (envOf (runsOf ts)) ((runsOf ts).take i) (us.map fun t => t.r.name) ∧ ∀ t ∈ us, t ∈ ts
theorem PkI.calm {w1 : World} {c : Nat} {webl : List NodeD} {ts : List TaskM} {i B : Nat} (hw : w1.heap.size ≤ c) (hc : c < B) : Calm B (PkI w1 c webl ts i) := by
  constructor
  · rintro W o hB ⟨k, hz, us, v, h1, h2, h3, h4⟩
    have ka := (Kept.refl W).alloc o
    exact ⟨k.trans ka, by rw [World.size_alloc]; omega, us, v, (ka.cell hz).trans h1, (ka.rules.2 c 0 hz).trans h2, (But.of_kept (S := fun _ => False) ka).owns h3 (fun _ _ => id), h4⟩
  · rintro W l o o' hl ho hn ⟨k, hz, us, v, h1, h2, h3, h4⟩
    have kb : But (fun b => b = l) W (W.putObj l o') := ⟨rfl, rfl, rfl, by rw [World.putObj_size]; exact Nat.le_refl _, fun b _ e => World.putObj_heap_other e⟩
    refine ⟨kb.kept k (fun b e => by rw [e]; omega), by rw [World.putObj_size]; exact hz, us, v, (put_cell o' (by omega)).trans h1, (put_frozen o' (by omega)).trans h2, kb.owns h3 (fun b hb e => ?_), h4⟩
    have := type_cells (owns_type h3 hb) (by rw [e]; exact ho)
    rw [hn] at this
    cases this
def PkEnd (webl : List NodeD) (ts : List TaskM) (pick : Int) (w w' : World) (e : Ending) : Prop :=
  ∃ us : List TaskM, ReadyL (actsOf webl) (envOf (runsOf ts)) (runsOf ts) (us.map fun t => t.r.name) ∧ (∀ t ∈ us, t ∈ ts) ∧ ((us = [] ∧ e = .returned (.pointer none)) ∨ ∃ h : pick.toNat % us.length < us.length, e = .returned (.pointer (some ⟨(us[pick.toNat % us.length]).tb, 0, none⟩))) ∧ Kept w w'
theorem Tryz.infoTaskP : (Tryz.prog.info? 70).map (fun i => (i.zero, i.size, i.bytes)) = some (some (.pointer none), 1, 8) := by kernel_rfl
variable {G : Ghost} {webl : List NodeD} {wz w w' : World} {bb : Nat} {a : Option Addr} {cap : Nat} {rd : Option Addr} {rn rc : Nat} {mb mx : Nat} {ts : List TaskM} {d : Option Addr} {dc : Nat} {f : ByteArray → Value} {ws : ByteArray → List Nat}
set_option maxRecDepth 100000 in
set_option maxHeartbeats 6400000 in
theorem picked_any (hB : BM G webl wz w bb a cap rd rn rc mb mx ts d dc f ws) (hBS : BS webl ts ws) (hts : ts.length ≤ 60) (pick : Int) (hp0 : 0 ≤ pick) (_hp1 : In64 pick) :
    Calls Tryz.prog 109 #[.pointer (some ⟨bb, 0, none⟩), .int .i64 pick] w fun e w' => PkEnd webl ts pick w w' e := by
  have HB := hide hB
  have HBS := hide hBS
  refine (callsIn_wide (n := 9)).1 ?_
  refine callsIn_of_wp_marks Tryz.func109 rfl trivial ?_ rfl
  simp only [Tryz.ntmps109, List.size_toArray, List.length_cons, List.length_nil, Nat.reduceAdd, Nat.reduceSub, Array.replicate_succ, Array.replicate_zero, List.push_toArray, List.append_toArray, List.nil_append, List.cons_append]
  gi_wp2_with fail
  obtain ⟨W0, hW0⟩ : ∃ W0, w.alloc (.cells #[.slice none 0 0] 124) = W0 := ⟨_, rfl⟩
  rw [hW0]
  have K0 : Kept w W0 := by rw [← hW0]; exact (Kept.refl _).alloc _
  have z0 : W0.heap.size = w.heap.size + 1 := by rw [← hW0]; simp
  obtain ⟨q0, q1, _⟩ := box1 (w := w) (v := .slice none 0 0) (t := 124) (w1 := W0) (by rw [hW0]; exact Kept.refl _)
  have bbz := HB.out.row.lt
  have c30 := (HB.out.kept K0).c3
  refine loop_looks (ready_looks bb d ts.length dc (tbOf ts) (by omega)) rfl (enters_of Tryz.func47 (by kernel_rfl) rfl) (bb_calm (by omega)) c30 (fun _ => rfl)
    (PkI w w.heap.size webl ts) (fun _ _ => False) (fun i => PkI.calm (Nat.le_refl _) (by omega)) (fun _ => calm_false _)
    ⟨K0, by omega, [], .slice none 0 0, q0, q1, World.ownsRow_nil _ _ _ _, ReadyL.nil, fun t ht => by cases ht⟩
    (fun i => { tmps := #[.pointer (some ⟨bb, 0, none⟩), .int .i64 pick, undef, undef, .pointer none, .pointer (some ⟨w.heap.size, 0, none⟩), .pointer (some ⟨tbOf ts i, 0, none⟩), .pointer (some ⟨bb, 0, none⟩), .func (.func 47) #[.pointer (some ⟨bb, 0, none⟩)] #[], .pointer (some ⟨tbOf ts i, 0, none⟩), undef, undef, undef, undef, undef, undef, undef, undef, undef, undef, undef, undef, undef, undef], defers := [] }) ?assign (fun i => sees_calm (fun g e => by have := (HB.out.apart e).1; omega)) ?step ?done ?stop
  case assign =>
    intro l i W K hK
    gi_wp2
    exact hK
  case stop =>
    intro D c W _ h _
    exact h.elim
  case step =>
    rintro i W hi ⟨k, hz, us, v, h1, h2, h3, h4, h5⟩
    have hnx : (runsOf ts).take (i + 1) = (runsOf ts).take i ++ [ts[i].r] := by
      rw [List.take_succ_eq_append_getElem (by simpa [runsOf] using hi)]
      simp [runsOf]
    rcases (HB.out.kept k).sees HBS.out hi with ⟨hv, hr⟩ | ⟨hn, hr⟩
    rotate_left
    · exact .inr ⟨hn, k, hz, us, v, h1, h2, h3, by rw [hnx]; exact h4.no hr, h5⟩
    refine .inl ⟨hv, ?_⟩
    have HR := hide hr
    have HNx := hide hnx
    clear hv hr hnx h5 h4 h3 h2 h1 v us hz k
    clear W
    rintro l W _ ⟨k, hz, us, v, h1, h2, h3, h4, h5⟩ hzW
    have hnl : us.length ≤ 60 := by
      have := h4.len
      simp only [List.length_take, List.length_map] at this
      omega
    obtain ⟨av, cv, rfl⟩ := own_slice h3
    obtain ⟨tk, htk⟩ : ∃ tk, tk = ts[i] := ⟨_, rfl⟩
    have htb : tbOf ts i = tk.tb := by rw [htk]; simp [tbOf, List.getD, hi]
    rw [htb]
    rw [← htk] at HR HNx
    have hmem : tk ∈ ts := by rw [htk]; exact List.getElem_mem hi
    have H3 := hide h3
    have H4 := hide h4
    have H5 := hide h5
    clear h3 h4 h5 htk htb q0 q1 c30 hW0
    obtain ⟨ic, hc0, hc1, hc2, hc3⟩ := info_parts Tryz.infoTaskP
    have hbw : w.heap.size + 1 ≤ W.heap.size := by omega
    obtain ⟨V, hV⟩ : ∃ V, V = W.alloc (.cells #[.pointer (some ⟨tk.tb, 0, none⟩)] 70) := ⟨_, rfl⟩
    have kV : Kept W V := by rw [hV]; exact (Kept.refl _).alloc _
    have HKV := hide kV
    have HOw := hide ((But.of_kept (S := fun _ => False) kV).owns H3.out (fun _ _ => id))
    have hbz : w.heap.size + 1 ≤ V.heap.size := Nat.le_trans hbw kV.size
    have HNw : Hid (∀ j u, ([.pointer (some ⟨tk.tb, 0, none⟩)] : List Value)[j]? = some u → V.cell? ((⟨W.heap.size, 0, none⟩ : Addr).add j) = some u) := fun j u hu => by rw [Addr.add_mid, hV]; exact range_new W #[.pointer (some ⟨tk.tb, 0, none⟩)] 70 j u hu
    have HOne : Hid (∀ u ∈ ([.pointer (some ⟨tk.tb, 0, none⟩)] : List Value), u.oneCell' = true) := fun u hu => by simp only [List.mem_cons, List.not_mem_nil, or_false] at hu; subst hu; rfl
    have HKO : Hid (KeepsOthers W V) := by rw [hV]; exact KeepsOthers.alloc _ _
    rw [hV] at HOw HNw hbz
    have HV := hide hV
    clear kV hV
    gi_wp2_with (gi_at_builtin; refine wpListIn_append_own _ rfl (.tmp 10) (.tmp 12) 124 rfl (w.heap.size + 1) 70 ic _ 1 8 Tryz.underlying124 hc0 hc1 hc2 hc3 rfl (by decide) (.slice av us.length cv) us.length (us.map fun t => Value.pointer (some ⟨t.tb, 0, none⟩)) rfl HOw.out ⟨W.heap.size, 0, none⟩ 1 1 [.pointer (some ⟨tk.tb, 0, none⟩)] rfl rfl HNw.out HOne.out (by unfold maxLen; omega) (by omega) hbz ?_; intro v' w9 hown2 hgr _; rw [← HV.out] at hgr HOw; have hrow : ∀ b, (Value.slice av us.length cv).ownBlock = some b → w.heap.size + 1 ≤ b := fun b e => (HOw.out.lt b e).1; have k69 : But (fun b => (Value.slice av us.length cv).ownBlock = some b) V w9 := But.of_grown hgr (fun b e => e); have hz6 : w.heap.size < V.heap.size := Nat.lt_of_lt_of_le hz HKV.out.size; have s9 : w9.cell? ⟨w.heap.size, 0, none⟩ = some (.slice av us.length cv) := (k69.cell hz6 (fun e => by have := hrow _ e; omega)).trans ((HKV.out.cell hz).trans h1); have f9 : w9.frozen? ⟨w.heap.size, 0, none⟩ = false := (World.frozen?_of_block (w := V) (a := ⟨w.heap.size, 0, none⟩) (k69.block w.heap.size hz6 (fun e => by have := hrow _ e; omega))).trans ((HKV.out.rules.2 _ _ hz).trans h2); have z9 : w.heap.size < w9.heap.size := Nat.lt_of_lt_of_le hz6 k69.size; have HKO9 : Hid (KeepsOthers W w9) := HKO.out.trans (KeepsOthers.of_grownBy hgr (fun b o e ho => type_cells (owns_type HOw.out e) ho)); have K19 : Hid (Kept w w9) := k69.kept (k.trans HKV.out) (fun b e => by have := hrow b e; omega); have HO9 := hide hown2; obtain ⟨da2, ac2, rfl⟩ := own_slice hown2; clear hown2 hgr hrow k69)
    have HKF : Hid (KeepsFrom W0.heap.size W (w9.setCell ⟨w.heap.size, 0, none⟩ (.slice da2 (us.length + 1) ac2))) := (HKO9.out.trans (KeepsOthers.setCell _ _ _)).from _
    refine ⟨HKF.out, K19.out.setCell (Nat.le_refl _) _, by rw [size_setCell]; exact z9, us ++ [tk], _, World.cell?_setCell_same _ _ _ s9, by rw [World.frozen?_setCell]; exact f9, ?_, ?_, ?_⟩
    · have HO : w9.ownsRow (w.heap.size + 1) 70 1 (.slice da2 (us.length + 1) ac2) (us ++ [tk]).length ((us ++ [tk]).map fun t => Value.pointer (some ⟨t.tb, 0, none⟩)) := by rw [List.length_append, List.map_append]; exact HO9.out
      exact (But.set (S := fun b => b = w.heap.size) (But.of_kept (Kept.refl w9)) (p := ⟨w.heap.size, 0, none⟩) rfl _).owns HO (fun b e e2 => by have := (HO.lt b e).1; omega)
    · rw [HNx.out, List.map_append]; exact H4.out.yes HR.out
    · intro t ht
      rcases List.mem_append.1 ht with h | h
      · exact H5.out t h
      · simp at h; rw [h]; exact hmem
  case done =>
    rintro D W hD ⟨k, hz, us, v, h1, h2, h3, h4, h5⟩ hdef
    obtain ⟨av, cv, rfl⟩ := own_slice h3
    have hall : (runsOf ts).take ts.length = runsOf ts := List.take_of_length_le (by simp [runsOf])
    rw [hall] at h4
    have hnl : us.length ≤ 60 := by
      have h6 := h4.len
      have h7 : (runsOf ts).length = ts.length := by simp [runsOf]
      simp only [List.length_map] at h6
      omega
    have hwD : w.heap.size ≤ D := by omega
    have HFin : Hid (Kept w (W.putObj D (.deferred none))) := by
      have kb : But (fun b => b = D) W (W.putObj D (.deferred none)) := ⟨rfl, rfl, rfl, by rw [World.putObj_size]; exact Nat.le_refl _, fun b _ e => World.putObj_heap_other e⟩
      exact kb.kept k (fun b e => by rw [e]; exact hwD)
    have HFin2 : Hid (Kept w (W.drew.putObj D (.deferred none))) := by
      have kb : But (fun b => b = D) W.drew (W.drew.putObj D (.deferred none)) := ⟨rfl, rfl, rfl, by rw [World.putObj_size]; exact Nat.le_refl _, fun b _ e => World.putObj_heap_other e⟩
      exact kb.kept k.drew (fun b e => by rw [e]; exact hwD)
    have H4 := hide h4
    have H5 := hide h5
    by_cases hn0 : us.length = 0
    · have hnb : ((us.length : Int) == 0) = true := by simpa using hn0
      have HNn : Hid (us = []) := List.length_eq_zero_iff.1 hn0
      clear hn0 h3 h4 h5 hall
      gi_wp2
      exact ⟨by simp, .inl ⟨_, _, rfl, run_takeDeferred hdef, _, results_tmp rfl _ _ _, us, H4.out, H5.out, .inl ⟨HNn.out, rfl⟩, HFin.out⟩⟩
    have hnb : ((us.length : Int) == 0) = false := by simpa using hn0
    obtain ⟨kk, hkk⟩ : ∃ kk, kk = pick.toNat % us.length := ⟨_, rfl⟩
    have hkl : kk < us.length := by rw [hkk]; exact Nat.mod_lt _ (by omega)
    have hpm : pick.tmod (us.length : Int) = (kk : Int) := by rw [Int.tmod_eq_emod_of_nonneg hp0, hkk, Int.natCast_emod, Int.toNat_of_nonneg hp0]
    obtain ⟨g, rfl⟩ : ∃ g, av = some ⟨g, 0, none⟩ := by
      rcases h3.2 with ⟨e, e2⟩ | ⟨g, cap, cur, e, _⟩
      · omega
      · cases e; exact ⟨g, rfl⟩
    have hgz : g < W.heap.size := (h3.lt g rfl).2
    have hce : W.cell? ⟨g, kk, none⟩ = some (.pointer (some ⟨(us[kk]).tb, 0, none⟩)) := by
      have h := h3.cells (g := g) rfl kk (.pointer (some ⟨(us[kk]).tb, 0, none⟩)) (by simp [hkl])
      rw [Addr.add_mid, Nat.zero_add] at h
      exact h
    obtain ⟨tb, htb⟩ : ∃ tb, tb = (us[kk]).tb := ⟨_, rfl⟩
    rw [← htb] at hce
    have HTb : Hid (∃ h : pick.toNat % us.length < us.length, (us[pick.toNat % us.length]).tb = tb) := ⟨by rw [← hkk]; exact hkl, by rw [htb]; congr 1; simp [hkk]⟩
    have hnz : ¬ (us.length : Int) = 0 := by omega
    have hkl2 : (kk : Int) < (us.length : Int) := by omega
    clear hn0 h3 h4 h5 hall hkk htb
    gi_wp2_with fail
    gi_region
    gi_wp2
    obtain ⟨hh, hht⟩ := HTb.out
    exact ⟨by simp, .inl ⟨_, _, rfl, run_takeDeferred (w := W.drew) hdef, _, results_tmp rfl _ _ _, us, H4.out, H5.out, .inr ⟨hh, by rw [hht]; rfl⟩, HFin2.out⟩⟩
end Go.Proofs.YtghipdfemoofhaaGreatDoor
namespace Go.Proofs.YtghipdfemoofhaaGreatDoor
open Go.RowKit Go.Shelf
def rowG (W : World) (v : Value) (ps : List (Nat × ByteArray)) : Ghost := ⟨W, fun k => v.ownBlock = some k, ps⟩
theorem owns_of_block {w w' : World} {base size : Nat} {e : TypeId} {v : Value} {n : Nat} {xs : List Value} (h : w.ownsRow base e size v n xs) (hb : ∀ k, v.ownBlock = some k → w'.heap[k]? = w.heap[k]?) : w'.ownsRow base e size v n xs := by
  refine ⟨h.1, ?_⟩
  rcases h.2 with h2 | ⟨g, cap, cur, rfl, hb', hg, rest⟩
  · exact .inl h2
  · exact .inr ⟨g, cap, cur, rfl, hb', by rw [hb g rfl]; exact hg, rest⟩
theorem pickX_in64 {picks : List Int} (h : ∀ p ∈ picks, In64 p) (i : Nat) : In64 (pickX picks i) := by
  unfold pickX
  split
  · exact ⟨by omega, by omega⟩
  · rename_i hne
    split
    · exact ⟨by omega, by omega⟩
    · have hl : 0 < picks.length := List.length_pos_iff.2 hne
      have hk := Nat.mod_lt i hl
      have hm : picks.getD (i % picks.length) 0 ∈ picks := by
        simp only [List.getD, List.getElem?_eq_getElem hk, Option.getD_some]
        exact List.getElem_mem hk
      exact h _ hm
section
variable {G : Ghost} {webl : List NodeD} {wz w w' W : World} {bb : Nat} {a : Option Addr} {cap : Nat} {rd : Option Addr} {rn rc : Nat} {mb mx : Nat} {ts : List TaskM} {d : Option Addr} {dc : Nat} {f : ByteArray → Value} {ws : ByteArray → List Nat} {v v' : Value} {n n' : Nat} {xs xs' : List Value} {ps : List (Nat × ByteArray)}
theorem BM.before (h : BM (rowG w v ps) webl wz W bb a cap rd rn rc mb mx ts d dc f ws) (ho : W.ownsRow wz.heap.size 9 1 v n xs) {t : TaskM} (ht : t ∈ ts) : BM (rowG W v [(t.tb, t.r.name)]) webl wz W bb a cap rd rn rc mb mx ts d dc f ws :=
  h.as ⟨Nat.le_refl _, fun k hk => (ho.lt k hk).2, fun _ _ => rfl, h.oth.nb, h.oth.nm, h.oth.nt, h.oth.nf, fun p hp => by obtain rfl : p = (t.tb, t.r.name) := (by simpa [rowG] using hp); exact ⟨t, ht, rfl, rfl⟩⟩
theorem BM.walked (h : BM (rowG w v ps) webl wz W bb a cap rd rn rc mb mx ts d dc f ws) (ho : W.ownsRow wz.heap.size 9 1 v n xs) (hgr : W.grownBy w' v.ownBlock) (hv : ∀ g, v'.ownBlock = some g → v.ownBlock = some g ∨ W.heap.size ≤ g) (ho' : w'.ownsRow wz.heap.size 9 1 v' n' xs') : BM (rowG w' v' []) webl wz w' bb a cap rd rn rc mb mx ts d dc f ws := by
  have F := h.oth
  have kb : But (fun b => v.ownBlock = some b) W w' := But.of_grown hgr (fun b e => e)
  have h4 := h.no.but kb (fun b e => (ho.lt b e).1) F.nb F.nm (fun b hb e => by
    obtain ⟨c1, f1, e1⟩ := owns_type h.items hb
    obtain ⟨c2, f2, e2⟩ := owns_type ho e
    rw [e1] at e2
    simp only [Option.some.injEq, Obj.cells.injEq] at e2
    exact absurd e2.2.1 (by decide)) (fun s b hb => F.nf s b hb) F.nt (fun _ _ => id)
  refine h4.as ⟨Nat.le_refl _, fun k hk => (ho'.lt k hk).2, fun _ _ => rfl, fun e => ?_, fun e => ?_, fun t ht => ⟨fun e => ?_, fun x hx e => ?_⟩, fun s x hx e => ?_, fun p hp => by cases hp⟩
  · rcases hv bb e with h1 | h1
    · exact F.nb h1
    · exact (h.far h1).1 rfl
  · rcases hv mb e with h1 | h1
    · exact F.nm h1
    · exact (h.far h1).2.1 rfl
  · rcases hv t.tb e with h1 | h1
    · exact (F.nt t ht).1 h1
    · exact ((h.far h1).2.2.1 t ht).1 rfl
  · rcases hv x e with h1 | h1
    · exact (F.nt t ht).2 x hx h1
    · exact ((h.far h1).2.2.1 t ht).2 hx
  · rcases hv x e with h1 | h1
    · exact F.nf s x hx h1
    · exact (h.far h1).2.2.2 s hx
set_option maxRecDepth 100000 in
set_option maxHeartbeats 6400000 in
theorem walk_any (hB : BM G webl wz w bb a cap rd rn rc mb mx ts d dc f ws) (hS : BS webl ts ws) (hok : ActsOk (actsOf webl)) (hft : ∀ y ∈ webl, y.Fits) (hwl : webl.length ≤ 60) (hwr : Rises webl) (hN : Nodes wz a webl) (hmx : mx ≤ 80000) (hFi : FinishOk wz) (pa : Option Addr) (pc : Nat) (picks : List Int) (hpl : picks.length ≤ 1048576) (hp64 : ∀ p ∈ picks, In64 p) (hP : Ints wz pa picks) :
    Calls Tryz.prog 66 #[.pointer (some ⟨bb, 0, none⟩), .slice pa picks.length pc] w fun e w' => ∃ (D : List ByteArray) (da : Option Addr) (ac mx' : Nat) (ts' : List TaskM) (d' : Option Addr) (dc' : Nat) (f' : ByteArray → Value) (ws' : ByteArray → List Nat), e = .returned (.slice da D.length ac) ∧ BM (Ghost.no wz) webl wz w' bb a cap rd rn rc mb mx' ts' d' dc' f' ws' ∧ BS webl ts' ws' ∧ mx' ≤ 90000 ∧ OrdW webl picks (runsOf ts) [] (runsOf ts') D ∧ D.length ≤ 1380 ∧ Strs w' da D := by
  have hp0 := potL_le23 webl (runsOf ts)
  have HB0 : Hid (BM (rowG w (.slice none 0 0) []) webl wz w bb a cap rd rn rc mb mx ts d dc f ws) := hB.as ⟨Nat.le_refl _, fun k hk => (by cases hk), fun _ _ => rfl, fun e => (by cases e), fun e => (by cases e), fun t _ => ⟨fun e => (by cases e), fun _ _ e => (by cases e)⟩, fun _ _ _ e => (by cases e), fun _ h => (by cases h)⟩
  go_enter Tryz.func66, Tryz.ntmps66
  go_wp2
  go_loopg [5] (potL webl (runsOf ts)) (fun gg x5 wr => ∃ (D : List ByteArray) (da : Option Addr) (ac mx' : Nat) (ts' : List TaskM) (d' : Option Addr) (dc' : Nat) (f' : ByteArray → Value) (ws' : ByteArray → List Nat), x5 = .slice da D.length ac ∧ Hid (BM (rowG wr (.slice da D.length ac) []) webl wz wr bb a cap rd rn rc mb mx' ts' d' dc' f' ws') ∧ Hid (BS webl ts' ws') ∧ mx' + 6 * gg ≤ 88280 ∧ Hid (gg = potL webl (runsOf ts')) ∧ Hid (OrdI webl picks (runsOf ts) (runsOf ts') D) ∧ Hid (wr.ownsRow wz.heap.size 9 1 (.slice da D.length ac) D.length (D.map Value.string)))
  case atStart => exact ⟨[], none, 0, mx, ts, d, dc, f, ws, rfl, HB0, hide hS, by omega, hide rfl, hide (OrdI.start hS.good), hide (World.ownsRow_nil _ _ _ _)⟩
  case round =>
    clear HB0
    obtain ⟨D, da, ac, mx', ts', d', dc', f', ws', rfl, HB, HBS, hmg, HGg, HO, HOw⟩ := hrel
    have hDl : D.length ≤ 1380 := by have h1 := HO.out.fits; omega
    have hlen := HB.out.len hwl
    go_wp2_with fail
    refine (pickNo_any wr pa pc picks _ D.length rfl (by omega) hpl hp64 (hP.kept HB.out.kw)).mono ?_
    rintro e w1 ⟨rfl, k1⟩
    obtain ⟨p, hp⟩ : ∃ p, p = pickX picks D.length := ⟨_, rfl⟩
    have hpn : 0 ≤ p := by rw [hp]; exact pickX_nn _ _
    have HP64 : Hid (In64 p) := by show In64 p; rw [hp]; exact pickX_in64 hp64 _
    rw [← hp]
    have HPp := hide hp
    clear hp
    go_wp2_with fail
    refine (picked_any (HB.out.kept k1) HBS.out hlen p hpn HP64.out).mono ?_
    rintro e w2 ⟨us, hRL, hus, hcase, k2⟩
    have K2 := k1.trans k2
    have HB2 := hide (HB.out.kept K2)
    have HOw2 := hide (ownsRow_kept' HOw.out K2)
    have HRL := hide hRL
    rcases hcase with ⟨rfl, rfl⟩ | ⟨hh, rfl⟩
    · clear hRL hus
      go_wp2
      go_ret
      obtain ⟨a9, c9, e9, h9⟩ := owned_strs HOw2.out
      simp only [Value.slice.injEq, true_and] at e9
      rw [← e9.1] at h9
      exact ⟨D, da, ac, mx', ts', d', dc', f', ws', rfl, HB2.out.no, HBS.out, by omega, HO.out.on _ _ (.stop HRL.out), hDl, h9⟩
    obtain ⟨t, ht⟩ : ∃ t, t = us[p.toNat % us.length] := ⟨_, rfl⟩
    have htm : t ∈ ts' := by rw [ht]; exact hus _ (List.getElem_mem hh)
    have hnm : (us.map fun t => t.r.name).getD (placeX picks D.length (us.map fun t => t.r.name).length) ByteArray.empty = t.r.name := by
      rw [ht, List.length_map]
      unfold placeX
      rw [← HPp.out]
      simp [List.getD, hh]
    have hnx := HO.out.next hok hRL (by rw [List.length_map]; omega)
    rw [hnm] at hnx
    obtain ⟨r, hr, hcg, hOn, hpot⟩ := hnx
    have hrt := asc_env HBS.out.good.asc (List.mem_map_of_mem (f := fun t : TaskM => t.r) htm)
    obtain rfl : t.r = r := Option.some.inj (hrt.symm.trans hr)
    obtain ⟨i, hi, hie⟩ := List.getElem_of_mem htm
    have HIe : Hid (ts'[i]? = some t) := by show ts'[i]? = some t; rw [List.getElem?_eq_getElem hi, hie]
    rw [← ht]
    have HCg := hide hcg
    have HOn := hide hOn
    have HPot := hide hpot
    have HHr := hide hr
    clear ht hRL hus hnm hcg hOn hpot hr hrt hie
    go_wp2_with fail
    refine (benchDo_any (HB2.out.before HOw2.out htm) HBS.out HIe.out HCg.out hok hft hwl hwr hN (by omega) hFi).mono ?_
    rintro e w3 ⟨rfl, ts2, d2, dc2, f2, ws2, hB3, hS3, hE3⟩
    obtain ⟨t2, ht2, e1, e2⟩ := hB3.oth.has (t.tb, t.r.name) (by simp [rowG])
    have hT2 := hB3.task t2 ht2
    have c0 : w3.cell? ⟨t.tb, 0, none⟩ = some (.string t.r.name) := by
      have h := hT2.rng 0 _ rfl
      rw [e1, Nat.add_zero] at h
      rw [h]
      show some (Value.string t2.r.name) = _
      rw [e2]
    have htz : t.tb < w3.heap.size := by have h := hT2.row.lt; rw [e1] at h; exact h
    have HOw3 := hide (owns_of_block (w' := w3) HOw2.out (fun k hk => hB3.oth.same k hk))
    have HRn : Hid (runsOf ts2 = doL (actsOf webl) (runsOf ts') t.r) := asc_eq hS3.good.asc (doL_asc HBS.out.good.asc) (by rw [hE3, doL_env HBS.out.good.asc HHr.out])
    have HB3 := hide hB3
    have HS3 := hide hS3
    obtain ⟨nm, hnm⟩ : ∃ nm, nm = t.r.name := ⟨_, rfl⟩
    rw [← hnm] at c0
    have HNm := hide hnm
    clear hB3 hS3 hE3 hT2 e1 e2 ht2 hnm
    have kV : Kept w3 (w3.alloc (.cells #[.string nm] 9)) := (Kept.refl _).alloc _
    have HOwV := hide (ownsRow_kept' HOw3.out kV)
    have HBV := hide (HB3.out.kept kV)
    have HNs : Hid (Strs (w3.alloc (.cells #[.string nm] 9)) (some ⟨w3.heap.size, 0, none⟩) [nm]) := fun j hj => by
      obtain rfl : j = 0 := by simpa using hj
      exact ⟨w3.heap.size, 0, rfl, by simp, range_new w3 #[.string nm] 9 0 _ rfl⟩
    have hbz : wz.heap.size ≤ (w3.alloc (.cells #[.string nm] 9)).heap.size := HBV.out.kw.size
    obtain ⟨ic, hc0, hc1, hc2, hc3⟩ := xInfo_parts Tryz.xInfoStr
    clear kV
    go_wp2_with (at_builtin; refine wpList_append_strs rfl (.tmp 19) (.tmp 25) 25 rfl wz.heap.size 9 ic _ 16 Tryz.underlying25 hc0 hc1 hc2 hc3 rfl (.slice da D.length ac) D.length (D.map Value.string) rfl HOwV.out (some ⟨w3.heap.size, 0, none⟩) 1 [nm] rfl HNs.out (by unfold maxLen; simp; omega) (by simp; omega) hbz ?_; intro v' w4 ho4 hg4 hv4; have HB4 := hide (HBV.out.walked HOwV.out hg4 hv4 ho4); have HO4 := hide ho4; obtain ⟨da4, ac4, rfl⟩ := own_slice ho4; clear ho4 hg4 hv4)
    go_roundg (potL webl (runsOf ts2))
    case measure => rw [HGg.out, HRn.out]; exact HPot.out
    case rel =>
      have hl : (D ++ [nm]).length = D.length + 1 := by simp
      refine ⟨D ++ [nm], da4, ac4, mx' + 6, ts2, d2, dc2, f2, ws2, by rw [hl], ?_, HS3, ?_, hide rfl, ?_, ?_⟩
      · rw [hl]; exact HB4
      · have h1 := HGg.out
        have h2 := HPot.out
        rw [HRn.out]
        omega
      · rw [HRn.out, HNm.out]; exact HOn
      · rw [hl, List.map_append]; exact HO4
end
end Go.Proofs.YtghipdfemoofhaaGreatDoor
namespace Go.Proofs.YtghipdfemoofhaaGreatDoor
open Go.RowKit
def StEnd (roots : List ByteArray) (T : List RunX) (w w' : World) (e : Ending) : Prop :=
  ∃ ra ds mid, e = .returned (.agg #[.slice ra roots.length roots.length, .slice ds T.length T.length]) ∧ StrsIn w' w.heap.size mid ra roots ∧ RunsInX w' mid w'.heap.size ds T ∧ w.heap.size ≤ mid ∧ mid ≤ w'.heap.size ∧ Kept w w'
structure StI (w1 wr : World) (ra : Option Addr) (n : Nat) (ds : Option Addr) (k dcs : Nat) (xs : List Value) : Prop where
  kw : Kept w1 wr
  row : RowT wr w1.heap.size 38 2
  c0 : wr.cell? ⟨w1.heap.size, 0, none⟩ = some (.slice ra n n)
  c1 : wr.cell? ⟨w1.heap.size, 1, none⟩ = some (.slice ds k dcs)
  own : wr.ownsRow (w1.heap.size + 1) 72 7 (.slice ds k dcs) k xs
section
variable {G : Ghost} {webl : List NodeD} {wz w w' : World} {bb : Nat} {a : Option Addr} {cap : Nat} {rd : Option Addr} {rc : Nat} {mb mx : Nat} {ts : List TaskM} {d : Option Addr} {dc : Nat} {f : ByteArray → Value} {ws : ByteArray → List Nat}
set_option maxRecDepth 100000 in
set_option maxHeartbeats 6400000 in
theorem benchStateX_any (roots : List ByteArray) (hB : BM G webl wz w bb a cap rd roots.length rc mb mx ts d dc f ws) (hrl : roots.length ≤ 1048576) (hrs : ∀ s ∈ roots, s.size ≤ 1048576) (htl : ts.length ≤ 60) (hts : ∀ t ∈ ts, t.r.name.size ≤ 1048576 ∧ t.r.text.size ≤ 1048576 ∧ t.r.texts.length ≤ 1048576 ∧ ∀ x ∈ t.r.texts, x.size ≤ 1048576) (hR : Strs w rd roots) :
    Calls Tryz.prog 58 #[.pointer (some ⟨bb, 0, none⟩)] w fun e w' => StEnd roots (runsOf ts) w w' e := by
  have b2 := hB.c2
  have b3 := hB.c3
  have zk := hB.row.lt
  have HB := hide hB
  obtain ⟨ino, hn0, hn1, hn2, hn3⟩ := info_parts Tryz.infoRun7
  clear hB
  go_enter Tryz.func58, Tryz.ntmps58
  go_wp2_with fail
  refine (copyStrs_in _ rd rc roots hrl hrs (hR.kept ((Kept.refl _).alloc _))).mono ?_
  rintro e w1 ⟨ra, rfl, hI1, k1⟩
  have K1 : Kept w w1 := Kept.trans ((Kept.refl _).alloc _) k1
  have z1 := k1.size
  simp only [World.size_alloc] at z1 hI1
  have HRes : Hid (RowT w1 w.heap.size 38 2) := RowT.kept (RowT.made w #[.slice none 0 0, .slice none 0 0] 38) k1
  have q3 := (K1.cell zk).trans b3
  have HI1 := hide hI1
  have zk1 : bb < w1.heap.size := by omega
  clear hI1 k1 b2 b3
  go_wp2
  have KA : Kept w1 (w1.alloc (.cells #[.slice ra roots.length roots.length, .slice none 0 0] 38)) := (Kept.refl _).alloc _
  have HSr : Hid (StI w1 (w1.alloc (.cells #[.slice ra roots.length roots.length, .slice none 0 0] 38)) ra roots.length none 0 0 []) := by
    have hc := range_new w1 #[.slice ra roots.length roots.length, .slice none 0 0] 38
    exact ⟨KA, RowT.made w1 #[.slice ra roots.length roots.length, .slice none 0 0] 38, hc 0 _ rfl, hc 1 _ rfl, World.ownsRow_nil _ _ _ _⟩
  clear q3 KA
  go_loopw [18] (fun i wr => ∃ k : Nat, k ≤ ts.length ∧ i = .int .i64 k ∧ Hid (∃ (ds : Option Addr) (dcs : Nat) (xs : List Value), StI w1 wr ra roots.length ds k dcs xs ∧ PackedX w1 (fun _ => True) xs ((runsOf ts).take k))) (fun i _ => ts.length - (intOf i).toNat)
  case atStart => exact ⟨0, Nat.zero_le _, rfl, hide ⟨none, 0, [], HSr.out, PackedX.nil _ _⟩⟩
  case round =>
    obtain ⟨k, hk, rfl, HIn⟩ := hrel
    obtain ⟨ds, dcs, xs, hSt, hPk⟩ := HIn.out
    have HSt := hide hSt
    have HPk := hide hPk
    clear hSt hPk HIn
    have Kr : Kept w wr := K1.trans HSt.out.kw
    have zr := HSt.out.kw.size
    have hsb := HSt.out.row.lt
    clear HSr
    by_cases hlt : k < ts.length
    · obtain ⟨g, hdg, hcell⟩ := (HB.out.kept Kr).item hlt
      subst hdg
      have hT := (HB.out.kept Kr).task ts[k] (List.getElem_mem hlt)
      have hT1 := (HB.out.kept K1).task ts[k] (List.getElem_mem hlt)
      have htw := (HB.out.task ts[k] (List.getElem_mem hlt)).row.lt
      obtain ⟨ta, tc, htv⟩ := own_slice hT.txt
      have hSt1 : Strs w1 ta ts[k].r.texts ∧ (ta = none → tc = 0) := by
        have h := hT1.txt
        obtain ⟨a9, c9, e9, h9⟩ := owned_strs h
        rw [htv] at h e9
        simp only [Value.slice.injEq, true_and] at e9
        rw [← e9.1] at h9
        exact ⟨h9, (tstrs_owned h).2.1⟩
      have HNx : Hid ((runsOf ts).take (k + 1) = (runsOf ts).take k ++ [ts[k].r]) := by
        show (runsOf ts).take (k + 1) = (runsOf ts).take k ++ [ts[k].r]
        rw [List.take_succ_eq_append_getElem (by simpa [runsOf] using hlt)]
        simp [runsOf]
      have hrg : wr.rangeAt ts[k].tb 0 (ts[k].r.cells ta tc) := fun j v hv => hT.rng j v (by
        have e0 : ts[k].cells = ts[k].r.cells ta tc ++ [.int .i64 ts[k].cost, .slice ts[k].sa ts[k].steps.length ts[k].sc, .int .i64 (ts[k].op : Int), ts[k].qv, .string ts[k].bl] := by
          unfold TaskM.cells RunX.cells
          rw [htv]
          rfl
        rw [e0]
        have hjl : j < (ts[k].r.cells ta tc).length := (List.getElem?_eq_some_iff.1 hv).1
        rw [List.getElem?_append_left hjl]
        exact hv)
      obtain ⟨tb, htb⟩ : ∃ tb, tb = ts[k].tb := ⟨_, rfl⟩
      obtain ⟨r, hr⟩ : ∃ r, r = ts[k].r := ⟨_, rfl⟩
      rw [← htb] at hcell hrg htw
      rw [← hr] at hrg hSt1 HNx
      have HS1 := hide hSt1
      have t0 := hrg 0 _ rfl
      have t1 := hrg 1 _ rfl
      have t2 := hrg 2 _ rfl
      have t3 := hrg 3 _ rfl
      have t4 := hrg 4 _ rfl
      have t5 := hrg 5 _ rfl
      have t6 := hrg 6 _ rfl
      simp only [Nat.zero_add] at t0 t1 t2 t3 t4 t5 t6
      have m1 := HSt.out.c1
      have htob : tb < w1.heap.size := by omega
      clear hT hT1 htv hSt1 hrg hr htb
      have i0 : (k : Int) < (ts.length : Int) := by omega
      have HSO : Hid (∀ w' : World, (∀ b, b ≤ w1.heap.size → w'.heap[b]? = wr.heap[b]?) → (fun w' => w'.cell? ⟨w1.heap.size, 1, none⟩ = some (.slice ds k dcs) ∧ w'.cell? ⟨tb, 0, none⟩ = some (.string r.name) ∧ w'.cell? ⟨tb, 1, none⟩ = some (.bool r.over) ∧ w'.cell? ⟨tb, 2, none⟩ = some (.bool r.fail) ∧ w'.cell? ⟨tb, 3, none⟩ = some (.string r.text) ∧ w'.cell? ⟨tb, 4, none⟩ = some (.int .i64 r.at') ∧ w'.cell? ⟨tb, 5, none⟩ = some (.int .i64 r.visits) ∧ w'.cell? ⟨tb, 6, none⟩ = some (.slice ta r.texts.length tc)) w') := fun w' hh => ⟨(World.cell?_of_block (w := wr) (hh w1.heap.size (Nat.le_refl _))).trans m1, (World.cell?_of_block (w := wr) (hh tb (by omega))).trans t0, (World.cell?_of_block (w := wr) (hh tb (by omega))).trans t1, (World.cell?_of_block (w := wr) (hh tb (by omega))).trans t2, (World.cell?_of_block (w := wr) (hh tb (by omega))).trans t3, (World.cell?_of_block (w := wr) (hh tb (by omega))).trans t4, (World.cell?_of_block (w := wr) (hh tb (by omega))).trans t5, (World.cell?_of_block (w := wr) (hh tb (by omega))).trans t6⟩
      have hz1 : w1.heap.size < wr.heap.size := hsb
      go_upto_region 5 with fail
      refine UpTo.region (by kernel_rfl) (fun w' => w'.cell? ⟨w1.heap.size, 1, none⟩ = some (.slice ds k dcs) ∧ w'.cell? ⟨tb, 0, none⟩ = some (.string r.name) ∧ w'.cell? ⟨tb, 1, none⟩ = some (.bool r.over) ∧ w'.cell? ⟨tb, 2, none⟩ = some (.bool r.fail) ∧ w'.cell? ⟨tb, 3, none⟩ = some (.string r.text) ∧ w'.cell? ⟨tb, 4, none⟩ = some (.int .i64 r.at') ∧ w'.cell? ⟨tb, 5, none⟩ = some (.int .i64 r.visits) ∧ w'.cell? ⟨tb, 6, none⟩ = some (.slice ta r.texts.length tc)) 9 (HSO.out _ (fun _ _ => rfl)) (fun hHeld => ?_)
      have KD : Kept wr wr.drew := (Kept.refl wr).drew
      generalize hwd : wr.drew = wd at hHeld KD ⊢
      clear hwd
      refine UpTo.tk 0 [1, 7, 9] ?_ hHeld ?_ ?_
      rotate_left
      · intro u hu; (try dsimp only at hu); go_simp; (try with_reducible rfl)
      try simp only [Act.put, List.setIfInBounds_toArray, List.set_cons_zero, List.set_cons_succ]
      refine UpTo.tk 1 [7, 9] ?_ hHeld ?_ ?_
      rotate_left
      · intro u hu; (try dsimp only at hu); go_simp; (try with_reducible rfl)
      try simp only [Act.put, List.setIfInBounds_toArray, List.set_cons_zero, List.set_cons_succ]
      refine UpTo.tk 2 [3, 4, 5, 6, 7, 9] ?_ hHeld ?_ ?_
      rotate_left
      · intro u hu; (try dsimp only at hu); go_simp; (try with_reducible rfl)
      try simp only [Act.put, List.setIfInBounds_toArray, List.set_cons_zero, List.set_cons_succ]
      refine UpTo.tk 3 [4, 5, 6, 7, 9] ?_ hHeld ?_ ?_
      rotate_left
      · intro u hu; (try dsimp only at hu); go_simp; (try with_reducible rfl)
      try simp only [Act.put, List.setIfInBounds_toArray, List.set_cons_zero, List.set_cons_succ]
      refine UpTo.tk 4 [5, 6, 7, 9] ?_ hHeld ?_ ?_
      rotate_left
      · intro u hu; (try dsimp only at hu); go_simp; (try with_reducible rfl)
      try simp only [Act.put, List.setIfInBounds_toArray, List.set_cons_zero, List.set_cons_succ]
      refine UpTo.tk 5 [6, 7, 9] ?_ hHeld ?_ ?_
      rotate_left
      · intro u hu; (try dsimp only at hu); go_simp; (try with_reducible rfl)
      try simp only [Act.put, List.setIfInBounds_toArray, List.set_cons_zero, List.set_cons_succ]
      refine UpTo.nx 6 (fun K hK => ?_)
      go_simp
      have K5 : Kept wd (wd.alloc (.cells #[.string r.name, .bool r.over, .bool r.fail, .string r.text, .int .i64 r.at', .int .i64 r.visits, .slice ta r.texts.length tc] 72)) := (Kept.refl _).alloc _
      have hc5 := range_new wd #[.string r.name, .bool r.over, .bool r.fail, .string r.text, .int .i64 r.at', .int .i64 r.visits, .slice ta r.texts.length tc] 72
      have K6 := KD.trans K5
      have hw6 : ∀ b, b ≤ w1.heap.size → (wd.alloc (.cells #[.string r.name, .bool r.over, .bool r.fail, .string r.text, .int .i64 r.at', .int .i64 r.visits, .slice ta r.texts.length tc] 72)).heap[b]? = wr.heap[b]? := fun b hb => K6.block b (by omega)
      refine hK.out _ _ (fun _ => HSO.out _ hw6) ?_
      clear hK K hHeld
      obtain ⟨eb, heb⟩ : ∃ eb, eb = wd.heap.size := ⟨_, rfl⟩
      rw [← heb] at hc5 ⊢
      generalize hwe : wd.alloc (.cells #[.string r.name, .bool r.over, .bool r.fail, .string r.text, .int .i64 r.at', .int .i64 r.visits, .slice ta r.texts.length tc] 72) = w6 at hc5 K6 hw6 ⊢
      clear hwe K5 heb
      have HR6 := hide ((But.of_kept (S := fun _ => False) K6).owns HSt.out.own (fun _ _ => id))
      have hz6 := K6.size
      try simp only [Act.put, List.setIfInBounds_toArray, List.set_cons_zero, List.set_cons_succ]
      refine UpTo.nx 7 (fun K hK => ?_)
      refine step_append_lies _ rfl (.tmp 23) (.tmp 28) 36 rfl (w1.heap.size + 1) 72 ino _ 7 80 Tryz.underlying36 hn0 hn1 hn2 hn3 rfl (by decide) (.slice ds k dcs) k xs (by simp [Act.eval]) HR6.out ⟨eb, 0, none⟩ 1 1 (r.cells ta tc) (by simp [Act.eval]) rfl (fun j u hu => by rw [Addr.add_mid]; exact hc5 j u hu) (RunX.one r ta tc) (by omega) (by unfold maxLen; omega) (by omega) (by omega) _ rfl ?_
      intro g6 cap6 w8 hown8 hgr8 hat hlt8
      have hrow : ∀ b, (Value.slice ds k dcs).ownBlock = some b → w1.heap.size + 1 ≤ b := fun b e => (HR6.out.lt b e).1
      have k68 : But (fun b => (Value.slice ds k dcs).ownBlock = some b) w6 w8 := But.of_grown hgr8 (fun b e => e)
      have hw8 : ∀ b, b ≤ w1.heap.size → w8.heap[b]? = wr.heap[b]? := fun b hb => (k68.block b (by omega) (fun e => by have := hrow b e; omega)).trans (hw6 b hb)
      have hr8 : RowT w8 w1.heap.size 38 2 := HSt.out.row.block (hw8 _ (Nat.le_refl _))
      obtain ⟨⟨_, fo2⟩, fo1⟩ := hr8.row.at (i := 1) (by omega)
      have hz8 := k68.size
      have HN8 : Hid (StI w1 (w8.setCell ⟨w1.heap.size, 1, none⟩ (.slice (some ⟨g6, 0, none⟩) (k + 1) cap6)) ra roots.length (some ⟨g6, 0, none⟩) (k + 1) cap6 (xs ++ r.cells ta tc)) := by
        refine ⟨(k68.kept (HSt.out.kw.trans K6) (fun b e => by have := hrow b e; omega)).setCell (Nat.le_refl _) _, hr8.set _, ?_, set_hit hr8.row (by omega) _, ?_⟩
        · rw [set_miss (by omega)]; exact (World.cell?_of_block (w := wr) (hw8 _ (Nat.le_refl _))).trans HSt.out.c0
        · exact (But.set (S := fun b => b = w1.heap.size) (But.of_kept (Kept.refl w8)) (p := ⟨w1.heap.size, 1, none⟩) rfl _).owns hown8 (fun b e e2 => by have := (hown8.lt b e).1; omega)
      refine hK.out _ _ (fun _ => HSO.out _ hw8) ?_
      clear hK K hown8 hgr8 hat hr8
      try simp only [Act.put, List.setIfInBounds_toArray, List.set_cons_zero, List.set_cons_succ]
      have hHeld := HSO.out _ hw8
      refine UpTo.tk 8 [9] ?_ hHeld ?_ ?_
      rotate_left
      · intro u hu; (try dsimp only at hu); go_simp; (try with_reducible rfl)
      try simp only [Act.put, List.setIfInBounds_toArray, List.set_cons_zero, List.set_cons_succ]
      refine UpTo.nx 9 (fun K hK => ?_)
      go_simp
      refine hK.out _ _ (fun h => absurd rfl h) ?_
      clear hK K
      try simp only [Act.put, List.setIfInBounds_toArray, List.set_cons_zero, List.set_cons_succ]
      refine UpTo.done (by kernel_rfl) ?_
      go_wp2
      go_roundw
      case rel => exact ⟨k + 1, by omega, by go_num, hide ⟨_, cap6, _, HN8.out, by rw [HNx.out]; exact HPk.out.snoc HS1.out.1 HS1.out.2 (fun _ _ => trivial)⟩⟩
      case measure => simp [intOf]; omega
    · have hkl : k = ts.length := by omega
      subst hkl
      have HRl : Hid ((runsOf ts).length = ts.length) := by show (runsOf ts).length = ts.length; simp [runsOf]
      have hall : (runsOf ts).take ts.length = runsOf ts := List.take_of_length_le (by rw [HRl.out]; exact Nat.le_refl _)
      rw [hall] at HPk
      have HRz : Hid (RunsX wr ds (runsOf ts)) := by
        obtain ⟨_, a8, c8, e8, h8⟩ := PackedX.runs HSt.out.own HPk.out HSt.out.kw
        simp only [Value.slice.injEq] at e8
        rw [← e8.1] at h8
        exact h8.runs
      have HFit : Hid (∀ s ∈ runsOf ts, s.name.size ≤ 1048576 ∧ s.text.size ≤ 1048576 ∧ s.texts.length ≤ 1048576 ∧ ∀ x ∈ s.texts, x.size ≤ 1048576) := fun s hs => by
        obtain ⟨t, ht, rfl⟩ := List.mem_map.1 hs
        exact hts t ht
      have m0 := HSt.out.c0
      have m1 := HSt.out.c1
      clear hall HPk
      go_wp2_with fail
      have hcp := copyRunsX_in wr ds dcs (runsOf ts) (by rw [HRl.out]; omega) HFit.out HRz.out
      rw [HRl.out] at hcp
      refine hcp.mono ?_
      clear hcp
      rintro e w5 ⟨d5, rfl, hI5, k5⟩
      have hr5 := HSt.out.row.kept k5
      have n0 := (k5.cell hsb).trans m0
      obtain ⟨⟨_, fo2⟩, fo1⟩ := hr5.row.at (i := 1) (by omega)
      have hrs5 : RowT w5 w.heap.size 38 2 := (HRes.out.kept HSt.out.kw).kept k5
      obtain ⟨⟨_, fa⟩, fb⟩ := hrs5.row.at (i := 0) (by omega)
      obtain ⟨⟨_, fc⟩, fd⟩ := hrs5.row.at (i := 1) (by omega)
      have z5 := k5.size
      have HRs := hide hrs5
      have HI5 := hide hI5
      have K5 := Kr.trans k5
      have HIs := hide ((HI1.out.same (HSt.out.kw.same _ _)).same (k5.same _ _))
      have hw1w : ¬ w1.heap.size = w.heap.size := by omega
      clear hrs5 hr5 hI5 m0 m1
      go_wp2
      have hX : Row (w5.setCell ⟨w1.heap.size, 1, none⟩ (.slice d5 ts.length ts.length)) w.heap.size 2 := (HRs.out.block (Below.heap_setCell _ _ _ _ (by simp; omega))).row
      have hR9 := World.rangeAt_setCells_same _ w.heap.size 0 [.slice ra roots.length roots.length, .slice d5 ts.length ts.length] (hX.there (o := 0) (m := 2) (Nat.le_refl _))
      refine bodyPost_ret_cell [.slice ra roots.length roots.length, .slice d5 ts.length ts.length] _ Tryz.results58 rfl hR9 Tryz.underlying38 rfl Tryz.sizeState2 rfl ⟨ra, d5, wr.heap.size, by rw [HRl.out], ?_, ?_, by omega, by simp only [size_setCell]; exact z5, ?_⟩
      · refine StrsIn.mono (lo := w.heap.size + 1) (hi := w1.heap.size) ?_ (by omega) (by omega)
        exact ((HIs.out.same (Same.setCell _ (.inr (by simp)) _)).same (Same.setCell _ (.inl (by simp)) _)).same (Same.setCell _ (.inl (by simp)) _)
      · have hz : ((((w5.setCell ⟨w1.heap.size, 1, none⟩ (.slice d5 ts.length ts.length)).setCell ⟨w.heap.size, 0, none⟩ (.slice ra roots.length roots.length)).setCell ⟨w.heap.size, 1, none⟩ (.slice d5 ts.length ts.length))).heap.size = w5.heap.size := by simp only [size_setCell]
        refine RunsInX.mono (lo := wr.heap.size) (hi := w5.heap.size) ?_ (Nat.le_refl _) (Nat.le_of_eq hz.symm)
        exact ((HI5.out.same (Same.setCell _ (.inl hsb) _)).same (Same.setCell _ (.inl (by simp; omega)) _)).same (Same.setCell _ (.inl (by simp; omega)) _)
      · exact ((K5.setCell (by simp; omega) _).setCell (Nat.le_refl _) _).setCell (Nat.le_refl _) _
end
end Go.Proofs.YtghipdfemoofhaaGreatDoor
namespace Go.Proofs.YtghipdfemoofhaaGreatDoor
open Go.RowKit Go.Shelf
theorem OrdW.names {webl : List NodeD} {picks : List Int} {T T' : List RunX} {D D' : List ByteArray} (h : OrdW webl picks T D T' D') (hok : ActsOk (actsOf webl)) : GoodL webl T → (∀ s ∈ D, s.size ≤ 1048576) → ∀ s ∈ D', s.size ≤ 1048576 := by
  induction h with
  | stop _ => exact fun _ hD => hD
  | @step T T' D D' ns r hR hn hr _ ih =>
    intro hg hD
    have hm : ns.getD (placeX picks D.length ns.length) ByteArray.empty ∈ ns := by
      have hk := placeX_lt picks D.length hn
      simp only [List.getD, List.getElem?_eq_getElem hk, Option.getD_some]
      exact List.getElem_mem hk
    obtain ⟨r', hr', hc⟩ := (hR.ready hg.asc _).1 hm
    obtain rfl : r = r' := Option.some.inj (hr.symm.trans hr')
    refine ih (doL_good hok hg (env_mem hr).1 hc) (fun s hs => ?_)
    rcases List.mem_append.1 hs with h1 | h1
    · exact hD s h1
    · simp only [List.mem_cons, List.not_mem_nil, or_false] at h1
      rw [h1]
      exact ready_small hok hg.good hR _ hm
def WkEnd (roots : List ByteArray) (T : List RunX) (D : List ByteArray) (w w' : World) (e : Ending) : Prop :=
  ∃ ra ds da mid mid2, e = .returned (.agg #[.slice ra roots.length roots.length, .slice ds T.length T.length, .slice da D.length D.length]) ∧ StrsIn w' w.heap.size mid ra roots ∧ RunsInX w' mid mid2 ds T ∧ StrsIn w' mid2 w'.heap.size da D ∧ w.heap.size ≤ mid ∧ mid ≤ mid2 ∧ mid2 ≤ w'.heap.size ∧ Kept w w'
def OrderIEnd (webl : List NodeD) (roots : List ByteArray) (picks : List Int) (w w' : World) (e : Ending) : Prop :=
  ((WebCode webl 0 ∧ RootsOk roots) ∧ ∃ T D, OrdW webl picks (startL webl roots) [] T D ∧ T.length ≤ 60 ∧ D.length ≤ 1380 ∧ WkEnd roots T D w w' e) ∨ (¬ (WebCode webl 0 ∧ RootsOk roots) ∧ e = .returned (.agg #[.slice none 0 0, .slice none 0 0, .slice none 0 0]) ∧ Kept w w')
set_option maxRecDepth 100000 in
set_option maxHeartbeats 6400000 in
theorem implOrder_any (w : World) (a : Option Addr) (cap : Nat) (webl : List NodeD) (rd : Option Addr) (rc : Nat) (roots : List ByteArray) (pa : Option Addr) (pc : Nat) (picks : List Int) (hl : webl.length ≤ 1048576) (hf : ∀ s ∈ webl, s.Fits) (hrl : roots.length ≤ 1048576) (hrc : roots.length ≤ rc) (hrs : ∀ s ∈ roots, s.size ≤ maxLen) (hpl : picks.length ≤ 1048576) (hp64 : ∀ p ∈ picks, In64 p) (hS : Nodes w a webl) (hR : Strs w rd roots) (hP : Ints w pa picks) (hFi : FinishOk w) :
    Calls Tryz.prog 31 #[.agg #[.slice a webl.length cap], .slice rd roots.length rc, .slice pa picks.length pc] w fun e w' => OrderIEnd webl roots picks w w' e := by
  obtain ⟨WB, hWB⟩ : ∃ WB, WB = (w.alloc (.cells #[.slice a webl.length cap] 34)).alloc (.cells #[.slice none 0 0, .slice none 0 0, .slice none 0 0] 52) := ⟨_, rfl⟩
  have kB : Kept w WB := by rw [hWB]; exact ((Kept.refl _).alloc _).alloc _
  have hBs : WB.heap.size = w.heap.size + 2 := by rw [hWB]; simp
  have b0 : WB.cell? ⟨w.heap.size, 0, none⟩ = some (.slice a webl.length cap) := by rw [hWB, Kept.cell (w := w.alloc (.cells #[.slice a webl.length cap] 34)) ((Kept.refl _).alloc _) (by simp)]; exact range_new w _ _ 0 _ rfl
  have HRes : Hid (RowT WB (w.heap.size + 1) 52 3) := by
    have h1 := RowT.made (w.alloc (.cells #[.slice a webl.length cap] 34)) #[.slice none 0 0, .slice none 0 0, .slice none 0 0] 52
    simp only [World.size_alloc] at h1
    rw [hWB]
    exact h1
  have z0 : w.heap.size < WB.heap.size := by omega
  have HKB := hide kB
  have HBs := hide hBs
  clear kB hBs
  go_enter Tryz.func31, Tryz.ntmps31
  go_upto_region 1 with fail
  rw [← hWB]
  clear hWB
  go_wp2_with fail
  refine (beginB_any WB a cap webl rd rc roots hl hf (by unfold maxLen; omega) hrc hrs (hS.kept HKB.out) (hR.kept HKB.out)).mono ?_
  rintro e w1 ⟨k1, hcase⟩
  rcases hcase with ⟨hno, rfl⟩ | ⟨hW, hRo, wz, bb, mb, ts, d, dc, rfl, kz, hB, hBS, hE⟩
  · have HNo := hide hno
    have HR1 := hide (HRes.out.kept k1)
    obtain ⟨⟨_, x0⟩, f0⟩ := HR1.out.row.at (i := 0) (by omega)
    obtain ⟨⟨_, x1⟩, f1⟩ := HR1.out.row.at (i := 1) (by omega)
    obtain ⟨⟨_, x2⟩, f2⟩ := HR1.out.row.at (i := 2) (by omega)
    have zr := HR1.out.lt
    clear hno b0
    go_wp2_with fail
    have hRg := World.rangeAt_setCells_same w1 (w.heap.size + 1) 0 [.slice none 0 0, .slice none 0 0, .slice none 0 0] (HR1.out.row.there (o := 0) (m := 3) (Nat.le_refl _))
    exact bodyPost_ret_cell [.slice none 0 0, .slice none 0 0, .slice none 0 0] _ Tryz.results31 rfl hRg Tryz.underlying52 rfl Tryz.xSizeWalk rfl (.inr ⟨HNo.out, rfl, kept_sets (g := w.heap.size + 1) (by omega) [.slice none 0 0, .slice none 0 0, .slice none 0 0] 0 (HKB.out.trans k1)⟩)
  have HT0 : Hid (runsOf ts = startL webl roots) := asc_eq hBS.good.asc (startL_good (web_acts hW) roots).asc hE
  have HB := hide hB
  have HBS := hide hBS
  have HW := hide hW
  have HRo := hide hRo
  have hwl := web_len hW
  have Kwz := HKB.out.trans kz
  clear hB hBS hE hW hRo b0
  go_wp2_with fail
  refine (walk_any HB.out HBS.out (web_acts HW.out) hf hwl (rises_code HW.out) (hS.kept Kwz) (by omega) (hFi.kept Kwz) pa pc picks hpl hp64 (hP.kept Kwz)).mono ?_
  rintro e w2 ⟨D, da, ac, mx2, ts2, d2, dc2, f2, ws2, rfl, hB2, hS2, hmx2, hOr, hDl, hDs⟩
  rw [HT0.out] at hOr
  have hlen := hB2.len hwl
  have HTs : Hid (∀ t ∈ ts2, t.r.name.size ≤ 1048576 ∧ t.r.text.size ≤ 1048576 ∧ t.r.texts.length ≤ 1048576 ∧ ∀ x ∈ t.r.texts, x.size ≤ 1048576) := fun t ht => by
    have hg := hS2.good.good t.r (List.mem_map_of_mem ht)
    obtain ⟨A, hA, _⟩ := hg.act
    have h1 := (web_acts HW.out _ _ hA).2.2.1
    have h2 := hg.tl
    have h3 := hg.hi
    have h4 := hg.tx
    exact ⟨by omega, by omega, by omega, fun x hx => by have := hg.ts x hx; omega⟩
  have HNs := hide (hOr.names (web_acts HW.out) (startL_good (web_acts HW.out) roots) (fun s hs => by cases hs))
  have HB2 := hide hB2
  have HOr := hide hOr
  have HDs := hide hDs
  have kz2 := hB2.kw
  clear hB2 hS2 hOr hDs
  have HRs2 : Hid (∀ s ∈ roots, s.size ≤ 1048576) := fun s hs => by
    obtain ⟨j, hj, rfl⟩ := List.getElem_of_mem hs
    have h := (HRo.out.2.2 j hj).1.2.1
    simp only [List.getD, List.getElem?_eq_getElem hj, Option.getD_some] at h
    omega
  have KwW := Kwz.trans kz2
  go_wp2_with fail
  refine (benchStateX_any roots HB2.out hrl HRs2.out hlen HTs.out (hR.kept KwW)).mono ?_
  rintro e w3 ⟨ra, ds, mid, rfl, hS3, hG3, hm1, hm2, k3⟩
  have HS3 := hide hS3
  have HG3 := hide hG3
  clear hS3 hG3
  go_wp2_with fail
  refine (copyStrs_in w3 da ac D (by omega) HNs.out (HDs.out.kept k3)).mono ?_
  rintro e w4 ⟨da4, rfl, hD4, k4⟩
  have HD4 := hide hD4
  have KF := KwW.trans (k3.trans k4)
  have HR4 := hide (HRes.out.kept (kz.trans (kz2.trans (k3.trans k4))))
  obtain ⟨⟨_, x0⟩, f0⟩ := HR4.out.row.at (i := 0) (by omega)
  obtain ⟨⟨_, x1⟩, f1⟩ := HR4.out.row.at (i := 1) (by omega)
  obtain ⟨⟨_, x2⟩, f2⟩ := HR4.out.row.at (i := 2) (by omega)
  have zr := HR4.out.lt
  have zw := KwW.size
  have zB := (kz.trans kz2).size
  have zB2 := HBs.out
  have z4 := k4.size
  clear hD4
  go_wp2_with fail
  have hrl9 : (runsOf ts2).length = ts2.length := by simp [runsOf]
  have hRg := World.rangeAt_setCells_same w4 (w.heap.size + 1) 0 [.slice ra roots.length roots.length, .slice ds (runsOf ts2).length (runsOf ts2).length, .slice da4 D.length D.length] (HR4.out.row.there (o := 0) (m := 3) (Nat.le_refl _))
  have hsm : ∀ {lo hi : Nat}, w.heap.size + 1 < lo → Same lo hi w4 (w4.setCells (w.heap.size + 1) 0 [.slice ra roots.length roots.length, .slice ds (runsOf ts2).length (runsOf ts2).length, .slice da4 D.length D.length]) := fun {lo hi} hlo b hb _ _ => by
    show ((((w4.setCell ⟨w.heap.size + 1, 0, none⟩ _).setCell ⟨w.heap.size + 1, 1, none⟩ _).setCell ⟨w.heap.size + 1, 2, none⟩ _).heap[b]?) = _
    rw [Below.heap_setCell _ _ _ _ (by simp; omega), Below.heap_setCell _ _ _ _ (by simp; omega), Below.heap_setCell _ _ _ _ (by simp; omega)]
  exact bodyPost_ret_cell [.slice ra roots.length roots.length, .slice ds (runsOf ts2).length (runsOf ts2).length, .slice da4 D.length D.length] _ Tryz.results31 rfl hRg Tryz.underlying52 rfl Tryz.xSizeWalk rfl (.inl ⟨⟨HW.out, HRo.out⟩, runsOf ts2, D, HOr.out, by omega, hDl, ra, ds, da4, mid, w3.heap.size, rfl,
    StrsIn.mono (((HS3.out.same (k4.same _ _))).same (hsm (by omega))) (by omega) (Nat.le_refl _), (HG3.out.same (k4.same _ _)).same (hsm (by omega)), StrsIn.mono (HD4.out.same (hsm (by omega))) (Nat.le_refl _) (by simp only [size_setCell]; exact Nat.le_refl _), by omega, hm2, by simp only [size_setCell]; exact z4, kept_sets (g := w.heap.size + 1) (by omega) [.slice ra roots.length roots.length, .slice ds (runsOf ts2).length (runsOf ts2).length, .slice da4 D.length D.length] 0 KF⟩)
end Go.Proofs.YtghipdfemoofhaaGreatDoor
