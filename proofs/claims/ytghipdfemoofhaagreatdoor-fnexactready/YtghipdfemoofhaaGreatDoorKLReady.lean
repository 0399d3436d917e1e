import Derived.Test.YtghipdfemoofhaaGreatDoorKLValid
import Derived.Test.YtghipdfemoofhaaGreatDoorKBRound
import Derived.Test.YtghipdfemoofhaaGreatDoorKFImpl2
import Derived.Test.YtghipdfemoofhaaGreatDoorKXTop
import Derived.Test.YtghipdfemoofhaaGreatDoorKRMark
import Derived.Test.YtghipdfemoofhaaGreatDoorKOMark4

namespace Go.Proofs.YtghipdfemoofhaaGreatDoor
open Go.RowKit Go.Shelf
attribute [local go_sem] Oper.semAt_some

def RdI (w1 : World) (c : Nat) (webl : List NodeD) (σ : Env) (rs : List RunX) (i : Nat) (W : World) : Prop :=
  Kept w1 W ∧ c < W.heap.size ∧ ∃ (ns : List ByteArray) (v : Value), W.cell? ⟨c, 0, none⟩ = some v ∧ W.frozen? ⟨c, 0, none⟩ = false ∧ W.ownsRow (c + 1) 9 1 v ns.length (ns.map Value.string) ∧ ReadyL (actsOf webl) σ (rs.take i) ns
theorem RdI.calm {w1 : World} {c : Nat} {webl : List NodeD} {σ : Env} {rs : List RunX} {i B : Nat} (hw : w1.heap.size ≤ c) (hc : c < B) : Calm B (RdI w1 c webl σ rs i) := by
  constructor
  · rintro W o hB ⟨k, hz, ns, v, h1, h2, h3, h4⟩
    have ka := (Kept.refl W).alloc o
    exact ⟨k.trans ka, by rw [World.size_alloc]; omega, ns, v, (ka.cell hz).trans h1, (ka.rules.2 c 0 hz).trans h2, (But.of_kept (S := fun _ => False) ka).owns h3 (fun _ _ => id), h4⟩
  · rintro W l o o' hl ho hn ⟨k, hz, ns, v, h1, h2, h3, h4⟩
    have kb : But (fun b => b = l) W (W.putObj l o') := ⟨rfl, rfl, rfl, by rw [World.putObj_size]; exact Nat.le_refl _, fun b _ e => World.putObj_heap_other e⟩
    refine ⟨kb.kept k (fun b e => by rw [e]; omega), by rw [World.putObj_size]; exact hz, ns, v, (put_cell o' (by omega)).trans h1, (put_frozen o' (by omega)).trans h2, kb.owns h3 (fun b hb e => ?_), h4⟩
    have := type_cells (owns_type h3 hb) (by rw [e]; exact ho)
    rw [hn] at this
    cases this

def RdEnd (webl : List NodeD) (roots : List ByteArray) (sl : List RunX) (w w' : World) (e : Ending) : Prop :=
  ∃ (da : Option Addr) (ns : List ByteArray), e = .returned (.slice da ns.length ns.length) ∧ StrsIn w' w.heap.size w'.heap.size da ns ∧ ((ValidX webl roots sl ∧ ReadyL (actsOf webl) (envOf sl) sl ns) ∨ (¬ ValidX webl roots sl ∧ ns = [])) ∧ Kept w w'
theorem ready_small {webl : List NodeD} {σ : Env} {l : List RunX} {ns : List ByteArray} (hok : ActsOk (actsOf webl)) (hg : ∀ r ∈ l, r.Good webl) (h : ReadyL (actsOf webl) σ l ns) : ∀ s ∈ ns, s.size ≤ 1048576 := fun s hs => by
  obtain ⟨r, hr, rfl, _⟩ := (h.mem s).1 hs
  obtain ⟨A, hA, _⟩ := (hg r hr).act
  have := (hok _ _ hA).2.2.1
  omega

set_option maxRecDepth 100000 in
set_option maxHeartbeats 6400000 in
theorem implReady_any (w : World) (a : Option Addr) (cap : Nat) (webl : List NodeD) (rd : Option Addr) (rc : Nat) (roots : List ByteArray) (ga : Option Addr) (gc : Nat) (sl : List RunX) (hl : webl.length ≤ 1048576) (hf : ∀ s ∈ webl, s.Fits) (hrl : roots.length ≤ maxLen) (hrc : roots.length ≤ rc) (hrs : ∀ s ∈ roots, s.size ≤ maxLen) (hsl : sl.length ≤ 1048576) (hst : ∀ r ∈ sl, r.texts.length ≤ 1048576) (hS : Nodes w a webl) (hR : Strs w rd roots) (hG : RunsX w ga sl) (hFi : FinishOk w) :
    Calls Tryz.prog 14 #[.agg #[.slice a webl.length cap], .agg #[.slice rd roots.length rc, .slice ga sl.length gc]] w fun e w' => RdEnd webl roots sl w w' e := by
  have k0 : Kept w ((w.alloc (.cells #[.slice a webl.length cap] 34)).alloc (.cells #[.slice rd roots.length rc, .slice ga sl.length gc] 38)) := ((Kept.refl _).alloc _).alloc _
  refine (callsIn_wide (n := 9)).1 ?_
  refine callsIn_of_wp_marks Tryz.func14 rfl trivial ?_ rfl
  simp only [Tryz.ntmps14, List.size_toArray, List.length_cons, List.length_nil, Nat.reduceAdd, Nat.reduceSub, Array.replicate_succ, Array.replicate_zero, List.push_toArray, List.append_toArray, List.nil_append, List.cons_append]
  gi_wp2_with fail
  refine ⟨trivial, (callsIn_wide.2 (resume_any _ a cap webl rd rc roots ga gc sl hl hf hrl hrc hrs hsl hst (hS.kept k0) (hR.kept k0) (hG.kept k0) (hFi.kept k0))).mono ?_⟩
  rintro e w1 ⟨k1, hcase⟩
  have K1 := k0.trans k1
  rcases hcase with ⟨hno, rfl⟩ | ⟨hW, hRo, hA, wz, bb, mb, mx, ts, d, dc, f, ws, b, rfl, kz, hB, hBS, hmx, hb, hled, hend⟩
  · have HNo := hide hno
    clear hno k1 k0
    gi_wp2_with fail
    exact ⟨_, results_tmp rfl _ _ _, none, [], rfl, .inl rfl, .inr ⟨fun h => HNo.out ⟨h.1, h.2.1, h.2.2.2.good.asc⟩, rfl⟩, K1⟩
  have HV := hide (hb.trans (res_valid hW hRo hBS hled hend))
  have HBi := hide hb
  have HB := hide hB
  have HBS := hide hBS
  have HW := hide hW
  clear hRo hA kz hb hled hend k1 k0 hB hBS hW
  cases b
  · gi_wp2_with fail
    exact ⟨_, results_tmp rfl _ _ _, none, [], rfl, .inl rfl, .inr ⟨fun h => (by have h2 := HV.out.2 h; cases h2), rfl⟩, K1⟩
  have HRn : Hid (runsOf ts = sl) := HBi.out.1 rfl
  have HVx : Hid (ValidX webl roots sl) := HV.out.1 rfl
  clear HBi HV
  gi_wp2_with fail
  obtain ⟨W0, hW0⟩ : ∃ W0, w1.alloc (.cells #[.slice none 0 0] 25) = W0 := ⟨_, rfl⟩
  rw [hW0]
  have K0 : Kept w1 W0 := by rw [← hW0]; exact (Kept.refl _).alloc _
  have z0 : W0.heap.size = w1.heap.size + 1 := by rw [← hW0]; simp
  obtain ⟨q0, q1, _⟩ := box1 (w := w1) (v := .slice none 0 0) (t := 25) (w1 := W0) (by rw [hW0]; exact Kept.refl _)
  have hN6 := HB.out.len (web_len HW.out)
  have bbz := HB.out.row.lt
  have zw := HB.out.kw.size
  have c30 := (HB.out.kept K0).c3
  refine loop_looks (ready_looks bb d ts.length dc (tbOf ts) (by omega)) rfl (enters_of Tryz.func47 (by kernel_rfl) rfl) (bb_calm (by omega)) c30 (fun _ => rfl)
    (RdI w1 w1.heap.size webl (envOf (runsOf ts)) (runsOf ts)) (fun _ _ => False) (fun i => RdI.calm (Nat.le_refl _) (by omega)) (fun _ => calm_false _)
    ⟨K0, by omega, [], .slice none 0 0, q0, q1, World.ownsRow_nil _ _ _ _, ReadyL.nil⟩
    (fun i => { tmps := #[.agg #[.slice a webl.length cap], .agg #[.slice rd roots.length rc, .slice ga sl.length gc], .pointer (some ⟨w.heap.size, 0, none⟩), .pointer (some ⟨w.heap.size + 1, 0, none⟩), .slice none 0 0, .pointer (some ⟨bb, 0, none⟩), .bool true, .pointer (some ⟨w1.heap.size, 0, none⟩), .pointer (some ⟨tbOf ts i, 0, none⟩), .tuple #[.pointer (some ⟨bb, 0, none⟩), .bool true], .agg #[.slice a webl.length cap], .agg #[.slice rd roots.length rc, .slice ga sl.length gc], .tuple #[.pointer (some ⟨bb, 0, none⟩), .bool true], .pointer (some ⟨bb, 0, none⟩), .bool true, .bool true, .bool false, .pointer (some ⟨bb, 0, none⟩), .func (.func 47) #[.pointer (some ⟨bb, 0, none⟩)] #[], .pointer (some ⟨tbOf ts i, 0, none⟩), undef, undef, undef, undef, undef, undef, undef, undef, undef, undef], defers := [] }) ?assign (fun i => sees_calm (fun g e => by have := (HB.out.apart e).1; omega)) ?step ?done ?stop
  case assign =>
    intro l i W K hK
    gi_wp2
    exact hK
  case stop =>
    intro D c W _ h _
    exact h.elim
  case step =>
    rintro i W hi ⟨k, hz, ns, v, h1, h2, h3, h4⟩
    have hnx : (runsOf ts).take (i + 1) = (runsOf ts).take i ++ [ts[i].r] := by
      rw [List.take_succ_eq_append_getElem (by simpa [runsOf] using hi)]
      simp [runsOf]
    rcases (HB.out.kept k).sees HBS.out hi with ⟨hv, hr⟩ | ⟨hn, hr⟩
    rotate_left
    · exact .inr ⟨hn, k, hz, ns, v, h1, h2, h3, by rw [hnx]; exact h4.no hr⟩
    refine .inl ⟨hv, ?_⟩
    have HR := hide hr
    have HNx := hide hnx
    clear hv hr hnx h4 h3 h2 h1 v ns hz k
    clear W
    rintro l W _ ⟨k, hz, ns, v, h1, h2, h3, h4⟩ hzW
    have hT := (HB.out.kept k).task ts[i] (List.getElem_mem hi)
    have t0 : W.cell? ⟨tbOf ts i, 0, none⟩ = some (.string ts[i].r.name) := by
      have h := hT.rng 0 _ rfl
      simpa [tbOf, List.getD, hi] using h
    have htz : tbOf ts i < w1.heap.size := by
      have h := (HB.out.task ts[i] (List.getElem_mem hi)).row.lt
      simpa [tbOf, List.getD, hi] using h
    have hnl : ns.length ≤ 60 := by
      have := h4.len
      simp only [List.length_take] at this
      omega
    obtain ⟨av, cv, rfl⟩ := own_slice h3
    obtain ⟨n, hn⟩ : ∃ n, n = ts[i].r.name := ⟨_, rfl⟩
    obtain ⟨tb, htb⟩ : ∃ tb, tb = tbOf ts i := ⟨_, rfl⟩
    rw [← hn, ← htb] at t0
    rw [← htb] at htz
    rw [← htb]
    have H3 := hide h3
    have H4 := hide h4
    have HN := hide hn
    clear hT h3 h4 hn htb q0 q1 c30 hW0
    obtain ⟨ic, hc0, hc1, hc2, hc3⟩ := info_parts Tryz.infoStr
    have hbw : w1.heap.size + 1 ≤ W.heap.size := by omega
    gi_wp2
    have HSO : Hid (∀ w', Kept W w' → (fun w' => w'.cell? ⟨w1.heap.size, 0, none⟩ = some (.slice av ns.length cv) ∧ w'.cell? ⟨tb, 0, none⟩ = some (.string n)) w') := fun w' kk => ⟨(kk.cell hz).trans h1, (kk.cell (by omega)).trans t0⟩
    refine region_round (by kernel_rfl) (by kernel_rfl) (fun ⟨_, _, h⟩ => h) (fun w' => w'.cell? ⟨w1.heap.size, 0, none⟩ = some (.slice av ns.length cv) ∧ w'.cell? ⟨tb, 0, none⟩ = some (.string n)) 8 (HSO.out _ (Kept.refl W).drew) (fun hHeld => ?_)
    have KD : Kept W W.drew := (Kept.refl W).drew
    have HKO : Hid (KeepsOthers W W.drew) := KeepsOthers.drew W
    generalize hwd : W.drew = wd at hHeld KD HKO ⊢
    clear hwd
    refine UpTo.take 0 [7, 8] (v := ?_) (by (simp only [List.getElem?_toArray, List.getElem?_cons_zero]; rfl)) (by kernel_rfl) (by kernel_rfl) (by kernel_rfl) (by kernel_rfl) (by exact fun _ _ _ h => h) (Or.inl ⟨by rfl, ?_⟩) hHeld ?_
    rotate_left
    · intro u hu
      try dsimp only at hu
      go_simp
      try with_reducible rfl
    try simp only [Act.put, List.setIfInBounds_toArray, List.set_cons_zero, List.set_cons_succ]
    refine UpTo.take 1 [2, 3, 4, 5, 6, 7, 8] (v := ?_) (by (simp only [List.getElem?_toArray, List.getElem?_cons_succ, List.getElem?_cons_zero]; rfl)) (by kernel_rfl) (by kernel_rfl) (by kernel_rfl) (by kernel_rfl) (by exact fun _ _ _ h => h) (Or.inl ⟨by rfl, ?_⟩) hHeld ?_
    rotate_left
    · intro u hu
      try dsimp only at hu
      go_simp
      try with_reducible rfl
    try simp only [Act.put, List.setIfInBounds_toArray, List.set_cons_zero, List.set_cons_succ]
    refine UpTo.take 2 [3, 4, 5, 6, 7, 8] (v := ?_) (by (simp only [List.getElem?_toArray, List.getElem?_cons_succ, List.getElem?_cons_zero]; rfl)) (by kernel_rfl) (by kernel_rfl) (by kernel_rfl) (by kernel_rfl) (by exact fun _ _ _ h => h) (Or.inl ⟨by rfl, ?_⟩) hHeld ?_
    rotate_left
    · intro u hu
      try dsimp only at hu
      go_simp
      try with_reducible rfl
    try simp only [Act.put, List.setIfInBounds_toArray, List.set_cons_zero, List.set_cons_succ]
    refine UpTo.take 3 [4, 5, 6, 7, 8] (v := ?_) (by (simp only [List.getElem?_toArray, List.getElem?_cons_succ, List.getElem?_cons_zero]; rfl)) (by kernel_rfl) (by kernel_rfl) (by kernel_rfl) (by kernel_rfl) (by exact fun _ _ _ h => h) (Or.inl ⟨by rfl, ?_⟩) hHeld ?_
    rotate_left
    · intro u hu
      try dsimp only at hu
      go_simp
      try with_reducible rfl
    try simp only [Act.put, List.setIfInBounds_toArray, List.set_cons_zero, List.set_cons_succ]
    refine UpTo.take 4 [5, 6, 7, 8] (v := ?_) (by (simp only [List.getElem?_toArray, List.getElem?_cons_succ, List.getElem?_cons_zero]; rfl)) (by kernel_rfl) (by kernel_rfl) (by kernel_rfl) (by kernel_rfl) (by exact fun _ _ _ h => h) (Or.inl ⟨by rfl, ?_⟩) hHeld ?_
    rotate_left
    · intro u hu
      try dsimp only at hu
      go_simp
      try with_reducible rfl
    try simp only [Act.put, List.setIfInBounds_toArray, List.set_cons_zero, List.set_cons_succ]
    refine UpTo.take 5 [6, 7, 8] (v := ?_) (by (simp only [List.getElem?_toArray, List.getElem?_cons_succ, List.getElem?_cons_zero]; rfl)) (by kernel_rfl) (by kernel_rfl) (by kernel_rfl) (by kernel_rfl) (by exact fun _ _ _ h => h) (Or.inl ⟨by rfl, ?_⟩) hHeld ?_
    rotate_left
    · intro u hu
      try dsimp only at hu
      go_simp
      try with_reducible rfl
    try simp only [Act.put, List.setIfInBounds_toArray, List.set_cons_zero, List.set_cons_succ]
    refine UpTo.next 6 (by kernel_rfl) (by (simp only [List.getElem?_toArray, List.getElem?_cons_succ, List.getElem?_cons_zero]; rfl)) (fun K hK => ?_)
    go_simp
    have K5 : Kept wd (wd.alloc (.cells #[.string n] 9)) := (Kept.refl _).alloc _
    have hc5 : (wd.alloc (.cells #[.string n] 9)).cell? ⟨wd.heap.size, 0, none⟩ = some (.string n) := range_new wd #[.string n] 9 0 _ rfl
    have KE : KeepsOthers wd (wd.alloc (.cells #[.string n] 9)) := KeepsOthers.alloc _ _
    have K6 := KD.trans K5
    have HKO6 := hide (HKO.out.trans KE)
    refine hK.out _ _ (fun _ => HSO.out _ K6) ?_
    clear hK K hHeld KE HKO
    obtain ⟨eb, heb⟩ : ∃ eb, eb = wd.heap.size := ⟨_, rfl⟩
    rw [← heb] at hc5 ⊢
    generalize hwe : wd.alloc (.cells #[.string n] 9) = w6 at hc5 K6 HKO6 ⊢
    clear hwe K5 heb
    have HR6 := hide ((But.of_kept (S := fun _ => False) K6).owns H3.out (fun _ _ => id))
    have hz6 := K6.size
    try simp only [Act.put, List.setIfInBounds_toArray, List.set_cons_zero, List.set_cons_succ]
    refine UpTo.next 7 (by kernel_rfl) (by (simp only [List.getElem?_toArray, List.getElem?_cons_succ, List.getElem?_cons_zero]; rfl)) (fun K hK => ?_)
    refine step_append_lies _ rfl (.tmp 20) (.tmp 26) 25 rfl (w1.heap.size + 1) 9 ic _ 1 16 Tryz.underlying25 hc0 hc1 hc2 hc3 rfl (by decide) (.slice av ns.length cv) ns.length (ns.map Value.string) rfl HR6.out ⟨eb, 0, none⟩ 1 1 [.string n] rfl rfl (fun j u hu => ?_) (fun u hu => ?_) (by decide) (by unfold maxLen; omega) (by omega) (by omega) w6.heap.size rfl ?_
    · match j, hu with
      | 0, hu => simp at hu; subst hu; rw [Addr.add_mid]; exact hc5
      | j + 1, hu => simp at hu
    · simp at hu; subst hu; rfl
    intro g gq w7 ho7 hg7 hv7 hgz7
    have hrow : ∀ b, (Value.slice av ns.length cv).ownBlock = some b → w1.heap.size + 1 ≤ b := fun b e => (HR6.out.lt b e).1
    have k67 : But (fun b => (Value.slice av ns.length cv).ownBlock = some b) w6 w7 := But.of_grown hg7 (fun b e => e)
    have hz6w : w1.heap.size < w6.heap.size := by omega
    have hS7 : (fun w' => w'.cell? ⟨w1.heap.size, 0, none⟩ = some (.slice av ns.length cv) ∧ w'.cell? ⟨tb, 0, none⟩ = some (.string n)) w7 := ⟨(k67.cell hz6w (fun e => by have := hrow _ e; omega)).trans (HSO.out _ K6).1, (k67.cell (by omega) (fun e => by have := hrow _ e; omega)).trans (HSO.out _ K6).2⟩
    have HFz : Hid (w7.frozen? ⟨w1.heap.size, 0, none⟩ = false) := (World.frozen?_of_block (w := w6) (a := ⟨w1.heap.size, 0, none⟩) (k67.block w1.heap.size hz6w (fun e => by have := hrow _ e; omega))).trans ((K6.rules.2 _ _ hz).trans h2)
    have K17 : Kept w1 w7 := k67.kept (k.trans K6) (fun b e => by have := hrow b e; omega)
    have HKO7 : Hid (KeepsOthers W w7) := HKO6.out.trans (KeepsOthers.of_grownBy hg7 (fun b o e ho => type_cells (owns_type HR6.out e) ho))
    have HO7 : Hid (w7.ownsRow (w1.heap.size + 1) 9 1 (.slice (some ⟨g, 0, none⟩) (ns.length + 1) gq) (ns ++ [n]).length ((ns ++ [n]).map Value.string)) := by rw [List.length_append, List.map_append]; exact ho7
    refine hK.out _ _ (fun _ => hS7) ?_
    clear hK K ho7 hg7 hv7
    try simp only [Act.put, List.setIfInBounds_toArray, List.set_cons_zero, List.set_cons_succ]
    have g1 : w7.cell? ⟨w1.heap.size, 0, none⟩ = some (.slice av ns.length cv) := hS7.1
    have g2 : w7.frozen? ⟨w1.heap.size, 0, none⟩ = false := HFz.out
    have HKF : Hid (KeepsFrom W0.heap.size W (w7.setCell ⟨w1.heap.size, 0, none⟩ (.slice (some ⟨g, 0, none⟩) (ns.length + 1) gq))) := (HKO7.out.trans (KeepsOthers.setCell _ _ _)).from _
    have HFin : Hid (RdI w1 w1.heap.size webl (envOf (runsOf ts)) (runsOf ts) (i + 1) (w7.setCell ⟨w1.heap.size, 0, none⟩ (.slice (some ⟨g, 0, none⟩) (ns.length + 1) gq))) := by
      have hlt7 : w1.heap.size < w7.heap.size := by have := k67.size; omega
      refine ⟨K17.setCell (Nat.le_refl _) _, by rw [size_setCell]; exact hlt7, ns ++ [n], _, World.cell?_setCell_same _ _ _ hS7.1, by rw [World.frozen?_setCell]; exact HFz.out, ?_, ?_⟩
      · exact (But.set (S := fun b => b = w1.heap.size) (But.of_kept (Kept.refl w7)) (p := ⟨w1.heap.size, 0, none⟩) rfl _).owns HO7.out (fun b e e2 => by have := (HO7.out.lt b e).1; omega)
      · rw [HNx.out, HN.out]; exact H4.out.yes HR.out
    refine UpTo.next 8 (by kernel_rfl) (by (simp only [List.getElem?_toArray, List.getElem?_cons_succ, List.getElem?_cons_zero]; rfl)) (fun K hK => ?_)
    go_simp
    refine hK.out _ _ (fun h => absurd rfl h) ?_
    clear hK K
    try simp only [Act.put, List.setIfInBounds_toArray, List.set_cons_zero, List.set_cons_succ]
    refine UpTo.done (by kernel_rfl) ?_
    refine ⟨HKF.out, HFin.out⟩
  case done =>
    rintro D W hD ⟨k, hz, ns, v, h1, h2, h3, h4⟩ hdef
    obtain ⟨av, cv, hav, hSt⟩ := owned_strs h3
    subst hav
    have hall : (runsOf ts).take ts.length = runsOf ts := List.take_of_length_le (by simp [runsOf])
    rw [hall, HRn.out] at h4
    have hnl : ns.length ≤ 60 := by
      have h5 := h4.len
      have h6 : sl.length = ts.length := by rw [← HRn.out]; simp [runsOf]
      omega
    have HSm := hide (ready_small (web_acts HW.out) HVx.out.2.2.2.good.good h4)
    have HSt := hide hSt
    have H4 := hide h4
    have KW := K1.trans k
    clear h3 h4 hSt h2 hall
    gi_wp2_with fail
    refine ⟨trivial, (callsIn_wide.2 (copyStrs_in W av cv ns (by omega) HSm.out HSt.out)).mono ?_⟩
    rintro e w9 ⟨da, rfl, hS9, k9⟩
    have hdz := heap_lt hdef
    have hdef9 := (k9.block D hdz).trans hdef
    have hwD : w.heap.size ≤ D := by have := K1.size; omega
    have HFin : Hid (StrsIn (w9.putObj D (.deferred none)) w.heap.size (w9.putObj D (.deferred none)).heap.size da ns ∧ ((ValidX webl roots sl ∧ ReadyL (actsOf webl) (envOf sl) sl ns) ∨ (¬ ValidX webl roots sl ∧ ns = [])) ∧ Kept w (w9.putObj D (.deferred none))) := by
      have kb : But (fun b => b = D) w9 (w9.putObj D (.deferred none)) := ⟨rfl, rfl, rfl, by rw [World.putObj_size]; exact Nat.le_refl _, fun b _ e => World.putObj_heap_other e⟩
      refine ⟨?_, .inl ⟨HVx.out, H4.out⟩, kb.kept (KW.trans k9) (fun b e => by rw [e]; exact hwD)⟩
      refine (hS9.same (w' := w9.putObj D (.deferred none)) (fun b hb _ _ => World.putObj_heap_other (by omega))).mono (by have := KW.size; omega) (by rw [World.putObj_size]; exact Nat.le_refl _)
    clear hS9 KW H4 HSt HSm h1
    gi_wp2
    exact ⟨by simp, .inl ⟨_, _, rfl, run_takeDeferred hdef9, _, results_tmp rfl _ _ _, da, ns, rfl, HFin.out⟩⟩

end Go.Proofs.YtghipdfemoofhaaGreatDoor

namespace Go.Proofs.YtghipdfemoofhaaGreatDoor
open Go.RowKit

theorem le_sumR {α : Type} (f g : α → Nat) (c : Nat) (h : ∀ x, f x ≤ c * g x) : ∀ l : List α, (l.map f).sum ≤ c * (l.map g).sum
  | [] => by simp
  | x :: r => by
    have h1 := h x
    have h2 := le_sumR f g c h r
    simp only [List.map_cons, List.sum_cons, Nat.mul_add]
    omega
theorem sum_oneR {α : Type} (f : α → Nat) : ∀ l : List α, (l.map (fun x => f x + 1)).sum = (l.map f).sum + l.length
  | [] => rfl
  | x :: r => by simp only [List.map_cons, List.sum_cons, List.length_cons, sum_oneR f r]; omega
theorem cntStepsR_le (l : List StepD) : (l.map cntStep).sum ≤ 8 * szSteps l := by
  have h := le_sumR cntStep (fun s => szStepD s + 1) 8 (fun s => by
    have h2 : szStepD s = (s.asks.length + (s.asks.map (·.size)).sum) + (s.cases.length + (s.cases.map (·.text.size)).sum) + s.give.size := rfl
    unfold cntStep
    omega) l
  rw [sum_oneR] at h
  unfold szSteps
  omega
theorem cntNodesR_le (l : List NodeD) : (l.map cntNode).sum ≤ 8 * szNodesD l := by
  have h := le_sumR cntNode (fun s => szNodeD s + 1) 8 (fun d => by
    have h := cntStepsR_le d.steps
    have h2 : szNodeD d = d.name.size + szSteps d.steps := rfl
    unfold cntNode
    omega) l
  rw [sum_oneR] at h
  unfold szNodesD
  omega
theorem cntRuns_le (l : List RunX) : (l.map cntRun).sum ≤ 8 * szRunsD l := by
  have h := le_sumR cntRun (fun s => szRunD s + 1) 8 (fun r => by
    have h2 : szRunD r = r.name.size + r.text.size + (r.texts.length + (r.texts.map (·.size)).sum) := rfl
    unfold cntRun
    omega) l
  rw [sum_oneR] at h
  unfold szRunsD
  omega
theorem ReadyL.len60 {webl : List NodeD} {roots : List ByteArray} {sl : List RunX} {ns : List ByteArray} (h : (ValidX webl roots sl ∧ ReadyL (actsOf webl) (envOf sl) sl ns) ∨ (¬ ValidX webl roots sl ∧ ns = [])) : ns.length ≤ 60 := by
  rcases h with ⟨h1, h2⟩ | ⟨_, rfl⟩
  · have h3 := h2.len
    have h4 := h1.2.2.1
    have h5 := web_len h1.1
    omega
  · exact Nat.zero_le _
theorem ReadyL.one {webl : List NodeD} {roots : List ByteArray} {sl : List RunX} {ns ms : List ByteArray} (h : (ValidX webl roots sl ∧ ReadyL (actsOf webl) (envOf sl) sl ns) ∨ (¬ ValidX webl roots sl ∧ ns = [])) (k : (ValidX webl roots sl ∧ ReadyL (actsOf webl) (envOf sl) sl ms) ∨ (¬ ValidX webl roots sl ∧ ms = [])) : ms = ns := by
  rcases h with ⟨h1, h2⟩ | ⟨h1, h2⟩
  · rcases k with ⟨k1, k2⟩ | ⟨k1, k2⟩
    · exact k2.unique h2
    · exact absurd h1 k1
  · rcases k with ⟨k1, k2⟩ | ⟨k1, k2⟩
    · exact absurd k1 h1
    · rw [h2, k2]

set_option maxRecDepth 100000 in
set_option maxHeartbeats 12800000 in
theorem lawReady (w : World) (a : Option Addr) (cap : Nat) (l : List NodeD) (rd : Option Addr) (rc : Nat) (roots : List ByteArray) (ga : Option Addr) (gc : Nat) (sl : List RunX) (hl : l.length ≤ maxLen) (hs : ∀ s ∈ l, s.Fits) (hrl : roots.length ≤ maxLen) (hrs : ∀ s ∈ roots, s.size ≤ maxLen) (hsl : sl.length ≤ maxLen) (hsf : ∀ r ∈ sl, r.Fits) (hN : Nodes w a l) (hR : Strs w rd roots) (hG : RunsX w ga sl) (hFi : FinishOk w) :
    Calls Tryz.prog 3 #[.agg #[.slice a l.length cap], .agg #[.slice rd roots.length rc, .slice ga sl.length gc]] w fun e w' => e = .returned (.bool true) ∧ Kept w w' := by
  obtain ⟨W0, hW0⟩ : ∃ W0, W0 = (w.alloc (.cells #[.slice a l.length cap] 24)).alloc (.cells #[.slice rd roots.length rc, .slice ga sl.length gc] 28) := ⟨_, rfl⟩
  have k0 : Kept w W0 := by rw [hW0]; exact ((Kept.refl _).alloc _).alloc _
  have HBox : Hid (∀ w', Kept W0 w' → (fun w' => w'.cell? ⟨w.heap.size, 0, none⟩ = some (.slice a l.length cap) ∧ w'.cell? ⟨w.heap.size + 1, 0, none⟩ = some (.slice rd roots.length rc) ∧ w'.cell? ⟨w.heap.size + 1, 1, none⟩ = some (.slice ga sl.length gc)) w') := fun w' kk => by
    have q0 := (box1 (w := w) (v := .slice a l.length cap) (t := 24) (w1 := w') (Kept.trans (by rw [hW0]; exact (Kept.refl _).alloc _) kk)).1
    have q1 := box2 (w := w.alloc (.cells #[.slice a l.length cap] 24)) (v0 := .slice rd roots.length rc) (v1 := .slice ga sl.length gc) (t := 28) (w1 := w') (Kept.trans (by rw [hW0]; exact Kept.refl _) kk)
    simp only [World.size_alloc] at q1
    exact ⟨q0, q1.1, q1.2⟩
  have z0 : w.heap.size + 1 + 1 ≤ W0.heap.size := by rw [hW0]; simp
  go_enter Tryz.func3, Tryz.ntmps3
  go_wp2_with fail
  rw [← hW0]
  clear hW0
  refine (szWeb_any _ a cap l 1048576 hl hs (hN.kept k0) (by omega) (by omega)).mono ?_
  rintro e w1 ⟨rfl, K1⟩
  by_cases hle : (szNodesD l : Int) ≤ 1048576
  rotate_left
  · rw [szL_neg (by omega)]
    go_wp2
    go_ret
    exact ⟨rfl, k0.trans K1⟩
  rw [szL_pos hle]
  obtain ⟨hl2, hs2⟩ := small_of_szN (l := l) (n := 1048576) (by omega)
  obtain ⟨b0, b1, b2⟩ := HBox.out _ K1
  go_wp2_with fail
  refine (szState_any _ rd ga rc gc roots sl _ hrl hrs hsl hsf (hR.kept (k0.trans K1)) (hG.kept (k0.trans K1)) (by omega) (by omega)).mono ?_
  rintro e w2 ⟨rfl, k2⟩
  have K2 := K1.trans k2
  clear b0 b1 b2 K1 k2
  by_cases hle2 : (szStateD roots sl : Int) ≤ 1048576 - szNodesD l
  rotate_left
  · rw [szL_neg (by omega)]
    go_wp2
    go_ret
    exact ⟨rfl, k0.trans K2⟩
  rw [szL_pos hle2]
  obtain ⟨hr2, hsl2, hst2⟩ := small_runs (roots := roots) (l := sl) (n := 1048576) (by omega)
  have hcN : 1 + (l.map cntNode).sum + roots.length + (sl.map cntRun).sum ≤ 33554432 := by
    have h1 := cntNodesR_le l
    have h2 := cntRuns_le sl
    have h3 : szStateD roots sl = szStrs roots + szRunsD sl := rfl
    omega
  have hnn : ¬ ((1048576 : Int) - szNodesD l - szStateD roots sl < 0) := by omega
  have HCn := hide hcN
  clear hle hle2 hcN
  obtain ⟨b0, b1, b2⟩ := HBox.out _ K2
  have hz2 := K2.size
  have HSO : Hid (∀ w', Kept w2 w' → (fun w' => w'.cell? ⟨w.heap.size, 0, none⟩ = some (.slice a l.length cap) ∧ w'.cell? ⟨w.heap.size + 1, 0, none⟩ = some (.slice rd roots.length rc) ∧ w'.cell? ⟨w.heap.size + 1, 1, none⟩ = some (.slice ga sl.length gc)) w') := fun w' kk => HBox.out w' (K2.trans kk)
  go_upto_region 8 with fail
  refine UpTo.region (by kernel_rfl) (fun w' => w'.cell? ⟨w.heap.size, 0, none⟩ = some (.slice a l.length cap) ∧ w'.cell? ⟨w.heap.size + 1, 0, none⟩ = some (.slice rd roots.length rc) ∧ w'.cell? ⟨w.heap.size + 1, 1, none⟩ = some (.slice ga sl.length gc)) 5 (HSO.out _ ((Kept.refl w2).drew)) (fun hHeld => ?_)
  have KD : Kept w2 w2.drew := (Kept.refl w2).drew
  generalize hwd : w2.drew = wd at hHeld KD ⊢
  clear hwd
  refine UpTo.take 0 [1, 3, 4, 5] (v := ?_) (by (simp only [List.getElem?_toArray, List.getElem?_cons_zero]; rfl)) (by kernel_rfl) (by kernel_rfl) (by kernel_rfl) (by kernel_rfl) (by exact fun _ _ _ h => h) (Or.inl ⟨by rfl, ?_⟩) hHeld ?_
  rotate_left
  · intro u hu
    try dsimp only at hu
    go_simp
    try with_reducible rfl
  try simp only [Act.put, List.setIfInBounds_toArray, List.set_cons_zero, List.set_cons_succ]
  refine UpTo.take 2 [3, 4, 5] (v := ?_) (by (simp only [List.getElem?_toArray, List.getElem?_cons_succ, List.getElem?_cons_zero]; rfl)) (by kernel_rfl) (by kernel_rfl) (by kernel_rfl) (by kernel_rfl) (by exact fun _ _ _ h => h) (Or.inl ⟨by rfl, ?_⟩) hHeld ?_
  rotate_left
  · intro u hu
    try dsimp only at hu
    go_simp
    try with_reducible rfl
  try simp only [Act.put, List.setIfInBounds_toArray, List.set_cons_zero, List.set_cons_succ]
  refine UpTo.next 1 (by kernel_rfl) (by (simp only [List.getElem?_toArray, List.getElem?_cons_succ, List.getElem?_cons_zero]; rfl)) (fun K hK => ?_)
  rw [if_pos (by rfl)]
  go_simp
  go_at_call 12
  refine (toWeb_any _ a cap l hl2 hs2 (hN.kept (k0.trans (K2.trans KD)))).mono ?_
  rintro e w3 ⟨bw, rfl, hN3, k3, hb1⟩
  refine hK.out _ _ (fun _ => HSO.out _ (KD.trans k3)) ?_
  clear hK K
  try simp only [Act.put, List.setIfInBounds_toArray, List.set_cons_zero, List.set_cons_succ]
  refine UpTo.next 3 (by kernel_rfl) (by (simp only [List.getElem?_toArray, List.getElem?_cons_succ, List.getElem?_cons_zero]; rfl)) (fun K hK => ?_)
  rw [if_pos (by rfl)]
  go_simp
  go_at_call 13
  refine (toStateX_any _ rd ga rc gc roots sl hr2 hsl2 hst2 (hR.kept (k0.trans (K2.trans (KD.trans k3)))) (hG.kept (k0.trans (K2.trans (KD.trans k3))))).mono ?_
  rintro e w4 ⟨c1, c2, rfl, hR4, hG4, k4, hc1, hc2⟩
  refine hK.out _ _ (fun _ => HSO.out _ ((KD.trans k3).trans k4)) ?_
  clear hK K
  try simp only [Act.put, List.setIfInBounds_toArray, List.set_cons_zero, List.set_cons_succ]
  refine UpTo.next 4 (by kernel_rfl) (by (simp only [List.getElem?_toArray, List.getElem?_cons_succ, List.getElem?_cons_zero]; rfl)) (fun K hK => ?_)
  rw [if_pos (by rfl)]
  go_simp
  go_at_call 11
  refine (specReady_any _ (some ⟨bw, 0, none⟩) l.length l (some ⟨c1, 0, none⟩) roots.length roots (some ⟨c2, 0, none⟩) sl.length sl hl2 hs hr2 hrs hsl2 hst2 (hN3.kept k4).nodes hG4.runs hR4).mono ?_
  rintro e w5 ⟨⟨dw, cw, ns, rfl, hT5, hd5⟩, k5⟩
  refine hK.out _ _ (fun _ => HSO.out _ (((KD.trans k3).trans k4).trans k5)) ?_
  clear hK K
  try simp only [Act.put, List.setIfInBounds_toArray, List.set_cons_zero, List.set_cons_succ]
  refine UpTo.next 5 (by kernel_rfl) (by (simp only [List.getElem?_toArray, List.getElem?_cons_succ, List.getElem?_cons_zero]; rfl)) (fun K hK => ?_)
  go_simp
  refine hK.out _ _ (fun h => absurd rfl h) ?_
  clear hK K
  try simp only [Act.put, List.setIfInBounds_toArray, List.set_cons_zero, List.set_cons_succ]
  refine UpTo.done (by kernel_rfl) ?_
  have K3 : Kept w2 w5 := ((KD.trans k3).trans k4).trans k5
  have K5 := K2.trans K3
  have HT := hide hT5.strs
  have HD5 := hide hd5
  have hn6 := ReadyL.len60 hd5
  clear KD k3 k4 k5 K3 HSO K2 b0 b1 b2 hN3 hR4 hG4 hT5 hd5 hb1 hc1 hc2 hnn
  obtain ⟨b0, b1, b2⟩ := HBox.out _ K5
  go_wp2_with fail
  refine (toWeb_in _ a cap l hl2 hs2 (hN.kept (k0.trans K5))).mono ?_
  rintro e w6 ⟨bx, rfl, hNx, k6⟩
  obtain ⟨W6, hW6⟩ : ∃ W6, W6 = w6.alloc (.cells #[.slice (some ⟨bx, 0, none⟩) l.length l.length] 34) := ⟨_, rfl⟩
  have kA : Kept w6 W6 := by rw [hW6]; exact (Kept.refl _).alloc _
  have z6 : W6.heap.size = w6.heap.size + 1 := by rw [hW6]; simp
  have K56 : Kept w5 W6 := k6.trans kA
  have HNx := hide hNx
  have hz6 := k6.size
  have hz5 := K5.size
  clear b0 b1 b2 hNx
  obtain ⟨b0, b1, b2⟩ := HBox.out _ (K5.trans K56)
  rw [hW6] at b0 b1 b2
  go_wp2_with fail
  rw [← hW6]
  rw [← hW6] at b0 b1 b2
  refine (toStateX_in _ rd ga rc gc roots sl hr2 hsl2 hst2 (hR.kept (k0.trans (K5.trans K56))) (hG.kept (k0.trans (K5.trans K56)))).mono ?_
  rintro e w7 ⟨bu, bv, mid, rfl, hRx, hGx, hm1, hm2, k7⟩
  obtain ⟨W7, hW7⟩ : ∃ W7, W7 = w7.alloc (.cells #[.slice (some ⟨bu, 0, none⟩) roots.length roots.length, .slice (some ⟨bv, 0, none⟩) sl.length sl.length] 38) := ⟨_, rfl⟩
  have kB : Kept w7 W7 := by rw [hW7]; exact (Kept.refl _).alloc _
  have z7 : W7.heap.size = w7.heap.size + 1 := by rw [hW7]; simp
  have hz7 := k7.size
  have K57 : Kept w5 W7 := (K56.trans k7).trans kB
  have HX : Hid (∀ w', Kept W7 w' → (fun w' => w'.cell? ⟨w6.heap.size, 0, none⟩ = some (.slice (some ⟨bx, 0, none⟩) l.length l.length) ∧ w'.cell? ⟨w7.heap.size, 0, none⟩ = some (.slice (some ⟨bu, 0, none⟩) roots.length roots.length) ∧ w'.cell? ⟨w7.heap.size, 1, none⟩ = some (.slice (some ⟨bv, 0, none⟩) sl.length sl.length) ∧ (w'.cell? ⟨w.heap.size, 0, none⟩ = some (.slice a l.length cap) ∧ w'.cell? ⟨w.heap.size + 1, 0, none⟩ = some (.slice rd roots.length rc) ∧ w'.cell? ⟨w.heap.size + 1, 1, none⟩ = some (.slice ga sl.length gc))) w') := fun w' kk => by
    have q0 := (box1 (w := w6) (w1 := w') (Kept.trans (by rw [← hW6]; exact k7.trans kB) kk)).1
    have q1 := box2 (w := w7) (v0 := .slice (some ⟨bu, 0, none⟩) roots.length roots.length) (v1 := .slice (some ⟨bv, 0, none⟩) sl.length sl.length) (t := 38) (w1 := w') (Kept.trans (by rw [hW7]; exact Kept.refl _) kk)
    exact ⟨q0, q1.1, q1.2, HBox.out _ ((K5.trans K57).trans kk)⟩
  have HN7 := hide (HNx.out.same ((kA.trans (k7.trans kB)).same _ _))
  have HR7 := hide (hRx.same (kB.same _ _))
  have HG7 := hide (hGx.same (kB.same _ _))
  clear b0 b1 b2 hRx hGx HNx kA
  have hne : ¬ w6.heap.size = w7.heap.size := by omega
  have hw67 : w6.heap.size < w7.heap.size := by omega
  have q6 := (HX.out W7 (Kept.refl _)).1
  go_upto_region 11 with fail
  rw [← hW7]
  clear hW7 hW6 k7 kB k6
  obtain ⟨x0, x1, x2, b0, b1, b2⟩ := HX.out W7 (Kept.refl _)
  go_wp2_with fail
  refine (implReady_any W7 (some ⟨bx, 0, none⟩) l.length l (some ⟨bu, 0, none⟩) roots.length roots (some ⟨bv, 0, none⟩) sl.length sl hl2 hs hrl (Nat.le_refl _) hrs hsl2 hst2 HN7.out.nodes HR7.out.strs HG7.out.runs (hFi.kept (k0.trans (K5.trans K57)))).mono ?_
  rintro e w8 ⟨da, ms, rfl, hS8, hd8, k8⟩
  obtain rfl : ms = ns := ReadyL.one HD5.out hd8
  have HS8 := hide hS8
  clear hS8 hd8 x0 x1 x2 b0 b1 b2 q6
  have hml : ms.length ≤ maxLen := by unfold maxLen; omega
  have z8 := k8.size
  go_wp2_with fail
  refine (eqStringS_yes _ da dw ms.length cw ms hml HS8.out.strs (HT.out.kept (K57.trans k8))).mono ?_
  rintro e w9 ⟨rfl, k9⟩
  have K79 := k8.trans k9
  have HX9 : Hid (∀ w', Kept w9 w' → (fun w' => w'.cell? ⟨w6.heap.size, 0, none⟩ = some (.slice (some ⟨bx, 0, none⟩) l.length l.length) ∧ w'.cell? ⟨w7.heap.size, 0, none⟩ = some (.slice (some ⟨bu, 0, none⟩) roots.length roots.length) ∧ w'.cell? ⟨w7.heap.size, 1, none⟩ = some (.slice (some ⟨bv, 0, none⟩) sl.length sl.length) ∧ (w'.cell? ⟨w.heap.size, 0, none⟩ = some (.slice a l.length cap) ∧ w'.cell? ⟨w.heap.size + 1, 0, none⟩ = some (.slice rd roots.length rc) ∧ w'.cell? ⟨w.heap.size + 1, 1, none⟩ = some (.slice ga sl.length gc))) w') := fun w' kk => HX.out w' (K79.trans kk)
  have KW9 := k0.trans ((K5.trans K57).trans K79)
  have HN9 := hide (HN7.out.same (K79.same _ _))
  have HR9 := hide (HR7.out.same (K79.same _ _))
  have HG9 := hide (HG7.out.same (K79.same _ _))
  have HS9 := hide (HS8.out.same (k9.same _ _))
  obtain ⟨x0, x1, x2, b0, b1, b2⟩ := HX9.out w9 (Kept.refl _)
  clear HN7 HR7 HG7 HS8
  go_upto_region 14 with fail
  refine UpTo.region (by kernel_rfl) (fun w' => w'.cell? ⟨w6.heap.size, 0, none⟩ = some (.slice (some ⟨bx, 0, none⟩) l.length l.length) ∧ w'.cell? ⟨w7.heap.size, 0, none⟩ = some (.slice (some ⟨bu, 0, none⟩) roots.length roots.length) ∧ w'.cell? ⟨w7.heap.size, 1, none⟩ = some (.slice (some ⟨bv, 0, none⟩) sl.length sl.length) ∧ (w'.cell? ⟨w.heap.size, 0, none⟩ = some (.slice a l.length cap) ∧ w'.cell? ⟨w.heap.size + 1, 0, none⟩ = some (.slice rd roots.length rc) ∧ w'.cell? ⟨w.heap.size + 1, 1, none⟩ = some (.slice ga sl.length gc))) 4 (HX9.out _ ((Kept.refl w9).drew)) (fun hHeld => ?_)
  have KD : Kept w9 w9.drew := (Kept.refl w9).drew
  generalize hwd : w9.drew = wd at hHeld KD ⊢
  clear hwd
  refine UpTo.take 0 [3, 4] (v := ?_) (by (simp only [List.getElem?_toArray, List.getElem?_cons_zero]; rfl)) (by kernel_rfl) (by kernel_rfl) (by kernel_rfl) (by kernel_rfl) (by exact fun _ _ _ h => h) (Or.inl ⟨by rfl, ?_⟩) hHeld ?_
  rotate_left
  · intro u hu
    try dsimp only at hu
    go_simp
    try with_reducible rfl
  try simp only [Act.put, List.setIfInBounds_toArray, List.set_cons_zero, List.set_cons_succ]
  refine UpTo.take 1 [2, 3, 4] (v := ?_) (by (simp only [List.getElem?_toArray, List.getElem?_cons_succ, List.getElem?_cons_zero]; rfl)) (by kernel_rfl) (by kernel_rfl) (by kernel_rfl) (by kernel_rfl) (by exact fun _ _ _ h => h) (Or.inl ⟨by rfl, ?_⟩) hHeld ?_
  rotate_left
  · intro u hu
    try dsimp only at hu
    go_simp
    try with_reducible rfl
  try simp only [Act.put, List.setIfInBounds_toArray, List.set_cons_zero, List.set_cons_succ]
  refine UpTo.next 2 (by kernel_rfl) (by (simp only [List.getElem?_toArray, List.getElem?_cons_succ, List.getElem?_cons_zero]; rfl)) (fun K hK => ?_)
  rw [if_pos (by rfl)]
  go_simp
  go_at_call 12
  refine (toWeb_any _ a cap l hl2 hs2 (hN.kept (KW9.trans KD))).mono ?_
  rintro e wq ⟨bq, rfl, hNq, kq, hbq⟩
  refine hK.out _ _ (fun _ => HX9.out _ (KD.trans kq)) ?_
  clear hK K
  try simp only [Act.put, List.setIfInBounds_toArray, List.set_cons_zero, List.set_cons_succ]
  refine UpTo.next 3 (by kernel_rfl) (by (simp only [List.getElem?_toArray, List.getElem?_cons_succ, List.getElem?_cons_zero]; rfl)) (fun K hK => ?_)
  rw [if_pos (by rfl)]
  go_simp
  go_at_call 16
  refine (eqWeb_yes _ (some ⟨bx, 0, none⟩) (some ⟨bq, 0, none⟩) l.length l.length l hl hs (HN9.out.same ((KD.trans kq).same _ _)).nodes hNq.nodes).mono ?_
  rintro e w10 ⟨rfl, k10⟩
  refine hK.out _ _ (fun _ => HX9.out _ ((KD.trans kq).trans k10)) ?_
  clear hK K
  try simp only [Act.put, List.setIfInBounds_toArray, List.set_cons_zero, List.set_cons_succ]
  refine UpTo.next 4 (by kernel_rfl) (by (simp only [List.getElem?_toArray, List.getElem?_cons_succ, List.getElem?_cons_zero]; rfl)) (fun K hK => ?_)
  go_simp
  refine hK.out _ _ (fun h => absurd rfl h) ?_
  clear hK K
  try simp only [Act.put, List.setIfInBounds_toArray, List.set_cons_zero, List.set_cons_succ]
  refine UpTo.done (by kernel_rfl) ?_
  have K9b := (KD.trans kq).trans k10
  have K7b := K79.trans K9b
  clear KD kq k10 x0 x1 x2 b0 b1 b2 hNq hbq
  have HX10 : Hid (∀ w', Kept w10 w' → (fun w' => w'.cell? ⟨w6.heap.size, 0, none⟩ = some (.slice (some ⟨bx, 0, none⟩) l.length l.length) ∧ w'.cell? ⟨w7.heap.size, 0, none⟩ = some (.slice (some ⟨bu, 0, none⟩) roots.length roots.length) ∧ w'.cell? ⟨w7.heap.size, 1, none⟩ = some (.slice (some ⟨bv, 0, none⟩) sl.length sl.length) ∧ (w'.cell? ⟨w.heap.size, 0, none⟩ = some (.slice a l.length cap) ∧ w'.cell? ⟨w.heap.size + 1, 0, none⟩ = some (.slice rd roots.length rc) ∧ w'.cell? ⟨w.heap.size + 1, 1, none⟩ = some (.slice ga sl.length gc))) w') := fun w' kk => HX.out w' (K7b.trans kk)
  obtain ⟨x0, x1, x2, b0, b1, b2⟩ := HX10.out w10 (Kept.refl _)
  go_upto_region 16 with fail
  refine UpTo.region (by kernel_rfl) (fun w' => w'.cell? ⟨w6.heap.size, 0, none⟩ = some (.slice (some ⟨bx, 0, none⟩) l.length l.length) ∧ w'.cell? ⟨w7.heap.size, 0, none⟩ = some (.slice (some ⟨bu, 0, none⟩) roots.length roots.length) ∧ w'.cell? ⟨w7.heap.size, 1, none⟩ = some (.slice (some ⟨bv, 0, none⟩) sl.length sl.length) ∧ (w'.cell? ⟨w.heap.size, 0, none⟩ = some (.slice a l.length cap) ∧ w'.cell? ⟨w.heap.size + 1, 0, none⟩ = some (.slice rd roots.length rc) ∧ w'.cell? ⟨w.heap.size + 1, 1, none⟩ = some (.slice ga sl.length gc))) 4 (HX10.out _ ((Kept.refl w10).drew)) (fun hHeld => ?_)
  have KD : Kept w10 w10.drew := (Kept.refl w10).drew
  generalize hwd : w10.drew = wd at hHeld KD ⊢
  clear hwd
  refine UpTo.take 0 [3, 4] (v := ?_) (by (simp only [List.getElem?_toArray, List.getElem?_cons_zero]; rfl)) (by kernel_rfl) (by kernel_rfl) (by kernel_rfl) (by kernel_rfl) (by exact fun _ _ _ h => h) (Or.inl ⟨by rfl, ?_⟩) hHeld ?_
  rotate_left
  · intro u hu
    try dsimp only at hu
    go_simp
    try with_reducible rfl
  try simp only [Act.put, List.setIfInBounds_toArray, List.set_cons_zero, List.set_cons_succ]
  refine UpTo.take 1 [2, 3, 4] (v := ?_) (by (simp only [List.getElem?_toArray, List.getElem?_cons_succ, List.getElem?_cons_zero]; rfl)) (by kernel_rfl) (by kernel_rfl) (by kernel_rfl) (by kernel_rfl) (by exact fun _ _ _ h => h) (Or.inl ⟨by rfl, ?_⟩) hHeld ?_
  rotate_left
  · intro u hu
    try dsimp only at hu
    go_simp
    try with_reducible rfl
  try simp only [Act.put, List.setIfInBounds_toArray, List.set_cons_zero, List.set_cons_succ]
  refine UpTo.next 2 (by kernel_rfl) (by (simp only [List.getElem?_toArray, List.getElem?_cons_succ, List.getElem?_cons_zero]; rfl)) (fun K hK => ?_)
  rw [if_pos (by rfl)]
  go_simp
  go_at_call 13
  refine (toStateX_any _ rd ga rc gc roots sl hr2 hsl2 hst2 (hR.kept ((KW9.trans K9b).trans KD)) (hG.kept ((KW9.trans K9b).trans KD))).mono ?_
  rintro e w11 ⟨d1, d2, rfl, hR11, hG11, k11, hd1, hd2⟩
  refine hK.out _ _ (fun _ => HX10.out _ (KD.trans k11)) ?_
  clear hK K
  try simp only [Act.put, List.setIfInBounds_toArray, List.set_cons_zero, List.set_cons_succ]
  refine UpTo.next 3 (by kernel_rfl) (by (simp only [List.getElem?_toArray, List.getElem?_cons_succ, List.getElem?_cons_zero]; rfl)) (fun K hK => ?_)
  rw [if_pos (by rfl)]
  go_simp
  go_at_call 17
  refine (eqStateX_yes _ (some ⟨bu, 0, none⟩) (some ⟨d1, 0, none⟩) (some ⟨bv, 0, none⟩) (some ⟨d2, 0, none⟩) roots.length roots.length sl.length sl.length roots sl hrl hsl hsf (HR9.out.same (((K9b.trans KD).trans k11).same _ _)).strs hR11 (HG9.out.same (((K9b.trans KD).trans k11).same _ _)).runs hG11.runs).mono ?_
  rintro e w12 ⟨rfl, k12⟩
  refine hK.out _ _ (fun _ => HX10.out _ ((KD.trans k11).trans k12)) ?_
  clear hK K
  try simp only [Act.put, List.setIfInBounds_toArray, List.set_cons_zero, List.set_cons_succ]
  refine UpTo.next 4 (by kernel_rfl) (by (simp only [List.getElem?_toArray, List.getElem?_cons_succ, List.getElem?_cons_zero]; rfl)) (fun K hK => ?_)
  go_simp
  refine hK.out _ _ (fun h => absurd rfl h) ?_
  clear hK K
  try simp only [Act.put, List.setIfInBounds_toArray, List.set_cons_zero, List.set_cons_succ]
  refine UpTo.done (by kernel_rfl) ?_
  have K9c : Kept w9 w12 := ((K9b.trans KD).trans k11).trans k12
  have K7c := K79.trans K9c
  clear KD k11 k12 x0 x1 x2 b0 b1 b2 hR11 hG11 hd1 hd2 K9b K7b HX10
  obtain ⟨x0, x1, x2, b0, b1, b2⟩ := HX.out w12 K7c
  have HN12 := hide (HN9.out.same (K9c.same _ _))
  have HR12 := hide (HR9.out.same (K9c.same _ _))
  have HG12 := hide (HG9.out.same (K9c.same _ _))
  have HS12 := hide (HS9.out.same (K9c.same _ _))
  have z12 := K7c.size
  have K512 := K57.trans K7c
  have hcn := HCn.out
  clear HN9 HR9 HG9 HS9 HX9 K9c
  go_wp2_with fail
  refine (markWeb_any _ w5.heap.size w6.heap.size (some ⟨bx, 0, none⟩) l.length l 1 (by omega) (by omega) HN12.out).mono ?_
  rintro e w13 ⟨rfl, _, kb13⟩
  have K513 : Kept w5 w13 := kb13.kept K512 (Nat.le_refl _)
  have z13 := kb13.size
  have y1 : w13.cell? ⟨w7.heap.size, 0, none⟩ = some (.slice (some ⟨bu, 0, none⟩) roots.length roots.length) := (World.cell?_of_block (w := w12) (kb13.block _ (by show w7.heap.size < _; omega) (.inr (by show w6.heap.size ≤ w7.heap.size; omega)))).trans x1
  have y2 : w13.cell? ⟨w7.heap.size, 1, none⟩ = some (.slice (some ⟨bv, 0, none⟩) sl.length sl.length) := (World.cell?_of_block (w := w12) (kb13.block _ (by show w7.heap.size < _; omega) (.inr (by show w6.heap.size ≤ w7.heap.size; omega)))).trans x2
  have HR13 := hide (HR12.out.same (kb13.same (l2 := W6.heap.size) (h2 := mid) (by omega)))
  have HG13 := hide (HG12.out.same (kb13.same (l2 := mid) (h2 := w7.heap.size) (by omega)))
  have HS13 := hide (HS12.out.same (kb13.same (l2 := W7.heap.size) (h2 := w8.heap.size) (by omega)))
  obtain ⟨kn, hkn⟩ : ∃ kn, kn = 1 + (l.map cntNode).sum := ⟨_, rfl⟩
  rw [← hkn]
  have hkn0 : 0 < kn := by omega
  have hkn1 : kn + roots.length + (sl.map cntRun).sum ≤ 33554432 := by omega
  clear hkn x0 x1 x2 b0 b1 b2 kb13 HN12 HR12 HG12 HS12
  go_wp2_with fail
  refine (markStateX_any _ W6.heap.size mid w7.heap.size (some ⟨bu, 0, none⟩) (some ⟨bv, 0, none⟩) roots.length sl.length roots sl kn hkn0 (by omega) hm1 hm2 (by omega) HR13.out HG13.out).mono ?_
  rintro e w14 ⟨rfl, _, _, kb14⟩
  have K514 : Kept w5 w14 := kb14.kept K513 (by have := K56.size; omega)
  have z14 := kb14.size
  have HS14 := hide (HS13.out.same (kb14.same (l2 := W7.heap.size) (h2 := w8.heap.size) (by omega)))
  obtain ⟨km, hkm⟩ : ∃ km, km = kn + roots.length + (sl.map cntRun).sum := ⟨_, rfl⟩
  rw [← hkm]
  have hkm0 : ¬ ((km : Int) < 0) := by omega
  clear hkm y1 y2 kb14 HR13 HG13 HS13 hkn0 hkn1 hcn HCn
  go_wp2_with fail
  refine (eqStringS_yes _ da dw ms.length cw ms hml HS14.out.strs (HT.out.kept K514)).mono ?_
  rintro e w15 ⟨rfl, k15⟩
  have K515 := K514.trans k15
  have HS15 := hide (HS14.out.same (k15.same _ _))
  have z15 := k15.size
  clear HS14 k15
  go_wp2_with fail
  refine (markStringS_any _ W7.heap.size w8.heap.size da ms.length ms 1 (by omega) (by omega) HS15.out).mono ?_
  rintro e w16 ⟨rfl, hS16, kb16⟩
  have K516 : Kept w5 w16 := kb16.kept K515 (by have := K57.size; omega)
  obtain ⟨M, hM⟩ : ∃ M, M = 1 + ms.length := ⟨_, rfl⟩
  rw [← hM]
  have hMM : ((M : Int) != (M : Int)) = false := by simp
  have hM0 : ¬ ((M : Int) < 0) := by omega
  have HS16 := hide hS16
  have HM := hide hM
  clear hM hS16 kb16 HS15
  go_wp2_with fail
  refine (heldStringS_yes _ da ms.length ms 1 (by omega) (by omega) HS16.out.strs).mono ?_
  rintro e w17 ⟨rfl, k17⟩
  rw [← HM.out]
  have K517 := K516.trans k17
  have HS17 := hide (HS16.out.same (k17.same _ _))
  have KW17 := k0.trans (K5.trans K517)
  have HSO17 : Hid (∀ w', Kept w17 w' → (fun w' => w'.cell? ⟨w.heap.size, 0, none⟩ = some (.slice a l.length cap) ∧ w'.cell? ⟨w.heap.size + 1, 0, none⟩ = some (.slice rd roots.length rc) ∧ w'.cell? ⟨w.heap.size + 1, 1, none⟩ = some (.slice ga sl.length gc)) w') := fun w' kk => HBox.out w' ((K5.trans K517).trans kk)
  obtain ⟨b0, b1, b2⟩ := HSO17.out w17 (Kept.refl _)
  clear k17 HS16
  go_upto_region 31 with fail
  refine UpTo.region (by kernel_rfl) (fun w' => w'.cell? ⟨w.heap.size, 0, none⟩ = some (.slice a l.length cap) ∧ w'.cell? ⟨w.heap.size + 1, 0, none⟩ = some (.slice rd roots.length rc) ∧ w'.cell? ⟨w.heap.size + 1, 1, none⟩ = some (.slice ga sl.length gc)) 5 (HSO17.out _ ((Kept.refl w17).drew)) (fun hHeld => ?_)
  have KD : Kept w17 w17.drew := (Kept.refl w17).drew
  generalize hwd : w17.drew = wd at hHeld KD ⊢
  clear hwd
  refine UpTo.take 0 [1, 3, 4, 5] (v := ?_) (by (simp only [List.getElem?_toArray, List.getElem?_cons_zero]; rfl)) (by kernel_rfl) (by kernel_rfl) (by kernel_rfl) (by kernel_rfl) (by exact fun _ _ _ h => h) (Or.inl ⟨by rfl, ?_⟩) hHeld ?_
  rotate_left
  · intro u hu
    try dsimp only at hu
    go_simp
    try with_reducible rfl
  try simp only [Act.put, List.setIfInBounds_toArray, List.set_cons_zero, List.set_cons_succ]
  refine UpTo.take 2 [3, 4, 5] (v := ?_) (by (simp only [List.getElem?_toArray, List.getElem?_cons_succ, List.getElem?_cons_zero]; rfl)) (by kernel_rfl) (by kernel_rfl) (by kernel_rfl) (by kernel_rfl) (by exact fun _ _ _ h => h) (Or.inl ⟨by rfl, ?_⟩) hHeld ?_
  rotate_left
  · intro u hu
    try dsimp only at hu
    go_simp
    try with_reducible rfl
  try simp only [Act.put, List.setIfInBounds_toArray, List.set_cons_zero, List.set_cons_succ]
  refine UpTo.next 1 (by kernel_rfl) (by (simp only [List.getElem?_toArray, List.getElem?_cons_succ, List.getElem?_cons_zero]; rfl)) (fun K hK => ?_)
  rw [if_pos (by rfl)]
  go_simp
  go_at_call 12
  refine (toWeb_any _ a cap l hl2 hs2 (hN.kept (KW17.trans KD))).mono ?_
  rintro e w18 ⟨b18, rfl, hN18, k18, hb18⟩
  refine hK.out _ _ (fun _ => HSO17.out _ (KD.trans k18)) ?_
  clear hK K
  try simp only [Act.put, List.setIfInBounds_toArray, List.set_cons_zero, List.set_cons_succ]
  refine UpTo.next 3 (by kernel_rfl) (by (simp only [List.getElem?_toArray, List.getElem?_cons_succ, List.getElem?_cons_zero]; rfl)) (fun K hK => ?_)
  rw [if_pos (by rfl)]
  go_simp
  go_at_call 13
  refine (toStateX_any _ rd ga rc gc roots sl hr2 hsl2 hst2 (hR.kept (KW17.trans (KD.trans k18))) (hG.kept (KW17.trans (KD.trans k18)))).mono ?_
  rintro e w19 ⟨c19, d19, rfl, hR19, hG19, k19, hc19, hd19⟩
  refine hK.out _ _ (fun _ => HSO17.out _ ((KD.trans k18).trans k19)) ?_
  clear hK K
  try simp only [Act.put, List.setIfInBounds_toArray, List.set_cons_zero, List.set_cons_succ]
  refine UpTo.next 4 (by kernel_rfl) (by (simp only [List.getElem?_toArray, List.getElem?_cons_succ, List.getElem?_cons_zero]; rfl)) (fun K hK => ?_)
  rw [if_pos (by rfl)]
  go_simp
  go_at_call 14
  refine (implReady_any _ (some ⟨b18, 0, none⟩) l.length l (some ⟨c19, 0, none⟩) roots.length roots (some ⟨d19, 0, none⟩) sl.length sl hl2 hs hrl (Nat.le_refl _) hrs hsl2 hst2 (hN18.kept k19).nodes hR19 hG19.runs (hFi.kept (KW17.trans ((KD.trans k18).trans k19)))).mono ?_
  rintro e w20 ⟨dh, ms2, rfl, hS20, hd20, k20⟩
  obtain rfl : ms = ms2 := (ReadyL.one HD5.out hd20).symm
  refine hK.out _ _ (fun _ => HSO17.out _ (((KD.trans k18).trans k19).trans k20)) ?_
  clear hK K
  try simp only [Act.put, List.setIfInBounds_toArray, List.set_cons_zero, List.set_cons_succ]
  refine UpTo.next 5 (by kernel_rfl) (by (simp only [List.getElem?_toArray, List.getElem?_cons_succ, List.getElem?_cons_zero]; rfl)) (fun K hK => ?_)
  go_simp
  refine hK.out _ _ (fun h => absurd rfl h) ?_
  clear hK K
  try simp only [Act.put, List.setIfInBounds_toArray, List.set_cons_zero, List.set_cons_succ]
  refine UpTo.done (by kernel_rfl) ?_
  have K17c : Kept w17 w20 := ((KD.trans k18).trans k19).trans k20
  have HS20 := hide (HS17.out.same (K17c.same _ _))
  have HU20 := hide hS20.strs
  have K520 := K517.trans K17c
  clear KD k18 k19 k20 b0 b1 b2 hN18 hb18 hR19 hG19 hc19 hd19 hS20 hd20 HS17
  go_wp2_with fail
  refine (eqStringS_yes _ dh dw ms.length cw ms hml HU20.out (HT.out.kept K520)).mono ?_
  rintro e w21 ⟨rfl, k21⟩
  have HS21 := hide (HS20.out.same (k21.same _ _))
  have K521 := K520.trans k21
  clear k21 HS20 HU20
  go_wp2_with fail
  refine (heldStringS_yes _ da ms.length ms 1 (by omega) (by omega) HS21.out.strs).mono ?_
  rintro e w22 ⟨rfl, k22⟩
  rw [← HM.out]
  have KF := k0.trans (K5.trans (K521.trans k22))
  clear k22
  go_wp2
  go_ret
  exact ⟨rfl, KF⟩

end Go.Proofs.YtghipdfemoofhaaGreatDoor
