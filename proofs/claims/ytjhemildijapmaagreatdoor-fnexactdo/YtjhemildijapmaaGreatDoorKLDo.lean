import Derived.Test.YtjhemildijapmaaGreatDoorKLValid
import Derived.Test.YtjhemildijapmaaGreatDoorKBRound
import Derived.Test.YtjhemildijapmaaGreatDoorKFImpl2
import Derived.Test.YtjhemildijapmaaGreatDoorKXTop
import Derived.Test.YtjhemildijapmaaGreatDoorKRMark
import Derived.Test.YtjhemildijapmaaGreatDoorKOMark4
import Derived.Test.YtjhemildijapmaaGreatDoorKRCopy
import Derived.Test.YtjhemildijapmaaGreatDoorKRHeld
import Derived.Deep.MidRow
namespace Go.Proofs.YtjhemildijapmaaGreatDoor
open Go.RowKit Go.Shelf
attribute [local go_sem] Oper.semAt_some
def RdI (w1 : World) (c : Nat) (webl : List NodeD) (σ : Env) (rs : List RunX) (i : Nat) (W : World) : Prop :=
  Kept w1 W ∧ c < W.heap.size ∧ ∃ (ns : List ByteArray) (v : Value), W.cell? ⟨c, 0, none⟩ = some v ∧ W.frozen? ⟨c, 0, none⟩ = false ∧ W.ownsRow (c + 1) 9 1 v ns.length (ns.map Value.string) ∧ ReadyL (actsOf webl) σ (rs.take i) ns
theorem RdI.calm {w1 : World} {c : Nat} {webl : List NodeD} {σ : Env} {rs : List RunX} {i B : Nat} (hw : w1.heap.size ≤ c) (hc : c < B) : Calm B (RdI w1 c webl σ rs i) := by
  constructor
  · rintro W o hB ⟨k, hz, ns, v, h1, h2, h3, h4⟩
    have ka := (Kept.refl W).alloc o
    exact ⟨k.trans ka, by rw [World.size_alloc]; omega, ns, v, (ka.cell hz).trans h1, (ka.rules.2 c 0 hz).trans h2, (But.of_kept (S := fun _ => False) ka).owns h3 (fun _ _ => id), h4⟩
  · rintro W l o o' hl ho hn ⟨k, hz, ns, v, h1, h2, h3, h4⟩
    have kb : But (fun b => b = l) W (W.putObj l o') := ⟨rfl, rfl, rfl, by rw [World.putObj_size]; exact Nat.le_refl _, fun b _ e => World.putObj_heap_other e⟩
    refine ⟨kb.kept k (fun b e => by rw [e]; omega), by rw [World.putObj_size]; exact hz, ns, v, (put_cell o' (by omega)).trans h1, (put_frozen o' (by omega)).trans h2, kb.owns h3 (fun b hb e => ?_), h4⟩
    have := type_cells (owns_type h3 hb) (by rw [e]; exact ho)
    rw [hn] at this
    cases this
end Go.Proofs.YtjhemildijapmaaGreatDoor
namespace Go.Proofs.YtjhemildijapmaaGreatDoor
open Go.RowKit
theorem le_sumR {α : Type} (f g : α → Nat) (c : Nat) (h : ∀ x, f x ≤ c * g x) : ∀ l : List α, (l.map f).sum ≤ c * (l.map g).sum
  | [] => by simp
  | x :: r => by
    have h1 := h x
    have h2 := le_sumR f g c h r
    simp only [List.map_cons, List.sum_cons, Nat.mul_add]
    omega
theorem sum_oneR {α : Type} (f : α → Nat) : ∀ l : List α, (l.map (fun x => f x + 1)).sum = (l.map f).sum + l.length
  | [] => rfl
  | x :: r => by simp only [List.map_cons, List.sum_cons, List.length_cons, sum_oneR f r]; omega
theorem cntStepsR_le (l : List StepD) : (l.map cntStep).sum ≤ 8 * szSteps l := by
  have h := le_sumR cntStep (fun s => szStepD s + 1) 8 (fun s => by
    have h2 : szStepD s = (s.asks.length + (s.asks.map (·.size)).sum) + (s.cases.length + (s.cases.map (·.text.size)).sum) + s.give.size := rfl
    unfold cntStep
    omega) l
  rw [sum_oneR] at h
  unfold szSteps
  omega
theorem cntNodesR_le (l : List NodeD) : (l.map cntNode).sum ≤ 8 * szNodesD l := by
  have h := le_sumR cntNode (fun s => szNodeD s + 1) 8 (fun d => by
    have h := cntStepsR_le d.steps
    have h2 : szNodeD d = d.name.size + szSteps d.steps := rfl
    unfold cntNode
    omega) l
  rw [sum_oneR] at h
  unfold szNodesD
  omega
theorem cntRuns_le (l : List RunX) : (l.map cntRun).sum ≤ 8 * szRunsD l := by
  have h := le_sumR cntRun (fun s => szRunD s + 1) 8 (fun r => by
    have h2 : szRunD r = r.name.size + r.text.size + (r.texts.length + (r.texts.map (·.size)).sum) := rfl
    unfold cntRun
    omega) l
  rw [sum_oneR] at h
  unfold szRunsD
  omega
theorem ReadyL.one {webl : List NodeD} {roots : List ByteArray} {sl : List RunX} {ns ms : List ByteArray} (h : (ValidX webl roots sl ∧ ReadyL (actsOf webl) (envOf sl) sl ns) ∨ (¬ ValidX webl roots sl ∧ ns = [])) (k : (ValidX webl roots sl ∧ ReadyL (actsOf webl) (envOf sl) sl ms) ∨ (¬ ValidX webl roots sl ∧ ms = [])) : ms = ns := by
  rcases h with ⟨h1, h2⟩ | ⟨h1, h2⟩
  · rcases k with ⟨k1, k2⟩ | ⟨k1, k2⟩
    · exact k2.unique h2
    · exact absurd h1 k1
  · rcases k with ⟨k1, k2⟩ | ⟨k1, k2⟩
    · exact absurd k1 h1
    · rw [h2, k2]
def StEnd (roots : List ByteArray) (T : List RunX) (w w' : World) (e : Ending) : Prop :=
  ∃ ra ds mid, e = .returned (.agg #[.slice ra roots.length roots.length, .slice ds T.length T.length]) ∧ StrsIn w' w.heap.size mid ra roots ∧ RunsInX w' mid w'.heap.size ds T ∧ w.heap.size ≤ mid ∧ mid ≤ w'.heap.size ∧ Kept w w'
structure StI (w1 wr : World) (ra : Option Addr) (n : Nat) (ds : Option Addr) (k dcs : Nat) (xs : List Value) : Prop where
  kw : Kept w1 wr
  row : RowT wr w1.heap.size 33 2
  c0 : wr.cell? ⟨w1.heap.size, 0, none⟩ = some (.slice ra n n)
  c1 : wr.cell? ⟨w1.heap.size, 1, none⟩ = some (.slice ds k dcs)
  own : wr.ownsRow (w1.heap.size + 1) 59 7 (.slice ds k dcs) k xs
section
variable {G : Ghost} {webl : List NodeD} {wz w w' : World} {bb : Nat} {a : Option Addr} {cap : Nat} {rd : Option Addr} {rc : Nat} {mb mx : Nat} {ts : List TaskM} {d : Option Addr} {dc : Nat} {f : ByteArray → Value} {ws : ByteArray → List Nat}
set_option maxRecDepth 100000 in
set_option maxHeartbeats 6400000 in
theorem benchStateX_any (roots : List ByteArray) (hB : BM G webl wz w bb a cap rd roots.length rc mb mx ts d dc f ws) (hrl : roots.length ≤ 1048576) (hrs : ∀ s ∈ roots, s.size ≤ 1048576) (htl : ts.length ≤ 60) (hts : ∀ t ∈ ts, t.r.name.size ≤ 1048576 ∧ t.r.text.size ≤ 1048576 ∧ t.r.texts.length ≤ 1048576 ∧ ∀ x ∈ t.r.texts, x.size ≤ 1048576) (hR : Strs w rd roots) :
    Calls Tryz.prog 27 #[.pointer (some ⟨bb, 0, none⟩)] w fun e w' => StEnd roots (runsOf ts) w w' e := by
  have b2 := hB.c2
  have b3 := hB.c3
  have zk := hB.row.lt
  have HB := hide hB
  obtain ⟨ino, hn0, hn1, hn2, hn3⟩ := info_parts Tryz.infoRun7
  clear hB
  go_enter Tryz.func27, Tryz.ntmps27
  go_wp2_with fail
  refine (copyStrs_in _ rd rc roots hrl hrs (hR.kept ((Kept.refl _).alloc _))).mono ?_
  rintro e w1 ⟨ra, rfl, hI1, k1⟩
  have K1 : Kept w w1 := Kept.trans ((Kept.refl _).alloc _) k1
  have z1 := k1.size
  simp only [World.size_alloc] at z1 hI1
  have HRes : Hid (RowT w1 w.heap.size 33 2) := RowT.kept (RowT.made w #[.slice none 0 0, .slice none 0 0] 33) k1
  have q3 := (K1.cell zk).trans b3
  have HI1 := hide hI1
  have zk1 : bb < w1.heap.size := by omega
  clear hI1 k1 b2 b3
  go_wp2
  have KA : Kept w1 (w1.alloc (.cells #[.slice ra roots.length roots.length, .slice none 0 0] 33)) := (Kept.refl _).alloc _
  have HSr : Hid (StI w1 (w1.alloc (.cells #[.slice ra roots.length roots.length, .slice none 0 0] 33)) ra roots.length none 0 0 []) := by
    have hc := range_new w1 #[.slice ra roots.length roots.length, .slice none 0 0] 33
    exact ⟨KA, RowT.made w1 #[.slice ra roots.length roots.length, .slice none 0 0] 33, hc 0 _ rfl, hc 1 _ rfl, World.ownsRow_nil _ _ _ _⟩
  clear q3 KA
  go_loopw [18] (fun i wr => ∃ k : Nat, k ≤ ts.length ∧ i = .int .i64 k ∧ Hid (∃ (ds : Option Addr) (dcs : Nat) (xs : List Value), StI w1 wr ra roots.length ds k dcs xs ∧ PackedX w1 (fun _ => True) xs ((runsOf ts).take k))) (fun i _ => ts.length - (intOf i).toNat)
  case atStart => exact ⟨0, Nat.zero_le _, rfl, hide ⟨none, 0, [], HSr.out, PackedX.nil _ _⟩⟩
  case round =>
    obtain ⟨k, hk, rfl, HIn⟩ := hrel
    obtain ⟨ds, dcs, xs, hSt, hPk⟩ := HIn.out
    have HSt := hide hSt
    have HPk := hide hPk
    clear hSt hPk HIn
    have Kr : Kept w wr := K1.trans HSt.out.kw
    have zr := HSt.out.kw.size
    have hsb := HSt.out.row.lt
    clear HSr
    by_cases hlt : k < ts.length
    · obtain ⟨g, hdg, hcell⟩ := (HB.out.kept Kr).item hlt
      subst hdg
      have hT := (HB.out.kept Kr).task ts[k] (List.getElem_mem hlt)
      have hT1 := (HB.out.kept K1).task ts[k] (List.getElem_mem hlt)
      have htw := (HB.out.task ts[k] (List.getElem_mem hlt)).row.lt
      obtain ⟨ta, tc, htv⟩ := own_slice hT.txt
      have hSt1 : Strs w1 ta ts[k].r.texts ∧ (ta = none → tc = 0) := by
        have h := hT1.txt
        obtain ⟨a9, c9, e9, h9⟩ := owned_strs h
        rw [htv] at h e9
        simp only [Value.slice.injEq, true_and] at e9
        rw [← e9.1] at h9
        exact ⟨h9, (tstrs_owned h).2.1⟩
      have HNx : Hid ((runsOf ts).take (k + 1) = (runsOf ts).take k ++ [ts[k].r]) := by
        show (runsOf ts).take (k + 1) = (runsOf ts).take k ++ [ts[k].r]
        rw [List.take_succ_eq_append_getElem (by simpa [runsOf] using hlt)]
        simp [runsOf]
      have hrg : wr.rangeAt ts[k].tb 0 (ts[k].r.cells ta tc) := fun j v hv => hT.rng j v (by
        have e0 : ts[k].cells = ts[k].r.cells ta tc ++ [.int .i64 ts[k].cost, .slice ts[k].sa ts[k].steps.length ts[k].sc, .int .i64 (ts[k].op : Int), ts[k].qv, .string ts[k].bl] := by
          unfold TaskM.cells RunX.cells
          rw [htv]
          rfl
        rw [e0]
        have hjl : j < (ts[k].r.cells ta tc).length := (List.getElem?_eq_some_iff.1 hv).1
        rw [List.getElem?_append_left hjl]
        exact hv)
      obtain ⟨tb, htb⟩ : ∃ tb, tb = ts[k].tb := ⟨_, rfl⟩
      obtain ⟨r, hr⟩ : ∃ r, r = ts[k].r := ⟨_, rfl⟩
      rw [← htb] at hcell hrg htw
      rw [← hr] at hrg hSt1 HNx
      have HS1 := hide hSt1
      have t0 := hrg 0 _ rfl
      have t1 := hrg 1 _ rfl
      have t2 := hrg 2 _ rfl
      have t3 := hrg 3 _ rfl
      have t4 := hrg 4 _ rfl
      have t5 := hrg 5 _ rfl
      have t6 := hrg 6 _ rfl
      simp only [Nat.zero_add] at t0 t1 t2 t3 t4 t5 t6
      have m1 := HSt.out.c1
      have htob : tb < w1.heap.size := by omega
      clear hT hT1 htv hSt1 hrg hr htb
      have i0 : (k : Int) < (ts.length : Int) := by omega
      have HSO : Hid (∀ w' : World, (∀ b, b ≤ w1.heap.size → w'.heap[b]? = wr.heap[b]?) → (fun w' => w'.cell? ⟨w1.heap.size, 1, none⟩ = some (.slice ds k dcs) ∧ w'.cell? ⟨tb, 0, none⟩ = some (.string r.name) ∧ w'.cell? ⟨tb, 1, none⟩ = some (.bool r.over) ∧ w'.cell? ⟨tb, 2, none⟩ = some (.bool r.fail) ∧ w'.cell? ⟨tb, 3, none⟩ = some (.string r.text) ∧ w'.cell? ⟨tb, 4, none⟩ = some (.int .i64 r.at') ∧ w'.cell? ⟨tb, 5, none⟩ = some (.int .i64 r.visits) ∧ w'.cell? ⟨tb, 6, none⟩ = some (.slice ta r.texts.length tc)) w') := fun w' hh => ⟨(World.cell?_of_block (w := wr) (hh w1.heap.size (Nat.le_refl _))).trans m1, (World.cell?_of_block (w := wr) (hh tb (by omega))).trans t0, (World.cell?_of_block (w := wr) (hh tb (by omega))).trans t1, (World.cell?_of_block (w := wr) (hh tb (by omega))).trans t2, (World.cell?_of_block (w := wr) (hh tb (by omega))).trans t3, (World.cell?_of_block (w := wr) (hh tb (by omega))).trans t4, (World.cell?_of_block (w := wr) (hh tb (by omega))).trans t5, (World.cell?_of_block (w := wr) (hh tb (by omega))).trans t6⟩
      have hz1 : w1.heap.size < wr.heap.size := hsb
      go_upto_region 5 with fail
      refine UpTo.rk 9 HSO.out (fun _ _ => rfl) (fun hHeld => ?_)
      have KD : Kept wr wr.drew := (Kept.refl wr).drew
      generalize hwd : wr.drew = wd at hHeld KD ⊢
      clear hwd
      refine UpTo.tk 0 hHeld ?_
      refine UpTo.tk 1 hHeld ?_
      refine UpTo.tk 2 hHeld ?_
      refine UpTo.tk 3 hHeld ?_
      refine UpTo.tk 4 hHeld ?_
      refine UpTo.tk 5 hHeld ?_
      refine UpTo.nx 6 (fun K hK => ?_)
      go_simp
      have K5 : Kept wd (wd.alloc (.cells #[.string r.name, .bool r.over, .bool r.fail, .string r.text, .int .i64 r.at', .int .i64 r.visits, .slice ta r.texts.length tc] 59)) := (Kept.refl _).alloc _
      have hc5 := range_new wd #[.string r.name, .bool r.over, .bool r.fail, .string r.text, .int .i64 r.at', .int .i64 r.visits, .slice ta r.texts.length tc] 59
      have K6 := KD.trans K5
      have hw6 : ∀ b, b ≤ w1.heap.size → (wd.alloc (.cells #[.string r.name, .bool r.over, .bool r.fail, .string r.text, .int .i64 r.at', .int .i64 r.visits, .slice ta r.texts.length tc] 59)).heap[b]? = wr.heap[b]? := fun b hb => K6.block b (by omega)
      refine hK.out _ _ (fun _ => HSO.out _ hw6) ?_
      clear hK K hHeld
      obtain ⟨eb, heb⟩ : ∃ eb, eb = wd.heap.size := ⟨_, rfl⟩
      rw [← heb] at hc5 ⊢
      generalize hwe : wd.alloc (.cells #[.string r.name, .bool r.over, .bool r.fail, .string r.text, .int .i64 r.at', .int .i64 r.visits, .slice ta r.texts.length tc] 59) = w6 at hc5 K6 hw6 ⊢
      clear hwe K5 heb
      have HR6 := hide ((But.of_kept (S := fun _ => False) K6).owns HSt.out.own (fun _ _ => id))
      have hz6 := K6.size
      try simp only [Act.put, upA, upB, upC]
      refine UpTo.nx 7 (fun K hK => ?_)
      refine step_append_lies _ rfl (.tmp 23) (.tmp 28) 31 rfl (w1.heap.size + 1) 59 ino _ 7 80 Tryz.underlying31 hn0 hn1 hn2 hn3 rfl (by decide) (.slice ds k dcs) k xs (by simp [Act.eval]) HR6.out ⟨eb, 0, none⟩ 1 1 (r.cells ta tc) (by simp [Act.eval]) rfl (fun j u hu => by rw [Addr.add_mid]; exact hc5 j u hu) (RunX.one r ta tc) (by omega) (by unfold maxLen; omega) (by omega) (by omega) _ rfl ?_
      intro g6 cap6 w8 hown8 hgr8 hat hlt8
      have hrow : ∀ b, (Value.slice ds k dcs).ownBlock = some b → w1.heap.size + 1 ≤ b := fun b e => (HR6.out.lt b e).1
      have k68 : But (fun b => (Value.slice ds k dcs).ownBlock = some b) w6 w8 := But.of_grown hgr8 (fun b e => e)
      have hw8 : ∀ b, b ≤ w1.heap.size → w8.heap[b]? = wr.heap[b]? := fun b hb => (k68.block b (by omega) (fun e => by have := hrow b e; omega)).trans (hw6 b hb)
      have hr8 : RowT w8 w1.heap.size 33 2 := HSt.out.row.block (hw8 _ (Nat.le_refl _))
      obtain ⟨⟨_, fo2⟩, fo1⟩ := hr8.row.at (i := 1) (by omega)
      have hz8 := k68.size
      have HN8 : Hid (StI w1 (w8.setCell ⟨w1.heap.size, 1, none⟩ (.slice (some ⟨g6, 0, none⟩) (k + 1) cap6)) ra roots.length (some ⟨g6, 0, none⟩) (k + 1) cap6 (xs ++ r.cells ta tc)) := by
        refine ⟨(k68.kept (HSt.out.kw.trans K6) (fun b e => by have := hrow b e; omega)).setCell (Nat.le_refl _) _, hr8.set _, ?_, set_hit hr8.row (by omega) _, ?_⟩
        · rw [set_miss (by omega)]; exact (World.cell?_of_block (w := wr) (hw8 _ (Nat.le_refl _))).trans HSt.out.c0
        · exact (But.set (S := fun b => b = w1.heap.size) (But.of_kept (Kept.refl w8)) (p := ⟨w1.heap.size, 1, none⟩) rfl _).owns hown8 (fun b e e2 => by have := (hown8.lt b e).1; omega)
      refine hK.out _ _ (fun _ => HSO.out _ hw8) ?_
      clear hK K hown8 hgr8 hat hr8
      try simp only [Act.put, upA, upB, upC]
      have hHeld := HSO.out _ hw8
      refine UpTo.tk 8 hHeld ?_
      refine UpTo.nx 9 (fun K hK => ?_)
      go_simp
      refine hK.out _ _ (fun h => absurd rfl h) ?_
      clear hK K
      try simp only [Act.put, upA, upB, upC]
      refine UpTo.dn ?_
      go_wp2
      go_roundw
      case rel => exact ⟨k + 1, by omega, by go_num, hide ⟨_, cap6, _, HN8.out, by rw [HNx.out]; exact HPk.out.snoc HS1.out.1 HS1.out.2 (fun _ _ => trivial)⟩⟩
      case measure => simp [intOf]; omega
    · have hkl : k = ts.length := by omega
      subst hkl
      have HRl : Hid ((runsOf ts).length = ts.length) := by show (runsOf ts).length = ts.length; simp [runsOf]
      have hall : (runsOf ts).take ts.length = runsOf ts := List.take_of_length_le (by rw [HRl.out]; exact Nat.le_refl _)
      rw [hall] at HPk
      have HRz : Hid (RunsX wr ds (runsOf ts)) := by
        obtain ⟨_, a8, c8, e8, h8⟩ := PackedX.runs HSt.out.own HPk.out HSt.out.kw
        simp only [Value.slice.injEq] at e8
        rw [← e8.1] at h8
        exact h8.runs
      have HFit : Hid (∀ s ∈ runsOf ts, s.name.size ≤ 1048576 ∧ s.text.size ≤ 1048576 ∧ s.texts.length ≤ 1048576 ∧ ∀ x ∈ s.texts, x.size ≤ 1048576) := fun s hs => by
        obtain ⟨t, ht, rfl⟩ := List.mem_map.1 hs
        exact hts t ht
      have m0 := HSt.out.c0
      have m1 := HSt.out.c1
      clear hall HPk
      go_wp2_with fail
      have hcp := copyRunsX_in wr ds dcs (runsOf ts) (by rw [HRl.out]; omega) HFit.out HRz.out
      rw [HRl.out] at hcp
      refine hcp.mono ?_
      clear hcp
      rintro e w5 ⟨d5, rfl, hI5, k5⟩
      have hr5 := HSt.out.row.kept k5
      have n0 := (k5.cell hsb).trans m0
      obtain ⟨⟨_, fo2⟩, fo1⟩ := hr5.row.at (i := 1) (by omega)
      have hrs5 : RowT w5 w.heap.size 33 2 := (HRes.out.kept HSt.out.kw).kept k5
      obtain ⟨⟨_, fa⟩, fb⟩ := hrs5.row.at (i := 0) (by omega)
      obtain ⟨⟨_, fc⟩, fd⟩ := hrs5.row.at (i := 1) (by omega)
      have z5 := k5.size
      have HRs := hide hrs5
      have HI5 := hide hI5
      have K5 := Kr.trans k5
      have HIs := hide ((HI1.out.same (HSt.out.kw.same _ _)).same (k5.same _ _))
      have hw1w : ¬ w1.heap.size = w.heap.size := by omega
      clear hrs5 hr5 hI5 m0 m1
      go_wp2
      have hX : Row (w5.setCell ⟨w1.heap.size, 1, none⟩ (.slice d5 ts.length ts.length)) w.heap.size 2 := (HRs.out.block (Below.heap_setCell _ _ _ _ (by simp; omega))).row
      have hR9 := World.rangeAt_setCells_same _ w.heap.size 0 [.slice ra roots.length roots.length, .slice d5 ts.length ts.length] (hX.there (o := 0) (m := 2) (Nat.le_refl _))
      refine bodyPost_ret_cell [.slice ra roots.length roots.length, .slice d5 ts.length ts.length] _ Tryz.results27 rfl hR9 Tryz.underlying33 rfl Tryz.sizeState2 rfl ⟨ra, d5, wr.heap.size, by rw [HRl.out], ?_, ?_, by omega, by simp only [size_setCell]; exact z5, ?_⟩
      · refine StrsIn.mono (lo := w.heap.size + 1) (hi := w1.heap.size) ?_ (by omega) (by omega)
        exact ((HIs.out.same (Same.setCell _ (.inr (by simp)) _)).same (Same.setCell _ (.inl (by simp)) _)).same (Same.setCell _ (.inl (by simp)) _)
      · have hz : ((((w5.setCell ⟨w1.heap.size, 1, none⟩ (.slice d5 ts.length ts.length)).setCell ⟨w.heap.size, 0, none⟩ (.slice ra roots.length roots.length)).setCell ⟨w.heap.size, 1, none⟩ (.slice d5 ts.length ts.length))).heap.size = w5.heap.size := by simp only [size_setCell]
        refine RunsInX.mono (lo := wr.heap.size) (hi := w5.heap.size) ?_ (Nat.le_refl _) (Nat.le_of_eq hz.symm)
        exact ((HI5.out.same (Same.setCell _ (.inl hsb) _)).same (Same.setCell _ (.inl (by simp; omega)) _)).same (Same.setCell _ (.inl (by simp; omega)) _)
      · exact ((K5.setCell (by simp; omega) _).setCell (Nat.le_refl _) _).setCell (Nat.le_refl _) _
end
end Go.Proofs.YtjhemildijapmaaGreatDoor
namespace Go.Proofs.YtjhemildijapmaaGreatDoor
open Go.RowKit Go.Shelf
attribute [local go_sem] Oper.semAt_some
theorem results_cellX {P : Program} {fn : Func} {tmps : Array Value} {w : World} {p : Tmp} {ty : TypeId} {b : Nat} (cs : List Value) (d : TypeDesc) (h : fn.results = #[.cell p ty])
    (hp : tmps.getD p undef = .pointer (some ⟨b, 0, none⟩)) (hr : w.rangeAt b 0 cs) (hu : P.underlying ty = some d) (hd : d.isRow = true) (hi : (P.info? ty).map (·.size) = some cs.length) : (results fn tmps).run P w = .ok (.agg cs.toArray) w := by
  have hp' : tmps[p]?.getD undef = .pointer (some ⟨b, 0, none⟩) := by simpa using hp
  simp only [results, h]
  simp [hp', asAddr, run_loadVar_mid w b 0 ty cs d hr hu hd hi]
def DoIEnd (webl : List NodeD) (roots : List ByteArray) (sl : List RunX) (name : ByteArray) (w w' : World) (e : Ending) : Prop :=
  (ValidX webl roots sl ∧ ∃ T, DoneX webl sl name T ∧ StEnd roots T w w' e) ∨ (¬ ValidX webl roots sl ∧ e = .returned (.agg #[.slice none 0 0, .slice none 0 0]) ∧ Kept w w')
theorem two_sets {w : World} {b : Nat} {t : TypeId} {v0 v1 : Value} (h : RowT w b t 2) : ((w.setCell ⟨b, 0, none⟩ v0).setCell ⟨b, 1, none⟩ v1).rangeAt b 0 [v0, v1] := by
  intro j v hv
  rw [Nat.zero_add]
  match j, hv with
  | 0, hv => simp at hv; subst hv; rw [set_miss (by omega)]; exact set_hit h.row (by omega) _
  | 1, hv => simp at hv; subst hv; exact set_hit (h.set (o := 0) v0).row (by omega) _
  | j + 2, hv => simp at hv
def DoI1 (W0 : World) (p : Nat → Prop) (i : Nat) (W : World) : Prop := Kept W0 W ∧ ∀ j, j < i → ¬ p j
theorem DoI1.calm {W0 : World} {p : Nat → Prop} {i : Nat} : Calm W0.heap.size (DoI1 W0 p i) := by
  constructor
  · rintro W o hB ⟨k, h⟩
    exact ⟨k.alloc o, h⟩
  · rintro W l o o' hl ho hn ⟨k, h⟩
    have kb : But (fun b => b = l) W (W.putObj l o') := ⟨rfl, rfl, rfl, by rw [World.putObj_size]; exact Nat.le_refl _, fun b _ e => World.putObj_heap_other e⟩
    exact ⟨kb.kept k (fun b e => by rw [e]; exact hl), h⟩
def DoI2 (W0 : World) (Kf Kc : Nat → Prop) (webl : List NodeD) (wz : World) (bb : Nat) (a : Option Addr) (cap : Nat) (rd : Option Addr) (rn rc mb : Nat) (σ : Env) (name : ByteArray) (c : Code) (W : World) : Prop :=
  c = .exit 0 ∧ ∃ (mx : Nat) (ts2 : List TaskM) (d2 : Option Addr) (dc2 : Nat) (f2 : ByteArray → Value) (ws2 : ByteArray → List Nat), InB W0.heap.size Kf Kc [] W0 webl wz W bb a cap rd rn rc mb mx ts2 d2 dc2 f2 ws2 ∧ BS webl ts2 ws2 ∧ envOf (runsOf ts2) = doX (actsOf webl) σ name ∧ ReadyX (actsOf webl) σ name
theorem DoI2.calm {W0 : World} {Kf Kc : Nat → Prop} {webl : List NodeD} {wz : World} {bb : Nat} {a : Option Addr} {cap : Nat} {rd : Option Addr} {rn rc mb : Nat} {σ : Env} {name : ByteArray} {c : Code} : Calm W0.heap.size (DoI2 W0 Kf Kc webl wz bb a cap rd rn rc mb σ name c) := by
  constructor
  · rintro W o hB ⟨hc, mx, ts2, d2, dc2, f2, ws2, h1, h2⟩
    exact ⟨hc, mx, ts2, d2, dc2, f2, ws2, h1.kept ((Kept.refl W).alloc o), h2⟩
  · rintro W l o o' hl ho hn ⟨hc, mx, ts2, d2, dc2, f2, ws2, h1, h2⟩
    exact ⟨hc, mx, ts2, d2, dc2, f2, ws2, h1.calm o' hl ho hn, h2⟩
set_option maxRecDepth 100000 in
set_option maxHeartbeats 6400000 in
theorem implDo_any (w : World) (a : Option Addr) (cap : Nat) (webl : List NodeD) (rd : Option Addr) (rc : Nat) (roots : List ByteArray) (ga : Option Addr) (gc : Nat) (sl : List RunX) (name : ByteArray) (hl : webl.length ≤ 1048576) (hf : ∀ s ∈ webl, s.Fits) (hrl : roots.length ≤ maxLen) (hrl2 : roots.length ≤ 1048576) (hrc : roots.length ≤ rc) (hrs : ∀ s ∈ roots, s.size ≤ maxLen) (hsl : sl.length ≤ 1048576) (hst : ∀ r ∈ sl, r.texts.length ≤ 1048576) (hS : Nodes w a webl) (hR : Strs w rd roots) (hG : RunsX w ga sl) (hFi : FinishOk w) :
    Calls Tryz.prog 9 #[.agg #[.slice a webl.length cap], .agg #[.slice rd roots.length rc, .slice ga sl.length gc], .string name] w fun e w' => DoIEnd webl roots sl name w w' e := by
  obtain ⟨WB, hWB⟩ : ∃ WB, WB = (((w.alloc (.cells #[.slice a webl.length cap] 37)).alloc (.cells #[.slice rd roots.length rc, .slice ga sl.length gc] 33)).alloc (.cells #[.string name] 9)).alloc (.cells #[.slice none 0 0, .slice none 0 0] 33) := ⟨_, rfl⟩
  have k0 : Kept w WB := by rw [hWB]; exact ((((Kept.refl _).alloc _).alloc _).alloc _).alloc _
  have zB : WB.heap.size = w.heap.size + 1 + 1 + 1 + 1 := by rw [hWB]; simp
  have HNm : Hid (∀ w', Kept WB w' → w'.cell? ⟨w.heap.size + 1 + 1, 0, none⟩ = some (.string name)) := fun w' kk => by
    have q := (box1 (w := (w.alloc (.cells #[.slice a webl.length cap] 37)).alloc (.cells #[.slice rd roots.length rc, .slice ga sl.length gc] 33)) (v := .string name) (t := 9) (w1 := w') (Kept.trans (by rw [hWB]; exact (Kept.refl _).alloc _) kk)).1
    simp only [World.size_alloc] at q
    exact q
  have HRes : Hid (RowT WB (w.heap.size + 1 + 1 + 1) 33 2) := by
    have h := RowT.made (((w.alloc (.cells #[.slice a webl.length cap] 37)).alloc (.cells #[.slice rd roots.length rc, .slice ga sl.length gc] 33)).alloc (.cells #[.string name] 9)) #[.slice none 0 0, .slice none 0 0] 33
    simp only [World.size_alloc] at h
    rw [hWB]
    exact h
  refine (callsIn_wide (n := 9)).1 ?_
  refine callsIn_of_wp_marks Tryz.func9 rfl trivial ?_ rfl
  simp only [Tryz.ntmps9, List.size_toArray, List.length_cons, List.length_nil, Nat.reduceAdd, Nat.reduceSub, Array.replicate_succ, Array.replicate_zero, List.push_toArray, List.append_toArray, List.nil_append, List.cons_append]
  gi_wp2_with fail
  rw [← hWB]
  clear hWB
  refine ⟨trivial, (callsIn_wide.2 (resume_any _ a cap webl rd rc roots ga gc sl hl hf hrl hrc hrs hsl hst (hS.kept k0) (hR.kept k0) (hG.kept k0) (hFi.kept k0))).mono ?_⟩
  rintro e w1 ⟨kb1, hcase⟩
  have K1 := k0.trans kb1
  have z1 := kb1.size
  have HRes1 : Hid (∀ v, RowT (w1.alloc (.cells #[v] 53)) (w.heap.size + 1 + 1 + 1) 33 2) := fun v => HRes.out.kept (kb1.trans ((Kept.refl _).alloc _))
  rcases hcase with ⟨hno, rfl⟩ | ⟨hW, hRo, hA, wz, bb, mb, mx, ts, d, dc, f, ws, b, rfl, kz, hB, hBS, hmx, hb, hled, hend⟩
  · have HNo := hide hno
    have hrsA := HRes1.out (.pointer none)
    obtain ⟨⟨_, fa⟩, fb⟩ := hrsA.row.at (i := 0) (by omega)
    obtain ⟨⟨_, fc⟩, fd⟩ := hrsA.row.at (i := 1) (by omega)
    have HRs := hide hrsA
    have HK := hide ((K1.alloc (.cells #[.pointer none] 53)))
    clear hno hrsA
    gi_wp2_with fail
    refine ⟨_, results_cellX [.slice none 0 0, .slice none 0 0] _ Tryz.results9 rfl (two_sets HRs.out) Tryz.underlying33 rfl Tryz.sizeState2, .inr ⟨fun h => HNo.out ⟨h.1, h.2.1, h.2.2.2.good.asc⟩, rfl, ?_⟩⟩
    exact (HK.out.setCell (by simp; omega) _).setCell (by simp; omega) _
  have HRs2 : Hid (∀ s ∈ roots, s.size ≤ 1048576) := fun s hs => by
    obtain ⟨j, hj, rfl⟩ := List.getElem_of_mem hs
    have h := (hRo.2.2 j hj).1.2.1
    simp only [List.getD, List.getElem?_eq_getElem hj, Option.getD_some] at h
    omega
  have HV := hide (hb.trans (res_valid hW hRo hBS hled hend))
  have HBi := hide hb
  have HB := hide hB
  have HBS := hide hBS
  have HW := hide hW
  clear hRo hA hb hled hend hB hBS hW
  cases b
  · have hrsA := HRes1.out (.pointer (some ⟨bb, 0, none⟩))
    obtain ⟨⟨_, fa⟩, fb⟩ := hrsA.row.at (i := 0) (by omega)
    obtain ⟨⟨_, fc⟩, fd⟩ := hrsA.row.at (i := 1) (by omega)
    have HRs := hide hrsA
    have HK := hide ((K1.alloc (.cells #[.pointer (some ⟨bb, 0, none⟩)] 53)))
    clear hrsA
    gi_wp2_with fail
    refine ⟨_, results_cellX [.slice none 0 0, .slice none 0 0] _ Tryz.results9 rfl (two_sets HRs.out) Tryz.underlying33 rfl Tryz.sizeState2, .inr ⟨fun h => (by have h2 := HV.out.2 h; cases h2), rfl, ?_⟩⟩
    exact (HK.out.setCell (by simp; omega) _).setCell (by simp; omega) _
  have HRn : Hid (runsOf ts = sl) := HBi.out.1 rfl
  have HVx : Hid (ValidX webl roots sl) := HV.out.1 rfl
  clear HBi HV HRes1
  gi_wp2_with fail
  obtain ⟨W0, hW0⟩ : ∃ W0, w1.alloc (.cells #[.pointer (some ⟨bb, 0, none⟩)] 53) = W0 := ⟨_, rfl⟩
  rw [hW0]
  have K0 : Kept w1 W0 := by rw [← hW0]; exact (Kept.refl _).alloc _
  have z0 : W0.heap.size = w1.heap.size + 1 := by rw [← hW0]; simp
  have qb := (box1 (w := w1) (v := .pointer (some ⟨bb, 0, none⟩)) (t := 53) (w1 := W0) (by rw [hW0]; exact Kept.refl _)).1
  have hN6 := HB.out.len (web_len HW.out)
  have bbz := HB.out.row.lt
  have zw := HB.out.kw.size
  have c30 := (HB.out.kept K0).c3
  obtain ⟨Kf, hKf⟩ : ∃ Kf : Nat → Prop, Kf = fun k => k = w1.heap.size := ⟨_, rfl⟩
  obtain ⟨Kc, hKc⟩ : ∃ Kc : Nat → Prop, Kc = fun _ => False := ⟨_, rfl⟩
  have kf0 : Kf w1.heap.size := by rw [hKf]
  have HIn : Hid (InB W0.heap.size Kf Kc [] W0 webl wz W0 bb a cap rd roots.length rc mb mx ts d dc f ws) := InB.start (HB.out.kept K0) (fun k hk => by
      rw [hKf, hKc] at hk
      rcases hk with e | e
      · exact ⟨by omega, HB.out.far (by omega)⟩
      · exact e.elim) (fun k hk => by rw [hKc] at hk; exact hk.elim) (fun p hp => by cases hp)
  refine loop_looks (ready_looks bb d ts.length dc (tbOf ts) (by omega)) rfl (enters_of Tryz.func25 (by kernel_rfl) rfl) (bb_calm (by omega)) c30 (fun _ => rfl)
    (DoI1 W0 (fun j => ∃ hj : j < ts.length, CanGo (actsOf webl) (envOf (runsOf ts)) (ts[j]).r ∧ (ts[j]).r.name = name)) (DoI2 W0 Kf Kc webl wz bb a cap rd roots.length rc mb (envOf (runsOf ts)) name) (fun i => DoI1.calm) (fun _ => DoI2.calm)
    ⟨Kept.refl _, fun j hj => absurd hj (Nat.not_lt_zero _)⟩
    (fun i => { tmps := #[.agg #[.slice a webl.length cap], .agg #[.slice rd roots.length rc, .slice ga sl.length gc], .string name, .pointer (some ⟨w.heap.size, 0, none⟩), .pointer (some ⟨w.heap.size + 1, 0, none⟩), .pointer (some ⟨w.heap.size + 1 + 1, 0, none⟩), .pointer (some ⟨w.heap.size + 1 + 1 + 1, 0, none⟩), .pointer (some ⟨w1.heap.size, 0, none⟩), .bool true, .pointer (some ⟨tbOf ts i, 0, none⟩), .tuple #[.pointer (some ⟨bb, 0, none⟩), .bool true], .agg #[.slice a webl.length cap], .agg #[.slice rd roots.length rc, .slice ga sl.length gc], .tuple #[.pointer (some ⟨bb, 0, none⟩), .bool true], .pointer (some ⟨bb, 0, none⟩), .bool true, .bool true, .bool false, undef, .pointer (some ⟨bb, 0, none⟩), .func (.func 25) #[.pointer (some ⟨bb, 0, none⟩)] #[], .pointer (some ⟨tbOf ts i, 0, none⟩), undef, undef, undef, undef, undef, undef, undef, undef, undef, undef, undef, undef], defers := [] }) ?assign (fun i => sees_calm (fun g e => by have := (HB.out.apart e).1; omega)) ?step ?done ?stop
  case assign =>
    intro l i W K hK
    gi_wp2
    exact hK
  case step =>
    rintro i W hi ⟨k, hno⟩
    rcases (HB.out.kept (K0.trans k)).sees HBS.out hi with ⟨hv, hr⟩ | ⟨hn, hr⟩
    rotate_left
    · refine .inr ⟨hn, k, fun j hj => ?_⟩
      by_cases e : j = i
      · subst e
        rintro ⟨_, h1, _⟩
        exact hr h1
      · exact hno j (by omega)
    refine .inl ⟨hv, ?_⟩
    have HR := hide hr
    clear hv hr hno k
    clear W
    rintro l W _ ⟨k, hno⟩ hzW
    have HNoj := hide hno
    clear hno
    have hT := (HB.out.kept (K0.trans k)).task ts[i] (List.getElem_mem hi)
    have t0 : W.cell? ⟨tbOf ts i, 0, none⟩ = some (.string ts[i].r.name) := by
      have h := hT.rng 0 _ rfl
      simpa [tbOf, List.getD, hi] using h
    have htz : tbOf ts i < w1.heap.size := by
      have h := (HB.out.task ts[i] (List.getElem_mem hi)).row.lt
      simpa [tbOf, List.getD, hi] using h
    have HTb : Hid (tbOf ts i = (ts[i]).tb) := by show tbOf ts i = (ts[i]).tb; simp [tbOf, List.getD, hi]
    have n0 := HNm.out W (kb1.trans (K0.trans k))
    have v0 : W.cell? ⟨w1.heap.size, 0, none⟩ = some (.pointer (some ⟨bb, 0, none⟩)) := (k.cell (by omega)).trans qb
    obtain ⟨n, hn⟩ : ∃ n, n = ts[i].r.name := ⟨_, rfl⟩
    obtain ⟨tb, htb⟩ : ∃ tb, tb = tbOf ts i := ⟨_, rfl⟩
    rw [← hn, ← htb] at t0
    rw [← htb] at htz HTb
    rw [← htb]
    have HN := hide hn
    clear hT hn htb qb c30 hW0
    have hd : 1 ≤ 7 := by omega
    have hmxo : Tryz.prog.follows .mixedOrders = true := by kernel_rfl
    gi_wp2
    rename_i Q1 K1' hK1
    have hrest : ∀ w2 : World, Kept W w2 → K1' { tmps := #[.agg #[.slice a webl.length cap], .agg #[.slice rd roots.length rc, .slice ga sl.length gc], .string name, .pointer (some ⟨w.heap.size, 0, none⟩), .pointer (some ⟨w.heap.size + 1, 0, none⟩), .pointer (some ⟨w.heap.size + 1 + 1, 0, none⟩), .pointer (some ⟨w.heap.size + 1 + 1 + 1, 0, none⟩), .pointer (some ⟨w1.heap.size, 0, none⟩), .bool true, .pointer (some ⟨tb, 0, none⟩), .tuple #[.pointer (some ⟨bb, 0, none⟩), .bool true], .agg #[.slice a webl.length cap], .agg #[.slice rd roots.length rc, .slice ga sl.length gc], .tuple #[.pointer (some ⟨bb, 0, none⟩), .bool true], .pointer (some ⟨bb, 0, none⟩), .bool true, .bool true, .bool false, undef, .pointer (some ⟨bb, 0, none⟩), .func (.func 25) #[.pointer (some ⟨bb, 0, none⟩)] #[], .pointer (some ⟨tb, 0, none⟩), .pointer (some ⟨tb, 0, none⟩), .pointer (some ⟨tb, 0, none⟩), .pointer (some ⟨tb, 0, none⟩), .pointer (some ⟨tb, 0, none⟩), .string n, .string name, .bool (n.toList == name.toList), undef, undef, undef, undef, undef], defers := [] } w2 := by
      intro w2 k2
      apply hK1
      have v2 := (k2.cell (o := 0) (by omega)).trans v0
      cases hnn : (n.toList == name.toList)
      · clear v2 v0 t0 n0
        gi_wp2
        refine ⟨keeps_of_kept k2 _, k.trans k2, fun j hj => ?_⟩
        by_cases e : j = i
        · subst e
          rintro ⟨_, _, h2⟩
          exact beq_no hnn (by rw [HN.out]; exact h2)
        · exact HNoj.out j (by omega)
      · have hnm : n = name := beq_yes hnn
        have HNm2 := hide hnm
        have hI2 := HIn.out.kept (k.trans k2)
        have HI2 := hide hI2
        have hwl := web_len HW.out
        have hcall := benchDo_any hI2.told HBS.out (i := i) (t := ts[i]) (List.getElem?_eq_getElem hi) HR.out (web_acts HW.out) hf hwl (rises_code HW.out) (hS.kept (k0.trans kz)) (by omega) (hFi.kept (k0.trans kz))
        rw [← HTb.out] at hcall
        have HCall := hide hcall
        clear hcall hI2 hnm
        gi_wp2_with fail
        refine ⟨trivial, (CallsIn.inRound l (callsIn_wide.2 HCall.out)).mono ?_⟩
        rintro e w4 ⟨rfl, ts2, d2, dc2, f2, ws2, hB2, hS2, hE2⟩
        obtain ⟨hIn2, hkf, _⟩ := HI2.out.did hB2
        have HFin : Hid (KeepsFrom W0.heap.size W w4 ∧ DoI2 W0 Kf Kc webl wz bb a cap rd roots.length rc mb (envOf (runsOf ts)) name (.exit 0) w4) := ⟨(keeps_of_kept k2 _).trans hkf, rfl, _, ts2, d2, dc2, f2, ws2, hIn2, hS2, by rw [hE2, ← HN.out, HNm2.out], ⟨ts[i].r, by rw [← HNm2.out, HN.out]; exact asc_env HB.out.asc (List.mem_map_of_mem (List.getElem_mem hi)), HR.out⟩⟩
        clear hB2 hS2 hE2 hIn2 hkf HCall
        gi_wp2
        exact HFin.out
    have HRest := hide hrest
    clear hrest hK1
    gi_region_with_o (fail)
    all_goals exact HRest.out _ (Kept.refl W).drew
  case done =>
    rintro D W hD ⟨k, hno⟩ hdef
    have HBW := hide (HB.out.kept (K0.trans k))
    have KbW : Kept WB W := kb1.trans (K0.trans k)
    have KwW := k0.trans KbW
    have v0 : W.cell? ⟨w1.heap.size, 0, none⟩ = some (.pointer (some ⟨bb, 0, none⟩)) := (k.cell (by omega)).trans qb
    have HDone : Hid (DoneX webl sl name (runsOf ts)) := .inr ⟨fun ⟨r, h1, h2⟩ => by
      rw [← HRn.out] at h1 h2
      obtain ⟨h3, h4⟩ := env_mem h1
      obtain ⟨t, ht, rfl⟩ := List.mem_map.1 h3
      obtain ⟨j, hj, rfl⟩ := List.getElem_of_mem ht
      exact hno j hj ⟨hj, h2, h4⟩, HRn.out⟩
    have HLen : Hid (ts.length ≤ 60) := by show ts.length ≤ 60; omega
    clear hno qb c30 hW0
    have hts : ∀ t ∈ ts, t.r.name.size ≤ 1048576 ∧ t.r.text.size ≤ 1048576 ∧ t.r.texts.length ≤ 1048576 ∧ ∀ x ∈ t.r.texts, x.size ≤ 1048576 := fun t ht => by
      have hg := HBS.out.good.good t.r (List.mem_map_of_mem ht)
      obtain ⟨A, hA, _⟩ := hg.act
      have h1 := (web_acts HW.out _ _ hA).2.2.1
      have h2 := hg.tl
      have h3 := hg.hi
      have h4 := hg.tx
      exact ⟨by omega, by omega, by omega, fun x hx => by have := hg.ts x hx; omega⟩
    have HTs := hide hts
    clear hts
    gi_wp2_with fail
    refine ⟨trivial, (callsIn_wide.2 (benchStateX_any roots HBW.out hrl2 HRs2.out HLen.out HTs.out (hR.kept KwW))).mono ?_⟩
    rintro e w9 ⟨ra, ds, mid, rfl, hS9, hG9, hm1, hm2, k9⟩
    have hdz := heap_lt hdef
    have hdef9 := (k9.block D hdz).trans hdef
    have z9 := k9.size
    have hrs9 : RowT w9 (w.heap.size + 1 + 1 + 1) 33 2 := HRes.out.kept (KbW.trans k9)
    obtain ⟨⟨_, fa⟩, fb⟩ := hrs9.row.at (i := 0) (by omega)
    obtain ⟨⟨_, fc⟩, fd⟩ := hrs9.row.at (i := 1) (by omega)
    have hwD : w.heap.size + 1 + 1 + 1 < D := by have h1 := KbW.size; have h2 := kb1.size; omega
    have HRs := hide hrs9
    have HS9 := hide hS9
    have HG9 := hide hG9
    have hdne : ¬ D = w.heap.size + 1 + 1 + 1 := by omega
    have KF := KwW.trans k9
    clear hrs9 hS9 hG9
    gi_wp2
    have hdefF : ((w9.setCell ⟨w.heap.size + 1 + 1 + 1, 0, none⟩ (.slice ra roots.length roots.length)).setCell ⟨w.heap.size + 1 + 1 + 1, 1, none⟩ (.slice ds (runsOf ts).length (runsOf ts).length)).heap[D]? = some (.deferred (some [])) := by
      rw [Below.heap_setCell _ _ _ _ (by simp; omega), Below.heap_setCell _ _ _ _ (by simp; omega)]
      exact hdef9
    have hX : Row (((w9.setCell ⟨w.heap.size + 1 + 1 + 1, 0, none⟩ (.slice ra roots.length roots.length)).setCell ⟨w.heap.size + 1 + 1 + 1, 1, none⟩ (.slice ds (runsOf ts).length (runsOf ts).length)).putObj D (.deferred none)) (w.heap.size + 1 + 1 + 1) 2 := by
      have h1 := ((HRs.out.set (o := 0) (.slice ra roots.length roots.length)).set (o := 1) (.slice ds (runsOf ts).length (runsOf ts).length)).block (w' := ((w9.setCell ⟨w.heap.size + 1 + 1 + 1, 0, none⟩ (.slice ra roots.length roots.length)).setCell ⟨w.heap.size + 1 + 1 + 1, 1, none⟩ (.slice ds (runsOf ts).length (runsOf ts).length)).putObj D (.deferred none)) (World.putObj_heap_other (by omega))
      exact h1.row
    have hR9 : (((w9.setCell ⟨w.heap.size + 1 + 1 + 1, 0, none⟩ (.slice ra roots.length roots.length)).setCell ⟨w.heap.size + 1 + 1 + 1, 1, none⟩ (.slice ds (runsOf ts).length (runsOf ts).length)).putObj D (.deferred none)).rangeAt (w.heap.size + 1 + 1 + 1) 0 [(.slice ra roots.length roots.length), (.slice ds (runsOf ts).length (runsOf ts).length)] := by
      intro j v hv
      rw [Nat.zero_add, World.cell?_of_block (w := (w9.setCell ⟨w.heap.size + 1 + 1 + 1, 0, none⟩ (.slice ra roots.length roots.length)).setCell ⟨w.heap.size + 1 + 1 + 1, 1, none⟩ (.slice ds (runsOf ts).length (runsOf ts).length)) (World.putObj_heap_other (by show w.heap.size + 1 + 1 + 1 ≠ D; omega))]
      match j, hv with
      | 0, hv => simp at hv; subst hv; rw [set_miss (by omega)]; exact set_hit HRs.out.row (by omega) _
      | 1, hv => simp at hv; subst hv; exact set_hit (HRs.out.set (o := 0) (.slice ra roots.length roots.length)).row (by omega) _
      | j + 2, hv => simp at hv
    refine ⟨by simp, .inl ⟨_, _, rfl, run_takeDeferred hdefF, ?_⟩⟩
    refine ⟨_, results_cellX [(.slice ra roots.length roots.length), (.slice ds (runsOf ts).length (runsOf ts).length)] _ Tryz.results9 rfl hR9 Tryz.underlying33 rfl Tryz.sizeState2, .inl ⟨HVx.out, runsOf ts, HDone.out, ra, ds, mid, rfl, ?_, ?_, by have := KwW.size; omega, by rw [World.putObj_size, size_setCell, size_setCell]; exact hm2, ?_⟩⟩
    · refine StrsIn.mono (lo := W.heap.size) (hi := mid) ?_ (by have := KwW.size; omega) (Nat.le_refl _)
      exact ((HS9.out.same (Same.setCell _ (.inl (by simp; omega)) _)).same (Same.setCell _ (.inl (by simp; omega)) _)).same (fun b hb _ _ => World.putObj_heap_other (by omega))
    · refine RunsInX.mono (lo := mid) (hi := w9.heap.size) ?_ (Nat.le_refl _) (by rw [World.putObj_size, size_setCell, size_setCell]; exact Nat.le_refl _)
      exact ((HG9.out.same (Same.setCell _ (.inl (by simp; omega)) _)).same (Same.setCell _ (.inl (by simp; omega)) _)).same (fun b hb _ _ => World.putObj_heap_other (by omega))
    · have kb : But (fun b => b = D) ((w9.setCell ⟨w.heap.size + 1 + 1 + 1, 0, none⟩ (.slice ra roots.length roots.length)).setCell ⟨w.heap.size + 1 + 1 + 1, 1, none⟩ (.slice ds (runsOf ts).length (runsOf ts).length)) (((w9.setCell ⟨w.heap.size + 1 + 1 + 1, 0, none⟩ (.slice ra roots.length roots.length)).setCell ⟨w.heap.size + 1 + 1 + 1, 1, none⟩ (.slice ds (runsOf ts).length (runsOf ts).length)).putObj D (.deferred none)) := ⟨rfl, rfl, rfl, by rw [World.putObj_size]; exact Nat.le_refl _, fun b _ e => World.putObj_heap_other e⟩
      exact kb.kept ((KF.setCell (by simp; omega) _).setCell (by simp; omega) _) (fun b e => by rw [e]; omega)
  case stop =>
    rintro D c W hD ⟨rfl, mx2, ts2, d2, dc2, f2, ws2, hI2, hS2, hE2, hRd⟩ hdef
    have HBW := hide hI2.bm
    have KzW : Kept wz W := hI2.bm.kw
    have KbW : Kept WB W := kz.trans KzW
    have KwW := k0.trans KbW
    have v0 : W.cell? ⟨w1.heap.size, 0, none⟩ = some (.pointer (some ⟨bb, 0, none⟩)) := (World.cell?_of_block (w := W0) (hI2.same _ kf0)).trans qb
    have HDone : Hid (DoneX webl sl name (runsOf ts2)) := by
      obtain ⟨r, h1, h2⟩ := hRd
      rw [HRn.out] at h1 h2 hE2
      refine .inl ⟨r, h1, h2, asc_eq hS2.good.asc (doL_asc HVx.out.2.2.2.good.asc) ?_⟩
      rw [hE2, doL_env HVx.out.2.2.2.good.asc h1]
    have HLen : Hid (ts2.length ≤ 60) := hI2.bm.len (web_len HW.out)
    have HS2 := hide hS2
    have hDz : W0.heap.size ≤ W.heap.size := hI2.size
    clear hI2 hS2 hE2 hRd qb c30 hW0
    have hts : ∀ t ∈ ts2, t.r.name.size ≤ 1048576 ∧ t.r.text.size ≤ 1048576 ∧ t.r.texts.length ≤ 1048576 ∧ ∀ x ∈ t.r.texts, x.size ≤ 1048576 := fun t ht => by
      have hg := HS2.out.good.good t.r (List.mem_map_of_mem ht)
      obtain ⟨A, hA, _⟩ := hg.act
      have h1 := (web_acts HW.out _ _ hA).2.2.1
      have h2 := hg.tl
      have h3 := hg.hi
      have h4 := hg.tx
      exact ⟨by omega, by omega, by omega, fun x hx => by have := hg.ts x hx; omega⟩
    have HTs := hide hts
    clear hts
    gi_wp2_with fail
    refine ⟨trivial, (callsIn_wide.2 (benchStateX_any roots HBW.out hrl2 HRs2.out HLen.out HTs.out (hR.kept KwW))).mono ?_⟩
    rintro e w9 ⟨ra, ds, mid, rfl, hS9, hG9, hm1, hm2, k9⟩
    have hdz := heap_lt hdef
    have hdef9 := (k9.block D hdz).trans hdef
    have z9 := k9.size
    have hrs9 : RowT w9 (w.heap.size + 1 + 1 + 1) 33 2 := HRes.out.kept (KbW.trans k9)
    obtain ⟨⟨_, fa⟩, fb⟩ := hrs9.row.at (i := 0) (by omega)
    obtain ⟨⟨_, fc⟩, fd⟩ := hrs9.row.at (i := 1) (by omega)
    have hwD : w.heap.size + 1 + 1 + 1 < D := by have h1 := KbW.size; have h2 := kb1.size; omega
    have HRs := hide hrs9
    have HS9 := hide hS9
    have HG9 := hide hG9
    have hdne : ¬ D = w.heap.size + 1 + 1 + 1 := by omega
    have KF := KwW.trans k9
    clear hrs9 hS9 hG9
    gi_wp2
    have hdefF : ((w9.setCell ⟨w.heap.size + 1 + 1 + 1, 0, none⟩ (.slice ra roots.length roots.length)).setCell ⟨w.heap.size + 1 + 1 + 1, 1, none⟩ (.slice ds (runsOf ts2).length (runsOf ts2).length)).heap[D]? = some (.deferred (some [])) := by
      rw [Below.heap_setCell _ _ _ _ (by simp; omega), Below.heap_setCell _ _ _ _ (by simp; omega)]
      exact hdef9
    have hX : Row (((w9.setCell ⟨w.heap.size + 1 + 1 + 1, 0, none⟩ (.slice ra roots.length roots.length)).setCell ⟨w.heap.size + 1 + 1 + 1, 1, none⟩ (.slice ds (runsOf ts2).length (runsOf ts2).length)).putObj D (.deferred none)) (w.heap.size + 1 + 1 + 1) 2 := by
      have h1 := ((HRs.out.set (o := 0) (.slice ra roots.length roots.length)).set (o := 1) (.slice ds (runsOf ts2).length (runsOf ts2).length)).block (w' := ((w9.setCell ⟨w.heap.size + 1 + 1 + 1, 0, none⟩ (.slice ra roots.length roots.length)).setCell ⟨w.heap.size + 1 + 1 + 1, 1, none⟩ (.slice ds (runsOf ts2).length (runsOf ts2).length)).putObj D (.deferred none)) (World.putObj_heap_other (by omega))
      exact h1.row
    have hR9 : (((w9.setCell ⟨w.heap.size + 1 + 1 + 1, 0, none⟩ (.slice ra roots.length roots.length)).setCell ⟨w.heap.size + 1 + 1 + 1, 1, none⟩ (.slice ds (runsOf ts2).length (runsOf ts2).length)).putObj D (.deferred none)).rangeAt (w.heap.size + 1 + 1 + 1) 0 [(.slice ra roots.length roots.length), (.slice ds (runsOf ts2).length (runsOf ts2).length)] := by
      intro j v hv
      rw [Nat.zero_add, World.cell?_of_block (w := (w9.setCell ⟨w.heap.size + 1 + 1 + 1, 0, none⟩ (.slice ra roots.length roots.length)).setCell ⟨w.heap.size + 1 + 1 + 1, 1, none⟩ (.slice ds (runsOf ts2).length (runsOf ts2).length)) (World.putObj_heap_other (by show w.heap.size + 1 + 1 + 1 ≠ D; omega))]
      match j, hv with
      | 0, hv => simp at hv; subst hv; rw [set_miss (by omega)]; exact set_hit HRs.out.row (by omega) _
      | 1, hv => simp at hv; subst hv; exact set_hit (HRs.out.set (o := 0) (.slice ra roots.length roots.length)).row (by omega) _
      | j + 2, hv => simp at hv
    refine ⟨by simp, .inl ⟨_, _, rfl, run_takeDeferred hdefF, ?_⟩⟩
    refine ⟨_, results_cellX [(.slice ra roots.length roots.length), (.slice ds (runsOf ts2).length (runsOf ts2).length)] _ Tryz.results9 rfl hR9 Tryz.underlying33 rfl Tryz.sizeState2, .inl ⟨HVx.out, runsOf ts2, HDone.out, ra, ds, mid, rfl, ?_, ?_, by have := KwW.size; omega, by rw [World.putObj_size, size_setCell, size_setCell]; exact hm2, ?_⟩⟩
    · refine StrsIn.mono (lo := W.heap.size) (hi := mid) ?_ (by have := KwW.size; omega) (Nat.le_refl _)
      exact ((HS9.out.same (Same.setCell _ (.inl (by simp; omega)) _)).same (Same.setCell _ (.inl (by simp; omega)) _)).same (fun b hb _ _ => World.putObj_heap_other (by omega))
    · refine RunsInX.mono (lo := mid) (hi := w9.heap.size) ?_ (Nat.le_refl _) (by rw [World.putObj_size, size_setCell, size_setCell]; exact Nat.le_refl _)
      exact ((HG9.out.same (Same.setCell _ (.inl (by simp; omega)) _)).same (Same.setCell _ (.inl (by simp; omega)) _)).same (fun b hb _ _ => World.putObj_heap_other (by omega))
    · have kb : But (fun b => b = D) ((w9.setCell ⟨w.heap.size + 1 + 1 + 1, 0, none⟩ (.slice ra roots.length roots.length)).setCell ⟨w.heap.size + 1 + 1 + 1, 1, none⟩ (.slice ds (runsOf ts2).length (runsOf ts2).length)) (((w9.setCell ⟨w.heap.size + 1 + 1 + 1, 0, none⟩ (.slice ra roots.length roots.length)).setCell ⟨w.heap.size + 1 + 1 + 1, 1, none⟩ (.slice ds (runsOf ts2).length (runsOf ts2).length)).putObj D (.deferred none)) := ⟨rfl, rfl, rfl, by rw [World.putObj_size]; exact Nat.le_refl _, fun b _ e => World.putObj_heap_other e⟩
      exact kb.kept ((KF.setCell (by simp; omega) _).setCell (by simp; omega) _) (fun b e => by rw [e]; omega)
end Go.Proofs.YtjhemildijapmaaGreatDoor
namespace Go.Proofs.YtjhemildijapmaaGreatDoor
open Go.RowKit
theorem strs_sets {w u : World} {lo g : Nat} {vs : List Value} {a : Option Addr} {l : List ByteArray} (h : Strs w a l) (hb : l ≠ [] → ∀ ad : Addr, a = some ad → lo ≤ ad.block) (hg : g < lo ∨ w.heap.size ≤ g) (k : Kept w u) : Strs (u.setCells g 0 vs) a l := by
  intro i hi
  obtain ⟨b, o, rfl, h1, hc⟩ := h i hi
  have h2 : lo ≤ b := hb (by rintro rfl; simp at hi) _ rfl
  have h3 := k.size
  exact ⟨b, o, rfl, by rw [size_setCells]; omega, by rw [World.cell?_setCells_out g vs 0 u _ (fun e _ => by simp at e; omega), k.cell h1]; exact hc⟩
def RunsLo (w : World) (lo : Nat) (d : Option Addr) (l : List RunX) : Prop :=
  ∀ i, i < l.length → ∃ b o xa xc, d = some ⟨b, o, none⟩ ∧ b < w.heap.size ∧ lo ≤ b ∧ w.rangeAt b (o + i * 7) ((l.getD i RunX.zero).cells xa xc) ∧ Strs w xa (l.getD i RunX.zero).texts ∧ (xa = none → xc = 0) ∧ ((l.getD i RunX.zero).texts ≠ [] → ∀ ad : Addr, xa = some ad → lo ≤ ad.block)
theorem RunsLo.sets {w u : World} {lo g : Nat} {vs : List Value} {d : Option Addr} {l : List RunX} (h : RunsLo w lo d l) (hg : g < lo ∨ w.heap.size ≤ g) (k : Kept w u) : RunsX (u.setCells g 0 vs) d l := by
  intro i hi
  obtain ⟨b, o, xa, xc, rfl, h1, h2, h3, h4, h5, h6⟩ := h i hi
  have hk := k.size
  have h3u : u.rangeAt b (o + i * 7) ((l.getD i RunX.zero).cells xa xc) := fun j v hv => (k.cell h1).trans (h3 j v hv)
  exact ⟨b, o, xa, xc, rfl, by rw [size_setCells]; omega, World.rangeAt_setCells_apart h3u g 0 vs (.inl (by omega)), strs_sets h4 h6 hg k, h5⟩
theorem owns_lo {w : World} {base k m n c : Nat} {t : TypeId} {a : Option Addr} {xs : List Value} (h : w.ownsRow base t k (.slice a n c) m xs) : ∀ ad : Addr, a = some ad → base ≤ ad.block := by
  intro ad e
  subst e
  rcases h.2 with ⟨e, _⟩ | ⟨g, cap, cur, e, hb, _⟩
  · cases e
  · cases e; exact hb
theorem RunsXP.lo {w : World} {lo : Nat} {d : Option Addr} {l : List RunX} (h : RunsXP w (fun b => lo ≤ b) d l) (hd : ∀ ad : Addr, d = some ad → lo ≤ ad.block) : RunsLo w lo d l := fun i hi => by
  obtain ⟨b, o, xa, xc, e, h1, h2, h3, h4, h5⟩ := h i hi
  exact ⟨b, o, xa, xc, e, h1, hd _ e, h2, h3, h4, fun _ => h5⟩
theorem RunsInX.lo {w : World} {lo hi : Nat} {d : Option Addr} {l : List RunX} (h : RunsInX w lo hi d l) : RunsLo w lo d l := by
  rcases h with rfl | ⟨b, c, ha, h1, h2, h3, hr, hm, hc⟩
  · intro i hi
    simp at hi
  · intro i hi
    obtain ⟨xa, xc, g1, g2, g3⟩ := hc i hi
    refine ⟨b, 0, xa, xc, ha, hr.lt, h1, by rw [Nat.zero_add]; exact g1, g2.strs, g3, fun hne ad e => ?_⟩
    have q := hm 0 i (Nat.zero_le _)
    rcases g2 with g2 | ⟨b', e', q1, _⟩
    · exact absurd g2 hne
    · rw [e'] at e
      cases e
      show lo ≤ b'
      omega
theorem StrsIn.lo {w : World} {lo hi : Nat} {a : Option Addr} {l : List ByteArray} (h : StrsIn w lo hi a l) : l ≠ [] → ∀ ad : Addr, a = some ad → lo ≤ ad.block := by
  intro hne ad e
  rcases h with h | ⟨b', e', q1, _⟩
  · exact absurd h hne
  · rw [e'] at e
    cases e
    exact q1
def DoD (webl : List NodeD) (roots : List ByteArray) (sl : List RunX) (name : ByteArray) (R : List ByteArray) (T : List RunX) : Prop :=
  (ValidX webl roots sl ∧ R = roots ∧ DoneX webl sl name T) ∨ (¬ ValidX webl roots sl ∧ R = [] ∧ T = [])
theorem DoD.one {webl : List NodeD} {roots R R' : List ByteArray} {sl T T' : List RunX} {name : ByteArray} (h : DoD webl roots sl name R T) (k : DoD webl roots sl name R' T') : R' = R ∧ T' = T := by
  rcases h with ⟨h1, rfl, h2⟩ | ⟨h1, rfl, rfl⟩
  · rcases k with ⟨_, rfl, k2⟩ | ⟨k1, _⟩
    · exact ⟨rfl, k2.unique h2⟩
    · exact absurd h1 k1
  · rcases k with ⟨k1, _⟩ | ⟨_, rfl, rfl⟩
    · exact absurd k1 h1
    · exact ⟨rfl, rfl⟩
theorem sum_le_len {α : Type} (f : α → Nat) (c : Nat) : ∀ l : List α, (∀ x ∈ l, f x ≤ c) → (l.map f).sum ≤ c * l.length
  | [], _ => by simp
  | x :: r, h => by
    have h1 := h x (List.mem_cons_self ..)
    have h2 := sum_le_len f c r fun y hy => h y (List.mem_cons_of_mem _ hy)
    simp only [List.map_cons, List.sum_cons, List.length_cons, Nat.mul_add]
    omega
theorem DoD.small {webl : List NodeD} {roots R : List ByteArray} {sl T : List RunX} {name : ByteArray} (h : DoD webl roots sl name R T) (hf : ∀ s ∈ webl, s.Fits) : R.length ≤ roots.length ∧ T.length ≤ 60 ∧ (∀ r ∈ T, r.Fits) ∧ (T.map cntRun).sum ≤ 60360 := by
  rcases h with ⟨h1, rfl, h2⟩ | ⟨h1, rfl, rfl⟩
  · have g := h2.good (web_acts h1.1) h1.good
    have hl : T.length ≤ 60 := Nat.le_trans g.len (web_len h1.1)
    have hs := sum_le_len cntRun 1006 T fun x hx => by
      have := g.texts x hx
      have e : cntRun x = 6 + x.texts.length := rfl
      omega
    refine ⟨Nat.le_refl _, hl, fun r hr => ?_, by omega⟩
    have q := g.good r hr
    obtain ⟨A, hA, _⟩ := q.act
    obtain ⟨k, hk, hn, _⟩ := acts_first hA
    have q1 := g.texts r hr
    have q2 := q.tx
    refine ⟨?_, by unfold maxLen; omega, by unfold maxLen; omega, fun t ht => by have := q.ts t ht; unfold maxLen; omega⟩
    rw [← hn]
    have hm : webl.getD k NodeD.zero ∈ webl := by
      simp only [List.getD, List.getElem?_eq_getElem hk, Option.getD_some]
      exact List.getElem_mem hk
    exact (hf _ hm).name
  · exact ⟨Nat.zero_le _, Nat.zero_le _, (fun r hr => by cases hr), by simp⟩
def DoOut (webl : List NodeD) (roots : List ByteArray) (sl : List RunX) (name : ByteArray) (w w' : World) (e : Ending) : Prop :=
  ∃ (R : List ByteArray) (T : List RunX) (ra : Option Addr) (rc : Nat) (d : Option Addr) (dc : Nat), e = .returned (.agg #[.slice ra R.length rc, .slice d T.length dc]) ∧ DoD webl roots sl name R T ∧ (∀ (u : World) (g : Nat) (vs : List Value), (g < w.heap.size ∨ w'.heap.size ≤ g) → Kept w' u → Strs (u.setCells g 0 vs) ra R ∧ RunsX (u.setCells g 0 vs) d T) ∧ Kept w w'
theorem DoEnd.out {webl : List NodeD} {roots : List ByteArray} {sl : List RunX} {name : ByteArray} {w w' : World} {e : Ending} (h : DoEnd webl roots sl name w w' e) : DoOut webl roots sl name w w' e := by
  rcases h with ⟨h1, T, h2, ra, rc, d, dc, xs, rfl, hO, hQ, hP, k⟩ | ⟨h1, rfl, k⟩
  · refine ⟨roots, T, ra, rc, d, dc, rfl, .inl ⟨h1, rfl, h2⟩, fun u g vs hg ku => ?_, k⟩
    obtain ⟨a9, c9, e9, h9⟩ := owned_strs hO
    simp only [Value.slice.injEq, true_and] at e9
    rw [← e9.1] at h9
    obtain ⟨_, a8, c8, e8, h8⟩ := PackedX.runs hQ hP (Kept.refl _)
    simp only [Value.slice.injEq, true_and] at e8
    rw [← e8.1] at h8
    exact ⟨strs_sets h9 (fun _ => owns_lo hO) hg ku, (h8.lo (owns_lo hQ)).sets hg ku⟩
  · exact ⟨[], [], none, 0, none, 0, rfl, .inr ⟨h1, rfl, rfl⟩, fun u g vs _ _ => ⟨fun i hi => by simp at hi, fun i hi => by simp at hi⟩, k⟩
theorem DoIEnd.ins {webl : List NodeD} {roots : List ByteArray} {sl : List RunX} {name : ByteArray} {w w' : World} {e : Ending} (h : DoIEnd webl roots sl name w w' e) : ∃ (R : List ByteArray) (T : List RunX) (ra : Option Addr) (rc : Nat) (d : Option Addr) (dc mid : Nat), e = .returned (.agg #[.slice ra R.length rc, .slice d T.length dc]) ∧ DoD webl roots sl name R T ∧ StrsIn w' w.heap.size mid ra R ∧ RunsInX w' mid w'.heap.size d T ∧ w.heap.size ≤ mid ∧ mid ≤ w'.heap.size ∧ Kept w w' := by
  rcases h with ⟨h1, T, h2, ra, ds, mid, rfl, hO, hQ, m1, m2, k⟩ | ⟨h1, rfl, k⟩
  · exact ⟨roots, T, ra, _, ds, _, mid, rfl, .inl ⟨h1, rfl, h2⟩, hO, hQ, m1, m2, k⟩
  · exact ⟨[], [], none, 0, none, 0, w.heap.size, rfl, .inr ⟨h1, rfl, rfl⟩, .inl rfl, .inl rfl, Nat.le_refl _, k.size, k⟩
theorem DoIEnd.out {webl : List NodeD} {roots : List ByteArray} {sl : List RunX} {name : ByteArray} {w w' : World} {e : Ending} (h : DoIEnd webl roots sl name w w' e) : DoOut webl roots sl name w w' e := by
  obtain ⟨R, T, ra, rc, d, dc, mid, rfl, hD, hS, hR, m1, m2, k⟩ := h.ins
  exact ⟨R, T, ra, rc, d, dc, rfl, hD, fun u g vs hg ku => ⟨strs_sets hS.strs hS.lo hg ku, (hR.mono m1 (Nat.le_refl _)).lo.sets hg ku⟩, k⟩
theorem RowT.there {w : World} {b n : Nat} {t : TypeId} (h : RowT w b t n) : w.there b 0 n := fun j hj => by
  obtain ⟨⟨v, hv⟩, hf⟩ := h.row.at hj
  rw [Nat.zero_add]
  exact ⟨by rw [hv]; rfl, hf⟩
theorem box_sets {w : World} {b : Nat} {t : TypeId} {v0 v1 : Value} (h : RowT w b t 2) : (w.setCells b 0 [v0, v1]).cell? ⟨b, 0, none⟩ = some v0 ∧ (w.setCells b 0 [v0, v1]).cell? ⟨b, 1, none⟩ = some v1 := by
  have hq := World.cell?_setCells_in b [v0, v1] 0 w fun j hj => (h.there j hj).1
  exact ⟨hq 0 (by simp), hq 1 (by simp)⟩
theorem two_one (a d : Option Addr) (n c m e : Nat) : (#[Value.slice a n c, Value.slice d m e].all (·.oneCell')) = true := by simp [Value.oneCell']
def DoJ (w2 : World) (webl : List NodeD) (roots : List ByteArray) (sl : List RunX) (name : ByteArray) (t0 t1 t2 t3 t4 t5 tb : Nat) (a b : Act) (u : World) : Prop :=
  ∃ (v0 v1 v2 v3 v4 v5 : Value) (p : Nat) (R : List ByteArray) (T : List RunX) (ra : Option Addr) (rc : Nat) (d : Option Addr) (dc : Nat), b = ((((((a.put (some t0) v0).put (some t1) v1).put (some t2) v2).put (some t3) v3).put (some t4) v4).put (some t5) v5).put (some tb) (.pointer (some ⟨p, 0, none⟩)) ∧ w2.heap.size ≤ p ∧ p < u.heap.size ∧ u.cell? ⟨p, 0, none⟩ = some (.slice ra R.length rc) ∧ u.cell? ⟨p, 1, none⟩ = some (.slice d T.length dc) ∧ DoD webl roots sl name R T ∧ Strs u ra R ∧ RunsX u d T ∧ Kept w2 u
theorem region_cut {P : Program} {id : Nat} {ops : Array Oper} {Q : Exit → Act → World → Prop} {a : Act} {w : World} (J : Act → Act → World → Prop) (h : (Code.region id ops true).wp P (fun x b u => x = .normal ∧ J a b u) a w) (hJ : ∀ b u, J a b u → Q .normal b u) : (Code.region id ops true).wp P Q a w :=
  wp_mono h fun e b u hx => by
    obtain ⟨rfl, hx⟩ := hx
    exact hJ b u hx
set_option maxRecDepth 100000 in
set_option maxHeartbeats 25600000 in
theorem lawDo (w : World) (a : Option Addr) (cap : Nat) (l : List NodeD) (rd : Option Addr) (rc : Nat) (roots : List ByteArray) (ga : Option Addr) (gc : Nat) (sl : List RunX) (name : ByteArray) (hl : l.length ≤ maxLen) (hs : ∀ s ∈ l, s.Fits) (hrl : roots.length ≤ maxLen) (hrs : ∀ s ∈ roots, s.size ≤ maxLen) (hsl : sl.length ≤ maxLen) (hsf : ∀ r ∈ sl, r.Fits) (hN : Nodes w a l) (hR : Strs w rd roots) (hG : RunsX w ga sl) (hFi : FinishOk w) :
    Calls Tryz.prog 3 #[.agg #[.slice a l.length cap], .agg #[.slice rd roots.length rc, .slice ga sl.length gc], .string name] w fun e w' => e = .returned (.bool true) ∧ Kept w w' := by
  obtain ⟨W0, hW0⟩ : ∃ W0, W0 = (w.alloc (.cells #[.slice a l.length cap] 24)).alloc (.cells #[.slice rd roots.length rc, .slice ga sl.length gc] 28) := ⟨_, rfl⟩
  have k0 : Kept w W0 := by rw [hW0]; exact ((Kept.refl _).alloc _).alloc _
  have HBox : Hid (∀ w', Kept W0 w' → (fun w' => w'.cell? ⟨w.heap.size, 0, none⟩ = some (.slice a l.length cap) ∧ w'.cell? ⟨w.heap.size + 1, 0, none⟩ = some (.slice rd roots.length rc) ∧ w'.cell? ⟨w.heap.size + 1, 1, none⟩ = some (.slice ga sl.length gc)) w') := fun w' kk => by
    have q0 := (box1 (w := w) (v := .slice a l.length cap) (t := 24) (w1 := w') (Kept.trans (by rw [hW0]; exact (Kept.refl _).alloc _) kk)).1
    have q1 := box2 (w := w.alloc (.cells #[.slice a l.length cap] 24)) (v0 := .slice rd roots.length rc) (v1 := .slice ga sl.length gc) (t := 28) (w1 := w') (Kept.trans (by rw [hW0]; exact Kept.refl _) kk)
    simp only [World.size_alloc] at q1
    exact ⟨q0, q1.1, q1.2⟩
  have z0 : w.heap.size + 1 + 1 ≤ W0.heap.size := by rw [hW0]; simp
  go_enter Tryz.func3, Tryz.ntmps3
  by_cases hnm : (1048576 : Int) < (name.size : Int)
  · go_wp2
    rw [← hW0]
    go_ret
    exact ⟨rfl, k0⟩
  go_wp2_with fail
  rw [← hW0]
  clear hW0 hnm
  refine (szWeb_any _ a cap l 1048576 hl hs (hN.kept k0) (by omega) (by omega)).mono ?_
  rintro e w1 ⟨rfl, K1⟩
  by_cases hle : (szNodesD l : Int) ≤ 1048576
  rotate_left
  · rw [szL_neg (by omega)]
    go_wp2
    go_ret
    exact ⟨rfl, k0.trans K1⟩
  rw [szL_pos hle]
  obtain ⟨hl2, hs2⟩ := small_of_szN (l := l) (n := 1048576) (by omega)
  obtain ⟨b0, b1, b2⟩ := HBox.out _ K1
  go_wp2_with fail
  refine (szState_any _ rd ga rc gc roots sl _ hrl hrs hsl hsf (hR.kept (k0.trans K1)) (hG.kept (k0.trans K1)) (by omega) (by omega)).mono ?_
  rintro e w2 ⟨rfl, k2⟩
  have K2 := K1.trans k2
  clear b0 b1 b2 K1 k2
  by_cases hle2 : (szStateD roots sl : Int) ≤ 1048576 - szNodesD l
  rotate_left
  · rw [szL_neg (by omega)]
    go_wp2
    go_ret
    exact ⟨rfl, k0.trans K2⟩
  rw [szL_pos hle2]
  obtain ⟨hr2, hsl2, hst2⟩ := small_runs (roots := roots) (l := sl) (n := 1048576) (by omega)
  have hcN : 1 + (l.map cntNode).sum + roots.length + (sl.map cntRun).sum ≤ 33554432 := by
    have h1 := cntNodesR_le l
    have h2 := cntRuns_le sl
    have h3 : szStateD roots sl = szStrs roots + szRunsD sl := rfl
    omega
  have hnn : ¬ ((1048576 : Int) - szNodesD l - szStateD roots sl < 0) := by omega
  have HCn := hide hcN
  clear hle hle2 hcN
  obtain ⟨b0, b1, b2⟩ := HBox.out _ K2
  have hz2 := K2.size
  have KW2 := k0.trans K2
  have HSO : Hid (∀ w', Kept w2 w' → (fun w' => w'.cell? ⟨w.heap.size, 0, none⟩ = some (.slice a l.length cap) ∧ w'.cell? ⟨w.heap.size + 1, 0, none⟩ = some (.slice rd roots.length rc) ∧ w'.cell? ⟨w.heap.size + 1, 1, none⟩ = some (.slice ga sl.length gc)) w') := fun w' kk => HBox.out w' (K2.trans kk)
  go_upto_region 10 with fail
  refine region_cut (DoJ w2 l roots sl name 29 30 31 32 33 34 8) ?_ ?_
  · refine UpTo.rg 7 HSO.out fun wd KD hHeld => ?_
    refine UpTo.tk 0 hHeld ?_
    refine UpTo.tk 2 hHeld ?_
    refine UpTo.tk 4 hHeld ?_
    refine UpTo.tw 1 6 (fun K hK => ?_) (fun K hK => ?_)
    · rw [if_pos (by rfl)]
      go_simp
      go_at_call 7
      refine (toWeb_any _ a cap l hl2 hs2 (hN.kept (KW2.trans KD))).mono ?_
      rintro e w3 ⟨bw, rfl, hN3, k3, hb1⟩
      have KC3 := KD.trans k3
      refine hK.out _ _ (fun _ => HSO.out _ KC3) ?_
      clear hK K
      try simp only [Act.put, upA, upB, upC]
      refine UpTo.tw 3 6 (fun K hK => ?_) (fun K hK => ?_)
      · rw [if_pos (by rfl)]
        go_simp
        go_at_call 8
        refine (toStateX_any _ rd ga rc gc roots sl hr2 hsl2 hst2 (hR.kept (KW2.trans KC3)) (hG.kept (KW2.trans KC3))).mono ?_
        rintro e w4 ⟨c1, c2, rfl, hR4, hG4, k4, hc1, hc2⟩
        have KC4 := KC3.trans k4
        refine hK.out _ _ (fun _ => HSO.out _ KC4) ?_
        clear hK K
        try simp only [Act.put, upA, upB, upC]
        refine UpTo.tw 5 6 (fun K hK => ?_) (fun K hK => ?_)
        · rw [if_pos (by rfl)]
          go_simp
          go_at_call 6
          refine (specDo_any _ (some ⟨bw, 0, none⟩) l.length l (some ⟨c1, 0, none⟩) roots.length roots (some ⟨c2, 0, none⟩) sl.length sl name hl2 hs hr2 hrs hsl2 hst2 (hN3.kept k4).nodes (hG4.runs.kept (Kept.refl _)) (hR4.kept (Kept.refl _))).mono ?_
          rintro e w5 h5
          obtain ⟨R, T, ra, rc5, d5, dc5, rfl, hD5, hO5, k5⟩ := h5.out
          have KC5 := KC4.trans k5
          refine hK.out _ _ (fun _ => HSO.out _ KC5) ?_
          clear hK K h5
          try simp only [Act.put, upA, upB, upC]
          refine UpTo.nx 6 (fun K hK => ?_)
          go_simp
          refine hK.out _ _ (fun _ => HSO.out _ (KC5.trans ((Kept.refl _).alloc _))) ?_
          clear hK K
          try simp only [Act.put, upA, upB, upC]
          have hRw : RowT (w5.alloc (.cells #[.slice none 0 0, .slice none 0 0] 33)) w5.heap.size 33 2 := RowT.made w5 _ _
          have KA : Kept w5 (w5.alloc (.cells #[.slice none 0 0, .slice none 0 0] 33)) := (Kept.refl _).alloc _
          have nz := KC5.size
          obtain ⟨nb, hnb⟩ : ∃ nb, nb = w5.heap.size := ⟨_, rfl⟩
          rw [← hnb] at hRw ⊢
          generalize hwe : w5.alloc (.cells #[.slice none 0 0, .slice none 0 0] 33) = wA at hRw KA ⊢
          clear hwe
          have KCA := KC5.trans KA
          have nl := hRw.lt
          have nz2 : w2.heap.size ≤ nb := by omega
          have HNB := hide hnb
          clear hnb nz
          have hRF := hRw
          have hO := hO5 wA nb [.slice ra R.length rc5, .slice d5 T.length dc5] (.inr (by have := HNB.out; omega)) KA
          refine UpTo.nx 7 (fun K hK => ?_)
          rw [if_pos (by rfl)]
          refine wp_store_mid 33 _ _ rfl nb 0 #[.slice ra R.length rc5, .slice d5 T.length dc5] (by rfl) (by rfl) hRF.there (by kernel_rfl) (two_one ..) ?_
          refine hK.out _ _ (fun h => absurd rfl h) ?_
          clear hK K
          try simp only [Act.put]
          refine UpTo.dn ⟨rfl, ?_⟩
          refine ⟨.agg #[.slice a l.length cap], .agg #[.slice (some ⟨bw, 0, none⟩) l.length l.length], .agg #[.slice rd roots.length rc, .slice ga sl.length gc], .agg #[.slice (some ⟨c1, 0, none⟩) roots.length roots.length, .slice (some ⟨c2, 0, none⟩) sl.length sl.length], .string name, .agg #[.slice ra R.length rc5, .slice d5 T.length dc5], nb, R, T, ra, rc5, d5, dc5, ?_, by omega, ?_, (box_sets hRF).1, (box_sets hRF).2, hD5, hO.1, hO.2, kept_sets (by omega) _ 0 KCA⟩
          · simp only [Act.put, List.setIfInBounds_toArray, List.set_cons_zero, List.set_cons_succ]
          · rw [size_setCells]; exact hRF.lt
        · go_simp
          refine hK.out _ _ (fun _ => HSO.out _ (KC4.trans ((Kept.refl _).alloc _))) ?_
          clear hK K
          try simp only [Act.put, upA, upB, upC]
          have hRw : RowT (w4.alloc (.cells #[.slice none 0 0, .slice none 0 0] 33)) w4.heap.size 33 2 := RowT.made w4 _ _
          have KA : Kept w4 (w4.alloc (.cells #[.slice none 0 0, .slice none 0 0] 33)) := (Kept.refl _).alloc _
          have nz := KC4.size
          obtain ⟨nb, hnb⟩ : ∃ nb, nb = w4.heap.size := ⟨_, rfl⟩
          rw [← hnb] at hRw ⊢
          generalize hwe : w4.alloc (.cells #[.slice none 0 0, .slice none 0 0] 33) = wA at hRw KA ⊢
          clear hwe
          have KCA := KC4.trans KA
          have nl := hRw.lt
          have nz2 : w2.heap.size ≤ nb := by omega
          have HNB := hide hnb
          clear hnb nz
          refine UpTo.nx 5 (fun K hK => ?_)
          rw [if_pos (by rfl)]
          go_simp
          go_at_call 6
          refine (specDo_any _ (some ⟨bw, 0, none⟩) l.length l (some ⟨c1, 0, none⟩) roots.length roots (some ⟨c2, 0, none⟩) sl.length sl name hl2 hs hr2 hrs hsl2 hst2 (hN3.kept (k4.trans KA)).nodes (hG4.runs.kept KA) (hR4.kept KA)).mono ?_
          rintro e w5 h5
          obtain ⟨R, T, ra, rc5, d5, dc5, rfl, hD5, hO5, k5⟩ := h5.out
          have KC5 := KCA.trans k5
          refine hK.out _ _ (fun _ => HSO.out _ KC5) ?_
          clear hK K h5
          try simp only [Act.put, upA, upB, upC]
          have hRF := hRw.kept k5
          have hO := hO5 w5 nb [.slice ra R.length rc5, .slice d5 T.length dc5] (.inl (by omega)) (Kept.refl _)
          refine UpTo.nx 7 (fun K hK => ?_)
          rw [if_pos (by rfl)]
          refine wp_store_mid 33 _ _ rfl nb 0 #[.slice ra R.length rc5, .slice d5 T.length dc5] (by rfl) (by rfl) hRF.there (by kernel_rfl) (two_one ..) ?_
          refine hK.out _ _ (fun h => absurd rfl h) ?_
          clear hK K
          try simp only [Act.put]
          refine UpTo.dn ⟨rfl, ?_⟩
          refine ⟨.agg #[.slice a l.length cap], .agg #[.slice (some ⟨bw, 0, none⟩) l.length l.length], .agg #[.slice rd roots.length rc, .slice ga sl.length gc], .agg #[.slice (some ⟨c1, 0, none⟩) roots.length roots.length, .slice (some ⟨c2, 0, none⟩) sl.length sl.length], .string name, .agg #[.slice ra R.length rc5, .slice d5 T.length dc5], nb, R, T, ra, rc5, d5, dc5, ?_, by omega, ?_, (box_sets hRF).1, (box_sets hRF).2, hD5, hO.1, hO.2, kept_sets (by omega) _ 0 KC5⟩
          · simp only [Act.put, List.setIfInBounds_toArray, List.set_cons_zero, List.set_cons_succ]
          · rw [size_setCells]; exact hRF.lt
      · go_simp
        refine hK.out _ _ (fun _ => HSO.out _ (KC3.trans ((Kept.refl _).alloc _))) ?_
        clear hK K
        try simp only [Act.put, upA, upB, upC]
        have hRw : RowT (w3.alloc (.cells #[.slice none 0 0, .slice none 0 0] 33)) w3.heap.size 33 2 := RowT.made w3 _ _
        have KA : Kept w3 (w3.alloc (.cells #[.slice none 0 0, .slice none 0 0] 33)) := (Kept.refl _).alloc _
        have nz := KC3.size
        obtain ⟨nb, hnb⟩ : ∃ nb, nb = w3.heap.size := ⟨_, rfl⟩
        rw [← hnb] at hRw ⊢
        generalize hwe : w3.alloc (.cells #[.slice none 0 0, .slice none 0 0] 33) = wA at hRw KA ⊢
        clear hwe
        have KCA := KC3.trans KA
        have nl := hRw.lt
        have nz2 : w2.heap.size ≤ nb := by omega
        have HNB := hide hnb
        clear hnb nz
        refine UpTo.nx 3 (fun K hK => ?_)
        rw [if_pos (by rfl)]
        go_simp
        go_at_call 8
        refine (toStateX_any _ rd ga rc gc roots sl hr2 hsl2 hst2 (hR.kept (KW2.trans KCA)) (hG.kept (KW2.trans KCA))).mono ?_
        rintro e w4 ⟨c1, c2, rfl, hR4, hG4, k4, hc1, hc2⟩
        have KC4 := KCA.trans k4
        refine hK.out _ _ (fun _ => HSO.out _ KC4) ?_
        clear hK K
        try simp only [Act.put, upA, upB, upC]
        refine UpTo.nx 5 (fun K hK => ?_)
        rw [if_pos (by rfl)]
        go_simp
        go_at_call 6
        refine (specDo_any _ (some ⟨bw, 0, none⟩) l.length l (some ⟨c1, 0, none⟩) roots.length roots (some ⟨c2, 0, none⟩) sl.length sl name hl2 hs hr2 hrs hsl2 hst2 (hN3.kept (KA.trans k4)).nodes (hG4.runs.kept (Kept.refl _)) (hR4.kept (Kept.refl _))).mono ?_
        rintro e w5 h5
        obtain ⟨R, T, ra, rc5, d5, dc5, rfl, hD5, hO5, k5⟩ := h5.out
        have KC5 := KC4.trans k5
        refine hK.out _ _ (fun _ => HSO.out _ KC5) ?_
        clear hK K h5
        try simp only [Act.put, upA, upB, upC]
        have z4 := k4.size
        have hRF := hRw.kept (k4.trans k5)
        have hO := hO5 w5 nb [.slice ra R.length rc5, .slice d5 T.length dc5] (.inl (by omega)) (Kept.refl _)
        refine UpTo.nx 7 (fun K hK => ?_)
        rw [if_pos (by rfl)]
        refine wp_store_mid 33 _ _ rfl nb 0 #[.slice ra R.length rc5, .slice d5 T.length dc5] (by rfl) (by rfl) hRF.there (by kernel_rfl) (two_one ..) ?_
        refine hK.out _ _ (fun h => absurd rfl h) ?_
        clear hK K
        try simp only [Act.put]
        refine UpTo.dn ⟨rfl, ?_⟩
        refine ⟨.agg #[.slice a l.length cap], .agg #[.slice (some ⟨bw, 0, none⟩) l.length l.length], .agg #[.slice rd roots.length rc, .slice ga sl.length gc], .agg #[.slice (some ⟨c1, 0, none⟩) roots.length roots.length, .slice (some ⟨c2, 0, none⟩) sl.length sl.length], .string name, .agg #[.slice ra R.length rc5, .slice d5 T.length dc5], nb, R, T, ra, rc5, d5, dc5, ?_, by omega, ?_, (box_sets hRF).1, (box_sets hRF).2, hD5, hO.1, hO.2, kept_sets (by omega) _ 0 KC5⟩
        · simp only [Act.put, List.setIfInBounds_toArray, List.set_cons_zero, List.set_cons_succ]
        · rw [size_setCells]; exact hRF.lt
    · go_simp
      refine hK.out _ _ (fun _ => HSO.out _ (KD.trans ((Kept.refl _).alloc _))) ?_
      clear hK K
      try simp only [Act.put, upA, upB, upC]
      have hRw : RowT (wd.alloc (.cells #[.slice none 0 0, .slice none 0 0] 33)) wd.heap.size 33 2 := RowT.made wd _ _
      have KA : Kept wd (wd.alloc (.cells #[.slice none 0 0, .slice none 0 0] 33)) := (Kept.refl _).alloc _
      have nz := KD.size
      obtain ⟨nb, hnb⟩ : ∃ nb, nb = wd.heap.size := ⟨_, rfl⟩
      rw [← hnb] at hRw ⊢
      generalize hwe : wd.alloc (.cells #[.slice none 0 0, .slice none 0 0] 33) = wA at hRw KA ⊢
      clear hwe
      have KCA := KD.trans KA
      have nl := hRw.lt
      have nz2 : w2.heap.size ≤ nb := by omega
      have HNB := hide hnb
      clear hnb nz
      refine UpTo.nx 1 (fun K hK => ?_)
      rw [if_pos (by rfl)]
      go_simp
      go_at_call 7
      refine (toWeb_any _ a cap l hl2 hs2 (hN.kept (KW2.trans KCA))).mono ?_
      rintro e w3 ⟨bw, rfl, hN3, k3, hb1⟩
      have KC3 := KCA.trans k3
      refine hK.out _ _ (fun _ => HSO.out _ KC3) ?_
      clear hK K
      try simp only [Act.put, upA, upB, upC]
      refine UpTo.nx 3 (fun K hK => ?_)
      rw [if_pos (by rfl)]
      go_simp
      go_at_call 8
      refine (toStateX_any _ rd ga rc gc roots sl hr2 hsl2 hst2 (hR.kept (KW2.trans KC3)) (hG.kept (KW2.trans KC3))).mono ?_
      rintro e w4 ⟨c1, c2, rfl, hR4, hG4, k4, hc1, hc2⟩
      have KC4 := KC3.trans k4
      refine hK.out _ _ (fun _ => HSO.out _ KC4) ?_
      clear hK K
      try simp only [Act.put, upA, upB, upC]
      refine UpTo.nx 5 (fun K hK => ?_)
      rw [if_pos (by rfl)]
      go_simp
      go_at_call 6
      refine (specDo_any _ (some ⟨bw, 0, none⟩) l.length l (some ⟨c1, 0, none⟩) roots.length roots (some ⟨c2, 0, none⟩) sl.length sl name hl2 hs hr2 hrs hsl2 hst2 (hN3.kept k4).nodes (hG4.runs.kept (Kept.refl _)) (hR4.kept (Kept.refl _))).mono ?_
      rintro e w5 h5
      obtain ⟨R, T, ra, rc5, d5, dc5, rfl, hD5, hO5, k5⟩ := h5.out
      have KC5 := KC4.trans k5
      refine hK.out _ _ (fun _ => HSO.out _ KC5) ?_
      clear hK K h5
      try simp only [Act.put, upA, upB, upC]
      have z3 := k3.size
      have z4 := k4.size
      have hRF := hRw.kept ((k3.trans k4).trans k5)
      have hO := hO5 w5 nb [.slice ra R.length rc5, .slice d5 T.length dc5] (.inl (by omega)) (Kept.refl _)
      refine UpTo.nx 7 (fun K hK => ?_)
      rw [if_pos (by rfl)]
      refine wp_store_mid 33 _ _ rfl nb 0 #[.slice ra R.length rc5, .slice d5 T.length dc5] (by rfl) (by rfl) hRF.there (by kernel_rfl) (two_one ..) ?_
      refine hK.out _ _ (fun h => absurd rfl h) ?_
      clear hK K
      try simp only [Act.put]
      refine UpTo.dn ⟨rfl, ?_⟩
      refine ⟨.agg #[.slice a l.length cap], .agg #[.slice (some ⟨bw, 0, none⟩) l.length l.length], .agg #[.slice rd roots.length rc, .slice ga sl.length gc], .agg #[.slice (some ⟨c1, 0, none⟩) roots.length roots.length, .slice (some ⟨c2, 0, none⟩) sl.length sl.length], .string name, .agg #[.slice ra R.length rc5, .slice d5 T.length dc5], nb, R, T, ra, rc5, d5, dc5, ?_, by omega, ?_, (box_sets hRF).1, (box_sets hRF).2, hD5, hO.1, hO.2, kept_sets (by omega) _ 0 KC5⟩
      · simp only [Act.put, List.setIfInBounds_toArray, List.set_cons_zero, List.set_cons_succ]
      · rw [size_setCells]; exact hRF.lt
  rintro _ w5 ⟨v0, v1, v2, v3, v4, v5, p8, R, T, r8, rc8, d8, dc8, rfl, hp1, hp2, c80, c81, hD5, hS5, hT5, K3⟩
  try simp only [Act.put, upA, upB, upC]
  have K5 := K2.trans K3
  have HP8 : Hid (∀ w', Kept w5 w' → w'.cell? ⟨p8, 0, none⟩ = some (.slice r8 R.length rc8) ∧ w'.cell? ⟨p8, 1, none⟩ = some (.slice d8 T.length dc8)) := fun w' kk => ⟨(kk.cell hp2).trans c80, (kk.cell hp2).trans c81⟩
  have HT := hide hS5
  have HU := hide hT5
  have HD5 := hide hD5
  clear K3 HSO K2 b0 b1 b2 hS5 hT5 hD5 hnn c80 c81 KW2
  obtain ⟨b0, b1, b2⟩ := HBox.out _ K5
  go_wp2_with fail
  refine (toWeb_in _ a cap l hl2 hs2 (hN.kept (k0.trans K5))).mono ?_
  rintro e w6 ⟨bx, rfl, hNx, k6⟩
  obtain ⟨W6, hW6⟩ : ∃ W6, W6 = w6.alloc (.cells #[.slice (some ⟨bx, 0, none⟩) l.length l.length] 37) := ⟨_, rfl⟩
  have kA : Kept w6 W6 := by rw [hW6]; exact (Kept.refl _).alloc _
  have z6 : W6.heap.size = w6.heap.size + 1 := by rw [hW6]; simp
  have K56 : Kept w5 W6 := k6.trans kA
  have HNx := hide hNx
  have hz6 := k6.size
  have hz5 := K5.size
  clear b0 b1 b2 hNx
  obtain ⟨b0, b1, b2⟩ := HBox.out _ (K5.trans K56)
  rw [hW6] at b0 b1 b2
  go_wp2_with fail
  rw [← hW6]
  rw [← hW6] at b0 b1 b2
  refine (toStateX_in _ rd ga rc gc roots sl hr2 hsl2 hst2 (hR.kept (k0.trans (K5.trans K56))) (hG.kept (k0.trans (K5.trans K56)))).mono ?_
  rintro e w7 ⟨bu, bv, mid, rfl, hRx, hGx, hm1, hm2, k7⟩
  obtain ⟨W7, hW7⟩ : ∃ W7, W7 = w7.alloc (.cells #[.slice (some ⟨bu, 0, none⟩) roots.length roots.length, .slice (some ⟨bv, 0, none⟩) sl.length sl.length] 33) := ⟨_, rfl⟩
  have kB : Kept w7 W7 := by rw [hW7]; exact (Kept.refl _).alloc _
  have z7 : W7.heap.size = w7.heap.size + 1 := by rw [hW7]; simp
  have hz7 := k7.size
  have K57 : Kept w5 W7 := (K56.trans k7).trans kB
  have HX : Hid (∀ w', Kept W7 w' → (fun w' => w'.cell? ⟨w6.heap.size, 0, none⟩ = some (.slice (some ⟨bx, 0, none⟩) l.length l.length) ∧ w'.cell? ⟨w7.heap.size, 0, none⟩ = some (.slice (some ⟨bu, 0, none⟩) roots.length roots.length) ∧ w'.cell? ⟨w7.heap.size, 1, none⟩ = some (.slice (some ⟨bv, 0, none⟩) sl.length sl.length) ∧ (w'.cell? ⟨w.heap.size, 0, none⟩ = some (.slice a l.length cap) ∧ w'.cell? ⟨w.heap.size + 1, 0, none⟩ = some (.slice rd roots.length rc) ∧ w'.cell? ⟨w.heap.size + 1, 1, none⟩ = some (.slice ga sl.length gc))) w') := fun w' kk => by
    have q0 := (box1 (w := w6) (w1 := w') (Kept.trans (by rw [← hW6]; exact k7.trans kB) kk)).1
    have q1 := box2 (w := w7) (v0 := .slice (some ⟨bu, 0, none⟩) roots.length roots.length) (v1 := .slice (some ⟨bv, 0, none⟩) sl.length sl.length) (t := 33) (w1 := w') (Kept.trans (by rw [hW7]; exact Kept.refl _) kk)
    exact ⟨q0, q1.1, q1.2, HBox.out _ ((K5.trans K57).trans kk)⟩
  have HN7 := hide (HNx.out.same ((kA.trans (k7.trans kB)).same _ _))
  have HR7 := hide (hRx.same (kB.same _ _))
  have HG7 := hide (hGx.same (kB.same _ _))
  clear b0 b1 b2 hRx hGx HNx kA
  have hne : ¬ w6.heap.size = w7.heap.size := by omega
  have hw67 : w6.heap.size < w7.heap.size := by omega
  have q6 := (HX.out W7 (Kept.refl _)).1
  go_upto_region 13 with fail
  rw [← hW7]
  clear hW7 hW6 k7 kB k6
  obtain ⟨x0, x1, x2, b0, b1, b2⟩ := HX.out W7 (Kept.refl _)
  go_wp2_with fail
  refine (implDo_any W7 (some ⟨bx, 0, none⟩) l.length l (some ⟨bu, 0, none⟩) roots.length roots (some ⟨bv, 0, none⟩) sl.length sl name hl2 hs hrl hr2 (Nat.le_refl _) hrs hsl2 hst2 HN7.out.nodes HR7.out.strs HG7.out.runs (hFi.kept (k0.trans (K5.trans K57)))).mono ?_
  rintro e w8 h8
  obtain ⟨U, V, gr, grc, gd, gdc, mid8, rfl, hD8, hI8, hJ8, n1, n2, k8⟩ := h8.ins
  obtain ⟨rfl, rfl⟩ := HD5.out.one hD8
  obtain ⟨hUl, hVl, hVf, hVc⟩ := hD8.small hs
  obtain ⟨W8, hW8⟩ : ∃ W8, W8 = w8.alloc (.cells #[.slice gr U.length grc, .slice gd V.length gdc] 33) := ⟨_, rfl⟩
  have kC : Kept w8 W8 := by rw [hW8]; exact (Kept.refl _).alloc _
  have z8' : W8.heap.size = w8.heap.size + 1 := by rw [hW8]; simp
  have z8 := k8.size
  have HGB : Hid (∀ w', Kept W8 w' → w'.cell? ⟨w8.heap.size, 0, none⟩ = some (.slice gr U.length grc) ∧ w'.cell? ⟨w8.heap.size, 1, none⟩ = some (.slice gd V.length gdc)) := fun w' kk => box2 (w := w8) (v0 := .slice gr U.length grc) (v1 := .slice gd V.length gdc) (t := 33) (w1 := w') (Kept.trans (by rw [hW8]; exact Kept.refl _) kk)
  have HI8 := hide (hI8.same (kC.same _ _))
  have HJ8 := hide (hJ8.same (kC.same _ _))
  have K78 := k8.trans kC
  clear hI8 hJ8 hD8 h8 x0 x1 x2 b0 b1 b2 q6
  have hml : U.length ≤ maxLen := by unfold maxLen; omega
  have hmv : V.length ≤ maxLen := by unfold maxLen; omega
  have HVf := hide hVf
  clear hVf
  go_upto_region 14 with fail
  rw [← hW8]
  clear hW8 kC k8
  obtain ⟨g0, g1⟩ := HGB.out W8 (Kept.refl _)
  obtain ⟨p0, p1⟩ := HP8.out W8 (K57.trans K78)
  go_wp2_with fail
  refine (eqStateX_yes _ gr r8 gd d8 grc rc8 gdc dc8 U V hml hmv HVf.out HI8.out.strs (HT.out.kept (K57.trans K78)) HJ8.out.runs (HU.out.kept (K57.trans K78))).mono ?_
  rintro e w9 ⟨rfl, k9⟩
  have K79 := K78.trans k9
  have HX9 : Hid (∀ w', Kept w9 w' → (fun w' => w'.cell? ⟨w6.heap.size, 0, none⟩ = some (.slice (some ⟨bx, 0, none⟩) l.length l.length) ∧ w'.cell? ⟨w7.heap.size, 0, none⟩ = some (.slice (some ⟨bu, 0, none⟩) roots.length roots.length) ∧ w'.cell? ⟨w7.heap.size, 1, none⟩ = some (.slice (some ⟨bv, 0, none⟩) sl.length sl.length) ∧ (w'.cell? ⟨w.heap.size, 0, none⟩ = some (.slice a l.length cap) ∧ w'.cell? ⟨w.heap.size + 1, 0, none⟩ = some (.slice rd roots.length rc) ∧ w'.cell? ⟨w.heap.size + 1, 1, none⟩ = some (.slice ga sl.length gc))) w') := fun w' kk => HX.out w' (K79.trans kk)
  have KW9 := k0.trans ((K5.trans K57).trans K79)
  have HN9 := hide (HN7.out.same (K79.same _ _))
  have HR9 := hide (HR7.out.same (K79.same _ _))
  have HG9 := hide (HG7.out.same (K79.same _ _))
  have HI9 := hide (HI8.out.same (k9.same _ _))
  have HJ9 := hide (HJ8.out.same (k9.same _ _))
  obtain ⟨x0, x1, x2, b0, b1, b2⟩ := HX9.out w9 (Kept.refl _)
  clear HN7 HR7 HG7 HI8 HJ8 g0 g1 p0 p1
  go_upto_region 16 with fail
  refine UpTo.rg 4 HX9.out fun wd KD hHeld => ?_
  refine UpTo.tk 0 hHeld ?_
  refine UpTo.tk 1 hHeld ?_
  refine UpTo.nx 2 (fun K hK => ?_)
  rw [if_pos (by rfl)]
  go_simp
  go_at_call 7
  refine (toWeb_any _ a cap l hl2 hs2 (hN.kept (KW9.trans KD))).mono ?_
  rintro e wq ⟨bq, rfl, hNq, kq, hbq⟩
  refine hK.out _ _ (fun _ => HX9.out _ (KD.trans kq)) ?_
  clear hK K
  try simp only [Act.put, upA, upB, upC]
  refine UpTo.nx 3 (fun K hK => ?_)
  rw [if_pos (by rfl)]
  go_simp
  go_at_call 11
  refine (eqWeb_yes _ (some ⟨bx, 0, none⟩) (some ⟨bq, 0, none⟩) l.length l.length l hl hs (HN9.out.same ((KD.trans kq).same _ _)).nodes hNq.nodes).mono ?_
  rintro e w10 ⟨rfl, k10⟩
  refine hK.out _ _ (fun _ => HX9.out _ ((KD.trans kq).trans k10)) ?_
  clear hK K
  try simp only [Act.put, upA, upB, upC]
  refine UpTo.nx 4 (fun K hK => ?_)
  go_simp
  refine hK.out _ _ (fun h => absurd rfl h) ?_
  clear hK K
  try simp only [Act.put, upA, upB, upC]
  refine UpTo.dn ?_
  have K9b := (KD.trans kq).trans k10
  have K7b := K79.trans K9b
  clear KD kq k10 x0 x1 x2 b0 b1 b2 hNq hbq
  have HX10 : Hid (∀ w', Kept w10 w' → (fun w' => w'.cell? ⟨w6.heap.size, 0, none⟩ = some (.slice (some ⟨bx, 0, none⟩) l.length l.length) ∧ w'.cell? ⟨w7.heap.size, 0, none⟩ = some (.slice (some ⟨bu, 0, none⟩) roots.length roots.length) ∧ w'.cell? ⟨w7.heap.size, 1, none⟩ = some (.slice (some ⟨bv, 0, none⟩) sl.length sl.length) ∧ (w'.cell? ⟨w.heap.size, 0, none⟩ = some (.slice a l.length cap) ∧ w'.cell? ⟨w.heap.size + 1, 0, none⟩ = some (.slice rd roots.length rc) ∧ w'.cell? ⟨w.heap.size + 1, 1, none⟩ = some (.slice ga sl.length gc))) w') := fun w' kk => HX.out w' (K7b.trans kk)
  obtain ⟨x0, x1, x2, b0, b1, b2⟩ := HX10.out w10 (Kept.refl _)
  go_upto_region 18 with fail
  refine UpTo.rg 4 HX10.out fun wd KD hHeld => ?_
  refine UpTo.tk 0 hHeld ?_
  refine UpTo.tk 1 hHeld ?_
  refine UpTo.nx 2 (fun K hK => ?_)
  rw [if_pos (by rfl)]
  go_simp
  go_at_call 8
  refine (toStateX_any _ rd ga rc gc roots sl hr2 hsl2 hst2 (hR.kept ((KW9.trans K9b).trans KD)) (hG.kept ((KW9.trans K9b).trans KD))).mono ?_
  rintro e w11 ⟨d1, d2, rfl, hR11, hG11, k11, hd1, hd2⟩
  refine hK.out _ _ (fun _ => HX10.out _ (KD.trans k11)) ?_
  clear hK K
  try simp only [Act.put, upA, upB, upC]
  refine UpTo.nx 3 (fun K hK => ?_)
  rw [if_pos (by rfl)]
  go_simp
  go_at_call 10
  refine (eqStateX_yes _ (some ⟨bu, 0, none⟩) (some ⟨d1, 0, none⟩) (some ⟨bv, 0, none⟩) (some ⟨d2, 0, none⟩) roots.length roots.length sl.length sl.length roots sl hrl hsl hsf (HR9.out.same (((K9b.trans KD).trans k11).same _ _)).strs hR11 (HG9.out.same (((K9b.trans KD).trans k11).same _ _)).runs hG11.runs).mono ?_
  rintro e w12 ⟨rfl, k12⟩
  refine hK.out _ _ (fun _ => HX10.out _ ((KD.trans k11).trans k12)) ?_
  clear hK K
  try simp only [Act.put, upA, upB, upC]
  refine UpTo.nx 4 (fun K hK => ?_)
  go_simp
  refine hK.out _ _ (fun h => absurd rfl h) ?_
  clear hK K
  try simp only [Act.put, upA, upB, upC]
  refine UpTo.dn ?_
  have K9c : Kept w9 w12 := ((K9b.trans KD).trans k11).trans k12
  have K7c := K79.trans K9c
  clear KD k11 k12 x0 x1 x2 b0 b1 b2 hR11 hG11 hd1 hd2 K9b K7b HX10
  obtain ⟨x0, x1, x2, b0, b1, b2⟩ := HX.out w12 K7c
  have HN12 := hide (HN9.out.same (K9c.same _ _))
  have HR12 := hide (HR9.out.same (K9c.same _ _))
  have HG12 := hide (HG9.out.same (K9c.same _ _))
  have HI12 := hide (HI9.out.same (K9c.same _ _))
  have HJ12 := hide (HJ9.out.same (K9c.same _ _))
  have K8c : Kept W8 w12 := k9.trans K9c
  have z8c := K8c.size
  have G12 := HGB.out w12 K8c
  have z12 := K7c.size
  have K512 := K57.trans K7c
  have hcn := HCn.out
  have HG12b := hide G12
  clear HN9 HR9 HG9 HI9 HJ9 HX9 K9c G12
  go_wp2_with fail
  refine (markWeb_any _ w5.heap.size w6.heap.size (some ⟨bx, 0, none⟩) l.length l 1 (by omega) (by omega) HN12.out).mono ?_
  rintro e w13 ⟨rfl, _, kb13⟩
  have K513 : Kept w5 w13 := kb13.kept K512 (Nat.le_refl _)
  have z13 := kb13.size
  have y1 : w13.cell? ⟨w7.heap.size, 0, none⟩ = some (.slice (some ⟨bu, 0, none⟩) roots.length roots.length) := (World.cell?_of_block (w := w12) (kb13.block _ (by show w7.heap.size < _; omega) (.inr (by show w6.heap.size ≤ w7.heap.size; omega)))).trans x1
  have y2 : w13.cell? ⟨w7.heap.size, 1, none⟩ = some (.slice (some ⟨bv, 0, none⟩) sl.length sl.length) := (World.cell?_of_block (w := w12) (kb13.block _ (by show w7.heap.size < _; omega) (.inr (by show w6.heap.size ≤ w7.heap.size; omega)))).trans x2
  have HGc13 : Hid (∀ o, w13.cell? ⟨w8.heap.size, o, none⟩ = w12.cell? ⟨w8.heap.size, o, none⟩) := fun o => World.cell?_of_block (w := w12) (kb13.block _ (by show w8.heap.size < _; omega) (.inr (by show w6.heap.size ≤ w8.heap.size; omega)))
  have HR13 := hide (HR12.out.same (kb13.same (l2 := W6.heap.size) (h2 := mid) (by omega)))
  have HG13 := hide (HG12.out.same (kb13.same (l2 := mid) (h2 := w7.heap.size) (by omega)))
  have HI13 := hide (HI12.out.same (kb13.same (l2 := W7.heap.size) (h2 := mid8) (by omega)))
  have HJ13 := hide (HJ12.out.same (kb13.same (l2 := mid8) (h2 := w8.heap.size) (by omega)))
  obtain ⟨kn, hkn⟩ : ∃ kn, kn = 1 + (l.map cntNode).sum := ⟨_, rfl⟩
  rw [← hkn]
  have hkn0 : 0 < kn := by omega
  have hkn1 : kn + roots.length + (sl.map cntRun).sum ≤ 33554432 := by omega
  clear hkn x0 x1 x2 b0 b1 b2 kb13 HN12 HR12 HG12 HI12 HJ12
  go_wp2_with fail
  refine (markStateX_any _ W6.heap.size mid w7.heap.size (some ⟨bu, 0, none⟩) (some ⟨bv, 0, none⟩) roots.length sl.length roots sl kn hkn0 (by omega) hm1 hm2 (by omega) HR13.out HG13.out).mono ?_
  rintro e w14 ⟨rfl, _, _, kb14⟩
  have K514 : Kept w5 w14 := kb14.kept K513 (by have := K56.size; omega)
  have z14 := kb14.size
  have HGc14 : Hid (∀ o, w14.cell? ⟨w8.heap.size, o, none⟩ = w12.cell? ⟨w8.heap.size, o, none⟩) := fun o => (World.cell?_of_block (w := w13) (kb14.block _ (by show w8.heap.size < _; omega) (.inr (by show w7.heap.size ≤ w8.heap.size; omega)))).trans (HGc13.out o)
  have HI14 := hide (HI13.out.same (kb14.same (l2 := W7.heap.size) (h2 := mid8) (by omega)))
  have HJ14 := hide (HJ13.out.same (kb14.same (l2 := mid8) (h2 := w8.heap.size) (by omega)))
  obtain ⟨km, hkm⟩ : ∃ km, km = kn + roots.length + (sl.map cntRun).sum := ⟨_, rfl⟩
  rw [← hkm]
  have hkm0 : ¬ ((km : Int) < 0) := by omega
  have g0 := (HGc14.out 0).trans HG12b.out.1
  have g1 := (HGc14.out 1).trans HG12b.out.2
  obtain ⟨p0, p1⟩ := HP8.out w14 K514
  clear hkm y1 y2 kb14 HR13 HG13 HI13 HJ13 hkn0 hkn1 hcn HCn HGc13 HGc14 HG12b
  go_wp2_with fail
  refine (eqStateX_yes _ gr r8 gd d8 grc rc8 gdc dc8 U V hml hmv HVf.out HI14.out.strs (HT.out.kept K514) HJ14.out.runs (HU.out.kept K514)).mono ?_
  rintro e w15 ⟨rfl, k15⟩
  have K515 := K514.trans k15
  have HI15 := hide (HI14.out.same (k15.same _ _))
  have HJ15 := hide (HJ14.out.same (k15.same _ _))
  have z15 := k15.size
  have gl : w8.heap.size < w14.heap.size := by omega
  have h0 := (k15.cell gl).trans g0
  have h1 := (k15.cell gl).trans g1
  clear HI14 HJ14 k15 g0 g1 p0 p1
  go_wp2_with fail
  refine (markStateX_any _ W7.heap.size mid8 w8.heap.size gr gd grc gdc U V 1 (by omega) (by omega) n1 n2 (by omega) HI15.out HJ15.out).mono ?_
  rintro e w16 ⟨rfl, hI16, hJ16, kb16⟩
  have K516 : Kept w5 w16 := kb16.kept K515 (by have := K57.size; omega)
  have z16 := kb16.size
  have i0 : w16.cell? ⟨w8.heap.size, 0, none⟩ = some (.slice gr U.length grc) := (World.cell?_of_block (w := w15) (kb16.block _ (by show w8.heap.size < _; omega) (.inr (Nat.le_refl _)))).trans h0
  have i1 : w16.cell? ⟨w8.heap.size, 1, none⟩ = some (.slice gd V.length gdc) := (World.cell?_of_block (w := w15) (kb16.block _ (by show w8.heap.size < _; omega) (.inr (Nat.le_refl _)))).trans h1
  have gl16 : w8.heap.size < w16.heap.size := by omega
  obtain ⟨M, hM⟩ : ∃ M, M = 1 + U.length + (V.map cntRun).sum := ⟨_, rfl⟩
  rw [← hM]
  have hMM : ((M : Int) != (M : Int)) = false := by simp
  have hM0 : ¬ ((M : Int) < 0) := by omega
  have HI16 := hide hI16
  have HJ16 := hide hJ16
  have HM := hide hM
  clear hM hI16 hJ16 kb16 HI15 HJ15 h0 h1
  go_wp2_with fail
  refine (heldStateX_yes _ gr gd grc gdc U V 1 (by omega) (by omega) HI16.out.strs HJ16.out.runs).mono ?_
  rintro e w17 ⟨rfl, k17⟩
  rw [← HM.out]
  have K517 := K516.trans k17
  have HI17 := hide (HI16.out.same (k17.same _ _))
  have HJ17 := hide (HJ16.out.same (k17.same _ _))
  have KW17 := k0.trans (K5.trans K517)
  have gl17 : w8.heap.size < w17.heap.size := by have := k17.size; omega
  have HGB17 : Hid (∀ w', Kept w17 w' → w'.cell? ⟨w8.heap.size, 0, none⟩ = some (.slice gr U.length grc) ∧ w'.cell? ⟨w8.heap.size, 1, none⟩ = some (.slice gd V.length gdc)) := fun w' kk => ⟨((k17.trans kk).cell gl16).trans i0, ((k17.trans kk).cell gl16).trans i1⟩
  have HSO17 : Hid (∀ w', Kept w17 w' → (fun w' => w'.cell? ⟨w.heap.size, 0, none⟩ = some (.slice a l.length cap) ∧ w'.cell? ⟨w.heap.size + 1, 0, none⟩ = some (.slice rd roots.length rc) ∧ w'.cell? ⟨w.heap.size + 1, 1, none⟩ = some (.slice ga sl.length gc)) w') := fun w' kk => HBox.out w' ((K5.trans K517).trans kk)
  obtain ⟨b0, b1, b2⟩ := HSO17.out w17 (Kept.refl _)
  clear k17 HI16 HJ16 i0 i1 gl16
  go_upto_region 33 with fail
  refine region_cut (DoJ w17 l roots sl name 82 83 84 85 86 87 15) ?_ ?_
  · refine UpTo.rg 7 HSO17.out fun wd KD hHeld => ?_
    refine UpTo.tk 0 hHeld ?_
    refine UpTo.tk 2 hHeld ?_
    refine UpTo.tk 4 hHeld ?_
    refine UpTo.tw 1 6 (fun K hK => ?_) (fun K hK => ?_)
    · rw [if_pos (by rfl)]
      go_simp
      go_at_call 7
      refine (toWeb_any _ a cap l hl2 hs2 (hN.kept (KW17.trans KD))).mono ?_
      rintro e w3 ⟨bw, rfl, hN3, k3, hb1⟩
      have KC3 := KD.trans k3
      refine hK.out _ _ (fun _ => HSO17.out _ KC3) ?_
      clear hK K
      try simp only [Act.put, upA, upB, upC]
      refine UpTo.tw 3 6 (fun K hK => ?_) (fun K hK => ?_)
      · rw [if_pos (by rfl)]
        go_simp
        go_at_call 8
        refine (toStateX_any _ rd ga rc gc roots sl hr2 hsl2 hst2 (hR.kept (KW17.trans KC3)) (hG.kept (KW17.trans KC3))).mono ?_
        rintro e w4 ⟨c1, c2, rfl, hR4, hG4, k4, hc1, hc2⟩
        have KC4 := KC3.trans k4
        refine hK.out _ _ (fun _ => HSO17.out _ KC4) ?_
        clear hK K
        try simp only [Act.put, upA, upB, upC]
        refine UpTo.tw 5 6 (fun K hK => ?_) (fun K hK => ?_)
        · rw [if_pos (by rfl)]
          go_simp
          go_at_call 9
          refine (implDo_any _ (some ⟨bw, 0, none⟩) l.length l (some ⟨c1, 0, none⟩) roots.length roots (some ⟨c2, 0, none⟩) sl.length sl name hl2 hs hrl hr2 (Nat.le_refl _) hrs hsl2 hst2 (hN3.kept k4).nodes (hR4.kept (Kept.refl _)) (hG4.runs.kept (Kept.refl _)) (hFi.kept (KW17.trans KC4))).mono ?_
          rintro e w5 h5
          obtain ⟨R, T, ra, rc5, d5, dc5, rfl, hD5, hO5, k5⟩ := h5.out
          have KC5 := KC4.trans k5
          refine hK.out _ _ (fun _ => HSO17.out _ KC5) ?_
          clear hK K h5
          try simp only [Act.put, upA, upB, upC]
          refine UpTo.nx 6 (fun K hK => ?_)
          go_simp
          refine hK.out _ _ (fun _ => HSO17.out _ (KC5.trans ((Kept.refl _).alloc _))) ?_
          clear hK K
          try simp only [Act.put, upA, upB, upC]
          have hRw : RowT (w5.alloc (.cells #[.slice none 0 0, .slice none 0 0] 33)) w5.heap.size 33 2 := RowT.made w5 _ _
          have KA : Kept w5 (w5.alloc (.cells #[.slice none 0 0, .slice none 0 0] 33)) := (Kept.refl _).alloc _
          have nz := KC5.size
          obtain ⟨nb, hnb⟩ : ∃ nb, nb = w5.heap.size := ⟨_, rfl⟩
          rw [← hnb] at hRw ⊢
          generalize hwe : w5.alloc (.cells #[.slice none 0 0, .slice none 0 0] 33) = wA at hRw KA ⊢
          clear hwe
          have KCA := KC5.trans KA
          have nl := hRw.lt
          have nz2 : w17.heap.size ≤ nb := by omega
          have HNB := hide hnb
          clear hnb nz
          have hRF := hRw
          have hO := hO5 wA nb [.slice ra R.length rc5, .slice d5 T.length dc5] (.inr (by have := HNB.out; omega)) KA
          refine UpTo.nx 7 (fun K hK => ?_)
          rw [if_pos (by rfl)]
          refine wp_store_mid 33 _ _ rfl nb 0 #[.slice ra R.length rc5, .slice d5 T.length dc5] (by rfl) (by rfl) hRF.there (by kernel_rfl) (two_one ..) ?_
          refine hK.out _ _ (fun h => absurd rfl h) ?_
          clear hK K
          try simp only [Act.put]
          refine UpTo.dn ⟨rfl, ?_⟩
          refine ⟨.agg #[.slice a l.length cap], .agg #[.slice (some ⟨bw, 0, none⟩) l.length l.length], .agg #[.slice rd roots.length rc, .slice ga sl.length gc], .agg #[.slice (some ⟨c1, 0, none⟩) roots.length roots.length, .slice (some ⟨c2, 0, none⟩) sl.length sl.length], .string name, .agg #[.slice ra R.length rc5, .slice d5 T.length dc5], nb, R, T, ra, rc5, d5, dc5, ?_, by omega, ?_, (box_sets hRF).1, (box_sets hRF).2, hD5, hO.1, hO.2, kept_sets (by omega) _ 0 KCA⟩
          · simp only [Act.put, List.setIfInBounds_toArray, List.set_cons_zero, List.set_cons_succ]
          · rw [size_setCells]; exact hRF.lt
        · go_simp
          refine hK.out _ _ (fun _ => HSO17.out _ (KC4.trans ((Kept.refl _).alloc _))) ?_
          clear hK K
          try simp only [Act.put, upA, upB, upC]
          have hRw : RowT (w4.alloc (.cells #[.slice none 0 0, .slice none 0 0] 33)) w4.heap.size 33 2 := RowT.made w4 _ _
          have KA : Kept w4 (w4.alloc (.cells #[.slice none 0 0, .slice none 0 0] 33)) := (Kept.refl _).alloc _
          have nz := KC4.size
          obtain ⟨nb, hnb⟩ : ∃ nb, nb = w4.heap.size := ⟨_, rfl⟩
          rw [← hnb] at hRw ⊢
          generalize hwe : w4.alloc (.cells #[.slice none 0 0, .slice none 0 0] 33) = wA at hRw KA ⊢
          clear hwe
          have KCA := KC4.trans KA
          have nl := hRw.lt
          have nz2 : w17.heap.size ≤ nb := by omega
          have HNB := hide hnb
          clear hnb nz
          refine UpTo.nx 5 (fun K hK => ?_)
          rw [if_pos (by rfl)]
          go_simp
          go_at_call 9
          refine (implDo_any _ (some ⟨bw, 0, none⟩) l.length l (some ⟨c1, 0, none⟩) roots.length roots (some ⟨c2, 0, none⟩) sl.length sl name hl2 hs hrl hr2 (Nat.le_refl _) hrs hsl2 hst2 (hN3.kept (k4.trans KA)).nodes (hR4.kept KA) (hG4.runs.kept KA) (hFi.kept (KW17.trans KCA))).mono ?_
          rintro e w5 h5
          obtain ⟨R, T, ra, rc5, d5, dc5, rfl, hD5, hO5, k5⟩ := h5.out
          have KC5 := KCA.trans k5
          refine hK.out _ _ (fun _ => HSO17.out _ KC5) ?_
          clear hK K h5
          try simp only [Act.put, upA, upB, upC]
          have hRF := hRw.kept k5
          have hO := hO5 w5 nb [.slice ra R.length rc5, .slice d5 T.length dc5] (.inl (by omega)) (Kept.refl _)
          refine UpTo.nx 7 (fun K hK => ?_)
          rw [if_pos (by rfl)]
          refine wp_store_mid 33 _ _ rfl nb 0 #[.slice ra R.length rc5, .slice d5 T.length dc5] (by rfl) (by rfl) hRF.there (by kernel_rfl) (two_one ..) ?_
          refine hK.out _ _ (fun h => absurd rfl h) ?_
          clear hK K
          try simp only [Act.put]
          refine UpTo.dn ⟨rfl, ?_⟩
          refine ⟨.agg #[.slice a l.length cap], .agg #[.slice (some ⟨bw, 0, none⟩) l.length l.length], .agg #[.slice rd roots.length rc, .slice ga sl.length gc], .agg #[.slice (some ⟨c1, 0, none⟩) roots.length roots.length, .slice (some ⟨c2, 0, none⟩) sl.length sl.length], .string name, .agg #[.slice ra R.length rc5, .slice d5 T.length dc5], nb, R, T, ra, rc5, d5, dc5, ?_, by omega, ?_, (box_sets hRF).1, (box_sets hRF).2, hD5, hO.1, hO.2, kept_sets (by omega) _ 0 KC5⟩
          · simp only [Act.put, List.setIfInBounds_toArray, List.set_cons_zero, List.set_cons_succ]
          · rw [size_setCells]; exact hRF.lt
      · go_simp
        refine hK.out _ _ (fun _ => HSO17.out _ (KC3.trans ((Kept.refl _).alloc _))) ?_
        clear hK K
        try simp only [Act.put, upA, upB, upC]
        have hRw : RowT (w3.alloc (.cells #[.slice none 0 0, .slice none 0 0] 33)) w3.heap.size 33 2 := RowT.made w3 _ _
        have KA : Kept w3 (w3.alloc (.cells #[.slice none 0 0, .slice none 0 0] 33)) := (Kept.refl _).alloc _
        have nz := KC3.size
        obtain ⟨nb, hnb⟩ : ∃ nb, nb = w3.heap.size := ⟨_, rfl⟩
        rw [← hnb] at hRw ⊢
        generalize hwe : w3.alloc (.cells #[.slice none 0 0, .slice none 0 0] 33) = wA at hRw KA ⊢
        clear hwe
        have KCA := KC3.trans KA
        have nl := hRw.lt
        have nz2 : w17.heap.size ≤ nb := by omega
        have HNB := hide hnb
        clear hnb nz
        refine UpTo.nx 3 (fun K hK => ?_)
        rw [if_pos (by rfl)]
        go_simp
        go_at_call 8
        refine (toStateX_any _ rd ga rc gc roots sl hr2 hsl2 hst2 (hR.kept (KW17.trans KCA)) (hG.kept (KW17.trans KCA))).mono ?_
        rintro e w4 ⟨c1, c2, rfl, hR4, hG4, k4, hc1, hc2⟩
        have KC4 := KCA.trans k4
        refine hK.out _ _ (fun _ => HSO17.out _ KC4) ?_
        clear hK K
        try simp only [Act.put, upA, upB, upC]
        refine UpTo.nx 5 (fun K hK => ?_)
        rw [if_pos (by rfl)]
        go_simp
        go_at_call 9
        refine (implDo_any _ (some ⟨bw, 0, none⟩) l.length l (some ⟨c1, 0, none⟩) roots.length roots (some ⟨c2, 0, none⟩) sl.length sl name hl2 hs hrl hr2 (Nat.le_refl _) hrs hsl2 hst2 (hN3.kept (KA.trans k4)).nodes (hR4.kept (Kept.refl _)) (hG4.runs.kept (Kept.refl _)) (hFi.kept (KW17.trans KC4))).mono ?_
        rintro e w5 h5
        obtain ⟨R, T, ra, rc5, d5, dc5, rfl, hD5, hO5, k5⟩ := h5.out
        have KC5 := KC4.trans k5
        refine hK.out _ _ (fun _ => HSO17.out _ KC5) ?_
        clear hK K h5
        try simp only [Act.put, upA, upB, upC]
        have z4 := k4.size
        have hRF := hRw.kept (k4.trans k5)
        have hO := hO5 w5 nb [.slice ra R.length rc5, .slice d5 T.length dc5] (.inl (by omega)) (Kept.refl _)
        refine UpTo.nx 7 (fun K hK => ?_)
        rw [if_pos (by rfl)]
        refine wp_store_mid 33 _ _ rfl nb 0 #[.slice ra R.length rc5, .slice d5 T.length dc5] (by rfl) (by rfl) hRF.there (by kernel_rfl) (two_one ..) ?_
        refine hK.out _ _ (fun h => absurd rfl h) ?_
        clear hK K
        try simp only [Act.put]
        refine UpTo.dn ⟨rfl, ?_⟩
        refine ⟨.agg #[.slice a l.length cap], .agg #[.slice (some ⟨bw, 0, none⟩) l.length l.length], .agg #[.slice rd roots.length rc, .slice ga sl.length gc], .agg #[.slice (some ⟨c1, 0, none⟩) roots.length roots.length, .slice (some ⟨c2, 0, none⟩) sl.length sl.length], .string name, .agg #[.slice ra R.length rc5, .slice d5 T.length dc5], nb, R, T, ra, rc5, d5, dc5, ?_, by omega, ?_, (box_sets hRF).1, (box_sets hRF).2, hD5, hO.1, hO.2, kept_sets (by omega) _ 0 KC5⟩
        · simp only [Act.put, List.setIfInBounds_toArray, List.set_cons_zero, List.set_cons_succ]
        · rw [size_setCells]; exact hRF.lt
    · go_simp
      refine hK.out _ _ (fun _ => HSO17.out _ (KD.trans ((Kept.refl _).alloc _))) ?_
      clear hK K
      try simp only [Act.put, upA, upB, upC]
      have hRw : RowT (wd.alloc (.cells #[.slice none 0 0, .slice none 0 0] 33)) wd.heap.size 33 2 := RowT.made wd _ _
      have KA : Kept wd (wd.alloc (.cells #[.slice none 0 0, .slice none 0 0] 33)) := (Kept.refl _).alloc _
      have nz := KD.size
      obtain ⟨nb, hnb⟩ : ∃ nb, nb = wd.heap.size := ⟨_, rfl⟩
      rw [← hnb] at hRw ⊢
      generalize hwe : wd.alloc (.cells #[.slice none 0 0, .slice none 0 0] 33) = wA at hRw KA ⊢
      clear hwe
      have KCA := KD.trans KA
      have nl := hRw.lt
      have nz2 : w17.heap.size ≤ nb := by omega
      have HNB := hide hnb
      clear hnb nz
      refine UpTo.nx 1 (fun K hK => ?_)
      rw [if_pos (by rfl)]
      go_simp
      go_at_call 7
      refine (toWeb_any _ a cap l hl2 hs2 (hN.kept (KW17.trans KCA))).mono ?_
      rintro e w3 ⟨bw, rfl, hN3, k3, hb1⟩
      have KC3 := KCA.trans k3
      refine hK.out _ _ (fun _ => HSO17.out _ KC3) ?_
      clear hK K
      try simp only [Act.put, upA, upB, upC]
      refine UpTo.nx 3 (fun K hK => ?_)
      rw [if_pos (by rfl)]
      go_simp
      go_at_call 8
      refine (toStateX_any _ rd ga rc gc roots sl hr2 hsl2 hst2 (hR.kept (KW17.trans KC3)) (hG.kept (KW17.trans KC3))).mono ?_
      rintro e w4 ⟨c1, c2, rfl, hR4, hG4, k4, hc1, hc2⟩
      have KC4 := KC3.trans k4
      refine hK.out _ _ (fun _ => HSO17.out _ KC4) ?_
      clear hK K
      try simp only [Act.put, upA, upB, upC]
      refine UpTo.nx 5 (fun K hK => ?_)
      rw [if_pos (by rfl)]
      go_simp
      go_at_call 9
      refine (implDo_any _ (some ⟨bw, 0, none⟩) l.length l (some ⟨c1, 0, none⟩) roots.length roots (some ⟨c2, 0, none⟩) sl.length sl name hl2 hs hrl hr2 (Nat.le_refl _) hrs hsl2 hst2 (hN3.kept k4).nodes (hR4.kept (Kept.refl _)) (hG4.runs.kept (Kept.refl _)) (hFi.kept (KW17.trans KC4))).mono ?_
      rintro e w5 h5
      obtain ⟨R, T, ra, rc5, d5, dc5, rfl, hD5, hO5, k5⟩ := h5.out
      have KC5 := KC4.trans k5
      refine hK.out _ _ (fun _ => HSO17.out _ KC5) ?_
      clear hK K h5
      try simp only [Act.put, upA, upB, upC]
      have z3 := k3.size
      have z4 := k4.size
      have hRF := hRw.kept ((k3.trans k4).trans k5)
      have hO := hO5 w5 nb [.slice ra R.length rc5, .slice d5 T.length dc5] (.inl (by omega)) (Kept.refl _)
      refine UpTo.nx 7 (fun K hK => ?_)
      rw [if_pos (by rfl)]
      refine wp_store_mid 33 _ _ rfl nb 0 #[.slice ra R.length rc5, .slice d5 T.length dc5] (by rfl) (by rfl) hRF.there (by kernel_rfl) (two_one ..) ?_
      refine hK.out _ _ (fun h => absurd rfl h) ?_
      clear hK K
      try simp only [Act.put]
      refine UpTo.dn ⟨rfl, ?_⟩
      refine ⟨.agg #[.slice a l.length cap], .agg #[.slice (some ⟨bw, 0, none⟩) l.length l.length], .agg #[.slice rd roots.length rc, .slice ga sl.length gc], .agg #[.slice (some ⟨c1, 0, none⟩) roots.length roots.length, .slice (some ⟨c2, 0, none⟩) sl.length sl.length], .string name, .agg #[.slice ra R.length rc5, .slice d5 T.length dc5], nb, R, T, ra, rc5, d5, dc5, ?_, by omega, ?_, (box_sets hRF).1, (box_sets hRF).2, hD5, hO.1, hO.2, kept_sets (by omega) _ 0 KC5⟩
      · simp only [Act.put, List.setIfInBounds_toArray, List.set_cons_zero, List.set_cons_succ]
      · rw [size_setCells]; exact hRF.lt
  rintro _ w20 ⟨u0, u1, u2, u3, u4, u5, p9, R9, T9, r9, rc9, d9, dc9, rfl, ho1, ho2, c90, c91, hD9, hS9, hT9, K17c⟩
  try simp only [Act.put, upA, upB, upC]
  obtain ⟨rfl, rfl⟩ := hD9.one HD5.out
  have K520 := K517.trans K17c
  have HI20 := hide (HI17.out.same (K17c.same _ _))
  have HJ20 := hide (HJ17.out.same (K17c.same _ _))
  have HS9 := hide hS9
  have HT9 := hide hT9
  obtain ⟨p0, p1⟩ := HP8.out w20 K520
  clear b0 b1 b2 hS9 hT9 hD9 HI17 HJ17
  go_wp2_with fail
  refine (eqStateX_yes _ r9 r8 d9 d8 rc9 rc8 dc9 dc8 U V hml hmv HVf.out HS9.out (HT.out.kept K520) HT9.out (HU.out.kept K520)).mono ?_
  rintro e w21 ⟨rfl, k21⟩
  have HI21 := hide (HI20.out.same (k21.same _ _))
  have HJ21 := hide (HJ20.out.same (k21.same _ _))
  have K521 := K520.trans k21
  obtain ⟨g0, g1⟩ := HGB17.out w21 (K17c.trans k21)
  clear k21 HI20 HJ20 HS9 HT9 c90 c91 p0 p1
  go_wp2_with fail
  refine (heldStateX_yes _ gr gd grc gdc U V 1 (by omega) (by omega) HI21.out.strs HJ21.out.runs).mono ?_
  rintro e w22 ⟨rfl, k22⟩
  rw [← HM.out]
  have KF := k0.trans (K5.trans (K521.trans k22))
  clear k22 g0 g1
  go_wp2
  go_ret
  exact ⟨rfl, KF⟩
end Go.Proofs.YtjhemildijapmaaGreatDoor
