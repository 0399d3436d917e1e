import Derived.Test.YtjhemildijapmaaGreatDoorKBReady
import Derived.Test.YtjhemildijapmaaGreatDoorKBIn
import Derived.Test.YtjhemildijapmaaGreatDoorKVAppr
import Derived.Test.YtjhemildijapmaaGreatDoorKBAscR
import Derived.Test.YtjhemildijapmaaGreatDoorKBSame
import Derived.Test.YtjhemildijapmaaGreatDoorKXValid0
import Derived.Test.YtjhemildijapmaaGreatDoorKXSame3
import Derived.Test.YtjhemildijapmaaGreatDoorKVDo
import Derived.Test.YtjhemildijapmaaGreatDoorKXTop
import Derived.Test.YtjhemildijapmaaGreatDoorKWCheck5
import Derived.Test.YtjhemildijapmaaGreatDoorKOOrder
namespace Go.Proofs.YtjhemildijapmaaGreatDoor
open Go.RowKit
def ApartB (w : World) (bb mb : Nat) (ts : List TaskM) (f : ByteArray → Value) (k : Nat) : Prop := k < w.heap.size ∧ k ≠ bb ∧ k ≠ mb ∧ (∀ t ∈ ts, k ≠ t.tb ∧ k ∉ t.own) ∧ ∀ s, (f s).ownBlock ≠ some k
theorem Fen.apart {G : Ghost} {w : World} {bb mb : Nat} {ts : List TaskM} {f : ByteArray → Value} (h : Fen G w bb mb ts f) {k : Nat} (hk : G.K k) : ApartB w bb mb ts f k :=
  ⟨Nat.lt_of_lt_of_le (h.lt k hk) h.size, fun e => h.nb (by rw [← e]; exact hk), fun e => h.nm (by rw [← e]; exact hk), fun t ht => ⟨fun e => (h.nt t ht).1 (by rw [← e]; exact hk), fun hx => (h.nt t ht).2 k hx hk⟩, fun s hs => h.nf s k hs hk⟩
theorem box1 {w w1 : World} {v : Value} {t : TypeId} (k : Kept (w.alloc (.cells #[v] t)) w1) : w1.cell? ⟨w.heap.size, 0, none⟩ = some v ∧ w1.frozen? ⟨w.heap.size, 0, none⟩ = false ∧ TypeAt w1 w.heap.size t := by
  have hlt : w.heap.size < (w.alloc (.cells #[v] t)).heap.size := by simp
  exact ⟨(k.cell hlt).trans (by simp), (k.rules.2 _ _ hlt).trans (by simp), #[v], _, (k.block _ hlt).trans (World.alloc_heap_new w _)⟩
theorem box2 {w w1 : World} {v0 v1 : Value} {t : TypeId} (k : Kept (w.alloc (.cells #[v0, v1] t)) w1) : w1.cell? ⟨w.heap.size, 0, none⟩ = some v0 ∧ w1.cell? ⟨w.heap.size, 1, none⟩ = some v1 := by
  have hlt : w.heap.size < (w.alloc (.cells #[v0, v1] t)).heap.size := by simp
  constructor
  · rw [k.cell hlt]; simp
  · rw [k.cell hlt]; simp
def nsOf (ts : List TaskM) : List ByteArray := ts.map fun t => t.r.name
def psOf (ts : List TaskM) : List (Nat × ByteArray) := ts.map fun t => (t.tb, t.r.name)
def tbOf (ts : List TaskM) (i : Nat) : Nat := (ts.map fun t => t.tb).getD i 0
def potE (webl : List NodeD) (ts : List TaskM) : Nat := potAll (webl.map (·.name)) (envOf (runsOf ts))
section
variable {B : Nat} {Kf Kc : Nat → Prop} {W0 : World} {webl : List NodeD} {wz W W' : World} {bb : Nat} {a : Option Addr} {cap : Nat} {rd : Option Addr} {rn rc : Nat} {mb mx : Nat} {ts0 ts : List TaskM} {d0 d : Option Addr} {dc : Nat} {f : ByteArray → Value} {ws : ByteArray → List Nat}
theorem put_cell {l c o : Nat} (o' : Obj) (h : c ≠ l) : (W.putObj l o').cell? ⟨c, o, none⟩ = W.cell? ⟨c, o, none⟩ := World.cell?_of_block (w := W) (World.putObj_heap_other h)
theorem put_frozen {l c o : Nat} (o' : Obj) (h : c ≠ l) : (W.putObj l o').frozen? ⟨c, o, none⟩ = W.frozen? ⟨c, o, none⟩ := World.frozen?_of_block (w := W) (World.putObj_heap_other h)
theorem InB.task (h : InB B Kf Kc (psOf ts0) W0 webl wz W bb a cap rd rn rc mb mx ts d dc f ws) {i : Nat} (hi : i < ts0.length) : ∃ (j : Nat) (t : TaskM), ts[j]? = some t ∧ t.tb = tbOf ts0 i ∧ t.r.name = (nsOf ts0).getD i ByteArray.empty := by
  obtain ⟨t, ht, h1, h2⟩ := h.bm.oth.has (ts0[i].tb, ts0[i].r.name) (List.mem_map.2 ⟨ts0[i], List.getElem_mem hi, rfl⟩)
  obtain ⟨j, hj⟩ := List.getElem?_of_mem ht
  exact ⟨j, t, hj, by rw [h1]; simp [tbOf, List.getD, hi], by rw [h2]; simp [nsOf, List.getD, hi]⟩
theorem InB.row (h : InB B Kf Kc (psOf ts0) W0 webl wz W bb a cap rd rn rc mb mx ts d dc f ws) {base dc0 : Nat} (ho : W0.ownsRow base 57 1 (.slice d0 ts0.length dc0) ts0.length (ts0.map TaskM.ptr)) (hK : ∀ g, d0 = some ⟨g, 0, none⟩ → Kf g) {i : Nat} (hi : i < ts0.length) : ∃ g, d0 = some ⟨g, 0, none⟩ ∧ W.cell? ⟨g, i, none⟩ = some (.pointer (some ⟨tbOf ts0 i, 0, none⟩)) := by
  rcases ho.2 with ⟨e, _⟩ | ⟨g, cp, cur, e, _⟩
  · exfalso
    simp only [Value.slice.injEq] at e
    omega
  · simp only [Value.slice.injEq] at e
    obtain ⟨rfl, _, rfl⟩ := e
    refine ⟨g, rfl, ?_⟩
    have hc := ho.cells (g := g) rfl i (ts0[i]).ptr (by simp [hi])
    have e1 : W.cell? ⟨g, i, none⟩ = W0.cell? ⟨g, i, none⟩ := World.cell?_of_block (w := W0) (h.same g (hK g rfl))
    rw [e1]
    have e2 : ((⟨g, 0, none⟩ : Addr).add i) = ⟨g, i, none⟩ := by simp [Addr.add]; omega
    rw [e2] at hc
    rw [hc]
    simp [TaskM.ptr, tbOf, List.getD, hi]
theorem BS.can (h : BS webl ts ws) {t : TaskM} (ht : t ∈ ts) : CanGo (actsOf webl) (envOf (runsOf ts)) t.r ↔ t.r.over = false ∧ t.op = 0 := by
  obtain ⟨A, hA, _⟩ := (h.good.good t.r (List.mem_map_of_mem ht)).act
  rw [canGo_iff (by rw [hA]; rfl), h.op t ht, List.length_eq_zero_iff]
theorem InB.sees (h : InB B Kf Kc (psOf ts0) W0 webl wz W bb a cap rd rn rc mb mx ts d dc f ws) (hS : BS webl ts ws) {base dc0 : Nat} (ho : W0.ownsRow base 57 1 (.slice d0 ts0.length dc0) ts0.length (ts0.map TaskM.ptr)) (hK : ∀ g, d0 = some ⟨g, 0, none⟩ → Kf g) {i : Nat} (hi : i < ts0.length) :
    (SeesV d0 (tbOf ts0) i W ∧ ReadyX (actsOf webl) (envOf (runsOf ts)) ((nsOf ts0).getD i ByteArray.empty)) ∨ (SeesN d0 (tbOf ts0) i W ∧ ¬ ReadyX (actsOf webl) (envOf (runsOf ts)) ((nsOf ts0).getD i ByteArray.empty)) := by
  obtain ⟨g, e, hc⟩ := h.row ho hK hi
  obtain ⟨j, t, hj, h1, h2⟩ := h.task hi
  have ht : t ∈ ts := List.mem_of_getElem? hj
  have hT := h.bm.task t ht
  have c1 : W.cell? ⟨t.tb, 1, none⟩ = some (.bool t.r.over) := hT.rng 1 _ rfl
  have c9 : W.cell? ⟨t.tb, 9, none⟩ = some (.int .i64 (t.op : Int)) := hT.rng 9 _ rfl
  have he : envOf (runsOf ts) t.r.name = some t.r := asc_env h.bm.asc (List.mem_map_of_mem ht)
  rw [h1] at c1 c9
  rw [h2] at he
  have hcan := hS.can ht
  by_cases hg : CanGo (actsOf webl) (envOf (runsOf ts)) t.r
  · obtain ⟨g1, g2⟩ := hcan.1 hg
    rw [g1] at c1
    rw [g2] at c9
    exact .inl ⟨⟨g, e, hc, c1, c9⟩, ⟨t.r, he, hg⟩⟩
  · refine .inr ⟨⟨g, e, hc, ?_⟩, fun ⟨r, hr, hg'⟩ => ?_⟩
    · cases hov : t.r.over with
      | true => left; rw [c1, hov]
      | false =>
        right
        refine ⟨by rw [c1, hov], t.op, fun h0 => hg (hcan.2 ⟨hov, h0⟩), c9⟩
    · rw [he] at hr
      cases hr
      exact hg hg'
def ApI (B : Nat) (Kf Kc : Nat → Prop) (W0 : World) (webl : List NodeD) (wz : World) (bb : Nat) (a : Option Addr) (cap : Nat) (rd : Option Addr) (rn rc : Nat) (mb : Nat) (ts0 : List TaskM) (Gl σ0 : Env) (c : Nat) (i : Nat) (W : World) : Prop :=
  ∃ (mx : Nat) (ts : List TaskM) (d : Option Addr) (dc : Nat) (f : ByteArray → Value) (ws : ByteArray → List Nat) (b : Bool),
    InB B Kf Kc (psOf ts0) W0 webl wz W bb a cap rd rn rc mb mx ts d dc f ws ∧ BS webl ts ws ∧ PassX webl Gl σ0 (envOf (runsOf ts0)) (nsOf ts0) (envOf (runsOf ts)) i b ∧ mx + 6 * potE webl ts ≤ 9000 ∧ W.cell? ⟨c, 0, none⟩ = some (.bool b) ∧ W.frozen? ⟨c, 0, none⟩ = false
theorem ApI.calm {Gl σ0 : Env} {c i : Nat} (hc : Kc c) : Calm B (ApI B Kf Kc W0 webl wz bb a cap rd rn rc mb ts0 Gl σ0 c i) := by
  constructor
  · rintro W o hB ⟨mx, ts, d, dc, f, ws, b, h1, h2, h3, h4, h5, h6⟩
    have hlt : c < W.heap.size := h1.bm.oth.lt c (.inr hc)
    exact ⟨mx, ts, d, dc, f, ws, b, h1.kept ((Kept.refl W).alloc o), h2, h3, h4, (((Kept.refl W).alloc o).cell hlt).trans h5, (((Kept.refl W).alloc o).rules.2 c 0 hlt).trans h6⟩
  · rintro W l o o' hl ho hn ⟨mx, ts, d, dc, f, ws, b, h1, h2, h3, h4, h5, h6⟩
    have hlt := h1.lt c (.inr hc)
    exact ⟨mx, ts, d, dc, f, ws, b, h1.calm o' hl ho hn, h2, h3, h4, (put_cell o' (by omega)).trans h5, (put_frozen o' (by omega)).trans h6⟩
theorem sees_calm {tb : Nat → Nat} {i : Nat} (_hd : ∀ g, d0 = some ⟨g, 0, none⟩ → g < B) : Calm B (fun W => SeesV d0 tb i W) := by
  have cl : ∀ {W : World} {b o : Nat} {v : Value}, W.cell? ⟨b, o, none⟩ = some v → b < W.heap.size := fun {W b o v} h => by
    obtain ⟨ob, h1, _⟩ := cells_of_cell h
    exact heap_lt h1
  have cn : ∀ {W : World} {b o l : Nat} {v : Value} {ob : Obj}, W.cell? ⟨b, o, none⟩ = some v → W.heap[l]? = some ob → ob.isCells = false → b ≠ l := fun {W b o l v ob} h h1 h2 e => by
    obtain ⟨ob', h3, h4⟩ := cells_of_cell h
    simp only at h3
    rw [e, h1] at h3
    cases h3
    rw [h2] at h4
    cases h4
  constructor
  · rintro W o hB ⟨g, e, h1, h2, h3⟩
    have k := (Kept.refl W).alloc o
    exact ⟨g, e, (k.cell (cl h1)).trans h1, (k.cell (cl h2)).trans h2, (k.cell (cl h3)).trans h3⟩
  · rintro W l o o' hl ho hn ⟨g, e, h1, h2, h3⟩
    exact ⟨g, e, (put_cell o' (cn h1 ho hn)).trans h1, (put_cell o' (cn h2 ho hn)).trans h2, (put_cell o' (cn h3 ho hn)).trans h3⟩
theorem bb_calm {v : Value} {c : Nat} (hc : c < B) : Calm B (fun W => W.cell? ⟨c, 3, none⟩ = some v) := by
  constructor
  · intro W o hB h1
    obtain ⟨ob, h2, _⟩ := cells_of_cell h1
    exact (((Kept.refl W).alloc o).cell (heap_lt h2)).trans h1
  · intro W l o o' hl ho hn h1
    exact (put_cell o' (by omega)).trans h1
theorem sees_not {tb : Nat → Nat} {i : Nat} (h : SeesV d0 tb i W) (k : SeesN d0 tb i W) : False := by
  obtain ⟨g, _, _, h1, h2⟩ := h
  obtain ⟨g', _, _, k1⟩ := k
  rcases k1 with k1 | ⟨_, op, k2, k3⟩
  · rw [h1] at k1; cases k1
  · rw [h2] at k3
    simp only [Option.some.injEq, Value.int.injEq, true_and] at k3
    omega
theorem calm_false (B : Nat) : Calm B (fun _ => False) := ⟨fun _ _ _ h => h, fun _ _ _ _ _ _ _ h => h⟩
theorem BM.far {G : Ghost} (h : BM G webl wz W bb a cap rd rn rc mb mx ts d dc f ws) {k : Nat} (hk : W.heap.size ≤ k) : k ≠ bb ∧ k ≠ mb ∧ (∀ t ∈ ts, k ≠ t.tb ∧ k ∉ t.own) ∧ ∀ s, (f s).ownBlock ≠ some k := by
  have h1 := h.row.lt
  obtain ⟨N, D, _, hM, _⟩ := h.map
  obtain ⟨es, clock, hb, _⟩ := hM
  have h2 := heap_lt hb
  refine ⟨by omega, by omega, fun t ht => ⟨?_, fun hx => ?_⟩, fun s hs => ?_⟩
  · have := (h.task t ht).row.lt; omega
  · have := ((h.task t ht).own_type hx).2.2; omega
  · have := ((h.wrow s).lt k hs).2; omega
theorem BM.apart {G : Ghost} (h : BM G webl wz W bb a cap rd rn rc mb mx ts d dc f ws) {k : Nat} (hk : d = some ⟨k, 0, none⟩) : k < W.heap.size ∧ k ≠ bb ∧ k ≠ mb ∧ (∀ t ∈ ts, k ≠ t.tb ∧ k ∉ t.own) ∧ ∀ s, (f s).ownBlock ≠ some k := by
  subst hk
  have ho : (Value.slice (some ⟨k, 0, none⟩) ts.length dc).ownBlock = some k := rfl
  have ht := owns_type h.items ho
  obtain ⟨N, D, _, hM, _⟩ := h.map
  refine ⟨(h.items.lt k ho).2, type_ne ht h.row.type (by decide), map_ne hM ht, fun t hm => ⟨type_ne ht (h.task t hm).row.type (by decide), fun hx => type_ne ht ((h.task t hm).own_type hx).1 (by decide) rfl⟩, fun s hs => h.isep s k hs ho⟩
end
end Go.Proofs.YtjhemildijapmaaGreatDoor
namespace Go.Proofs.YtjhemildijapmaaGreatDoor
open Go.RowKit Go.Shelf
attribute [local go_sem] Oper.semAt_some
section
variable {webl : List NodeD} {wz w w' : World} {bb : Nat} {a : Option Addr} {cap : Nat} {rd : Option Addr} {rn rc : Nat} {mb mx : Nat} {ts : List TaskM} {d : Option Addr} {dc : Nat} {f : ByteArray → Value} {ws : ByteArray → List Nat}
def ApEnd (Kx : Nat → Prop) (webl : List NodeD) (wz w : World) (bb : Nat) (a : Option Addr) (cap : Nat) (rd : Option Addr) (rn rc : Nat) (mb : Nat) (Gl σ0 : Env) (ts0 : List TaskM) (e : Ending) (w' : World) : Prop :=
  ∃ (mx : Nat) (ts : List TaskM) (d : Option Addr) (dc : Nat) (f : ByteArray → Value) (ws : ByteArray → List Nat) (b : Bool), e = .returned (.bool b) ∧ BM (Ghost.no wz) webl wz w' bb a cap rd rn rc mb mx ts d dc f ws ∧ BS webl ts ws ∧ mx + 6 * potE webl ts ≤ 9000 ∧ (∃ k, Leads (Behind (W := actsOf webl) behindI Gl) (doX (actsOf webl)) σ0 (envOf (runsOf ts)) k) ∧ (b = false → AtEnd (Behind (W := actsOf webl) behindI Gl) (envOf (runsOf ts))) ∧ (b = true → potE webl ts < potE webl ts0) ∧ ∀ k, Kx k → w'.heap[k]? = w.heap[k]? ∧ ApartB w' bb mb ts f k
set_option maxRecDepth 100000 in
set_option maxHeartbeats 3200000 in
theorem approach_any (hB : BM (Ghost.no wz) webl wz w bb a cap rd rn rc mb mx ts d dc f ws) (hS : BS webl ts ws) (hok : ActsOk (actsOf webl)) (hft : ∀ y ∈ webl, y.Fits) (hwl : webl.length ≤ 60) (hwr : Rises webl) (hN : Nodes wz a webl) (hFi : FinishOk wz)
    (ga : Option Addr) (gc : Nat) (sl : List RunX) (hsl : sl.length ≤ 1048576) (hA : AscX sl) (hR : RunsX wz ga sl) (σ0 : Env) (hled : ∃ k, Leads (Behind (W := actsOf webl) behindI (envOf sl)) (doX (actsOf webl)) σ0 (envOf (runsOf ts)) k) (hbud : mx + 6 * potE webl ts ≤ 9000) (Kx : Nat → Prop) (hKx : ∀ k, Kx k → ApartB w bb mb ts f k) :
    Calls Tryz.prog 54 #[.pointer (some ⟨bb, 0, none⟩), .agg #[.slice ga sl.length gc, .func (.func 52) #[] #[]]] w fun e w' => ApEnd Kx webl wz w bb a cap rd rn rc mb (envOf sl) σ0 ts e w' := by
  have HB := hide hB
  have HS := hide hS
  clear hB hS
  refine (callsIn_wide (n := 9)).1 ?_
  refine callsIn_of_wp_marks Tryz.func54 rfl trivial ?_ rfl
  simp only [Tryz.ntmps54, List.size_toArray, List.length_cons, List.length_nil, Nat.reduceAdd, Nat.reduceSub, Array.replicate_succ, Array.replicate_zero, List.push_toArray, List.append_toArray, List.nil_append, List.cons_append]
  gi_wp2
  obtain ⟨W0, hW0⟩ : ∃ W0, ((w.alloc (.cells #[.pointer (some ⟨bb, 0, none⟩)] 53)).alloc (.cells #[.slice ga sl.length gc, .func (.func 52) #[] #[]] 101)).alloc (.cells #[.bool false] 4) = W0 := ⟨_, rfl⟩
  rw [hW0]
  have K0 : Kept w W0 := by rw [← hW0]; exact (((Kept.refl _).alloc _).alloc _).alloc _
  have z0 : W0.heap.size = w.heap.size + 1 + 1 + 1 := by rw [← hW0]; simp
  have q0 := (box1 (w := w) (v := .pointer (some ⟨bb, 0, none⟩)) (t := 53) (w1 := W0) (by rw [← hW0]; exact ((Kept.refl _).alloc _).alloc _)).1
  have q12 := box2 (w := w.alloc (.cells #[.pointer (some ⟨bb, 0, none⟩)] 53)) (v0 := .slice ga sl.length gc) (v1 := .func (.func 52) #[] #[]) (t := 101) (w1 := W0) (by rw [← hW0]; exact (Kept.refl _).alloc _)
  have q345 := box1 (w := (w.alloc (.cells #[.pointer (some ⟨bb, 0, none⟩)] 53)).alloc (.cells #[.slice ga sl.length gc, .func (.func 52) #[] #[]] 101)) (v := .bool false) (t := 4) (w1 := W0) (by rw [← hW0]; exact Kept.refl _)
  simp only [World.size_alloc] at q12 q345
  obtain ⟨q1, q2⟩ := q12
  obtain ⟨q3, q4, q5⟩ := q345
  have hB0 := HB.out.kept K0
  have hN6 := HB.out.len hwl
  have hzw := HB.out.kw.size
  obtain ⟨Kf, hKf⟩ : ∃ Kf : Nat → Prop, Kf = fun k => k = w.heap.size ∨ k = w.heap.size + 1 ∨ d = some ⟨k, 0, none⟩ ∨ Kx k := ⟨_, rfl⟩
  obtain ⟨Kc, hKc⟩ : ∃ Kc : Nat → Prop, Kc = fun k => k = w.heap.size + 1 + 1 := ⟨_, rfl⟩
  have kf0 : Kf w.heap.size := by rw [hKf]; exact .inl rfl
  have kf1 : Kf (w.heap.size + 1) := by rw [hKf]; exact .inr (.inl rfl)
  have kfd : ∀ g, d = some ⟨g, 0, none⟩ → Kf g := fun g e => by rw [hKf]; exact .inr (.inr (.inl e))
  have kfx : ∀ k, Kx k → Kf k := fun k e => by rw [hKf]; exact .inr (.inr (.inr e))
  have kc0 : Kc (w.heap.size + 1 + 1) := by rw [hKc]
  have kcn : ¬ Kf (w.heap.size + 1 + 1) := by
    rw [hKf]
    rintro (e | e | e | e)
    · omega
    · omega
    · have := (HB.out.apart e).1; omega
    · have := (hKx _ e).1; omega
  have HIn : Hid (InB W0.heap.size Kf Kc (psOf ts) W0 webl wz W0 bb a cap rd rn rc mb mx ts d dc f ws) := InB.start hB0 (fun k hk => by
      have far : w.heap.size ≤ k → k < W0.heap.size → k < W0.heap.size ∧ k ≠ bb ∧ k ≠ mb ∧ (∀ t ∈ ts, k ≠ t.tb ∧ k ∉ t.own) ∧ ∀ s, (f s).ownBlock ≠ some k := fun h1 h2 => ⟨h2, HB.out.far h1⟩
      rw [hKf, hKc] at hk
      rcases hk with (e | e | e | e) | e
      · exact far (by omega) (by omega)
      · exact far (by omega) (by omega)
      · exact hB0.apart e
      · have h1 := hKx k e
        exact ⟨by have := h1.1; omega, h1.2⟩
      · exact far (by omega) (by omega))
    (fun k hk => by rw [hKc] at hk; rw [hk]; exact ⟨by omega, _, q5, by decide⟩)
    (fun p hp => by obtain ⟨t, ht, rfl⟩ := List.mem_map.1 hp; exact ⟨t, ht, rfl, rfl⟩)
  have ho0 := hB0.items
  have bbz := HB.out.row.lt
  have c30 := hB0.c3
  have HB0 := hide hB0
  clear hB0
  refine loop_looks (ready_looks bb d ts.length dc (tbOf ts) (by omega)) rfl (enters_of Tryz.func25 (by kernel_rfl) rfl) (bb_calm (by omega)) c30 (fun _ => rfl)
    (ApI W0.heap.size Kf Kc W0 webl wz bb a cap rd rn rc mb ts (envOf sl) σ0 (w.heap.size + 1 + 1))
    (fun _ _ => False) (fun i => ApI.calm kc0) (fun _ => calm_false _) ⟨mx, ts, d, dc, f, ws, false, HIn.out, HS.out, PassX.start hled, hbud, q3, q4⟩
    (fun i => { tmps := #[.pointer (some ⟨bb, 0, none⟩), .agg #[.slice ga sl.length gc, .func (.func 52) #[] #[]], .pointer (some ⟨w.heap.size, 0, none⟩), .pointer (some ⟨w.heap.size + 1, 0, none⟩), .bool false, .pointer (some ⟨w.heap.size + 1 + 1, 0, none⟩), .pointer (some ⟨tbOf ts i, 0, none⟩), undef, undef, .pointer (some ⟨bb, 0, none⟩), .func (.func 25) #[.pointer (some ⟨bb, 0, none⟩)] #[], .pointer (some ⟨tbOf ts i, 0, none⟩), undef, undef, undef, undef, undef, undef, undef, undef, undef, undef, undef, undef, undef, undef, undef, undef, undef, undef, undef, undef, undef, undef, undef, undef], defers := [] })
    ?assign (fun i => sees_calm (fun g e => by have := (HB.out.apart e).1; omega)) ?step ?done ?stop
  case assign =>
    intro l i W K hK
    gi_wp2
    exact hK
  case stop =>
    intro D c W _ h _
    exact h.elim
  case done =>
    rintro D W hD ⟨mx1, ts1, d1, dc1, f1, ws1, b1, g1, g2, g3, g4, g5, g6⟩ hdef
    have HG := hide (g1.calm (.deferred none) hD hdef rfl)
    have HG2 := hide g2
    have HG3 := hide g3
    clear g1 g2 g3
    gi_wp2
    refine ⟨by simp, .inl ⟨_, _, rfl, run_takeDeferred hdef, ?_⟩⟩
    refine ⟨_, results_tmp rfl _ _ _, mx1, ts1, d1, dc1, f1, ws1, b1, rfl, HG.out.bm.no, HG2.out, g4, HG3.out.led, fun e => ?_, fun e => ?_, fun k hk => ⟨(HG.out.same k (kfx k hk)).trans (K0.block k (hKx k hk).1), HG.out.bm.oth.apart (.inl (kfx k hk))⟩⟩
    · subst e
      have h3 := HG3.out
      have hlen : ts.length = (nsOf ts).length := by simp [nsOf]
      rw [hlen] at h3
      refine h3.atEnd (fun n r hr => ?_)
      obtain ⟨h5, h6⟩ := env_mem hr
      obtain ⟨t, ht, rfl⟩ := List.mem_map.1 h5
      exact List.mem_map.2 ⟨t, ht, h6⟩
    · exact HG3.out.yes e
  case step =>
    rintro i W hi ⟨mx1, ts1, d1, dc1, f1, ws1, b1, g1, g2, g3, g4, g5, g6⟩
    rcases g1.sees g2 ho0 kfd hi with ⟨hv, hr⟩ | ⟨hn, hr⟩
    rotate_left
    · exact .inr ⟨hn, mx1, ts1, d1, dc1, f1, ws1, b1, g1, g2, g3.skip (fun h => hr h.1), g4, g5, g6⟩
    refine .inl ⟨hv, ?_⟩
    clear hr hv g6 g5 g4 g3 g2 g1 b1 ws1 f1 dc1 d1 ts1 mx1
    clear W
    rintro l W hv ⟨mx1, ts1, d1, dc1, f1, ws1, b1, g1, g2, g3, g4, g5, g6⟩ hz
    rcases g1.sees g2 ho0 kfd hi with ⟨_, hr⟩ | ⟨hn, _⟩
    rotate_left
    · exact (sees_not hv hn).elim
    obtain ⟨j, t, hj, e1, e2⟩ := g1.task hi
    have ht : t ∈ ts1 := List.mem_of_getElem? hj
    have hT := g1.bm.task t ht
    have htz := hT.row.lt
    have henv : envOf (runsOf ts1) t.r.name = some t.r := asc_env g1.bm.asc (List.mem_map_of_mem ht)
    have hcan : CanGo (actsOf webl) (envOf (runsOf ts1)) t.r := by
      obtain ⟨r, h1, h2⟩ := hr
      rw [← e2, henv] at h1
      cases h1
      exact h2
    have t0 : W.cell? ⟨t.tb, 0, none⟩ = some (.string t.r.name) := hT.rng 0 _ rfl
    have t5 : W.cell? ⟨t.tb, 5, none⟩ = some (.int .i64 t.r.visits) := hT.rng 5 _ rfl
    rw [← e1]
    have p0 : W.cell? ⟨w.heap.size, 0, none⟩ = some (.pointer (some ⟨bb, 0, none⟩)) := (World.cell?_of_block (w := W0) (g1.same _ kf0)).trans q0
    have p1 : W.cell? ⟨w.heap.size + 1, 0, none⟩ = some (.slice ga sl.length gc) := (World.cell?_of_block (w := W0) (g1.same _ kf1)).trans q1
    have p2 : W.cell? ⟨w.heap.size + 1, 1, none⟩ = some (.func (.func 52) #[] #[]) := (World.cell?_of_block (w := W0) (g1.same _ kf1)).trans q2
    have HG := hide g1
    have HG2 := hide g2
    have HG3 := hide g3
    have HJ := hide hj
    have HCan := hide hcan
    have HEnv := hide henv
    have HE2 := hide e2
    have hRW := hR.kept g1.bm.kw
    clear g1 g2 g3 hj hcan henv e2 hT ht hr hv q0 q1 q2 q3 q4 q5 ho0 HIn HB HS HB0 c30 hW0 e1
    have hd : 1 ≤ 7 := by omega
    have hmx : Tryz.prog.follows .mixedOrders = true := by kernel_rfl
    gi_wp2
    rename_i Q1 K1 hK1
    have hrest : ∀ (w2 : World) (p : Nat) (fd : Bool), Kept W w2 → p ≤ sl.length → (if fd then p < sl.length ∧ envOf sl t.r.name = some (sl.getD p RunX.zero) else envOf sl t.r.name = none) → K1 { tmps := #[.pointer (some ⟨bb, 0, none⟩), .agg #[.slice ga sl.length gc, .func (.func 52) #[] #[]], .pointer (some ⟨w.heap.size, 0, none⟩), .pointer (some ⟨w.heap.size + 1, 0, none⟩), .bool false, .pointer (some ⟨w.heap.size + 1 + 1, 0, none⟩), .pointer (some ⟨t.tb, 0, none⟩), .int .i64 (p : Int), .bool fd, .pointer (some ⟨bb, 0, none⟩), .func (.func 25) #[.pointer (some ⟨bb, 0, none⟩)] #[], .pointer (some ⟨t.tb, 0, none⟩), .tuple #[.int .i64 (p : Int), .bool fd], .agg #[.slice ga sl.length gc, .func (.func 52) #[] #[]], .pointer (some ⟨t.tb, 0, none⟩), .pointer (some ⟨t.tb, 0, none⟩), .pointer (some ⟨t.tb, 0, none⟩), .pointer (some ⟨t.tb, 0, none⟩), .string t.r.name, .tuple #[.int .i64 (p : Int), .bool fd], .int .i64 (p : Int), .bool fd, undef, undef, undef, undef, undef, undef, undef, undef, undef, undef, undef, undef, undef, undef], defers := [] } w2 := by
      intro w2 p fd k2 hp hfd
      apply hK1
      have y1 : w.heap.size < W.heap.size := by omega
      have y2 : w.heap.size + 1 < W.heap.size := by omega
      have y3 : w.heap.size + 1 + 1 < W.heap.size := by omega
      have r0 := (k2.cell (o := 0) y1).trans p0
      have r1 := (k2.cell (o := 0) y2).trans p1
      have r2 := (k2.cell (o := 1) y2).trans p2
      have r5 := (k2.cell (o := 5) htz).trans t5
      have s2 := k2.size
      have htz2 : t.tb < w2.heap.size := by omega
      have HK2 := hide k2
      have HP := hide hp
      have Hg5 := hide g5
      have Hg6 := hide g6
      have Hz := hide z0
      clear p0 p1 p2 t0 t5 k2 hp g5 g6 hK1 z0
      cases fd with
      | false =>
        have HFd := hide hfd
        clear hfd
        gi_wp2
        refine ⟨trivial, ?_⟩
        gi_wp2
        refine ⟨keeps_of_kept HK2.out _, mx1, ts1, d1, dc1, f1, ws1, b1, HG.out.kept HK2.out, HG2.out, HG3.out.skip (fun h => ?_), g4, (HK2.out.cell y3).trans Hg5.out, (HK2.out.rules.2 _ _ y3).trans Hg6.out⟩
        obtain ⟨_, r, g, _, h2, _⟩ := h
        rw [← HE2.out] at h2
        have h3 := HFd.out
        simp only [Bool.false_eq_true, if_false] at h3
        rw [h3] at h2
        cases h2
      | true =>
        simp only [if_true] at hfd
        obtain ⟨hpl, hpe⟩ := hfd
        obtain ⟨b, o, xa, xc, ega, hbz, hc, hxs, _⟩ := (hRW.kept HK2.out) p hpl
        subst ega
        generalize sl.getD p RunX.zero = x at *
        have HPe := hide hpe
        have c0 := hc 0 _ rfl
        have c1 := hc 1 _ rfl
        have c2 := hc 2 _ rfl
        have c3 := hc 3 _ rfl
        have c4 := hc 4 _ rfl
        have c5 := hc 5 _ rfl
        have c6 := hc 6 _ rfl
        simp only [Nat.add_zero] at c0
        clear hc hpe
        gi_wp2_with fail
        refine ⟨trivial, (CallsIn.inRound l (callsIn_wide.2 (behind_any w2 t.tb t.r x xa xc htz2 r5))).mono ?_⟩
        rintro e w3 ⟨hsay, k3⟩
        have HK3 := hide (HK2.out.trans k3)
        have v0 := (k3.cell (o := 0) (by omega)).trans r0
        clear c0 c1 c2 c3 c4 c5 c6 r0 r1 r2 r5
        rcases hsay.cases with ⟨rfl, hbe⟩ | ⟨rfl, hbe⟩
        · have HBe : Hid (Behind (W := actsOf webl) behindI (envOf sl) (envOf (runsOf ts1)) t.r.name) := ⟨⟨t.r, HEnv.out, HCan.out⟩, t.r, x, HEnv.out, HPe.out, hbe⟩
          clear hbe hsay
          gi_wp2_with fail
          refine ⟨trivial, (CallsIn.inRound l (callsIn_wide.2 (benchDo_any (HG.out.kept HK3.out).told HG2.out HJ.out HCan.out hok hft hwl hwr hN (by omega) hFi))).mono ?_⟩
          rintro e w4 ⟨rfl, ts2, d2, dc2, f2, ws2, hB2, hS2, hE2⟩
          obtain ⟨hIn2, hkf, hkc⟩ := (HG.out.kept HK3.out).did hB2
          have hw := HG2.out.good.wf
          have hpot := (potAll_do hw HBe.out.1 (webl.map (·.name))).2 (acts_in (hw _ _ HEnv.out).web)
          have hbud2 : mx1 + 6 + 6 * potE webl ts2 ≤ 9000 := by
            unfold potE at g4 ⊢
            rw [hE2]
            omega
          have hP2 := HG3.out.did hw HBe.out
          rw [← hE2] at hP2
          have u0 : w4.cell? ⟨w.heap.size + 1 + 1, 0, none⟩ = some (.bool b1) := (World.cell?_of_block (w := w3) (hkc _ kc0)).trans ((HK3.out.cell y3).trans Hg5.out)
          have u1 : w4.frozen? ⟨w.heap.size + 1 + 1, 0, none⟩ = false := (World.frozen?_of_block (w := w3) (hkc _ kc0)).trans ((HK3.out.rules.2 _ _ y3).trans Hg6.out)
          have HIn2 := hide hIn2
          have HS2 := hide hS2
          have HP2 := hide hP2
          have HKF := hide hkf
          have HKc := hide hkc
          clear hB2 hE2 hIn2 hS2 hP2 hkf hkc hpot v0 k3
          gi_wp2
          refine ⟨((keeps_of_kept HK3.out _).trans HKF.out).trans ((KeepsOthers.setCell _ _ _).from _), mx1 + 6, ts2, d2, dc2, f2, ws2, true, HIn2.out.store (p := ⟨w.heap.size + 1 + 1, 0, none⟩) kc0 kcn _, HS2.out, HP2.out, hbud2, World.cell?_setCell_same _ _ _ u0, ?_⟩
          rw [World.frozen?_setCell]
          exact u1
        · have HBe := hide hbe
          clear hbe hsay k3
          gi_wp2
          refine ⟨keeps_of_kept HK3.out _, mx1, ts1, d1, dc1, f1, ws1, b1, HG.out.kept HK3.out, HG2.out, HG3.out.skip (fun h => ?_), g4, (HK3.out.cell y3).trans Hg5.out, (HK3.out.rules.2 _ _ y3).trans Hg6.out⟩
          obtain ⟨_, r, g, h1, h2, h3⟩ := h
          rw [← HE2.out] at h1 h2
          rw [HEnv.out] at h1
          rw [HPe.out] at h2
          cases h1
          cases h2
          exact HBe.out h3
    have HRest := hide hrest
    clear hrest
    gi_region_with_o (refine ⟨trivial, ?_⟩; gi_at_call 90; refine (CallsIn.inRound l (callsIn_wide.2 (findX_any _ ga gc sl t.r.name hsl hA (hRW.kept (Kept.refl W).drew)))).mono ?_; rintro e w2 ⟨⟨p, fd, rfl, hp, hfd⟩, k2⟩; have HP := hide hp; have HFd := hide hfd; clear hp hfd)
    all_goals exact HRest.out _ p fd ((Kept.refl W).drew.trans k2) HP.out HFd.out
end
end Go.Proofs.YtjhemildijapmaaGreatDoor
namespace Go.Proofs.YtjhemildijapmaaGreatDoor
open Go.RowKit
section
variable {G : Ghost} {webl : List NodeD} {wz w w' : World} {bb : Nat} {a : Option Addr} {cap : Nat} {rd : Option Addr} {rn rc : Nat} {mb mx : Nat} {ts : List TaskM} {d : Option Addr} {dc : Nat} {f : ByteArray → Value} {ws : ByteArray → List Nat}
theorem BM.item (h : BM G webl wz w bb a cap rd rn rc mb mx ts d dc f ws) {i : Nat} (hi : i < ts.length) : ∃ g, d = some ⟨g, 0, none⟩ ∧ w.cell? ⟨g, i, none⟩ = some (.pointer (some ⟨(ts[i]).tb, 0, none⟩)) := by
  have ho := h.items
  rcases ho.2 with ⟨e, _⟩ | ⟨g, cp, cur, e, _⟩
  · exfalso
    simp only [Value.slice.injEq] at e
    omega
  · simp only [Value.slice.injEq] at e
    obtain ⟨rfl, _, rfl⟩ := e
    refine ⟨g, rfl, ?_⟩
    have hc := ho.cells (g := g) rfl i (ts[i]).ptr (by simp [hi])
    have e2 : ((⟨g, 0, none⟩ : Addr).add i) = ⟨g, i, none⟩ := by simp [Addr.add]; omega
    rw [e2] at hc
    exact hc
theorem BM.sees (h : BM G webl wz w bb a cap rd rn rc mb mx ts d dc f ws) (hS : BS webl ts ws) {i : Nat} (hi : i < ts.length) : (SeesV d (tbOf ts) i w ∧ CanGo (actsOf webl) (envOf (runsOf ts)) (ts[i]).r) ∨ (SeesN d (tbOf ts) i w ∧ ¬ CanGo (actsOf webl) (envOf (runsOf ts)) (ts[i]).r) := by
  obtain ⟨g, e, hc⟩ := h.item hi
  have htb : tbOf ts i = (ts[i]).tb := by simp [tbOf, List.getD, hi]
  have hT := h.task ts[i] (List.getElem_mem hi)
  have c1 : w.cell? ⟨(ts[i]).tb, 1, none⟩ = some (.bool (ts[i]).r.over) := hT.rng 1 _ rfl
  have c9 : w.cell? ⟨(ts[i]).tb, 9, none⟩ = some (.int .i64 ((ts[i]).op : Int)) := hT.rng 9 _ rfl
  have hcan := hS.can (List.getElem_mem hi)
  rw [← htb] at hc c1 c9
  by_cases hg : CanGo (actsOf webl) (envOf (runsOf ts)) (ts[i]).r
  · obtain ⟨g1, g2⟩ := hcan.1 hg
    rw [g1] at c1
    rw [g2] at c9
    exact .inl ⟨⟨g, e, hc, c1, c9⟩, hg⟩
  · refine .inr ⟨⟨g, e, hc, ?_⟩, hg⟩
    cases hov : (ts[i]).r.over with
    | true => left; rw [c1, hov]
    | false =>
      right
      exact ⟨by rw [c1, hov], (ts[i]).op, fun h0 => hg (hcan.2 ⟨hov, h0⟩), c9⟩
theorem runs_ext {l l' : List RunX} (hl : l.length = l'.length) (h : ∀ j, j < l.length → l.getD j RunX.zero = l'.getD j RunX.zero) : l = l' := by
  refine List.ext_getElem hl fun i h1 h2 => ?_
  have := h i h1
  simpa [List.getD, h1, h2] using this
set_option maxRecDepth 100000 in
set_option maxHeartbeats 3200000 in
theorem equalTasks_any (hB : BM G webl wz w bb a cap rd rn rc mb mx ts d dc f ws) (htl : ts.length ≤ 1048576) (hts : ∀ t ∈ ts, t.r.texts.length ≤ 1048576) (ga : Option Addr) (gc : Nat) (sl : List RunX) (_hsl : sl.length ≤ 1048576) (hst : ∀ r ∈ sl, r.texts.length ≤ 1048576) (hR : RunsX w ga sl) :
    Calls Tryz.prog 55 #[.slice d ts.length dc, .slice ga sl.length gc, .func (.func 56) #[] #[]] w fun e w' => Says e (runsOf ts = sl) ∧ Kept w w' := by
  have HB := hide hB
  clear hB
  have hrl : (runsOf ts).length = ts.length := by simp [runsOf]
  have HRl := hide hrl
  clear hrl
  go_enter Tryz.func55, Tryz.ntmps55
  by_cases hlen : ts.length = sl.length
  · have hlb : ((ts.length : Int) != (sl.length : Int)) = false := by simp [hlen]
    have HLen := hide hlen
    clear hlen
    go_wp2
    go_loopw [17] (fun i wr => ∃ k : Nat, k ≤ ts.length ∧ i = .int .i64 k ∧ Hid (∀ j, j < k → (runsOf ts).getD j RunX.zero = sl.getD j RunX.zero) ∧ Kept w wr) (fun i _ => ts.length - (intOf i).toNat)
    case atStart => exact ⟨0, Nat.zero_le _, rfl, hide fun j hj => absurd hj (Nat.not_lt_zero _), Kept.refl _⟩
    case round =>
      obtain ⟨k, hk, rfl, HG, KW⟩ := hrel
      by_cases hlt : k < ts.length
      · obtain ⟨g, hdg, hcell⟩ := (HB.out.kept KW).item hlt
        obtain ⟨b, o, xa, xc, hga, hb, hc, hxs, _⟩ := hR.kept KW k (by have := HLen.out; omega)
        subst hdg
        subst hga
        have i0 : (k : Int) < (ts.length : Int) := by omega
        have i1 : (k : Int) < (sl.length : Int) := by have := HLen.out; omega
        have hT := (HB.out.kept KW).task ts[k] (List.getElem_mem hlt)
        have hgr : (runsOf ts).getD k RunX.zero = (ts[k]).r := by simp [runsOf, List.getD, hlt]
        have hls := hst (sl.getD k RunX.zero) (getD_mem (by have := HLen.out; omega))
        have hlt2 := hts ts[k] (List.getElem_mem hlt)
        obtain ⟨x, hx⟩ : ∃ x, x = sl.getD k RunX.zero := ⟨_, rfl⟩
        obtain ⟨t, ht⟩ : ∃ t, t = ts[k] := ⟨_, rfl⟩
        rw [← hx] at hc hls hxs
        rw [← ht] at hT hcell hgr hlt2
        have HX := hide hx
        have HGr := hide hgr
        obtain ⟨ta, tc, htv⟩ := own_slice hT.txt
        obtain ⟨ta', tc', htv', hts'⟩ := owned_strs hT.txt
        have htv2 : ta' = ta := by rw [htv] at htv'; simp only [Value.slice.injEq] at htv'; exact htv'.1.symm
        rw [htv2] at hts'
        have hrg : wr.rangeAt t.tb 0 (t.r.cells ta tc) := fun j v hv => hT.rng j v (by
          have e0 : t.cells = t.r.cells ta tc ++ [.int .i64 t.cost, .slice t.sa t.steps.length t.sc, .int .i64 (t.op : Int), t.qv, .string t.bl] := by
            unfold TaskM.cells RunX.cells
            rw [htv]
            rfl
          rw [e0]
          have hjl : j < (t.r.cells ta tc).length := (List.getElem?_eq_some_iff.1 hv).1
          rw [List.getElem?_append_left hjl]
          exact hv)
        have htz := hT.row.lt
        have HRg := hide hrg
        have HTs := hide hts'
        have HXs := hide hxs
        clear hx ht hgr htv htv' htv2 hT hts' hxs hrg
        have c0 := hc 0 _ rfl
        have c1 := hc 1 _ rfl
        have c2 := hc 2 _ rfl
        have c3 := hc 3 _ rfl
        have c4 := hc 4 _ rfl
        have c5 := hc 5 _ rfl
        have c6 := hc 6 _ rfl
        simp only [Nat.add_zero] at c0
        clear hc
        go_wp2_with fail
        refine (sameRunB_any _ t.tb t.r x ta xa tc xc (by simp <;> omega) (Kept.range ((Kept.refl wr).alloc _) htz HRg.out) hlt2 hls (HTs.out.kept ((Kept.refl wr).alloc _)) (HXs.out.kept ((Kept.refl wr).alloc _))).mono ?_
        rintro e w1 ⟨hsay, k1⟩
        have K1 : Kept w w1 := KW.trans (Kept.trans ((Kept.refl wr).alloc _) k1)
        clear k1 c0 c1 c2 c3 c4 c5 c6
        rcases hsay.cases with ⟨rfl, hs⟩ | ⟨rfl, hs⟩
        · have HSm := hide hs
          clear hs hsay
          go_wp2_with fail
          go_roundw
          case rel =>
            refine ⟨k + 1, by omega, by go_num, hide fun j hj => ?_, K1⟩
            by_cases e : j = k
            · rw [e, HGr.out, ← HX.out]; exact HSm.out
            · exact HG.out j (by omega)
          case measure => simp [intOf]; omega
        · have HSm := hide hs
          clear hs hsay
          go_wp2_with fail
          go_ret
          refine ⟨Says.no fun e => HSm.out ?_, K1⟩
          rw [← HGr.out, HX.out, e]
      · go_wp2_with fail
        go_ret
        exact ⟨Says.yes (runs_ext (by rw [HRl.out]; exact HLen.out) fun j hj => HG.out j (by have := HRl.out; omega)), KW⟩
  · have hlb : ((ts.length : Int) != (sl.length : Int)) = true := by simp; omega
    have HN := hide hlen
    clear hlen
    go_wp2
    go_ret
    exact ⟨Says.no fun e => HN.out (by rw [← HRl.out, e]), Kept.refl _⟩
end
end Go.Proofs.YtjhemildijapmaaGreatDoor
namespace Go.Proofs.YtjhemildijapmaaGreatDoor
open Go.RowKit
theorem potAll_le : ∀ (l : List ByteArray) (σ : Env), potAll l σ ≤ 23 * l.length
  | [], _ => Nat.le_refl _
  | n :: l, σ => by
    have h1 := potAll_le l σ
    have h2 : potOf (σ n) ≤ 23 := by
      unfold potOf
      split
      · exact Nat.le_refl _
      · split <;> omega
    have e : potAll (n :: l) σ = potOf (σ n) + potAll l σ := by simp [potAll]
    rw [e, List.length_cons]
    omega
theorem says_bool {e : Ending} {P : Prop} (h : Says e P) : ∃ b : Bool, e = .returned (.bool b) ∧ (b = true ↔ P) := by
  rcases h.cases with ⟨rfl, hp⟩ | ⟨rfl, hp⟩
  · exact ⟨true, rfl, by simp [hp]⟩
  · exact ⟨false, rfl, by simp [hp]⟩
theorem FinishOk.kept {w wz : World} (h : FinishOk w) (k : Kept w wz) : FinishOk wz := fun W give a cap l kW h1 h2 h3 h4 => h W give a cap l (k.trans kW) h1 h2 h3 h4
def ResB (webl : List NodeD) (roots : List ByteArray) (sl : List RunX) (a : Option Addr) (cap : Nat) (rd : Option Addr) (rc : Nat) (w w' : World) (e : Ending) : Prop :=
  Kept w w' ∧ ((¬ (WebCode webl 0 ∧ RootsOk roots ∧ AscX sl) ∧ e = .returned (.tuple #[.pointer none, .bool false])) ∨
    (WebCode webl 0 ∧ RootsOk roots ∧ AscX sl ∧ ∃ (wz : World) (bb mb mx : Nat) (ts : List TaskM) (d : Option Addr) (dc : Nat) (f : ByteArray → Value) (ws : ByteArray → List Nat) (b : Bool), e = .returned (.tuple #[.pointer (some ⟨bb, 0, none⟩), .bool b]) ∧ Kept w wz ∧ BM (Ghost.no wz) webl wz w' bb a cap rd roots.length rc mb mx ts d dc f ws ∧ BS webl ts ws ∧ mx ≤ 9000 ∧ (b = true ↔ runsOf ts = sl) ∧
      (∃ k, Leads (Behind (W := actsOf webl) behindI (envOf sl)) (doX (actsOf webl)) (envOf (startL webl roots)) (envOf (runsOf ts)) k) ∧ AtEnd (Behind (W := actsOf webl) behindI (envOf sl)) (envOf (runsOf ts))))
set_option maxRecDepth 100000 in
set_option maxHeartbeats 6400000 in
theorem resume_any (w : World) (a : Option Addr) (cap : Nat) (webl : List NodeD) (rd : Option Addr) (rc : Nat) (roots : List ByteArray) (ga : Option Addr) (gc : Nat) (sl : List RunX) (hl : webl.length ≤ 1048576) (hf : ∀ s ∈ webl, s.Fits) (hrl : roots.length ≤ maxLen) (hrc : roots.length ≤ rc) (hrs : ∀ s ∈ roots, s.size ≤ maxLen) (hsl : sl.length ≤ 1048576) (hst : ∀ r ∈ sl, r.texts.length ≤ 1048576) (hS : Nodes w a webl) (hR : Strs w rd roots) (hG : RunsX w ga sl) (hFi : FinishOk w) :
    Calls Tryz.prog 24 #[.agg #[.slice a webl.length cap], .agg #[.slice rd roots.length rc, .slice ga sl.length gc]] w fun e w' => ResB webl roots sl a cap rd rc w w' e := by
  go_enter Tryz.func24, Tryz.ntmps24
  go_wp2_with fail
  have k0 : Kept w ((w.alloc (.cells #[.slice a webl.length cap] 37)).alloc (.cells #[.slice rd roots.length rc, .slice ga sl.length gc] 33)) := ((Kept.refl _).alloc _).alloc _
  refine (beginB_any _ a cap webl rd rc roots hl hf hrl hrc hrs (hS.kept k0) (hR.kept k0)).mono ?_
  rintro e w1 ⟨k1, hcase⟩
  have K1 := k0.trans k1
  have hz1 := k1.size
  simp only [World.size_alloc] at hz1
  have q1 := box2 (w := w.alloc (.cells #[.slice a webl.length cap] 37)) k1
  simp only [World.size_alloc] at q1
  obtain ⟨p0, p1⟩ := q1
  have hw1 : w.heap.size + 1 < w1.heap.size := by omega
  rcases hcase with ⟨hno, rfl⟩ | ⟨hW, hRo, wz, bb, mb, ts, d, dc, rfl, kz, hB, hBS, henv⟩
  · have HNo := hide hno
    clear hno
    go_wp2_with fail
    go_ret2
    exact ⟨K1.alloc _, .inl ⟨fun h => HNo.out ⟨h.1, h.2.1⟩, rfl⟩⟩
  have HW := hide hW
  have HRo := hide hRo
  have HB := hide hB
  have HBS := hide hBS
  have HEnv := hide henv
  have Kz := k0.trans kz
  have q3 := box2 (w := w.alloc (.cells #[.slice a webl.length cap] 37)) kz
  simp only [World.size_alloc] at q3
  have sz := q3.2
  have hsz : w.heap.size + 1 < wz.heap.size := by have := kz.size; simp only [World.size_alloc] at this; omega
  clear q3
  have hbz := hB.row.lt
  clear hW hRo hB hBS henv k0 k1 kz
  go_wp2_with fail
  refine (ascendR_any _ ga gc sl hsl (hG.kept (K1.alloc _))).mono ?_
  rintro e w2 ⟨hsay, k2⟩
  have K2 : Kept w w2 := (K1.alloc _).trans k2
  have k12 : Kept w1 w2 := Kept.trans ((Kept.refl _).alloc _) k2
  have hz2 := k2.size
  simp only [World.size_alloc] at hz2
  have q2 := box2 (w := w1) k2
  obtain ⟨g0, g1⟩ := q2
  rcases hsay.cases with ⟨rfl, hA⟩ | ⟨rfl, hA⟩
  rotate_left
  · have HNo := hide hA
    clear hA hsay
    go_wp2_with fail
    go_ret2
    exact ⟨K2, .inl ⟨fun h => HNo.out h.2.2, rfl⟩⟩
  have p1' := (k12.cell (o := 1) hw1).trans p1
  have hwl6 := web_len HW.out
  have hpot : potE webl ts ≤ 1380 := by
    have := potAll_le (webl.map (·.name)) (envOf (runsOf ts))
    rw [List.length_map] at this
    unfold potE
    omega
  have HA := hide hA
  have HB2 := hide (HB.out.kept k12)
  have HAp : Hid (ApartB w2 bb mb ts (fun _ => .slice none 0 0) w1.heap.size) := ⟨by omega, HB.out.far (Nat.le_refl _)⟩
  clear hA hsay HB p0 p1 k2
  obtain ⟨cb, hcb⟩ : ∃ cb, cb = w1.heap.size := ⟨_, rfl⟩
  rw [← hcb] at g0 g1 hz2 HAp
  have hcz : cb < w2.heap.size := by omega
  go_wp2_with fail
  rw [← hcb]
  have HCb := hide hcb
  clear hcb
  go_loopg [28] (potE webl ts) (fun gg x28 wr => ∃ (mx : Nat) (ts2 : List TaskM) (d2 : Option Addr) (dc2 : Nat) (f2 : ByteArray → Value) (ws2 : ByteArray → List Nat), wr.cell? ⟨cb, 0, none⟩ = some (.slice ga sl.length gc) ∧ wr.cell? ⟨cb, 1, none⟩ = some (.func (.func 52) #[] #[]) ∧ Hid (ApartB wr bb mb ts2 f2 cb) ∧ Hid (BM (Ghost.no wz) webl wz wr bb a cap rd roots.length rc mb mx ts2 d2 dc2 f2 ws2) ∧ Hid (BS webl ts2 ws2) ∧ mx + 6 * potE webl ts2 ≤ 9000 ∧ gg = potE webl ts2 ∧ Hid (∃ k, Leads (Behind (W := actsOf webl) behindI (envOf sl)) (doX (actsOf webl)) (envOf (startL webl roots)) (envOf (runsOf ts2)) k))
  case atStart => exact ⟨0, ts, d, dc, _, _, g0, g1, HAp, HB2, HBS, by omega, rfl, hide ⟨0, by rw [HEnv.out]; exact .here _⟩⟩
  case round =>
    obtain ⟨mx, ts2, d2, dc2, f2, ws2, v0, v1, HAr, HBr, HBSr, hbud, rfl, HLed⟩ := hrel
    obtain ⟨wO, rfl⟩ : ∃ wO, wO = wr := ⟨_, rfl⟩
    go_wp2_with fail
    refine (approach_any HBr.out HBSr.out (web_acts HW.out) hf hwl6 (rises_code HW.out) (hS.kept Kz) (hFi.kept Kz) ga gc sl hsl HA.out (hG.kept Kz) (envOf (startL webl roots)) HLed.out hbud (fun k => k = cb) (fun k hk => by rw [hk]; exact HAr.out)).mono ?_
    rintro e w3 ⟨mx3, ts3, d3, dc3, f3, ws3, b3, rfl, hB3, hBS3, hbud3, hled3, hend3, hpot3, hap3⟩
    obtain ⟨hsame3, hap3⟩ := hap3 cb rfl
    have u0 := (World.cell?_of_block (w := wO) (a := ⟨cb, 0, none⟩) hsame3).trans v0
    have u1 := (World.cell?_of_block (w := wO) (a := ⟨cb, 1, none⟩) hsame3).trans v1
    have K3 : Kept w w3 := Kz.trans hB3.kw
    have HB3 := hide hB3
    have HBS3 := hide hBS3
    have HLed3 := hide hled3
    have HEnd3 := hide hend3
    have HAp3 := hide hap3
    have c3 := hB3.c3
    have bz3 := hB3.row.lt
    have kz3 := hB3.kw.size
    have s3 := (hB3.kw.cell (o := 1) hsz).trans sz
    have hs3 : w.heap.size + 1 < w3.heap.size := by omega
    clear hB3 hBS3 hled3 hend3 hap3 hsame3
    cases b3
    rotate_left
    · have hlt := hpot3 rfl
      clear hpot3
      go_wp2_with fail
      go_roundg (potE webl ts3)
      case measure => exact hlt
      case rel => exact ⟨mx3, ts3, d3, dc3, f3, ws3, u0, u1, HAp3, HB3, HBS3, hbud3, rfl, HLed3⟩
    · clear hpot3
      have hN6 := HB3.out.len hwl6
      go_upto_region 6 with fail
      have hSof : ∀ w', Kept w3 w' → (fun w' => w'.cell? ⟨bb, 3, none⟩ = some (.slice d3 ts3.length dc3) ∧ w'.cell? ⟨w.heap.size + 1, 1, none⟩ = some (.slice ga sl.length gc)) w' := fun w' kk => ⟨(kk.cell bz3).trans c3, (kk.cell hs3).trans s3⟩
      have HSO := hide hSof
      clear hSof
      refine UpTo.region (by kernel_rfl) (fun w' => w'.cell? ⟨bb, 3, none⟩ = some (.slice d3 ts3.length dc3) ∧ w'.cell? ⟨w.heap.size + 1, 1, none⟩ = some (.slice ga sl.length gc)) 10 (HSO.out _ ((Kept.refl w3).drew)) (fun hHeld => ?_)
      have KD : Kept w3 w3.drew := (Kept.refl w3).drew
      generalize hwd : w3.drew = wd at hHeld KD ⊢
      clear hwd
      refine UpTo.tk 0 hHeld ?_
      refine UpTo.tk 1 hHeld ?_
      refine UpTo.tk 2 hHeld ?_
      refine UpTo.tk 3 hHeld ?_
      refine UpTo.tk 4 hHeld ?_
      refine UpTo.tk 5 hHeld ?_
      refine UpTo.tk 6 hHeld ?_
      refine UpTo.tk 7 hHeld ?_
      refine UpTo.nx 8 (fun K hK => ?_)
      rw [if_pos (by rfl)]
      go_simp
      go_at_call 55
      refine (equalTasks_any (HB3.out.kept KD) (by omega) (fun t ht => by have h1 := (HBS3.out.good.good t.r (List.mem_map_of_mem ht)).tl; have h2 := (HBS3.out.good.good t.r (List.mem_map_of_mem ht)).hi; omega) ga gc sl hsl hst ((hG.kept K3).kept KD)).mono ?_
      rintro e w4 ⟨hsay, k4⟩
      obtain ⟨b4, rfl, hs4⟩ := says_bool hsay
      have HSay := hide hs4
      clear hsay hs4
      refine hK.out _ _ (fun _ => HSO.out _ (KD.trans k4)) ?_
      clear hK K
      try simp only [Act.put, upA, upB, upC]
      refine UpTo.nx 9 (fun K hK => ?_)
      go_simp
      refine hK.out _ _ (fun _ => HSO.out _ (KD.trans k4)) ?_
      clear hK K
      try simp only [Act.put, upA, upB, upC]
      refine UpTo.nx 10 (fun K hK => ?_)
      go_simp
      refine hK.out _ _ (fun h => absurd rfl h) ?_
      clear hK K
      try simp only [Act.put, upA, upB, upC]
      refine UpTo.dn ?_
      go_wp2_with fail
      go_ret2
      refine ⟨(K3.trans KD).trans k4, .inr ⟨HW.out, HRo.out, HA.out, wz, bb, mb, mx3, ts3, d3, dc3, f3, ws3, b4, rfl, Kz, HB3.out.kept (KD.trans k4), HBS3.out, by omega, HSay.out, HLed3.out, HEnd3.out (by trivial)⟩⟩
theorem GoalX.good {webl : List NodeD} {roots : List ByteArray} {sl : List RunX} (h : GoalX webl roots sl) : GoodL webl sl := by
  obtain ⟨k, L, hg, _, _, rfl⟩ := h
  exact hg
theorem res_valid {webl : List NodeD} {roots : List ByteArray} {sl : List RunX} {ts : List TaskM} {ws : ByteArray → List Nat} (hW : WebCode webl 0) (hRo : RootsOk roots) (hBS : BS webl ts ws) (hled : ∃ k, Leads (Behind (W := actsOf webl) behindI (envOf sl)) (doX (actsOf webl)) (envOf (startL webl roots)) (envOf (runsOf ts)) k) (hend : AtEnd (Behind (W := actsOf webl) behindI (envOf sl)) (envOf (runsOf ts))) : runsOf ts = sl ↔ ValidX webl roots sl := by
  have hw0 := (startL_good (web_acts hW) roots).wf
  obtain ⟨k, hl⟩ := hled
  constructor
  · intro e
    refine ⟨hW, hRo, by rw [← e]; exact hBS.good.len, k, sl, by rw [← e]; exact hBS.good, ?_, ?_, rfl⟩
    · have h1 := led_S_of_I (W := actsOf webl) (τ := envOf (runsOf ts)) (G := envOf sl) (by rw [e]) hw0 hl
      rw [e] at h1
      exact h1
    · rw [e] at hend
      exact fun n hn => hend n ⟨hn.1, by obtain ⟨r, g, h1, h2, h3⟩ := hn.2; exact ⟨r, g, h1, h2, behindS_I h3⟩⟩
  · rintro ⟨_, _, _, j, L, hg, hj, he, rfl⟩
    exact asc_eq hBS.good.asc hg.asc ((goal_both hw0 hj he hl hend).2 rfl)
theorem small_runs {roots : List ByteArray} {l : List RunX} {n : Nat} (h : szStateD roots l ≤ n) : roots.length ≤ n ∧ l.length ≤ n ∧ ∀ r ∈ l, r.texts.length ≤ n := by
  unfold szStateD szRunsD szStrs at h
  refine ⟨by omega, by omega, fun r hr => ?_⟩
  have h1 := le_sum szRunD hr
  have h2 : szRunD r = r.name.size + r.text.size + (r.texts.length + (r.texts.map (·.size)).sum) := rfl
  omega
end Go.Proofs.YtjhemildijapmaaGreatDoor
