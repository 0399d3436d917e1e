import Derived.Test.YtghipdfemoofhaaGreatDoorKBReady
import Derived.Test.YtghipdfemoofhaaGreatDoorKBIn
import Derived.Test.YtghipdfemoofhaaGreatDoorKRTo
import Derived.Test.YtghipdfemoofhaaGreatDoorKBAscR
import Derived.Test.YtghipdfemoofhaaGreatDoorKBSame
import Derived.Test.YtghipdfemoofhaaGreatDoorKXValid0
import Derived.Test.YtghipdfemoofhaaGreatDoorKXSame3
import Derived.Test.YtghipdfemoofhaaGreatDoorKXValid
import Derived.Test.YtghipdfemoofhaaGreatDoorKWCheck5
import Derived.Test.YtghipdfemoofhaaGreatDoorKOOrder
namespace Go.Proofs.YtghipdfemoofhaaGreatDoor
open Go.RowKit
def ApartB (w : World) (bb mb : Nat) (ts : List TaskM) (f : ByteArray → Value) (k : Nat) : Prop := k < w.heap.size ∧ k ≠ bb ∧ k ≠ mb ∧ (∀ t ∈ ts, k ≠ t.tb ∧ k ∉ t.own) ∧ ∀ s, (f s).ownBlock ≠ some k
theorem Fen.apart {G : Ghost} {w : World} {bb mb : Nat} {ts : List TaskM} {f : ByteArray → Value} (h : Fen G w bb mb ts f) {k : Nat} (hk : G.K k) : ApartB w bb mb ts f k :=
  ⟨Nat.lt_of_lt_of_le (h.lt k hk) h.size, fun e => h.nb (by rw [← e]; exact hk), fun e => h.nm (by rw [← e]; exact hk), fun t ht => ⟨fun e => (h.nt t ht).1 (by rw [← e]; exact hk), fun hx => (h.nt t ht).2 k hx hk⟩, fun s hs => h.nf s k hs hk⟩
theorem box1 {w w1 : World} {v : Value} {t : TypeId} (k : Kept (w.alloc (.cells #[v] t)) w1) : w1.cell? ⟨w.heap.size, 0, none⟩ = some v ∧ w1.frozen? ⟨w.heap.size, 0, none⟩ = false ∧ TypeAt w1 w.heap.size t := by
  have hlt : w.heap.size < (w.alloc (.cells #[v] t)).heap.size := by simp
  exact ⟨(k.cell hlt).trans (by simp), (k.rules.2 _ _ hlt).trans (by simp), #[v], _, (k.block _ hlt).trans (World.alloc_heap_new w _)⟩
def nsOf (ts : List TaskM) : List ByteArray := ts.map fun t => t.r.name
def psOf (ts : List TaskM) : List (Nat × ByteArray) := ts.map fun t => (t.tb, t.r.name)
def tbOf (ts : List TaskM) (i : Nat) : Nat := (ts.map fun t => t.tb).getD i 0
def potE (webl : List NodeD) (ts : List TaskM) : Nat := potAll (webl.map (·.name)) (envOf (runsOf ts))
section
variable {B : Nat} {Kf Kc : Nat → Prop} {W0 : World} {webl : List NodeD} {wz W W' : World} {bb : Nat} {a : Option Addr} {cap : Nat} {rd : Option Addr} {rn rc : Nat} {mb mx : Nat} {ts0 ts : List TaskM} {d0 d : Option Addr} {dc : Nat} {f : ByteArray → Value} {ws : ByteArray → List Nat}
theorem put_cell {l c o : Nat} (o' : Obj) (h : c ≠ l) : (W.putObj l o').cell? ⟨c, o, none⟩ = W.cell? ⟨c, o, none⟩ := World.cell?_of_block (w := W) (World.putObj_heap_other h)
theorem put_frozen {l c o : Nat} (o' : Obj) (h : c ≠ l) : (W.putObj l o').frozen? ⟨c, o, none⟩ = W.frozen? ⟨c, o, none⟩ := World.frozen?_of_block (w := W) (World.putObj_heap_other h)
theorem InB.task (h : InB B Kf Kc (psOf ts0) W0 webl wz W bb a cap rd rn rc mb mx ts d dc f ws) {i : Nat} (hi : i < ts0.length) : ∃ (j : Nat) (t : TaskM), ts[j]? = some t ∧ t.tb = tbOf ts0 i ∧ t.r.name = (nsOf ts0).getD i ByteArray.empty := by
  obtain ⟨t, ht, h1, h2⟩ := h.bm.oth.has (ts0[i].tb, ts0[i].r.name) (List.mem_map.2 ⟨ts0[i], List.getElem_mem hi, rfl⟩)
  obtain ⟨j, hj⟩ := List.getElem?_of_mem ht
  exact ⟨j, t, hj, by rw [h1]; simp [tbOf, List.getD, hi], by rw [h2]; simp [nsOf, List.getD, hi]⟩
theorem InB.row (h : InB B Kf Kc (psOf ts0) W0 webl wz W bb a cap rd rn rc mb mx ts d dc f ws) {base dc0 : Nat} (ho : W0.ownsRow base 70 1 (.slice d0 ts0.length dc0) ts0.length (ts0.map TaskM.ptr)) (hK : ∀ g, d0 = some ⟨g, 0, none⟩ → Kf g) {i : Nat} (hi : i < ts0.length) : ∃ g, d0 = some ⟨g, 0, none⟩ ∧ W.cell? ⟨g, i, none⟩ = some (.pointer (some ⟨tbOf ts0 i, 0, none⟩)) := by
  rcases ho.2 with ⟨e, _⟩ | ⟨g, cp, cur, e, _⟩
  · exfalso
    simp only [Value.slice.injEq] at e
    omega
  · simp only [Value.slice.injEq] at e
    obtain ⟨rfl, _, rfl⟩ := e
    refine ⟨g, rfl, ?_⟩
    have hc := ho.cells (g := g) rfl i (ts0[i]).ptr (by simp [hi])
    have e1 : W.cell? ⟨g, i, none⟩ = W0.cell? ⟨g, i, none⟩ := World.cell?_of_block (w := W0) (h.same g (hK g rfl))
    rw [e1]
    have e2 : ((⟨g, 0, none⟩ : Addr).add i) = ⟨g, i, none⟩ := by simp [Addr.add]; omega
    rw [e2] at hc
    rw [hc]
    simp [TaskM.ptr, tbOf, List.getD, hi]
theorem BS.can (h : BS webl ts ws) {t : TaskM} (ht : t ∈ ts) : CanGo (actsOf webl) (envOf (runsOf ts)) t.r ↔ t.r.over = false ∧ t.op = 0 := by
  obtain ⟨A, hA, _⟩ := (h.good.good t.r (List.mem_map_of_mem ht)).act
  rw [canGo_iff (by rw [hA]; rfl), h.op t ht, List.length_eq_zero_iff]
theorem InB.sees (h : InB B Kf Kc (psOf ts0) W0 webl wz W bb a cap rd rn rc mb mx ts d dc f ws) (hS : BS webl ts ws) {base dc0 : Nat} (ho : W0.ownsRow base 70 1 (.slice d0 ts0.length dc0) ts0.length (ts0.map TaskM.ptr)) (hK : ∀ g, d0 = some ⟨g, 0, none⟩ → Kf g) {i : Nat} (hi : i < ts0.length) :
    (SeesV d0 (tbOf ts0) i W ∧ ReadyX (actsOf webl) (envOf (runsOf ts)) ((nsOf ts0).getD i ByteArray.empty)) ∨ (SeesN d0 (tbOf ts0) i W ∧ ¬ ReadyX (actsOf webl) (envOf (runsOf ts)) ((nsOf ts0).getD i ByteArray.empty)) := by
  obtain ⟨g, e, hc⟩ := h.row ho hK hi
  obtain ⟨j, t, hj, h1, h2⟩ := h.task hi
  have ht : t ∈ ts := List.mem_of_getElem? hj
  have hT := h.bm.task t ht
  have c1 : W.cell? ⟨t.tb, 1, none⟩ = some (.bool t.r.over) := hT.rng 1 _ rfl
  have c9 : W.cell? ⟨t.tb, 9, none⟩ = some (.int .i64 (t.op : Int)) := hT.rng 9 _ rfl
  have he : envOf (runsOf ts) t.r.name = some t.r := asc_env h.bm.asc (List.mem_map_of_mem ht)
  rw [h1] at c1 c9
  rw [h2] at he
  have hcan := hS.can ht
  by_cases hg : CanGo (actsOf webl) (envOf (runsOf ts)) t.r
  · obtain ⟨g1, g2⟩ := hcan.1 hg
    rw [g1] at c1
    rw [g2] at c9
    exact .inl ⟨⟨g, e, hc, c1, c9⟩, ⟨t.r, he, hg⟩⟩
  · refine .inr ⟨⟨g, e, hc, ?_⟩, fun ⟨r, hr, hg'⟩ => ?_⟩
    · cases hov : t.r.over with
      | true => left; rw [c1, hov]
      | false =>
        right
        refine ⟨by rw [c1, hov], t.op, fun h0 => hg (hcan.2 ⟨hov, h0⟩), c9⟩
    · rw [he] at hr
      cases hr
      exact hg hg'
def ApI (B : Nat) (Kf Kc : Nat → Prop) (W0 : World) (webl : List NodeD) (wz : World) (bb : Nat) (a : Option Addr) (cap : Nat) (rd : Option Addr) (rn rc : Nat) (mb : Nat) (ts0 : List TaskM) (Gl σ0 : Env) (c : Nat) (i : Nat) (W : World) : Prop :=
  ∃ (mx : Nat) (ts : List TaskM) (d : Option Addr) (dc : Nat) (f : ByteArray → Value) (ws : ByteArray → List Nat) (b : Bool),
    InB B Kf Kc (psOf ts0) W0 webl wz W bb a cap rd rn rc mb mx ts d dc f ws ∧ BS webl ts ws ∧ PassX webl Gl σ0 (envOf (runsOf ts0)) (nsOf ts0) (envOf (runsOf ts)) i b ∧ mx + 6 * potE webl ts ≤ 9000 ∧ W.cell? ⟨c, 0, none⟩ = some (.bool b) ∧ W.frozen? ⟨c, 0, none⟩ = false
theorem ApI.calm {Gl σ0 : Env} {c i : Nat} (hc : Kc c) : Calm B (ApI B Kf Kc W0 webl wz bb a cap rd rn rc mb ts0 Gl σ0 c i) := by
  constructor
  · rintro W o hB ⟨mx, ts, d, dc, f, ws, b, h1, h2, h3, h4, h5, h6⟩
    have hlt : c < W.heap.size := h1.bm.oth.lt c (.inr hc)
    exact ⟨mx, ts, d, dc, f, ws, b, h1.kept ((Kept.refl W).alloc o), h2, h3, h4, (((Kept.refl W).alloc o).cell hlt).trans h5, (((Kept.refl W).alloc o).rules.2 c 0 hlt).trans h6⟩
  · rintro W l o o' hl ho hn ⟨mx, ts, d, dc, f, ws, b, h1, h2, h3, h4, h5, h6⟩
    have hlt := h1.lt c (.inr hc)
    exact ⟨mx, ts, d, dc, f, ws, b, h1.calm o' hl ho hn, h2, h3, h4, (put_cell o' (by omega)).trans h5, (put_frozen o' (by omega)).trans h6⟩
theorem sees_calm {tb : Nat → Nat} {i : Nat} (_hd : ∀ g, d0 = some ⟨g, 0, none⟩ → g < B) : Calm B (fun W => SeesV d0 tb i W) := by
  have cl : ∀ {W : World} {b o : Nat} {v : Value}, W.cell? ⟨b, o, none⟩ = some v → b < W.heap.size := fun {W b o v} h => by
    obtain ⟨ob, h1, _⟩ := cells_of_cell h
    exact heap_lt h1
  have cn : ∀ {W : World} {b o l : Nat} {v : Value} {ob : Obj}, W.cell? ⟨b, o, none⟩ = some v → W.heap[l]? = some ob → ob.isCells = false → b ≠ l := fun {W b o l v ob} h h1 h2 e => by
    obtain ⟨ob', h3, h4⟩ := cells_of_cell h
    simp only at h3
    rw [e, h1] at h3
    cases h3
    rw [h2] at h4
    cases h4
  constructor
  · rintro W o hB ⟨g, e, h1, h2, h3⟩
    have k := (Kept.refl W).alloc o
    exact ⟨g, e, (k.cell (cl h1)).trans h1, (k.cell (cl h2)).trans h2, (k.cell (cl h3)).trans h3⟩
  · rintro W l o o' hl ho hn ⟨g, e, h1, h2, h3⟩
    exact ⟨g, e, (put_cell o' (cn h1 ho hn)).trans h1, (put_cell o' (cn h2 ho hn)).trans h2, (put_cell o' (cn h3 ho hn)).trans h3⟩
theorem bb_calm {v : Value} {c : Nat} (hc : c < B) : Calm B (fun W => W.cell? ⟨c, 3, none⟩ = some v) := by
  constructor
  · intro W o hB h1
    obtain ⟨ob, h2, _⟩ := cells_of_cell h1
    exact (((Kept.refl W).alloc o).cell (heap_lt h2)).trans h1
  · intro W l o o' hl ho hn h1
    exact (put_cell o' (by omega)).trans h1
theorem calm_false (B : Nat) : Calm B (fun _ => False) := ⟨fun _ _ _ h => h, fun _ _ _ _ _ _ _ h => h⟩
theorem BM.far {G : Ghost} (h : BM G webl wz W bb a cap rd rn rc mb mx ts d dc f ws) {k : Nat} (hk : W.heap.size ≤ k) : k ≠ bb ∧ k ≠ mb ∧ (∀ t ∈ ts, k ≠ t.tb ∧ k ∉ t.own) ∧ ∀ s, (f s).ownBlock ≠ some k := by
  have h1 := h.row.lt
  obtain ⟨N, D, _, hM, _⟩ := h.map
  obtain ⟨es, clock, hb, _⟩ := hM
  have h2 := heap_lt hb
  refine ⟨by omega, by omega, fun t ht => ⟨?_, fun hx => ?_⟩, fun s hs => ?_⟩
  · have := (h.task t ht).row.lt; omega
  · have := ((h.task t ht).own_type hx).2.2; omega
  · have := ((h.wrow s).lt k hs).2; omega
theorem BM.apart {G : Ghost} (h : BM G webl wz W bb a cap rd rn rc mb mx ts d dc f ws) {k : Nat} (hk : d = some ⟨k, 0, none⟩) : k < W.heap.size ∧ k ≠ bb ∧ k ≠ mb ∧ (∀ t ∈ ts, k ≠ t.tb ∧ k ∉ t.own) ∧ ∀ s, (f s).ownBlock ≠ some k := by
  subst hk
  have ho : (Value.slice (some ⟨k, 0, none⟩) ts.length dc).ownBlock = some k := rfl
  have ht := owns_type h.items ho
  obtain ⟨N, D, _, hM, _⟩ := h.map
  refine ⟨(h.items.lt k ho).2, type_ne ht h.row.type (by decide), map_ne hM ht, fun t hm => ⟨type_ne ht (h.task t hm).row.type (by decide), fun hx => type_ne ht ((h.task t hm).own_type hx).1 (by decide) rfl⟩, fun s hs => h.isep s k hs ho⟩
end
end Go.Proofs.YtghipdfemoofhaaGreatDoor
namespace Go.Proofs.YtghipdfemoofhaaGreatDoor
open Go.RowKit Go.Shelf
attribute [local go_sem] Oper.semAt_some
section
variable {webl : List NodeD} {wz w w' : World} {bb : Nat} {a : Option Addr} {cap : Nat} {rd : Option Addr} {rn rc : Nat} {mb mx : Nat} {ts : List TaskM} {d : Option Addr} {dc : Nat} {f : ByteArray → Value} {ws : ByteArray → List Nat}
end
end Go.Proofs.YtghipdfemoofhaaGreatDoor
namespace Go.Proofs.YtghipdfemoofhaaGreatDoor
open Go.RowKit
section
variable {G : Ghost} {webl : List NodeD} {wz w w' : World} {bb : Nat} {a : Option Addr} {cap : Nat} {rd : Option Addr} {rn rc : Nat} {mb mx : Nat} {ts : List TaskM} {d : Option Addr} {dc : Nat} {f : ByteArray → Value} {ws : ByteArray → List Nat}
theorem BM.item (h : BM G webl wz w bb a cap rd rn rc mb mx ts d dc f ws) {i : Nat} (hi : i < ts.length) : ∃ g, d = some ⟨g, 0, none⟩ ∧ w.cell? ⟨g, i, none⟩ = some (.pointer (some ⟨(ts[i]).tb, 0, none⟩)) := by
  have ho := h.items
  rcases ho.2 with ⟨e, _⟩ | ⟨g, cp, cur, e, _⟩
  · exfalso
    simp only [Value.slice.injEq] at e
    omega
  · simp only [Value.slice.injEq] at e
    obtain ⟨rfl, _, rfl⟩ := e
    refine ⟨g, rfl, ?_⟩
    have hc := ho.cells (g := g) rfl i (ts[i]).ptr (by simp [hi])
    have e2 : ((⟨g, 0, none⟩ : Addr).add i) = ⟨g, i, none⟩ := by simp [Addr.add]; omega
    rw [e2] at hc
    exact hc
theorem BM.sees (h : BM G webl wz w bb a cap rd rn rc mb mx ts d dc f ws) (hS : BS webl ts ws) {i : Nat} (hi : i < ts.length) : (SeesV d (tbOf ts) i w ∧ CanGo (actsOf webl) (envOf (runsOf ts)) (ts[i]).r) ∨ (SeesN d (tbOf ts) i w ∧ ¬ CanGo (actsOf webl) (envOf (runsOf ts)) (ts[i]).r) := by
  obtain ⟨g, e, hc⟩ := h.item hi
  have htb : tbOf ts i = (ts[i]).tb := by simp [tbOf, List.getD, hi]
  have hT := h.task ts[i] (List.getElem_mem hi)
  have c1 : w.cell? ⟨(ts[i]).tb, 1, none⟩ = some (.bool (ts[i]).r.over) := hT.rng 1 _ rfl
  have c9 : w.cell? ⟨(ts[i]).tb, 9, none⟩ = some (.int .i64 ((ts[i]).op : Int)) := hT.rng 9 _ rfl
  have hcan := hS.can (List.getElem_mem hi)
  rw [← htb] at hc c1 c9
  by_cases hg : CanGo (actsOf webl) (envOf (runsOf ts)) (ts[i]).r
  · obtain ⟨g1, g2⟩ := hcan.1 hg
    rw [g1] at c1
    rw [g2] at c9
    exact .inl ⟨⟨g, e, hc, c1, c9⟩, hg⟩
  · refine .inr ⟨⟨g, e, hc, ?_⟩, hg⟩
    cases hov : (ts[i]).r.over with
    | true => left; rw [c1, hov]
    | false =>
      right
      exact ⟨by rw [c1, hov], (ts[i]).op, fun h0 => hg (hcan.2 ⟨hov, h0⟩), c9⟩
end
end Go.Proofs.YtghipdfemoofhaaGreatDoor
namespace Go.Proofs.YtghipdfemoofhaaGreatDoor
open Go.RowKit
theorem FinishOk.kept {w wz : World} (h : FinishOk w) (k : Kept w wz) : FinishOk wz := fun W give a cap l kW h1 h2 h3 h4 => h W give a cap l (k.trans kW) h1 h2 h3 h4
theorem GoalX.good {webl : List NodeD} {roots : List ByteArray} {sl : List RunX} (h : GoalX webl roots sl) : GoodL webl sl := by
  obtain ⟨k, L, hg, _, _, rfl⟩ := h
  exact hg
end Go.Proofs.YtghipdfemoofhaaGreatDoor
