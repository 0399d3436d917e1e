import Derived.Test.YtghipdfemoofhaaGreatDoorKXValid0
import Derived.Test.YtghipdfemoofhaaGreatDoorKXValid
import Derived.Test.YtghipdfemoofhaaGreatDoorKVOrder
import Derived.Deep.MidRow
import Derived.Test.YtghipdfemoofhaaGreatDoorKOTo1
namespace Go.Proofs.YtghipdfemoofhaaGreatDoor
open Go.RowKit
theorem ValidX.good {webl : List NodeD} {roots : List ByteArray} {sl : List RunX} (h : ValidX webl roots sl) : GoodL webl sl := by
  obtain ⟨_, _, _, k, L, hg, _, _, rfl⟩ := h
  exact hg
theorem GoodL.texts {webl : List NodeD} {l : List RunX} (h : GoodL webl l) : ∀ r ∈ l, r.texts.length ≤ 1000 := fun r hr => by
  have h1 := (h.good r hr).tl
  have h2 := (h.good r hr).hi
  omega
def DoneX (webl : List NodeD) (sl : List RunX) (name : ByteArray) (T : List RunX) : Prop :=
  (∃ r, envOf sl name = some r ∧ CanGo (actsOf webl) (envOf sl) r ∧ T = doL (actsOf webl) sl r) ∨ (¬ ReadyX (actsOf webl) (envOf sl) name ∧ T = sl)
theorem DoneX.good {webl : List NodeD} {sl T : List RunX} {name : ByteArray} (h : DoneX webl sl name T) (hok : ActsOk (actsOf webl)) (hg : GoodL webl sl) : GoodL webl T := by
  rcases h with ⟨r, h1, h2, rfl⟩ | ⟨_, rfl⟩
  · exact doL_good hok hg (env_mem h1).1 h2
  · exact hg
theorem DoneX.unique {webl : List NodeD} {sl T T' : List RunX} {name : ByteArray} (h : DoneX webl sl name T) (h' : DoneX webl sl name T') : T = T' := by
  rcases h with ⟨r, h1, h2, rfl⟩ | ⟨h1, rfl⟩ <;> rcases h' with ⟨r', g1, g2, rfl⟩ | ⟨g1, rfl⟩
  · rw [h1] at g1; cases g1; rfl
  · exact absurd ⟨r, h1, h2⟩ g1
  · exact absurd ⟨r', g1, g2⟩ h1
  · rfl
def DoEnd (webl : List NodeD) (roots : List ByteArray) (sl : List RunX) (name : ByteArray) (w w' : World) (e : Ending) : Prop :=
  (ValidX webl roots sl ∧ ∃ T, DoneX webl sl name T ∧ StateX roots T w w' e) ∨ (¬ ValidX webl roots sl ∧ e = .returned (.agg #[.slice none 0 0, .slice none 0 0]) ∧ Kept w w')
def Ints (w : World) (a : Option Addr) (l : List Int) : Prop := ∀ i, i < l.length → ∃ b o, a = some ⟨b, o, none⟩ ∧ b < w.heap.size ∧ w.cell? ⟨b, o + i, none⟩ = some (.int .i64 (l.getD i 0))
theorem Ints.kept {w w' : World} {a : Option Addr} {l : List Int} (h : Ints w a l) (k : Kept w w') : Ints w' a l := fun i hi => by
  obtain ⟨b, o, e, hb, hc⟩ := h i hi
  exact ⟨b, o, e, Nat.lt_of_lt_of_le hb k.size, (k.cell hb).trans hc⟩
structure WVar (wr : World) (xb : Nat) (roots : List ByteArray) (T : List RunX) (D : List ByteArray) (ra : Option Addr) (rc : Nat) (d : Option Addr) (dc : Nat) (da : Option Addr) (ac : Nat) : Prop where
  row : RowT wr xb 52 3
  c0 : wr.cell? ⟨xb, 0, none⟩ = some (.slice ra roots.length rc)
  c1 : wr.cell? ⟨xb, 1, none⟩ = some (.slice d T.length dc)
  c2 : wr.cell? ⟨xb, 2, none⟩ = some (.slice da D.length ac)
  rts : Strs wr ra roots
  rns : RunsX wr d T
  own : wr.ownsRow (xb + 1) 9 1 (.slice da D.length ac) D.length (D.map Value.string)
theorem WVar.kept {w w' : World} {xb rc dc ac : Nat} {roots D : List ByteArray} {T : List RunX} {ra d da : Option Addr} (h : WVar w xb roots T D ra rc d dc da ac) (k : Kept w w') : WVar w' xb roots T D ra rc d dc da ac :=
  ⟨h.row.kept k, (k.cell h.row.lt).trans h.c0, (k.cell h.row.lt).trans h.c1, (k.cell h.row.lt).trans h.c2, h.rts.kept k, h.rns.kept k, ownsRow_kept' h.own k⟩
theorem WVar.made {w : World} {rc dc : Nat} {roots : List ByteArray} {T : List RunX} {ra d : Option Addr} (hT : Strs w ra roots) (hS : RunsX w d T) : WVar (w.alloc (.cells #[.slice ra roots.length rc, .slice d T.length dc, .slice none 0 0] 52)) w.heap.size roots T [] ra rc d dc none 0 :=
  ⟨RowT.made w _ _, range_new w #[.slice ra roots.length rc, .slice d T.length dc, .slice none 0 0] 52 0 _ rfl, range_new w #[.slice ra roots.length rc, .slice d T.length dc, .slice none 0 0] 52 1 _ rfl, range_new w #[.slice ra roots.length rc, .slice d T.length dc, .slice none 0 0] 52 2 _ rfl, hT.kept ((Kept.refl _).alloc _), hS.kept ((Kept.refl _).alloc _), ⟨rfl, .inl ⟨rfl, rfl⟩⟩⟩
def WalkX (roots : List ByteArray) (T : List RunX) (D : List ByteArray) (w w' : World) (e : Ending) : Prop :=
  ∃ ra rc d dc xs da ac, e = .returned (.agg #[.slice ra roots.length rc, .slice d T.length dc, .slice da D.length ac]) ∧ w'.ownsRow w.heap.size 9 1 (.slice ra roots.length rc) roots.length (roots.map Value.string) ∧ w'.ownsRow w.heap.size 72 7 (.slice d T.length dc) T.length xs ∧ PackedX w' (fun b => w.heap.size ≤ b) xs T ∧ w'.ownsRow w.heap.size 9 1 (.slice da D.length ac) D.length (D.map Value.string) ∧ Kept w w'
def OrderEnd (webl : List NodeD) (roots : List ByteArray) (picks : List Int) (w w' : World) (e : Ending) : Prop :=
  ((WebCode webl 0 ∧ RootsOk roots) ∧ ∃ T D, OrdW webl picks (startL webl roots) [] T D ∧ WalkX roots T D w w' e) ∨ (¬ (WebCode webl 0 ∧ RootsOk roots) ∧ e = .returned (.agg #[.slice none 0 0, .slice none 0 0, .slice none 0 0]) ∧ Kept w w')
theorem Tryz.xSizeWalk : (Tryz.prog.info? 52).map (·.size) = some 3 := by kernel_rfl
theorem owns_sets {base size g : Nat} {e : TypeId} {v : Value} {n : Nat} {xs : List Value} (hg : g < base) : ∀ (vs : List Value) (o : Nat) {w : World}, w.ownsRow base e size v n xs → (w.setCells g o vs).ownsRow base e size v n xs
  | [], _, _, h => h
  | u :: r, o, _, h => by rw [World.setCells]; exact owns_sets hg r (o + 1) (owns_set h (p := ⟨g, o, none⟩) hg u)
theorem packed_sets {P : Nat → Prop} {xs : List Value} {l : List RunX} {c : Nat} (hc : ∀ b, P b → b ≠ c) : ∀ (vs : List Value) (o : Nat) {w : World}, PackedX w P xs l → PackedX (w.setCells c o vs) P xs l
  | [], _, _, h => h
  | u :: r, o, _, h => by rw [World.setCells]; exact packed_sets hc r (o + 1) (h.set hc u)
theorem there_row {w : World} {b n : Nat} {t : TypeId} (h : RowT w b t n) : w.there b 0 n := h.row.there (o := 0) (m := n) (by omega)
theorem three_one (a d f : Option Addr) (n c m e k l : Nat) : (#[Value.slice a n c, Value.slice d m e, Value.slice f k l].all (·.oneCell')) = true := by simp [Value.oneCell']
theorem packed_grown {W w' : World} {P : Nat → Prop} {xs : List Value} {l : List RunX} {ob : Option Nat} (h : PackedX W P xs l) (g : W.grownBy w' ob) (hne : ∀ b, P b → some b ≠ ob) : PackedX w' P xs l := by
  refine ⟨h.1, fun i hi => ?_⟩
  obtain ⟨xa, xc, e, hs, hx, hp⟩ := h.2 i hi
  refine ⟨xa, xc, e, (fun j hj => ?_), hx, hp⟩
  obtain ⟨b, o, rfl, hb, hc⟩ := hs j hj
  exact ⟨b, o, rfl, Nat.lt_of_lt_of_le hb g.size, (World.cell?_of_block (w := W) (g.block b hb (hne b (hp _ rfl)))).trans hc⟩
theorem WVar.put {w6 w7 : World} {xb rc dc ac : Nat} {roots D : List ByteArray} {T : List RunX} {ra d da : Option Addr} (h : WVar w6 xb roots T D ra rc d dc da ac) (k : Kept w6 w7) (v0 v1 : Value) :
    RowT (w7.setCells xb 0 [v0, v1]) xb 52 3 ∧ (w7.setCells xb 0 [v0, v1]).cell? ⟨xb, 0, none⟩ = some v0 ∧ (w7.setCells xb 0 [v0, v1]).cell? ⟨xb, 1, none⟩ = some v1 ∧ (w7.setCells xb 0 [v0, v1]).cell? ⟨xb, 2, none⟩ = some (.slice da D.length ac) ∧ (w7.setCells xb 0 [v0, v1]).ownsRow (xb + 1) 9 1 (.slice da D.length ac) D.length (D.map Value.string) := by
  have h7 := h.kept k
  have hR := World.rangeAt_setCells_same w7 xb 0 [v0, v1] (h7.row.row.there (o := 0) (m := 2) (by omega))
  refine ⟨RowT.sets _ _ h7.row, hR 0 _ rfl, hR 1 _ rfl, ?_, owns_sets (Nat.lt_succ_self _) _ 0 h7.own⟩
  rw [World.cell?_setCells_out xb [v0, v1] 0 w7 _ (fun _ _ => .inr (by simp))]
  exact h7.c2
theorem WVar.next {w6 w7 V w9 : World} {xb rc dc ac rc2 dc2 ac2 : Nat} {roots D : List ByteArray} {T T2 : List RunX} {ra d da ra2 d2 da2 : Option Addr} {xs2 : List Value} {name : ByteArray} (h : WVar w6 xb roots T D ra rc d dc da ac) (k : Kept w6 w7)
    (hT : w7.ownsRow w6.heap.size 9 1 (.slice ra2 roots.length rc2) roots.length (roots.map Value.string)) (hO : w7.ownsRow w6.heap.size 72 7 (.slice d2 T2.length dc2) T2.length xs2) (hP : PackedX w7 (fun b => w6.heap.size ≤ b) xs2 T2)
    (hV : Kept (w7.setCells xb 0 [.slice ra2 roots.length rc2, .slice d2 T2.length dc2]) V) (hgr : V.grownBy w9 (Value.slice da D.length ac).ownBlock) (hown : w9.ownsRow (xb + 1) 9 1 (.slice da2 (D.length + 1) ac2) (D.length + 1) (D.map Value.string ++ [.string name])) :
    WVar (w9.setCell ⟨xb, 2, none⟩ (.slice da2 (D.length + 1) ac2)) xb roots T2 (D ++ [name]) ra2 rc2 d2 dc2 da2 ac2 := by
  obtain ⟨p1, p2, p3, _, p5⟩ := h.put k (.slice ra2 roots.length rc2) (.slice d2 T2.length dc2)
  have hx : xb < w6.heap.size := h.row.lt
  have hob : ∀ b, w6.heap.size ≤ b → some b ≠ (Value.slice da D.length ac).ownBlock := fun b hb e => by
    have := (h.own.lt b e.symm).2
    omega
  have hxo : some xb ≠ (Value.slice da D.length ac).ownBlock := fun e => by
    have := (h.own.lt xb e.symm).1
    omega
  have pV := p1.kept hV
  have hbk : w9.heap[xb]? = V.heap[xb]? := hgr.block xb pV.lt hxo
  have p9 := pV.block hbk
  have hl : (D ++ [name]).length = D.length + 1 := by simp
  have hTV := ownsRow_kept' (owns_sets hx [.slice ra2 roots.length rc2, .slice d2 T2.length dc2] 0 hT) hV
  have hOV := ownsRow_kept' (owns_sets hx [.slice ra2 roots.length rc2, .slice d2 T2.length dc2] 0 hO) hV
  have hPV := (packed_sets (c := xb) (fun b hb => by omega) [.slice ra2 roots.length rc2, .slice d2 T2.length dc2] 0 hP).kept hV
  have oth : ∀ {n c m : Nat} {a : Option Addr} {t : TypeId} {s : Nat} {ys : List Value}, V.ownsRow w6.heap.size t s (.slice a n c) m ys → (Value.slice a n c).ownBlock = none ∨ (Value.slice a n c).ownBlock ≠ (Value.slice da D.length ac).ownBlock := fun {n c m a t s ys} hh => by
    cases e : (Value.slice a n c).ownBlock with
    | none => exact .inl rfl
    | some b => exact .inr (hob b (hh.lt b e).1)
  have hT9 := owns_set (hTV.kept hgr (oth hTV)) (p := ⟨xb, 2, none⟩) hx (.slice da2 (D.length + 1) ac2)
  have hO9 := owns_set (hOV.kept hgr (oth hOV)) (p := ⟨xb, 2, none⟩) hx (.slice da2 (D.length + 1) ac2)
  have hP9 := (packed_grown hPV hgr hob).set (c := xb) (p := 2) (fun b hb => by omega) (.slice da2 (D.length + 1) ac2)
  have hD9 := owns_set hown (p := ⟨xb, 2, none⟩) (Nat.lt_succ_self xb) (.slice da2 (D.length + 1) ac2)
  refine ⟨p9.set _, ?_, ?_, ?_, ?_, ?_, ?_⟩
  · rw [set_miss (by omega), World.cell?_of_block (w := V) hbk, hV.cell p1.lt]; exact p2
  · rw [set_miss (by omega), World.cell?_of_block (w := V) hbk, hV.cell p1.lt]; exact p3
  · rw [hl]; exact set_hit p9.row (by omega) _
  · obtain ⟨a9, c9, e9, h9⟩ := owned_strs hT9
    simp only [Value.slice.injEq, true_and] at e9
    rw [← e9.1] at h9
    exact h9
  · obtain ⟨_, a8, c8, e8, h8⟩ := PackedX.runs hO9 hP9 (Kept.refl _)
    simp only [Value.slice.injEq, true_and] at e8
    rw [← e8.1] at h8
    exact h8.runs
  · rw [hl, List.map_append]; exact hD9
theorem WVar.grown {w6 w7 V w9 : World} {xb rc dc ac : Nat} {roots D : List ByteArray} {T : List RunX} {ra d da : Option Addr} {v0 v1 : Value} (h : WVar w6 xb roots T D ra rc d dc da ac) (k : Kept w6 w7) (hV : Kept (w7.setCells xb 0 [v0, v1]) V) (hgr : V.grownBy w9 (Value.slice da D.length ac).ownBlock) : RowT w9 xb 52 3 := by
  have pV := (h.put k v0 v1).1.kept hV
  exact pV.block (hgr.block xb pV.lt fun e => by have := (h.own.lt xb e.symm).1; omega)
set_option maxRecDepth 100000 in
set_option maxHeartbeats 12800000 in
theorem specOrder_any (w : World) (a : Option Addr) (cap : Nat) (webl : List NodeD) (ra : Option Addr) (rc : Nat) (roots : List ByteArray) (pa : Option Addr) (pc : Nat) (picks : List Int) (hwl : webl.length ≤ 1048576) (hft : ∀ y ∈ webl, y.Fits) (hrl : roots.length ≤ 1048576) (hrs : ∀ s ∈ roots, s.size ≤ maxLen) (hpl : picks.length ≤ 1048576) (_hp64 : ∀ p ∈ picks, In64 p)
    (hN : Nodes w a webl) (hR : Strs w ra roots) (hP : Ints w pa picks) :
    Calls Tryz.prog 28 #[.agg #[.slice a webl.length cap], .slice ra roots.length rc, .slice pa picks.length pc] w fun e w' => OrderEnd webl roots picks w w' e := by
  obtain ⟨WB, hWB⟩ : ∃ WB, WB = (w.alloc (.cells #[.slice a webl.length cap] 34)).alloc (.cells #[.slice none 0 0, .slice none 0 0, .slice none 0 0] 52) := ⟨_, rfl⟩
  have kB : Kept w WB := by rw [hWB]; exact ((Kept.refl _).alloc _).alloc _
  have hBs : WB.heap.size = w.heap.size + 2 := by rw [hWB]; simp
  have b0 : WB.cell? ⟨w.heap.size, 0, none⟩ = some (.slice a webl.length cap) := by rw [hWB, Kept.cell (w := w.alloc (.cells #[.slice a webl.length cap] 34)) ((Kept.refl _).alloc _) (by simp)]; exact range_new w _ _ 0 _ rfl
  have HRes : Hid (RowT WB (w.heap.size + 1) 52 3) := by
    have h1 := RowT.made (w.alloc (.cells #[.slice a webl.length cap] 34)) #[.slice none 0 0, .slice none 0 0, .slice none 0 0] 52
    simp only [World.size_alloc] at h1
    rw [hWB]
    exact h1
  have z0 : w.heap.size < WB.heap.size := by omega
  have HC : Hid (∀ w', Kept WB w' → w'.cell? ⟨w.heap.size, 0, none⟩ = some (.slice a webl.length cap) ∧ w.heap.size + 1 < w'.heap.size) := fun w' K => ⟨(K.cell z0).trans b0, by have := K.size; omega⟩
  have HKB := hide kB
  clear kB hBs b0 z0
  go_enter Tryz.func28, Tryz.ntmps28
  go_upto_region 1 with fail
  rw [← hWB]
  clear hWB
  obtain ⟨b0, z1⟩ := HC.out _ (Kept.refl _)
  go_wp2_with fail
  refine (specCheckWeb_any _ a cap webl (by unfold maxLen; omega) hft (hN.kept HKB.out)).mono ?_
  rintro e w1 ⟨⟨c, rfl, hc⟩, k1⟩
  clear b0 z1
  obtain ⟨b0, z1⟩ := HC.out _ k1
  by_cases hc0 : c = 0
  rotate_left
  · have hcb : (c != 0) = true := by simpa using hc0
    have HCn : Hid (¬ WebCode webl 0) := fun h => hc0 (hc.unique h)
    have HR1 := hide (HRes.out.kept k1)
    obtain ⟨⟨_, x0⟩, f0⟩ := HR1.out.row.at (i := 0) (by omega)
    obtain ⟨⟨_, x1⟩, f1⟩ := HR1.out.row.at (i := 1) (by omega)
    obtain ⟨⟨_, x2⟩, f2⟩ := HR1.out.row.at (i := 2) (by omega)
    clear hc0 hc
    go_wp2_with fail
    have hRg := World.rangeAt_setCells_same w1 (w.heap.size + 1) 0 [.slice none 0 0, .slice none 0 0, .slice none 0 0] (HR1.out.row.there (o := 0) (m := 3) (Nat.le_refl _))
    exact bodyPost_ret_cell [.slice none 0 0, .slice none 0 0, .slice none 0 0] _ Tryz.results28 rfl hRg Tryz.underlying52 rfl Tryz.xSizeWalk rfl (.inr ⟨fun h => HCn.out h.1, rfl, kept_sets (g := w.heap.size + 1) (by omega) [.slice none 0 0, .slice none 0 0, .slice none 0 0] 0 (HKB.out.trans k1)⟩)
  subst hc0
  have HW := hide hc
  clear hc
  go_wp2_with fail
  refine (l3RootsOk_any _ ra rc roots (by unfold maxLen; omega) hrs (hR.kept (HKB.out.trans k1))).mono ?_
  rintro e w2 ⟨hsay, k2⟩
  have K2 := k1.trans k2
  clear b0 z1
  obtain ⟨b0, z1⟩ := HC.out _ K2
  rcases hsay.cases with ⟨rfl, hyes⟩ | ⟨rfl, hno⟩
  rotate_left
  · have HNo := hide hno
    have HR1 := hide (HRes.out.kept K2)
    obtain ⟨⟨_, x0⟩, f0⟩ := HR1.out.row.at (i := 0) (by omega)
    obtain ⟨⟨_, x1⟩, f1⟩ := HR1.out.row.at (i := 1) (by omega)
    obtain ⟨⟨_, x2⟩, f2⟩ := HR1.out.row.at (i := 2) (by omega)
    clear hno hsay
    go_wp2_with fail
    have hRg := World.rangeAt_setCells_same w2 (w.heap.size + 1) 0 [.slice none 0 0, .slice none 0 0, .slice none 0 0] (HR1.out.row.there (o := 0) (m := 3) (Nat.le_refl _))
    exact bodyPost_ret_cell [.slice none 0 0, .slice none 0 0, .slice none 0 0] _ Tryz.results28 rfl hRg Tryz.underlying52 rfl Tryz.xSizeWalk rfl (.inr ⟨fun h => HNo.out h.2, rfl, kept_sets (g := w.heap.size + 1) (by omega) [.slice none 0 0, .slice none 0 0, .slice none 0 0] 0 (HKB.out.trans K2)⟩)
  have HY := hide hyes
  clear hyes hsay
  obtain ⟨rb, ro, rfl, _, _⟩ := hR 0 (by have := HY.out.1; omega)
  have hwl6 := web_len HW.out
  have hrl1 := HY.out.2.1
  go_wp2_with fail
  refine (startX_any w2 a cap webl rb ro rc roots (by omega) hft HW.out HY.out hrs (hN.kept (HKB.out.trans K2)) (hR.kept (HKB.out.trans K2))).mono ?_
  rintro e w3 ⟨xa, xc, xd, xe, xs, rfl, hT3, hO3, hP3, k3⟩
  have K3 := K2.trans k3
  have HX3 : Hid (Strs w3 xa roots ∧ RunsX w3 xd (startL webl roots)) := by
    obtain ⟨a9, c9, e9, h9⟩ := owned_strs hT3
    simp only [Value.slice.injEq, true_and] at e9
    rw [← e9.1] at h9
    obtain ⟨_, a8, c8, e8, h8⟩ := PackedX.runs hO3 hP3 (Kept.refl _)
    simp only [Value.slice.injEq, true_and] at e8
    rw [← e8.1] at h8
    exact ⟨h9, h8.runs⟩
  clear hT3 hO3 hP3 k3
  obtain ⟨xb, hxb⟩ : ∃ xb, xb = w3.heap.size := ⟨_, rfl⟩
  have hxz : w3.heap.size ≤ xb := by omega
  have HXb := hide hxb
  clear b0 z1
  go_upto_region 4 with fail
  rw [← hxb]
  clear hxb
  go_wp2
  go_loopg [] (potL webl (startL webl roots)) (fun gg wr => ∃ (T : List RunX) (D : List ByteArray) (xa : Option Addr) (xc : Nat) (xd : Option Addr) (xe : Nat) (da : Option Addr) (ac : Nat), Kept w3 wr ∧ WVar wr xb roots T D xa xc xd xe da ac ∧ gg = potL webl T ∧ Hid (OrdI webl picks (startL webl roots) T D))
  case atStart => exact ⟨startL webl roots, [], xa, xc, xd, xe, none, 0, (Kept.refl _).alloc _, by rw [HXb.out]; exact WVar.made HX3.out.1 HX3.out.2, rfl, hide (OrdI.start (startL_good (web_acts HW.out) roots))⟩
  case round =>
    clear HX3 HXb
    obtain ⟨T, D, xa, xc, xd, xe, da, ac, Kr, hX, rfl, HV⟩ := hrel
    have hLl : T.length ≤ 60 := by have := HV.out.good.len; omega
    obtain ⟨b0, z1⟩ := HC.out _ (K3.trans Kr)
    have m0 := hX.c0
    have m1 := hX.c1
    have m2 := hX.c2
    have mz := hX.row.lt
    have HX := hide hX
    clear hX
    go_wp2_with fail
    refine (ready_any wr a cap webl xa roots.length xc xd xe T (by omega) (by omega) (web_small HW.out) (fun r hr _ _ => (HV.out.good.good r hr).act) (hN.kept (HKB.out.trans (K3.trans Kr))) HX.out.rns).mono ?_
    rintro e w6 ⟨⟨la, lc, ns, rfl, hRL, hOw⟩, k6⟩
    have HRL := hide hRL
    have hnl : ns.length ≤ 60 := by have := hRL.len; omega
    have HLs : Hid (Strs w6 la ns) := by
      obtain ⟨a9, c9, e9, h9⟩ := owned_strs hOw
      simp only [Value.slice.injEq, true_and] at e9
      rw [← e9.1] at h9
      exact h9
    have HX6 := hide (HX.out.kept k6)
    have K6 := Kr.trans k6
    clear hRL hOw b0 z1 m0 m1 m2 mz HX k6
    obtain ⟨b0, z1⟩ := HC.out _ (K3.trans K6)
    have m0 := HX6.out.c0
    have m1 := HX6.out.c1
    have m2 := HX6.out.c2
    have mz := HX6.out.row.lt
    by_cases hn0 : ns.length = 0
    · have hnb : ((ns.length : Int) == 0) = true := by simpa using hn0
      have HNn : Hid (ns = []) := List.length_eq_zero_iff.1 hn0
      clear hn0
      obtain ⟨qb, qo, rfl, _, _⟩ := HX6.out.rts 0 (by have := HY.out.1; omega)
      have HS6 : Hid (∀ w', Kept w6 w' → (fun w' => w'.cell? ⟨xb, 0, none⟩ = some (.slice (some ⟨qb, qo, none⟩) roots.length xc) ∧ w'.cell? ⟨xb, 1, none⟩ = some (.slice xd T.length xe) ∧ w'.cell? ⟨xb, 2, none⟩ = some (.slice da D.length ac)) w') := fun w' K => ⟨(K.cell mz).trans m0, (K.cell mz).trans m1, (K.cell mz).trans m2⟩
      go_upto_region 6 with fail
      refine UpTo.region (by kernel_rfl) (fun w' => w'.cell? ⟨xb, 0, none⟩ = some (.slice (some ⟨qb, qo, none⟩) roots.length xc) ∧ w'.cell? ⟨xb, 1, none⟩ = some (.slice xd T.length xe) ∧ w'.cell? ⟨xb, 2, none⟩ = some (.slice da D.length ac)) 6 (HS6.out _ ((Kept.refl w6).drew)) (fun hHeld => ?_)
      have KD : Kept w6 w6.drew := (Kept.refl w6).drew
      generalize hwd : w6.drew = wd at hHeld KD ⊢
      clear hwd
      refine UpTo.tk 0 [1, 2, 5, 6] ?_ hHeld ?_ ?_
      rotate_left
      · intro u hu; (try dsimp only at hu); go_simp; (try with_reducible rfl)
      try simp only [Act.put, List.setIfInBounds_toArray, List.set_cons_zero, List.set_cons_succ]
      refine UpTo.tk 1 [2, 5, 6] ?_ hHeld ?_ ?_
      rotate_left
      · intro u hu; (try dsimp only at hu); go_simp; (try with_reducible rfl)
      try simp only [Act.put, List.setIfInBounds_toArray, List.set_cons_zero, List.set_cons_succ]
      refine UpTo.tk 3 [4, 5, 6] ?_ hHeld ?_ ?_
      rotate_left
      · intro u hu; (try dsimp only at hu); go_simp; (try with_reducible rfl)
      try simp only [Act.put, List.setIfInBounds_toArray, List.set_cons_zero, List.set_cons_succ]
      refine UpTo.tk 4 [5, 6] ?_ hHeld ?_ ?_
      rotate_left
      · intro u hu; (try dsimp only at hu); go_simp; (try with_reducible rfl)
      try simp only [Act.put, List.setIfInBounds_toArray, List.set_cons_zero, List.set_cons_succ]
      refine UpTo.nx 2 (fun K hK => ?_)
      rw [if_pos (by rfl)]
      go_simp
      go_at_call 55
      refine (copyX_any wd qb qo xc roots xd xe T (by omega) (by omega) HV.out.good.texts (HX6.out.rts.kept KD) (HX6.out.rns.kept KD)).mono ?_
      rintro e w8 ⟨ra3, rc3, d3, dc3, xs3, rfl, hT3, hO3, hP3, k8⟩
      have K8 := KD.trans k8
      refine hK.out _ _ (fun _ => HS6.out _ K8) ?_
      clear hK K hHeld
      have hHeld := HS6.out _ K8
      try simp only [Act.put, List.setIfInBounds_toArray, List.set_cons_zero, List.set_cons_succ]
      refine UpTo.tk 5 [6] ?_ hHeld ?_ ?_
      rotate_left
      · intro u hu; (try dsimp only at hu); go_simp; (try with_reducible rfl)
      try simp only [Act.put, List.setIfInBounds_toArray, List.set_cons_zero, List.set_cons_succ]
      have hRr := (HRes.out.kept (K3.trans K6)).kept K8
      have zr := hRr.lt
      have zd := KD.size
      have zx := K6.size
      have zw := K3.size
      have zb := HRes.out.lt
      have KW8 := HKB.out.trans ((K3.trans K6).trans K8)
      have hRg := World.rangeAt_setCells_same w8 (w.heap.size + 1) 0 [.slice ra3 roots.length rc3, .slice d3 T.length dc3, .slice da D.length ac] (there_row hRr)
      have hTz := owns_sets (g := w.heap.size + 1) (by omega) [.slice ra3 roots.length rc3, .slice d3 T.length dc3, .slice da D.length ac] 0 hT3
      have hOz := owns_sets (g := w.heap.size + 1) (by omega) [.slice ra3 roots.length rc3, .slice d3 T.length dc3, .slice da D.length ac] 0 hO3
      have hPz := packed_sets (c := w.heap.size + 1) (fun b h => by omega) [.slice ra3 roots.length rc3, .slice d3 T.length dc3, .slice da D.length ac] 0 hP3
      have hDz := owns_sets (g := w.heap.size + 1) (by omega) [.slice ra3 roots.length rc3, .slice d3 T.length dc3, .slice da D.length ac] 0 (ownsRow_kept' HX6.out.own K8)
      refine UpTo.nx 6 (fun K hK => ?_)
      rw [if_pos (by rfl)]
      refine wp_store_mid 52 _ _ rfl (w.heap.size + 1) 0 #[.slice ra3 roots.length rc3, .slice d3 T.length dc3, .slice da D.length ac] (by rfl) (by rfl) (there_row hRr) (by kernel_rfl) (three_one ..) ?_
      refine hK.out _ _ (fun h => absurd rfl h) ?_
      clear hK K
      try simp only [Act.put]
      refine UpTo.done (by kernel_rfl) ?_
      go_wp2_with fail
      exact bodyPost_ret_cell [.slice ra3 roots.length rc3, .slice d3 T.length dc3, .slice da D.length ac] _ Tryz.results28 rfl hRg Tryz.underlying52 rfl Tryz.xSizeWalk rfl (.inl ⟨⟨HW.out, HY.out⟩, T, D, HV.out.on T D (.stop (by rw [← HNn.out]; exact HRL.out)), ra3, rc3, d3, dc3, xs3, da, ac, rfl, owns_base hTz (by omega), owns_base hOz (by omega), packedX_weak hPz (fun b h => by omega), owns_base hDz (by omega), kept_sets (g := w.heap.size + 1) (by omega) [.slice ra3 roots.length rc3, .slice d3 T.length dc3, .slice da D.length ac] 0 KW8⟩)
    have hnp : 0 < ns.length := by omega
    have hnb : ((ns.length : Int) == 0) = false := by simpa using hn0
    have HNp := hide hnp
    clear hn0 hnp
    obtain ⟨qb, qo, rfl, _, _⟩ := HX6.out.rts 0 (by have := HY.out.1; omega)
    have HOk := HV.out.next (web_acts HW.out) HRL.out HNp.out
    obtain ⟨kk, hkk⟩ : ∃ kk, kk = placeX picks D.length ns.length := ⟨_, rfl⟩
    have hkl : kk < ns.length := by rw [hkk]; exact placeX_lt _ _ HNp.out
    rw [← hkk] at HOk
    obtain ⟨name, hnm⟩ : ∃ name, name = ns.getD kk ByteArray.empty := ⟨_, rfl⟩
    rw [← hnm] at HOk
    obtain ⟨r, hr, hcg, hOn, hpot⟩ := HOk
    obtain ⟨lb, lo, rfl, hlb, hlc⟩ := HLs.out kk hkl
    rw [← hnm] at hlc
    obtain ⟨p, hp⟩ : ∃ p, p = pickX picks D.length := ⟨_, rfl⟩
    have hp0 : 0 ≤ p := by rw [hp]; exact pickX_nn _ _
    have hpm : p.tmod (ns.length : Int) = (kk : Int) := by rw [Int.tmod_eq_emod_of_nonneg hp0, hp, hkk, placeX_int]
    have HPk := hide hp
    have HKk := hide hkk
    have HNm := hide hnm
    have HEr := hide hr
    have HCg := hide hcg
    have HOn := hide hOn
    have HPot := hide hpot
    have hDl : D.length ≤ 1380 := by have h1 := HV.out.fits; have h2 := potL_le23 webl (startL webl roots); omega
    have hnz : (ns.length : Int) ≠ 0 := by have := HNp.out; omega
    have hnz2 : ¬ (ns.length : Int) = 0 := hnz
    have hkl2 : (kk : Int) < (ns.length : Int) := by omega
    clear hp hkk hnm hr hcg hOn hpot
    by_cases hpe : picks.length = 0
    · have hpg : ¬ (0 : Int) < (picks.length : Int) := by omega
      have hpz : p = 0 := by have h := HPk.out; unfold pickX at h; rw [if_pos (List.length_eq_zero_iff.1 hpe)] at h; exact h
      rw [hpz] at hpm
      have HPz := hide hpz
      clear hpe hpz hp0
      go_upto_region 13 with fail
      go_wp2_with fail
      refine (doX_any w6 a cap webl qb qo xc roots xd xe T name r (by omega) (by omega) (web_small HW.out) (web_acts HW.out) hft hrl1 HV.out.good HEr.out HCg.out (hN.kept (HKB.out.trans (K3.trans K6))) HX6.out.rns HX6.out.rts).mono ?_
      rintro e w7 ⟨ra2, rc2, d2, dc2, xs2, rfl, hT2, hO2, hP2, k7⟩
      have hR7 := HX6.out.row.kept k7
      obtain ⟨⟨_, x0⟩, f0⟩ := hR7.row.at (i := 0) (by omega)
      obtain ⟨⟨_, x1⟩, f1⟩ := hR7.row.at (i := 1) (by omega)
      have HT2 := hide hT2
      have HO2 := hide hO2
      have HP2 := hide hP2
      clear hT2 hO2 hP2
      go_upto_region 14 with fail
      obtain ⟨U, hU⟩ : ∃ U, U = (w7.setCell ⟨xb, 0, none⟩ (.slice ra2 roots.length rc2)).setCell ⟨xb, 1, none⟩ (.slice d2 (doL (actsOf webl) T r).length dc2) := ⟨_, rfl⟩
      rw [← hU]
      obtain ⟨u1, _, _, u2, u3⟩ := HX6.out.put k7 (.slice ra2 roots.length rc2) (.slice d2 (doL (actsOf webl) T r).length dc2)
      have hUs : U = w7.setCells xb 0 [.slice ra2 roots.length rc2, .slice d2 (doL (actsOf webl) T r).length dc2] := by rw [hU]; rfl
      rw [← hUs] at u1 u2 u3
      have HUs := hide hUs
      have KU : Kept w3 U := by rw [hUs]; exact kept_sets hxz _ 0 (K6.trans k7)
      have kV : Kept U (U.alloc (.cells #[.string name] 9)) := (Kept.refl _).alloc _
      have HKV := hide kV
      have HOw := hide (ownsRow_kept' u3 kV)
      have KK := hide (KU.trans kV)
      have hbz : xb + 1 ≤ (U.alloc (.cells #[.string name] 9)).heap.size := by rw [World.size_alloc]; have := u1.lt; omega
      have HNw : Hid (∀ j u, ([.string name] : List Value)[j]? = some u → (U.alloc (.cells #[.string name] 9)).cell? ((⟨U.heap.size, 0, none⟩ : Addr).add j) = some u) := fun j u hu => by rw [Addr.add_mid]; exact range_new U #[.string name] 9 j u hu
      have HOne : Hid (∀ u ∈ ([.string name] : List Value), u.oneCell' = true) := fun u hu => by simp only [List.mem_cons, List.not_mem_nil, or_false] at hu; subst hu; rfl
      obtain ⟨ic, hc0, hc1, hc2, hc3⟩ := xInfo_parts Tryz.xInfoStr
      have uz := u1.lt
      clear hU hUs u1 u3 kV KU x0 x1 f0 f1
      go_wp2_with (at_builtin; refine wpList_append_own _ rfl (.tmp 65) (.tmp 67) 25 rfl (xb + 1) 9 ic _ 1 16 Tryz.underlying25 hc0 hc1 hc2 hc3 rfl (by decide) (.slice da D.length ac) D.length (D.map Value.string) rfl HOw.out ⟨U.heap.size, 0, none⟩ 1 1 [.string name] rfl rfl HNw.out HOne.out (by unfold maxLen; omega) (by omega) hbz ?_; intro v' w9 hown2 hgr _; have KP := kept_of_grown KK.out (Nat.le_succ_of_le hxz) HOw.out hgr; have HP := hide hown2; have HGr := hide hgr; have hRw9 := HX6.out.grown k7 (by rw [← HUs.out]; exact HKV.out) hgr; obtain ⟨⟨_, y2⟩, g2⟩ := hRw9.row.at (i := 2) (by omega); have y9 := hRw9.lt; obtain ⟨da2, ac2, rfl⟩ := own_slice hown2; clear hown2 hgr hRw9)
      go_roundg (potL webl (doL (actsOf webl) T r))
      case measure => exact HPot.out
      case rel => exact ⟨doL (actsOf webl) T r, D ++ [name], ra2, rc2, d2, dc2, da2, ac2, Below.setCell KP (p := ⟨xb, 2, none⟩) hxz _, WVar.next HX6.out k7 HT2.out HO2.out HP2.out (by rw [← HUs.out]; exact HKV.out) HGr.out HP.out, rfl, HOn⟩
    obtain ⟨ki, hki⟩ : ∃ ki, ki = D.length % picks.length := ⟨_, rfl⟩
    have hkp : ki < picks.length := by rw [hki]; exact Nat.mod_lt _ (by omega)
    have hdm : (D.length : Int).tmod (picks.length : Int) = (ki : Int) := by rw [Int.tmod_eq_emod_of_nonneg (by omega), hki, Int.natCast_emod]
    obtain ⟨pb, po, rfl, hpb, hpc⟩ := (hP.kept (HKB.out.trans (K3.trans K6))) ki hkp
    obtain ⟨q, hq⟩ : ∃ q, q = picks.getD ki 0 := ⟨_, rfl⟩
    rw [← hq] at hpc
    have hpg : (0 : Int) < (picks.length : Int) := by omega
    have hkp2 : (ki : Int) < (picks.length : Int) := by omega
    have hpn : ¬ (picks.length : Int) = 0 := by omega
    have HPq : Hid (p = if q < 0 then 0 else q) := by
      have h := HPk.out
      unfold pickX at h
      rw [if_neg (fun e => hpe (by rw [e]; rfl)), ← hki, ← hq] at h
      exact h
    clear hki hq hpe hp0
    by_cases hq0 : q < 0
    · have hpz : p = 0 := by have h := HPq.out; rw [if_pos hq0] at h; exact h
      rw [hpz] at hpm
      clear hpz
      go_upto_region 13 with fail
      go_wp2_with fail
      refine (doX_any w6 a cap webl qb qo xc roots xd xe T name r (by omega) (by omega) (web_small HW.out) (web_acts HW.out) hft hrl1 HV.out.good HEr.out HCg.out (hN.kept (HKB.out.trans (K3.trans K6))) HX6.out.rns HX6.out.rts).mono ?_
      rintro e w7 ⟨ra2, rc2, d2, dc2, xs2, rfl, hT2, hO2, hP2, k7⟩
      have hR7 := HX6.out.row.kept k7
      obtain ⟨⟨_, x0⟩, f0⟩ := hR7.row.at (i := 0) (by omega)
      obtain ⟨⟨_, x1⟩, f1⟩ := hR7.row.at (i := 1) (by omega)
      have HT2 := hide hT2
      have HO2 := hide hO2
      have HP2 := hide hP2
      clear hT2 hO2 hP2
      go_upto_region 14 with fail
      obtain ⟨U, hU⟩ : ∃ U, U = (w7.setCell ⟨xb, 0, none⟩ (.slice ra2 roots.length rc2)).setCell ⟨xb, 1, none⟩ (.slice d2 (doL (actsOf webl) T r).length dc2) := ⟨_, rfl⟩
      rw [← hU]
      obtain ⟨u1, _, _, u2, u3⟩ := HX6.out.put k7 (.slice ra2 roots.length rc2) (.slice d2 (doL (actsOf webl) T r).length dc2)
      have hUs : U = w7.setCells xb 0 [.slice ra2 roots.length rc2, .slice d2 (doL (actsOf webl) T r).length dc2] := by rw [hU]; rfl
      rw [← hUs] at u1 u2 u3
      have HUs := hide hUs
      have KU : Kept w3 U := by rw [hUs]; exact kept_sets hxz _ 0 (K6.trans k7)
      have kV : Kept U (U.alloc (.cells #[.string name] 9)) := (Kept.refl _).alloc _
      have HKV := hide kV
      have HOw := hide (ownsRow_kept' u3 kV)
      have KK := hide (KU.trans kV)
      have hbz : xb + 1 ≤ (U.alloc (.cells #[.string name] 9)).heap.size := by rw [World.size_alloc]; have := u1.lt; omega
      have HNw : Hid (∀ j u, ([.string name] : List Value)[j]? = some u → (U.alloc (.cells #[.string name] 9)).cell? ((⟨U.heap.size, 0, none⟩ : Addr).add j) = some u) := fun j u hu => by rw [Addr.add_mid]; exact range_new U #[.string name] 9 j u hu
      have HOne : Hid (∀ u ∈ ([.string name] : List Value), u.oneCell' = true) := fun u hu => by simp only [List.mem_cons, List.not_mem_nil, or_false] at hu; subst hu; rfl
      obtain ⟨ic, hc0, hc1, hc2, hc3⟩ := xInfo_parts Tryz.xInfoStr
      have uz := u1.lt
      clear hU hUs u1 u3 kV KU x0 x1 f0 f1
      go_wp2_with (at_builtin; refine wpList_append_own _ rfl (.tmp 65) (.tmp 67) 25 rfl (xb + 1) 9 ic _ 1 16 Tryz.underlying25 hc0 hc1 hc2 hc3 rfl (by decide) (.slice da D.length ac) D.length (D.map Value.string) rfl HOw.out ⟨U.heap.size, 0, none⟩ 1 1 [.string name] rfl rfl HNw.out HOne.out (by unfold maxLen; omega) (by omega) hbz ?_; intro v' w9 hown2 hgr _; have KP := kept_of_grown KK.out (Nat.le_succ_of_le hxz) HOw.out hgr; have HP := hide hown2; have HGr := hide hgr; have hRw9 := HX6.out.grown k7 (by rw [← HUs.out]; exact HKV.out) hgr; obtain ⟨⟨_, y2⟩, g2⟩ := hRw9.row.at (i := 2) (by omega); have y9 := hRw9.lt; obtain ⟨da2, ac2, rfl⟩ := own_slice hown2; clear hown2 hgr hRw9)
      go_roundg (potL webl (doL (actsOf webl) T r))
      case measure => exact HPot.out
      case rel => exact ⟨doL (actsOf webl) T r, D ++ [name], ra2, rc2, d2, dc2, da2, ac2, Below.setCell KP (p := ⟨xb, 2, none⟩) hxz _, WVar.next HX6.out k7 HT2.out HO2.out HP2.out (by rw [← HUs.out]; exact HKV.out) HGr.out HP.out, rfl, HOn⟩
    · have hpz : p = q := by have h := HPq.out; rw [if_neg hq0] at h; exact h
      rw [hpz] at hpm
      clear hpz
      go_upto_region 13 with fail
      go_wp2_with fail
      refine (doX_any w6 a cap webl qb qo xc roots xd xe T name r (by omega) (by omega) (web_small HW.out) (web_acts HW.out) hft hrl1 HV.out.good HEr.out HCg.out (hN.kept (HKB.out.trans (K3.trans K6))) HX6.out.rns HX6.out.rts).mono ?_
      rintro e w7 ⟨ra2, rc2, d2, dc2, xs2, rfl, hT2, hO2, hP2, k7⟩
      have hR7 := HX6.out.row.kept k7
      obtain ⟨⟨_, x0⟩, f0⟩ := hR7.row.at (i := 0) (by omega)
      obtain ⟨⟨_, x1⟩, f1⟩ := hR7.row.at (i := 1) (by omega)
      have HT2 := hide hT2
      have HO2 := hide hO2
      have HP2 := hide hP2
      clear hT2 hO2 hP2
      go_upto_region 14 with fail
      obtain ⟨U, hU⟩ : ∃ U, U = (w7.setCell ⟨xb, 0, none⟩ (.slice ra2 roots.length rc2)).setCell ⟨xb, 1, none⟩ (.slice d2 (doL (actsOf webl) T r).length dc2) := ⟨_, rfl⟩
      rw [← hU]
      obtain ⟨u1, _, _, u2, u3⟩ := HX6.out.put k7 (.slice ra2 roots.length rc2) (.slice d2 (doL (actsOf webl) T r).length dc2)
      have hUs : U = w7.setCells xb 0 [.slice ra2 roots.length rc2, .slice d2 (doL (actsOf webl) T r).length dc2] := by rw [hU]; rfl
      rw [← hUs] at u1 u2 u3
      have HUs := hide hUs
      have KU : Kept w3 U := by rw [hUs]; exact kept_sets hxz _ 0 (K6.trans k7)
      have kV : Kept U (U.alloc (.cells #[.string name] 9)) := (Kept.refl _).alloc _
      have HKV := hide kV
      have HOw := hide (ownsRow_kept' u3 kV)
      have KK := hide (KU.trans kV)
      have hbz : xb + 1 ≤ (U.alloc (.cells #[.string name] 9)).heap.size := by rw [World.size_alloc]; have := u1.lt; omega
      have HNw : Hid (∀ j u, ([.string name] : List Value)[j]? = some u → (U.alloc (.cells #[.string name] 9)).cell? ((⟨U.heap.size, 0, none⟩ : Addr).add j) = some u) := fun j u hu => by rw [Addr.add_mid]; exact range_new U #[.string name] 9 j u hu
      have HOne : Hid (∀ u ∈ ([.string name] : List Value), u.oneCell' = true) := fun u hu => by simp only [List.mem_cons, List.not_mem_nil, or_false] at hu; subst hu; rfl
      obtain ⟨ic, hc0, hc1, hc2, hc3⟩ := xInfo_parts Tryz.xInfoStr
      have uz := u1.lt
      clear hU hUs u1 u3 kV KU x0 x1 f0 f1
      go_wp2_with (at_builtin; refine wpList_append_own _ rfl (.tmp 65) (.tmp 67) 25 rfl (xb + 1) 9 ic _ 1 16 Tryz.underlying25 hc0 hc1 hc2 hc3 rfl (by decide) (.slice da D.length ac) D.length (D.map Value.string) rfl HOw.out ⟨U.heap.size, 0, none⟩ 1 1 [.string name] rfl rfl HNw.out HOne.out (by unfold maxLen; omega) (by omega) hbz ?_; intro v' w9 hown2 hgr _; have KP := kept_of_grown KK.out (Nat.le_succ_of_le hxz) HOw.out hgr; have HP := hide hown2; have HGr := hide hgr; have hRw9 := HX6.out.grown k7 (by rw [← HUs.out]; exact HKV.out) hgr; obtain ⟨⟨_, y2⟩, g2⟩ := hRw9.row.at (i := 2) (by omega); have y9 := hRw9.lt; obtain ⟨da2, ac2, rfl⟩ := own_slice hown2; clear hown2 hgr hRw9)
      go_roundg (potL webl (doL (actsOf webl) T r))
      case measure => exact HPot.out
      case rel => exact ⟨doL (actsOf webl) T r, D ++ [name], ra2, rc2, d2, dc2, da2, ac2, Below.setCell KP (p := ⟨xb, 2, none⟩) hxz _, WVar.next HX6.out k7 HT2.out HO2.out HP2.out (by rw [← HUs.out]; exact HKV.out) HGr.out HP.out, rfl, HOn⟩
set_option maxHeartbeats 800000 in
theorem pickNo_any (w : World) (pa : Option Addr) (pc : Nat) (picks : List Int) (n : Int) (i : Nat) (hn : n = (i : Int)) (hi : i ≤ 1048576) (hpl : picks.length ≤ 1048576) (_hp64 : ∀ p ∈ picks, In64 p) (hP : Ints w pa picks) :
    Calls Tryz.prog 110 #[.slice pa picks.length pc, .int .i64 n] w fun e w' => e = .returned (.int .i64 (pickX picks i)) ∧ Kept w w' := by
  subst hn
  go_enter Tryz.func110, Tryz.ntmps110
  by_cases hpe : picks.length = 0
  · have hpg : ((picks.length : Int) == 0) = true := by simpa using hpe
    have HZ : Hid (pickX picks i = 0) := by show pickX picks i = 0; unfold pickX; rw [if_pos (List.length_eq_zero_iff.1 hpe)]
    clear hpe
    go_wp2
    go_ret
    exact ⟨by rw [HZ.out]; rfl, Kept.refl _⟩
  obtain ⟨ki, hki⟩ : ∃ ki, ki = i % picks.length := ⟨_, rfl⟩
  have hkp : ki < picks.length := by rw [hki]; exact Nat.mod_lt _ (by omega)
  have hdm : (i : Int).tmod (picks.length : Int) = (ki : Int) := by rw [Int.tmod_eq_emod_of_nonneg (by omega), hki, Int.natCast_emod]
  obtain ⟨pb, po, rfl, hpb, hpc⟩ := hP ki hkp
  obtain ⟨q, hq⟩ : ∃ q, q = picks.getD ki 0 := ⟨_, rfl⟩
  rw [← hq] at hpc
  have hpg : ((picks.length : Int) == 0) = false := by simpa using hpe
  have hkp2 : (ki : Int) < (picks.length : Int) := by omega
  have hpn : ¬ (picks.length : Int) = 0 := by omega
  have HPq : Hid (pickX picks i = if q < 0 then 0 else q) := by
    show pickX picks i = if q < 0 then 0 else q
    unfold pickX
    rw [if_neg (fun e => hpe (by rw [e]; rfl)), ← hki, ← hq]
  clear hki hq hpe
  by_cases hq0 : q < 0
  · have HZ : Hid (pickX picks i = 0) := by show pickX picks i = 0; rw [HPq.out, if_pos hq0]
    go_wp2
    go_ret
    exact ⟨by rw [HZ.out]; rfl, Kept.refl _⟩
  · have HZ : Hid (pickX picks i = q) := by show pickX picks i = q; rw [HPq.out, if_neg hq0]
    go_wp2
    all_goals go_ret
    all_goals first | exact ⟨by rw [HZ.out]; rfl, Kept.refl _⟩ | exact ⟨ret_int (by rw [HZ.out]; omega), Kept.refl _⟩
def IntsIn (w : World) (lo hi : Nat) (a : Option Addr) (l : List Int) : Prop :=
  l = [] ∨ ∃ b, a = some ⟨b, 0, none⟩ ∧ lo ≤ b ∧ b < hi ∧ Row w b l.length ∧ ∀ i, i < l.length → w.cell? ⟨b, i, none⟩ = some (.int .i64 (l.getD i 0))
theorem IntsIn.same {w w' : World} {lo hi : Nat} {a : Option Addr} {l : List Int} (h : IntsIn w lo hi a l) (k : Same lo hi w w') : IntsIn w' lo hi a l := by
  rcases h with h | ⟨b, ha, h1, h2, hr, hc⟩
  · exact .inl h
  · exact .inr ⟨b, ha, h1, h2, k.row h1 h2 hr, fun i hi => by rw [k.cell h1 h2 hr.lt]; exact hc i hi⟩
theorem IntsIn.ints {w : World} {lo hi : Nat} {a : Option Addr} {l : List Int} (h : IntsIn w lo hi a l) : Ints w a l := by
  rcases h with rfl | ⟨b, ha, h1, h2, hr, hc⟩
  · intro i hi
    simp at hi
  · intro i hi
    exact ⟨b, 0, ha, hr.lt, by rw [Nat.zero_add]; exact hc i hi⟩
theorem Tryz.infoInt : (Tryz.prog.info? 3).map (fun i => (i.zero, i.size, i.bytes)) = some (some (.int .i64 0), 1, 8) := by kernel_rfl
theorem toIntS_in (w : World) (a : Option Addr) (cap : Nat) (l : List Int) (hl : l.length ≤ 1048576) (hS : Ints w a l) :
    Calls Tryz.prog 30 #[.slice a l.length cap] w fun e w' => ∃ b, e = .returned (.slice (some ⟨b, 0, none⟩) l.length l.length) ∧ IntsIn w' w.heap.size w'.heap.size (some ⟨b, 0, none⟩) l ∧ Kept w w' := by
  have hmk := run_make_row' (P := Tryz.prog) 50 3 _ _ Tryz.underlying50 Tryz.infoInt rfl .i64 .i64 l.length (by omega) (by omega)
  go_enter Tryz.func30, Tryz.ntmps30
  go_wp2
  clear hmk
  have hrow := World.rowIs_made w (.int .i64 0) l.length 3
  have hkept : Kept w (w.alloc (.cells (madeCells #[.int .i64 0] l.length) 3)) := Below.alloc (Below.refl _ _) (Nat.le_refl _) _
  go_loopw [4] (fun i wr => ∃ k : Nat, k ≤ l.length ∧ i = .int .i64 k ∧ Kept w wr ∧ (∃ f, wr.rowIs w.heap.size 3 l.length f) ∧ ∀ j, j < k → wr.cell? ⟨w.heap.size, j, none⟩ = some (.int .i64 (l.getD j 0))) (fun i _ => l.length - (intOf i).toNat)
  case atStart => exact ⟨0, Nat.zero_le _, rfl, hkept, ⟨_, hrow⟩, fun j hj => absurd hj (Nat.not_lt_zero _)⟩
  case round =>
    obtain ⟨k, hk, rfl, hw, ⟨f, hr⟩, hf⟩ := hrel
    clear hrow hkept
    by_cases hlt : k < l.length
    · obtain ⟨b, o, rfl, hb, hc⟩ := hS.kept hw k hlt
      have hfr := hr.frozen k
      have hold := hr.cell hlt
      have HR := hide hr
      have HF := hide hf
      clear hr hf
      generalize hs : l.getD k 0 = s at *
      have HSs := hide hs
      clear hs
      go_wp2
      go_roundw
      case rel =>
        refine ⟨k + 1, by omega, by go_num, Below.setCell hw (Nat.le_refl _) _, ⟨_, (unhide HR).set k (.int .i64 s)⟩, fun j hj => ?_⟩
        by_cases e : j = k
        · subst e
          rw [World.cell?_setCell_same _ _ _ hold, unhide HSs]
        · rw [World.cell?_setCell_other _ _ _ _ (by simp <;> omega)]
          exact unhide HF j (by omega)
      case measure => simp [intOf]; omega
    · go_wp2
      go_ret
      have : k = l.length := by omega
      subst this
      exact ⟨w.heap.size, rfl, .inr ⟨w.heap.size, rfl, Nat.le_refl _, hr.lt, ⟨_, f, hr⟩, hf⟩, hw⟩
theorem eqIntS_yes (w : World) (a a' : Option Addr) (cap cap' : Nat) (l : List Int) (hl : l.length ≤ maxLen) (hS : Ints w a l) (hS' : Ints w a' l) :
    Calls Tryz.prog 33 #[.slice a l.length cap, .slice a' l.length cap'] w fun e w' => e = .returned (.bool true) ∧ Kept w w' := by
  unfold maxLen at hl
  go_enter Tryz.func33, Tryz.ntmps33
  go_wp2
  go_loopw [5] (fun i wr => ∃ k : Nat, k ≤ l.length ∧ i = .int .i64 k ∧ Kept w wr) (fun i _ => l.length - (intOf i).toNat)
  case atStart => exact ⟨0, Nat.zero_le _, rfl, Kept.refl _⟩
  case round =>
    obtain ⟨k, hk, rfl, hw⟩ := hrel
    by_cases hlt : k < l.length
    · obtain ⟨b, o, rfl, hb, hc⟩ := hS.kept hw k hlt
      obtain ⟨b', o', rfl, hb', hc'⟩ := hS'.kept hw k hlt
      generalize l.getD k 0 = s at *
      go_wp2
      go_region
      all_goals
        go_wp2
        go_roundw
        case rel => exact ⟨k + 1, by omega, by go_num, Below.drew hw⟩
        case measure => simp [intOf]; omega
    · go_wp2
      go_ret
      exact ⟨rfl, hw⟩
set_option maxHeartbeats 800000 in
theorem markIntS_any (w : World) (lo hi : Nat) (a : Option Addr) (cap : Nat) (l : List Int) (k : Nat) (h0 : 0 < k) (h1 : k + l.length ≤ 4611686018427387904) (hS : IntsIn w lo hi a l) :
    Calls Tryz.prog 34 #[.slice a l.length cap, .int .i64 k] w fun e w' => e = .returned (.int .i64 ((k + l.length : Nat) : Int)) ∧ KeptBut lo hi w w' := by
  rcases hS with rfl | ⟨B, rfl, hlo, hhi, hr, hf⟩
  · go_enter Tryz.func34, Tryz.ntmps34
    go_wp2
    go_loopw [1, 5] (fun x i wr => x = .int .i64 k ∧ i = .int .i64 0 ∧ wr = w) (fun _ _ _ => 0)
    case atStart => exact ⟨rfl, rfl, rfl⟩
    case round =>
      obtain ⟨rfl, rfl, rfl⟩ := hrel
      go_wp2
      go_ret
      exact ⟨by simp, KeptBut.refl _ _ _⟩
  · go_enter Tryz.func34, Tryz.ntmps34
    clear hf
    go_wp2
    go_loopw [1, 5] (fun x i wr => ∃ j : Nat, j ≤ l.length ∧ i = .int .i64 j ∧ x = .int .i64 ((k : Int) + j) ∧ KeptBut lo hi w wr ∧ Row wr B l.length) (fun _ i _ => l.length - (intOf i).toNat)
    case atStart => exact ⟨0, Nat.zero_le _, rfl, by simp, KeptBut.refl _ _ _, hr⟩
    case round =>
      obtain ⟨j, hj, rfl, rfl, hw, hr'⟩ := hrel
      clear hr
      have HR := hide hr'
      by_cases hlt : j < l.length
      · have hrl := hr'.lt
        obtain ⟨⟨old, hcell⟩, hfroz⟩ := hr'.at hlt
        clear hr'
        go_wp2
        go_roundw
        case rel => exact ⟨j + 1, by omega, by go_num, by go_num, hw.setCell hlo hhi _, HR.out.set _ rfl _⟩
        case measure => simp [intOf]; omega
      · have : j = l.length := by omega
        subst this
        go_wp2
        go_ret
        exact ⟨ret_int (by omega), hw⟩
end Go.Proofs.YtghipdfemoofhaaGreatDoor
