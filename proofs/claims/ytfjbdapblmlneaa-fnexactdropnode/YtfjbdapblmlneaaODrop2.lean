import Derived.Test.YtfjbdapblmlneaaOWithout
import Derived.Test.YtfjbdapblmlneaaWCheck5
import Derived.Test.YtfjbdapblmlneaaOSpec2

/-
  THE WALK over impl.DropNode.
-/
namespace Go.Proofs.Ytfjbdapblmlneaa
open Go.RowKit

theorem rises_of_code {l : List NodeD} (h : WebCode l 0) : Rises l := by
  have hn : ¬ SomeFalls l := by
    rcases h with ⟨_, e⟩ | ⟨_, _, e⟩ | ⟨_, _, _, e⟩ | ⟨_, _, _, _, e⟩ | ⟨_, _, h3, _, _⟩
    · omega
    · omega
    · omega
    · omega
    · exact h3
  refine rises_of fun i hi => ?_
  cases hq : Op.bytesLess (nameAt l i) (nameAt l (i + 1))
  · exact absurd ⟨i, hi, hq⟩ hn
  · rfl

/-- What DropNode gives: a code, and the nodes. -/
def DropR (l : List NodeD) (name : ByteArray) (c : Int) (r : List NodeD) : Prop :=
  (¬ WebCode l 0 ∧ c = 1 ∧ r = []) ∨ (WebCode l 0 ∧ ¬ NameOk name ∧ c = 2 ∧ r = []) ∨ (WebCode l 0 ∧ NameOk name ∧ (∀ j, j < l.length → nameAt l j ≠ name.toList) ∧ c = 4 ∧ r = []) ∨
  (WebCode l 0 ∧ NameOk name ∧ ∃ p, p < l.length ∧ nameAt l p = name.toList ∧ c = 0 ∧ r = cutOut l p)

theorem DropR.unique {l : List NodeD} {name : ByteArray} {c c' : Int} {r r' : List NodeD} (h : DropR l name c r) (h' : DropR l name c' r') : c = c' ∧ r = r' := by
  rcases h with ⟨h1, rfl, rfl⟩ | ⟨h1, h2, rfl, rfl⟩ | ⟨h1, h2, h3, rfl, rfl⟩ | ⟨h1, h2, p, h3, h4, rfl, rfl⟩ <;>
    rcases h' with ⟨g1, rfl, rfl⟩ | ⟨g1, g2, rfl, rfl⟩ | ⟨g1, g2, g3, rfl, rfl⟩ | ⟨g1, g2, q, g3, g4, rfl, rfl⟩
  · exact ⟨rfl, rfl⟩
  · exact absurd g1 h1
  · exact absurd g1 h1
  · exact absurd g1 h1
  · exact absurd h1 g1
  · exact ⟨rfl, rfl⟩
  · exact absurd g2 h2
  · exact absurd g2 h2
  · exact absurd h1 g1
  · exact absurd h2 g2
  · exact ⟨rfl, rfl⟩
  · exact absurd g4 (h3 q g3)
  · exact absurd h1 g1
  · exact absurd h2 g2
  · exact absurd h4 (g3 p h3)
  · have hr := rises_of_code h1
    have : p = q := by
      by_cases e : p = q
      · exact e
      · rcases Nat.lt_or_gt_of_ne e with hlt | hlt
        · have := hr p q hlt g3
          rw [h4, g4, less_irrefl] at this
          cases this
        · have := hr q p hlt h3
          rw [h4, g4, less_irrefl] at this
          cases this
    subst this
    exact ⟨rfl, rfl⟩

/-- What the walk ends with. -/
def DropEnd (l : List NodeD) (name : ByteArray) (w w' : World) (e : Ending) : Prop :=
  ∃ a cap c r, e = .returned (.tuple #[.agg #[.slice a r.length cap], .int .i64 c]) ∧ DropR l name c r ∧ NodesIn w' w.heap.size w'.heap.size a r ∧ Kept w w'

theorem DropEnd.none {l : List NodeD} {name : ByteArray} {w w' : World} {e : Ending} (c : Int) (he : e = .returned (.tuple #[.agg #[.slice none 0 0], .int .i64 c])) (h : DropR l name c []) (k : Kept w w') : DropEnd l name w w' e := ⟨Option.none, 0, c, [], he, h, .inl rfl, k⟩

set_option maxRecDepth 100000 in
set_option maxHeartbeats 1600000 in
theorem implDrop_any (w : World) (b o cap : Nat) (l : List NodeD) (name : ByteArray) (hn : name.size ≤ maxLen) (hl : l.length ≤ 1048576) (hcap : l.length ≤ cap) (hf : ∀ s ∈ l, s.Fits) (hs : ∀ s ∈ l, s.Small) (hS : Nodes w (some ⟨b, o, none⟩) l) :
    Calls Try.prog 33 #[.agg #[.slice (some ⟨b, o, none⟩) l.length cap], .string name] w fun e w' => DropEnd l name w w' e := by
  have hl' : l.length ≤ maxLen := by unfold maxLen; omega
  go_enter Try.func33, Try.ntmps33
  go_wp2_with fail
  refine (implCheckWeb_any ascSaid _ (some ⟨b, o, none⟩) cap l hl' hf (hS.kept (by repeat (first | apply Kept.alloc | exact Kept.refl _)))).mono ?_
  rintro e w1 ⟨⟨c, rfl, hc⟩, k1⟩
  have K1 : Kept w w1 := Kept.trans (by repeat (first | apply Kept.alloc | exact Kept.refl _)) k1
  have z1 := k1.size
  simp only [World.size_alloc] at z1
  have q0 : w1.cell? ⟨w.heap.size, 0, none⟩ = some (.slice (some ⟨b, o, none⟩) l.length cap) := by rw [k1.cell (by simp <;> omega)]; simp
  have hrow1 : Row w1 (w.heap.size + 1) 1 := Row.kept (by have := Row.made (w.alloc (.cells #[.slice (some ⟨b, o, none⟩) l.length cap] 50)) #[.slice none 0 0] 50; simpa using this) k1
  obtain ⟨⟨_, x0⟩, g0⟩ := hrow1.at (i := 0) (by omega)
  have HR1 := hide hrow1
  have HC := hide hc
  clear hrow1 hc k1
  by_cases hc0 : c = 0
  · subst hc0
    have hw1 : w.heap.size < w1.heap.size := by omega
    have hw2 : w.heap.size + 1 < w1.heap.size := by omega
    go_wp2_with fail
    refine (validName_any _ name hn).mono ?_
    rintro e w2 ⟨hsay, k2⟩
    have q2 := (k2.cell (o := 0) hw1).trans q0
    have HR2 := hide (HR1.out.kept k2)
    have K2 := K1.trans k2
    have z2 := k2.size
    obtain ⟨⟨_, y0⟩, e0⟩ := HR2.out.at (i := 0) (by omega)
    clear q0 x0 g0 HR1 K1 k2
    rcases hsay.cases with ⟨rfl, hyes⟩ | ⟨rfl, hno⟩
    · have HY := hide hyes
      clear hyes hsay
      go_wp2_with fail
      refine (listOf_any _ (some ⟨b, o, none⟩) l.length cap).mono ?_
      rintro e w3 ⟨rfl, k3⟩
      have K3 := K2.trans k3
      go_wp2_with fail
      refine (without_any _ b o cap l name hl hcap (rises_of_code HC.out) (hS.kept K3)).mono ?_
      rintro e w4 ⟨htook, k4⟩
      have k24 := k3.trans k4
      have K4 := K3.trans k4
      have HR4 := hide (HR2.out.kept k24)
      have z4 := k24.size
      obtain ⟨⟨_, v0⟩, u0⟩ := HR4.out.at (i := 0) (by omega)
      clear q2 y0 e0 HR2 K2 K3 k3 k4 k24
      rcases htook with ⟨a, n, cap', rfl, hnone⟩ | ⟨a, cap', p, rfl, hp, hpn, hN⟩
      · have HN := hide hnone
        clear hnone
        have hz4 : w.heap.size + 1 < w4.heap.size := by omega
        go_wp2
        have hR0 := World.rangeAt_setCells_same w4 (w.heap.size + 1) 0 [.slice none 0 0] (HR4.out.there (o := 0) (m := 1) (Nat.le_refl _))
        have hR : ((w4.setCell ⟨w.heap.size + 1, 0, none⟩ (.slice none 0 0)).alloc (.cells #[.slice a n cap', .func (.func 70) #[] #[]] 98)).rangeAt (w.heap.size + 1) 0 [.slice none 0 0] := Kept.range ((Kept.refl _).alloc _) (by rw [size_setCell]; omega) hR0
        refine bodyPost_ret_cell2 [.slice none 0 0] _ (.int .i64 4) Try.results33 rfl hR Try.underlying50 rfl Try.sizeWeb rfl rfl (DropEnd.none 4 rfl (.inr (.inr (.inl ⟨HC.out, HY.out, HN.out, rfl, rfl⟩))) ?_)
        exact (K4.setCell (by simp) _).alloc _
      · have HP := hide (And.intro hp hpn)
        have hlen : (cutOut l p).length ≤ 1048576 := by unfold cutOut; rw [List.length_append, List.length_take, List.length_drop]; omega
        have hsm : ∀ s ∈ cutOut l p, s.Small := fun s hs' => by
          rcases List.mem_append.1 hs' with h | h
          · exact hs s (List.mem_of_mem_take h)
          · exact hs s (List.mem_of_mem_drop h)
        have HSm := hide hsm
        have HN := hide hN
        clear hp hpn hN hsm
        go_wp2_with fail
        refine (webOf_in _ a cap' (cutOut l p) hlen HSm.out (HN.out.kept (by repeat (first | apply Kept.alloc | exact Kept.refl _)))).mono ?_
        rintro e w5 ⟨a5, rfl, hN5, k5⟩
        have k45 : Kept w4 w5 := Kept.trans (by repeat (first | apply Kept.alloc | exact Kept.refl _)) k5
        have z5 := k5.size
        simp only [World.size_alloc] at z5 hN5
        have HR5 := hide (HR4.out.kept k45)
        have K5 := K4.trans k45
        obtain ⟨⟨_, t0⟩, s0⟩ := HR5.out.at (i := 0) (by omega)
        have HN5 := hide hN5
        clear v0 u0 HR4 K4 k45 k5 hN5 HN HSm
        go_wp2
        have hR := World.rangeAt_setCells_same w5 (w.heap.size + 1) 0 [.slice a5 (cutOut l p).length (cutOut l p).length] (HR5.out.there (o := 0) (m := 1) (Nat.le_refl _))
        refine bodyPost_ret_cell2 [.slice a5 (cutOut l p).length (cutOut l p).length] _ (.int .i64 0) Try.results33 rfl hR Try.underlying50 rfl Try.sizeWeb rfl rfl ⟨a5, _, 0, cutOut l p, rfl, .inr (.inr (.inr ⟨HC.out, HY.out, p, HP.out.1, HP.out.2, rfl, rfl⟩)), NodesIn.mono (lo := w4.heap.size + 1) (hi := w5.heap.size) ?_ (by omega) (by simp), ?_⟩
        · repeat (first | (refine NodesIn.setCell ?_ (by simp <;> omega) _) | exact HN5.out)
        · repeat (first | (refine Kept.setCell ?_ (by simp <;> omega) _) | exact K5)
    · have HY := hide hno
      clear hno hsay
      go_wp2
      have hR := World.rangeAt_setCells_same w2 (w.heap.size + 1) 0 [.slice none 0 0] (HR2.out.there (o := 0) (m := 1) (Nat.le_refl _))
      refine bodyPost_ret_cell2 [.slice none 0 0] _ (.int .i64 2) Try.results33 rfl hR Try.underlying50 rfl Try.sizeWeb rfl rfl (DropEnd.none 2 rfl (.inr (.inl ⟨HC.out, HY.out, rfl, rfl⟩)) ?_)
      repeat (first | (refine Kept.setCell ?_ (by simp <;> omega) _) | exact K2)
  · have hcb : (c == 0) = false := by simpa using hc0
    go_wp2
    have hR := World.rangeAt_setCells_same w1 (w.heap.size + 1) 0 [.slice none 0 0] (HR1.out.there (o := 0) (m := 1) (Nat.le_refl _))
    refine bodyPost_ret_cell2 [.slice none 0 0] _ (.int .i64 1) Try.results33 rfl hR Try.underlying50 rfl Try.sizeWeb rfl rfl (DropEnd.none 1 rfl (.inl ⟨fun h => hc0 (HC.out.unique h), rfl, rfl⟩) ?_)
    repeat (first | (refine Kept.setCell ?_ (by simp <;> omega) _) | exact K1)

end Go.Proofs.Ytfjbdapblmlneaa

/-
  WALKS: spec.l2At, spec.DropNode.
-/
namespace Go.Proofs.Ytfjbdapblmlneaa
open Go.RowKit

theorem rises_only {l : List NodeD} (hr : Rises l) {p j : Nat} (hp : p < l.length) (hj : j < l.length) (e : nameAt l j = nameAt l p) : j = p := by
  by_cases h : j = p
  · exact h
  · rcases Nat.lt_or_gt_of_ne h with hlt | hlt
    · have := hr j p hlt hp
      rw [e, less_irrefl] at this
      cases this
    · have := hr p j hlt hj
      rw [e, less_irrefl] at this
      cases this

theorem filter_cut {l : List NodeD} (hr : Rises l) {key : List UInt8} {p : Nat} (hp : p < l.length) (e : nameAt l p = key) : l.filter (otherN key) = cutOut l p := by
  have hget : ∀ j (hj : j < l.length), j ≠ p → otherN key l[j] = true := fun j hj hne => by
    have hn : nameAt l j = l[j].name.toList := by unfold nameAt; simp [List.getD, hj]
    simp only [otherN, Bool.not_eq_true', beq_eq_false_iff_ne]
    intro h
    exact hne (rises_only hr hp hj (by rw [hn, h, e]))
  have hpn : otherN key l[p] = false := by
    have hn : nameAt l p = l[p].name.toList := by unfold nameAt; simp [List.getD, hp]
    simp [otherN, ← hn, e]
  have hsplit : l = l.take p ++ (l[p] :: l.drop (p + 1)) := by
    rw [← List.drop_eq_getElem_cons hp, List.take_append_drop]
  have h1 : (l.take p).filter (otherN key) = l.take p := List.filter_eq_self.2 fun d hd => by
    obtain ⟨i, hi, rfl⟩ := List.getElem_of_mem hd
    rw [List.length_take] at hi
    rw [List.getElem_take]
    exact hget i (by omega) (by omega)
  have h2 : (l.drop (p + 1)).filter (otherN key) = l.drop (p + 1) := List.filter_eq_self.2 fun d hd => by
    obtain ⟨i, hi, rfl⟩ := List.getElem_of_mem hd
    rw [List.length_drop] at hi
    rw [List.getElem_drop]
    exact hget _ (by omega) (by omega)
  unfold cutOut
  conv => lhs; rw [hsplit]
  rw [List.filter_append, List.filter_cons_of_neg (by rw [hpn]; simp), h1, h2]

/-- The name is there. -/
def HasName (l : List NodeD) (key : List UInt8) : Prop := ∃ j, j < l.length ∧ nameAt l j = key

set_option maxHeartbeats 800000 in
theorem l2At_any (w : World) (a : Option Addr) (cap : Nat) (l : List NodeD) (key : ByteArray) (hl : l.length ≤ 1048576) (hS : Nodes w a l) :
    Calls Try.prog 61 #[.agg #[.slice a l.length cap], .string key] w fun e w' => (∃ r, e = .returned (.int .i64 r) ∧ (0 ≤ r ↔ HasName l key.toList)) ∧ Kept w w' := by
  have k0 : Kept w (w.alloc (.cells #[.slice a l.length cap] 50)) := (Kept.refl _).alloc _
  go_enter Try.func61, Try.ntmps61
  go_wp2
  go_loop [5] (fun i => ∃ k : Nat, k ≤ l.length ∧ i = .int .i64 k ∧ ∀ j, j < k → nameAt l j ≠ key.toList) (fun i => l.length - (intOf i).toNat)
  case atStart => exact ⟨0, Nat.zero_le _, rfl, fun j hj => absurd hj (Nat.not_lt_zero _)⟩
  case round =>
    obtain ⟨k, hk, rfl, hg⟩ := hrel
    have HG := hide hg
    clear hg
    by_cases hlt : k < l.length
    · obtain ⟨b, o, cs, rfl, hb, hc, aa, ca, rfl, hA⟩ := (hS.kept k0) k hlt
      obtain ⟨d, hd⟩ : ∃ d, d = l.getD k NodeD.zero := ⟨_, rfl⟩
      rw [← hd] at hc
      have HN : Hid (nameAt l k = d.name.toList) := by show _ = _; unfold nameAt; rw [← hd]
      clear hd hA
      have c0 := hc 0 _ rfl
      rw [Nat.add_zero] at c0
      clear hc
      cases hne : (d.name.toList == key.toList)
      · go_wp2
        go_round
        case rel =>
          refine ⟨k + 1, by omega, by go_num, fun j hj => ?_⟩
          by_cases e : j = k
          · subst e; rw [HN.out]; simpa using hne
          · exact HG.out j (by omega)
        case measure => simp [intOf]; omega
      · go_wp2
        go_ret
        exact ⟨⟨k, rfl, ⟨fun _ => ⟨k, hlt, by rw [HN.out]; simpa using hne⟩, fun _ => by omega⟩⟩, k0⟩
    · go_wp2
      go_ret
      exact ⟨⟨-1, rfl, ⟨fun h => by omega, fun ⟨j, hj, e⟩ => absurd e (HG.out j (by omega))⟩⟩, k0⟩

/-- What the specification's walk ends with. -/
def DropEndS (l : List NodeD) (name : ByteArray) (w w' : World) (e : Ending) : Prop :=
  ∃ a cap c r, e = .returned (.tuple #[.agg #[.slice a r.length cap], .int .i64 c]) ∧ DropR l name c r ∧ Nodes w' a r ∧ Kept w w'
theorem DropEndS.none {l : List NodeD} {name : ByteArray} {w w' : World} {e : Ending} (c : Int) (he : e = .returned (.tuple #[.agg #[.slice none 0 0], .int .i64 c])) (h : DropR l name c []) (k : Kept w w') : DropEndS l name w w' e := ⟨Option.none, 0, c, [], he, h, fun i hi => by simp at hi, k⟩

set_option maxRecDepth 100000 in
set_option maxHeartbeats 1600000 in
theorem specDrop_any (hW : Hid L2WSaid) (w : World) (B cap : Nat) (l : List NodeD) (name : ByteArray) (hn : name.size ≤ maxLen) (hl : l.length ≤ 1048576) (hf : ∀ s ∈ l, s.Fits) (hs : ∀ d ∈ l, d.steps.length ≤ 1048576 ∧ ∀ s ∈ d.steps, s.asks.length ≤ 1048576 ∧ s.cases.length ≤ 1048576) (hS : NodesNew w B l) :
    Calls Try.prog 32 #[.agg #[.slice (some ⟨B, 0, none⟩) l.length cap], .string name] w fun e w' => DropEndS l name w w' e := by
  have hl' : l.length ≤ maxLen := by unfold maxLen; omega
  go_enter Try.func32, Try.ntmps32
  go_wp2_with fail
  refine (specCheckWeb_any _ (some ⟨B, 0, none⟩) cap l hl' hf (hS.nodes.kept (by repeat (first | apply Kept.alloc | exact Kept.refl _)))).mono ?_
  rintro e w1 ⟨⟨c, rfl, hc⟩, k1⟩
  have K1 : Kept w w1 := Kept.trans (by repeat (first | apply Kept.alloc | exact Kept.refl _)) k1
  have z1 := k1.size
  simp only [World.size_alloc] at z1
  have q0 : w1.cell? ⟨w.heap.size, 0, none⟩ = some (.slice (some ⟨B, 0, none⟩) l.length cap) := by rw [k1.cell (by simp <;> omega)]; simp
  have hrow1 : RowT w1 (w.heap.size + 1) 50 1 := RowT.kept (by have := RowT.made (w.alloc (.cells #[.slice (some ⟨B, 0, none⟩) l.length cap] 50)) #[.slice none 0 0] 50; simpa using this) k1
  obtain ⟨⟨_, x0⟩, g0⟩ := hrow1.row.at (i := 0) (by omega)
  have HR1 := hide hrow1
  have HC := hide hc
  clear hrow1 hc k1
  by_cases hc0 : c = 0
  · subst hc0
    have hw1 : w.heap.size < w1.heap.size := by omega
    have hw2 : w.heap.size + 1 < w1.heap.size := by omega
    go_wp2_with fail
    refine (l1NameOk_any _ name hn).mono ?_
    rintro e w2 ⟨hsay, rfl⟩
    rcases hsay.cases with ⟨rfl, hyes⟩ | ⟨rfl, hno⟩
    · have HY := hide hyes
      clear hyes hsay
      go_wp2_with fail
      refine (l2At_any _ (some ⟨B, 0, none⟩) cap l name hl (hS.nodes.kept K1)).mono ?_
      rintro e w3 ⟨⟨r, rfl, hr⟩, k3⟩
      have q3 := (k3.cell (o := 0) hw1).trans q0
      have HR3 := hide (HR1.out.kept k3)
      have K3 := K1.trans k3
      have z3 := k3.size
      obtain ⟨⟨_, y0⟩, e0⟩ := HR3.out.row.at (i := 0) (by omega)
      have HRr := hide hr
      clear q0 x0 g0 HR1 K1 k3 hr
      by_cases h0 : r < 0
      · go_wp2
        have hR := World.rangeAt_setCells_same w3 (w.heap.size + 1) 0 [.slice none 0 0] (HR3.out.row.there (o := 0) (m := 1) (Nat.le_refl _))
        refine bodyPost_ret_cell2 [.slice none 0 0] _ (.int .i64 4) Try.results32 rfl hR Try.underlying50 rfl Try.sizeWeb rfl rfl (DropEndS.none 4 rfl (.inr (.inr (.inl ⟨HC.out, HY.out, fun j hj e => ?_, rfl, rfl⟩))) ?_)
        · have := HRr.out.2 ⟨j, hj, e⟩
          omega
        · repeat (first | (refine Kept.setCell ?_ (by simp <;> omega) _) | exact K3)
      · have hr0 : 0 ≤ r := by omega
        obtain ⟨p, hp, hpe⟩ := HRr.out.1 hr0
        have HFc := hide (filter_cut (rises_of_code HC.out) hp hpe)
        have HPp := hide (And.intro hp hpe)
        clear hp hpe HRr
        go_wp2_with fail
        refine (unhide hW _ B cap l name hl hs (hS.kept K3)).mono ?_
        rintro e w4 ⟨a4, c4, xs, base, rfl, hba, hO4, hN4, k4⟩
        rw [HFc.out] at hO4 hN4 ⊢
        have HO4 := hide hO4
        clear hO4
        have K4 := K3.trans k4
        have HR4 := hide (HR3.out.kept k4)
        have z4 := k4.size
        obtain ⟨⟨_, v0⟩, u0⟩ := HR4.out.row.at (i := 0) (by omega)
        have HN4 := hide hN4
        clear q3 y0 e0 HR3 K3 hN4
        go_wp2
        have hR := World.rangeAt_setCells_same w4 (w.heap.size + 1) 0 [.slice a4 (cutOut l p).length c4] (HR4.out.row.there (o := 0) (m := 1) (Nat.le_refl _))
        have hO := owns_set HO4.out (p := ⟨w.heap.size + 1, 0, none⟩) (by simp <;> omega) (.slice a4 (cutOut l p).length c4)
        have hPk := HN4.out.same (HR4.out.same (o := 0) (.slice a4 (cutOut l p).length c4)) (by decide) (by decide) (by decide)
        obtain ⟨a5, c5, ev, hN5⟩ := PackedN.nodes hO hPk
        simp only [Value.slice.injEq, true_and] at ev
        obtain ⟨rfl, rfl⟩ := ev
        exact bodyPost_ret_cell2 [.slice a4 (cutOut l p).length c4] _ (.int .i64 0) Try.results32 rfl hR Try.underlying50 rfl Try.sizeWeb rfl rfl ⟨a4, c4, 0, cutOut l p, rfl, .inr (.inr (.inr ⟨HC.out, HY.out, p, HPp.out.1, HPp.out.2, rfl, rfl⟩)), hN5, K4.setCell (by simp) _⟩
    · have HY := hide hno
      clear hno hsay
      go_wp2
      have hR := World.rangeAt_setCells_same w2 (w.heap.size + 1) 0 [.slice none 0 0] (HR1.out.row.there (o := 0) (m := 1) (Nat.le_refl _))
      refine bodyPost_ret_cell2 [.slice none 0 0] _ (.int .i64 2) Try.results32 rfl hR Try.underlying50 rfl Try.sizeWeb rfl rfl (DropEndS.none 2 rfl (.inr (.inl ⟨HC.out, HY.out, rfl, rfl⟩)) ?_)
      repeat (first | (refine Kept.setCell ?_ (by simp <;> omega) _) | exact K1)
  · have hcb : (c == 0) = false := by simpa using hc0
    go_wp2
    have hR := World.rangeAt_setCells_same w1 (w.heap.size + 1) 0 [.slice none 0 0] (HR1.out.row.there (o := 0) (m := 1) (Nat.le_refl _))
    refine bodyPost_ret_cell2 [.slice none 0 0] _ (.int .i64 1) Try.results32 rfl hR Try.underlying50 rfl Try.sizeWeb rfl rfl (DropEndS.none 1 rfl (.inl ⟨fun h => hc0 (HC.out.unique h), rfl, rfl⟩) ?_)
    repeat (first | (refine Kept.setCell ?_ (by simp <;> omega) _) | exact K1)

end Go.Proofs.Ytfjbdapblmlneaa
