import Derived.Test.YtfjbdapblmlneaaOPut1
import Derived.Test.YtfjbdapblmlneaaOPutS
import Derived.Test.YtfjbdapblmlneaaODrop3

/-
  THE WALK over laws.FnExactPutNode.
-/
namespace Go.Proofs.Ytfjbdapblmlneaa
open Go.RowKit

/-- What the purse pays for of a node. -/
theorem smallD_of {d : NodeD} {n : Nat} (h : szNodeD d ≤ n) (hn : n ≤ 1048576) : d.Small ∧ d.steps.length ≤ 1048576 ∧ (∀ s ∈ d.steps, s.asks.length ≤ 1048576 ∧ s.cases.length ≤ 1048576) ∧ (d.steps.map cntStep).sum ≤ 8388608 := by
  have h2 : szNodeD d = d.name.size + szSteps d.steps := rfl
  have h3 : szSteps d.steps = d.steps.length + (d.steps.map szStepD).sum := rfl
  have h4 := smallS_of (l := d.steps) (n := n) (by omega) hn
  have h5 := cntSteps_le d.steps
  exact ⟨⟨by omega, by omega, h4⟩, by omega, fun s hs => by
    have h6 := le_sum szStepD hs
    have h7 : szStepD s = (s.asks.length + (s.asks.map (·.size)).sum) + (s.cases.length + (s.cases.map (·.text.size)).sum) + s.give.size := rfl
    omega, by omega⟩

theorem toNode_lit (w : World) (d : NodeD) (a : Option Addr) (cap : Nat) (hl : d.steps.length ≤ 1048576) (hs : ∀ s ∈ d.steps, s.asks.length ≤ 1048576 ∧ s.cases.length ≤ 1048576) (hS : Steps w a d.steps) :
    Calls Try.prog 26 #[.agg #[.string d.name, .int .i64 d.cost, .slice a d.steps.length cap]] w fun e w' => ∃ b, e = .returned (.agg #[.string d.name, .int .i64 d.cost, .slice (some ⟨b, 0, none⟩) d.steps.length d.steps.length]) ∧ StepsNew w' b d.steps ∧ Kept w w' ∧ w.heap.size ≤ b := toNode_any w d a cap hl hs hS
theorem toNodeIn_lit (w : World) (d : NodeD) (a : Option Addr) (cap : Nat) (hl : d.steps.length ≤ 1048576) (hs : ∀ s ∈ d.steps, s.asks.length ≤ 1048576 ∧ s.cases.length ≤ 1048576) (hS : Steps w a d.steps) :
    Calls Try.prog 26 #[.agg #[.string d.name, .int .i64 d.cost, .slice a d.steps.length cap]] w fun e w' => ∃ b, e = .returned (.agg #[.string d.name, .int .i64 d.cost, .slice (some ⟨b, 0, none⟩) d.steps.length d.steps.length]) ∧ StepsIn w' w.heap.size w'.heap.size (some ⟨b, 0, none⟩) d.steps ∧ Kept w w' := toNode_in w d a cap hl hs hS

/-- What the specification answered, in variables of the law. -/
def LawAns (l : List NodeD) (d : NodeD) (w1 : World) (s6 s7 : Value) (wx : World) : Prop :=
  ∃ ob a3 c3 cc r, s6 = .pointer (some ⟨ob, 0, none⟩) ∧ s7 = .int .i64 cc ∧ w1.heap.size ≤ ob ∧ ob < wx.heap.size ∧ wx.cell? ⟨ob, 0, none⟩ = some (.slice a3 r.length c3) ∧ PutR l d cc r ∧ Nodes wx a3 r ∧ Kept w1 wx

theorem lawAns_late {l r : List NodeD} {d : NodeD} {w1 w4 : World} {a4 : Option Addr} {c4 base : Nat} {cc : Int} {xs : List Value} (k : Kept w1 w4) (hR : PutR l d cc r) (hO : w4.ownsRow base 60 3 (.slice a4 r.length c4) r.length xs) (hP : PackedN w4 xs r) :
    LawAns l d w1 (.pointer (some ⟨w4.heap.size, 0, none⟩)) (.int .i64 cc) (w4.alloc (.cells #[.slice a4 r.length c4] 50)) := by
  obtain ⟨a9, c9, ev, hN⟩ := PackedN.nodes hO hP
  simp only [Value.slice.injEq, true_and] at ev
  obtain ⟨rfl, rfl⟩ := ev
  exact ⟨_, a4, c4, cc, r, rfl, rfl, k.size, by simp, by simp, hR, hN.kept ((Kept.refl _).alloc _), k.alloc _⟩
theorem lawAns_early {l r : List NodeD} {d : NodeD} {w1 w4 : World} {a4 : Option Addr} {c4 base ob : Nat} {cc : Int} {xs : List Value} (k : Kept w1 w4) (hR : PutR l d cc r) (hO : w4.ownsRow base 60 3 (.slice a4 r.length c4) r.length xs) (hP : PackedN w4 xs r) (hrow : RowT w4 ob 50 1) (h1 : w1.heap.size ≤ ob) (h2 : ob < base) :
    LawAns l d w1 (.pointer (some ⟨ob, 0, none⟩)) (.int .i64 cc) (w4.setCell ⟨ob, 0, none⟩ (.slice a4 r.length c4)) := by
  obtain ⟨a9, c9, ev, hN⟩ := PackedN.nodes (owns_set hO (p := ⟨ob, 0, none⟩) h2 (.slice a4 r.length c4)) (hP.same (hrow.same (o := 0) (.slice a4 r.length c4)) (by decide) (by decide) (by decide))
  simp only [Value.slice.injEq, true_and] at ev
  obtain ⟨rfl, rfl⟩ := ev
  exact ⟨_, a4, c4, cc, r, rfl, rfl, h1, by rw [size_setCell]; exact hrow.lt, set_hit hrow.row (by omega) _, hR, hN, k.setCell h1 _⟩

theorem lawAns_lateI {l r : List NodeD} {d : NodeD} {w1 w4 : World} {a4 : Option Addr} {c4 lo hi : Nat} {cc : Int} (k : Kept w1 w4) (hR : PutR l d cc r) (hN : NodesIn w4 lo hi a4 r) :
    LawAns l d w1 (.pointer (some ⟨w4.heap.size, 0, none⟩)) (.int .i64 cc) (w4.alloc (.cells #[.slice a4 r.length c4] 50)) :=
  ⟨_, a4, c4, cc, r, rfl, rfl, k.size, by simp, by simp, hR, hN.nodes.kept ((Kept.refl _).alloc _), k.alloc _⟩
theorem lawAns_earlyI {l r : List NodeD} {d : NodeD} {w1 w4 : World} {a4 : Option Addr} {c4 lo hi ob : Nat} {cc : Int} (k : Kept w1 w4) (hR : PutR l d cc r) (hN : NodesIn w4 lo hi a4 r) (hrow : RowT w4 ob 50 1) (h1 : w1.heap.size ≤ ob) (h2 : ob < lo) :
    LawAns l d w1 (.pointer (some ⟨ob, 0, none⟩)) (.int .i64 cc) (w4.setCell ⟨ob, 0, none⟩ (.slice a4 r.length c4)) :=
  ⟨_, a4, c4, cc, r, rfl, rfl, h1, by rw [size_setCell]; exact hrow.lt, set_hit hrow.row (by omega) _, hR, (NodesIn.setCell hN (p := ⟨ob, 0, none⟩) h2 (.slice a4 r.length c4)).nodes, k.setCell h1 _⟩

set_option maxRecDepth 100000 in
set_option maxHeartbeats 6400000 in
theorem lawPut (hW : Hid L2WSaid) (w : World) (a : Option Addr) (cap : Nat) (l : List NodeD) (d : NodeD) (an : Option Addr) (cn : Nat) (hl : l.length ≤ maxLen) (hs : ∀ s ∈ l, s.Fits) (hd : d.Fits) (hS : Nodes w a l) (hA : Steps w an d.steps) :
    Calls Try.prog 6 #[.agg #[.slice a l.length cap], .agg #[.string d.name, .int .i64 d.cost, .slice an d.steps.length cn]] w fun e w' => e = .returned (.bool true) ∧ Kept w w' := by
  have k0 : Kept w ((w.alloc (.cells #[.slice a l.length cap] 45)).alloc (.cells #[.string d.name, .int .i64 d.cost, .slice an d.steps.length cn] 55)) := ((Kept.refl _).alloc _).alloc _
  have HBox : Hid (∀ w', Kept ((w.alloc (.cells #[.slice a l.length cap] 45)).alloc (.cells #[.string d.name, .int .i64 d.cost, .slice an d.steps.length cn] 55)) w' → w'.cell? ⟨w.heap.size, 0, none⟩ = some (.slice a l.length cap) ∧ w'.cell? ⟨w.heap.size + 1, 0, none⟩ = some (.string d.name) ∧ w'.cell? ⟨w.heap.size + 1, 1, none⟩ = some (.int .i64 d.cost) ∧ w'.cell? ⟨w.heap.size + 1, 2, none⟩ = some (.slice an d.steps.length cn)) := fun w' kk => by
    have a1 := boxCell (w := w) (Kept.trans ((Kept.refl _).alloc _) kk)
    have a2 := boxCells3 (w := w.alloc (.cells #[.slice a l.length cap] 45)) kk
    simp only [World.size_alloc] at a2
    exact ⟨a1, a2⟩
  go_enter Try.func6, Try.ntmps6
  go_wp2_with fail
  refine (szWeb_any _ a cap l 1048576 hl hs (hS.kept k0) (by omega) (by omega)).mono ?_
  rintro e w1 ⟨rfl, K1⟩
  by_cases hle : (szNodesD l : Int) ≤ 1048576
  · rw [szL_pos hle]
    have hle' : szNodesD l ≤ 1048576 := by omega
    obtain ⟨b0, b1, b2, b3⟩ := HBox.out _ K1
    obtain ⟨lf, hlf⟩ : ∃ lf : Int, lf = 1048576 - (szNodesD l : Int) := ⟨_, rfl⟩
    rw [← hlf]
    have hlf0 : 0 ≤ lf := by omega
    have hlf1 : lf ≤ 1048576 := by omega
    clear hlf
    go_wp2_with fail
    refine (szNode_any _ d an cn lf hd ((hA.kept k0).kept K1) hlf0 hlf1).mono ?_
    rintro e w2 ⟨rfl, k2⟩
    have K2 := K1.trans k2
    clear b0 b1 b2 b3 K1 k2
    by_cases hld : (szNodeD d : Int) ≤ lf
    · rw [szL_pos hld]
      obtain ⟨lg, hlg⟩ : ∃ lg : Int, lg = lf - (szNodeD d : Int) := ⟨_, rfl⟩
      rw [← hlg]
      have hlg0 : 0 ≤ lg := by omega
      clear hlg
      obtain ⟨hl2, hs2⟩ := small_of_szN (l := l) (n := 1048576) hle'
      have hsm := smallN_of hle' (Nat.le_refl _)
      have hcnt := cntNodes_le l
      obtain ⟨hdm, hd2, hd3, hd4⟩ := smallD_of (d := d) (n := 1048576) (by omega) (Nat.le_refl _)
      have hcn : 1 + (l.map cntNode).sum ≤ 8388609 := by omega
      have HSm := hide hsm
      have HDm := hide hdm
      have HD3 := hide hd3
      have HCn := hide hcn
      have HD4 := hide hd4
      clear hsm hcnt hdm hd3 hcn hd4 hle hle' hld
      obtain ⟨b0, b1, b2, b3⟩ := HBox.out _ K2
      have z2 := K2.size
      simp only [World.size_alloc] at z2
      have HSO : Hid (∀ w', Kept w2 w' → (fun w' => w'.cell? ⟨w.heap.size, 0, none⟩ = some (.slice a l.length cap) ∧ w'.cell? ⟨w.heap.size + 1, 0, none⟩ = some (.string d.name) ∧ w'.cell? ⟨w.heap.size + 1, 1, none⟩ = some (.int .i64 d.cost) ∧ w'.cell? ⟨w.heap.size + 1, 2, none⟩ = some (.slice an d.steps.length cn)) w') := fun w' kk => HBox.out w' (K2.trans kk)
      go_upto_region 8 with fail
      go_cut [6, 7] from 27 to 34 (fun s6 s7 wx => LawAns l d w2 s6 s7 wx)
      case first =>
        go_region_held (fun w' => w'.cell? ⟨w.heap.size, 0, none⟩ = some (.slice a l.length cap) ∧ w'.cell? ⟨w.heap.size + 1, 0, none⟩ = some (.string d.name) ∧ w'.cell? ⟨w.heap.size + 1, 1, none⟩ = some (.int .i64 d.cost) ∧ w'.cell? ⟨w.heap.size + 1, 2, none⟩ = some (.slice an d.steps.length cn)) (exact unhide HSO _ (by repeat (first | (refine Kept.setCell ?_ (by simp <;> omega) _) | (with_reducible exact Kept.refl _) | (with_reducible assumption) | apply Kept.drew | apply Kept.alloc))) ((first | (go_at_call 21; refine (toWeb_any _ a cap l hl2 hs2 ((hS.kept k0).kept (K2.trans (by repeat (first | (with_reducible exact Kept.refl _) | (with_reducible assumption) | apply Kept.drew | apply Kept.alloc))))).mono ?_; rintro e w3 ⟨bw, rfl, hNw, kkw, hbw⟩; have kw : Kept w2 w3 := Kept.trans (by repeat (first | (with_reducible exact Kept.refl _) | (with_reducible assumption) | apply Kept.drew | apply Kept.alloc)) kkw; have zw := kw.size; have HNw := hide hNw; clear hNw hbw; (first | (have hrT := HRT.out.kept kkw; have HRT := hide hrT; clear hrT) | (have hrT := HRT.out.keptUn kkw; have HRT := hide hrT; clear hrT) | (have hrT := rowAlloc (t := 50) (c := #[.slice none 0 0]) kkw; have HRT := hide hrT; clear hrT) | (have hrT := rowDrawn (t := 50) (c := #[.slice none 0 0]) kkw; have HRT := hide hrT; clear hrT) | skip)) | (go_at_call 26; refine (toNode_lit _ d an cn hd2 HD3.out ((hA.kept k0).kept (K2.trans (by repeat (first | (with_reducible exact Kept.refl _) | (with_reducible assumption) | apply Kept.drew | apply Kept.alloc))))).mono ?_; rintro e w4 ⟨bn, rfl, hNn, kkn, hbn⟩; have kn : Kept w2 w4 := Kept.trans (by repeat (first | (with_reducible exact Kept.refl _) | (with_reducible assumption) | apply Kept.drew | apply Kept.alloc)) kkn; have kn3 : Kept w3 w4 := Kept.trans (by repeat (first | (with_reducible exact Kept.refl _) | (with_reducible assumption) | apply Kept.drew | apply Kept.alloc)) kkn; have zn := kn3.size; have HNn := hide hNn; clear hNn hbn; (first | (have hrT := HRT.out.kept kkn; have HRT := hide hrT; clear hrT) | (have hrT := HRT.out.keptUn kkn; have HRT := hide hrT; clear hrT) | (have hrT := rowAlloc (t := 50) (c := #[.slice none 0 0]) kkn; have HRT := hide hrT; clear hrT) | (have hrT := rowDrawn (t := 50) (c := #[.slice none 0 0]) kkn; have HRT := hide hrT; clear hrT) | skip)) | (go_at_call 25; refine (specPut_any hW _ bw l.length l d bn d.steps.length hl2 hs hs2 hd ⟨hd2, HD3.out⟩ (HNw.out.kept (kn3.trans (by repeat (first | (with_reducible exact Kept.refl _) | (with_reducible assumption) | apply Kept.drew | apply Kept.alloc)))) (HNn.out.kept (by repeat (first | (with_reducible exact Kept.refl _) | (with_reducible assumption) | apply Kept.drew | apply Kept.alloc)))).mono ?_; rintro e w5 hEnd; obtain ⟨a5, c5, cc, r, xs5, base5, rfl, hR5, hb5, hO5, hP5, kkp⟩ := hEnd; have k5 : Kept w2 w5 := Kept.trans (kn.trans (by repeat (first | (with_reducible exact Kept.refl _) | (with_reducible assumption) | apply Kept.drew | apply Kept.alloc))) kkp; have hb6 : w4.heap.size ≤ base5 := Nat.le_trans (Kept.size (w := w4) (by repeat (first | (with_reducible exact Kept.refl _) | (with_reducible assumption) | apply Kept.drew | apply Kept.alloc))) hb5; have HO5 := hide hO5; have HP5 := hide hP5; have HR5 := hide hR5; clear hO5 hP5 hR5; (first | (have hob := HRT.out.lt; have hrT := HRT.out.kept kkp; obtain ⟨⟨_, t0⟩, f0⟩ := hrT.row.at (i := 0) (by decide); have HRT := hide hrT; clear hrT) | (have hob := HRT.out.lt; have hrT := HRT.out.keptUn kkp; obtain ⟨⟨_, t0⟩, f0⟩ := hrT.row.at (i := 0) (by decide); have HRT := hide hrT; clear hrT) | (have hrT := rowAlloc (t := 50) (c := #[.slice none 0 0]) kkp; obtain ⟨⟨_, t0⟩, f0⟩ := hrT.row.at (i := 0) (by decide); have HRT := hide hrT; clear hrT) | (have hrT := rowDrawn (t := 50) (c := #[.slice none 0 0]) kkp; obtain ⟨⟨_, t0⟩, f0⟩ := hrT.row.at (i := 0) (by decide); have HRT := hide hrT; clear hrT) | skip))))
        · go_wp2_with fail
          go_meet
          exact lawAns_late k5 HR5.out HO5.out HP5.out
        · go_wp2_with fail
          go_meet
          exact lawAns_early k5 HR5.out HO5.out HP5.out HRT.out (by omega) (by simp only [World.size_alloc] at hb5; omega)
        · go_wp2_with fail
          go_meet
          exact lawAns_early k5 HR5.out HO5.out HP5.out HRT.out (by omega) (by omega)
        · go_wp2_with fail
          go_meet
          exact lawAns_early k5 HR5.out HO5.out HP5.out HRT.out (by omega) (by have := HRT.out.lt; omega)
      case rest =>
        obtain ⟨ob, a3, c3, cc, r, rfl, rfl, hob, hol, cob, hPR, hNr, k3⟩ := hcut
        have K3 := K2.trans k3
        have HPR := hide hPR
        have HNr := hide hNr
        clear hPR hNr b0 b1 b2 b3 HSO k3
        obtain ⟨b0, b1, b2, b3⟩ := HBox.out _ K3
        have z3 := K3.size
        simp only [World.size_alloc] at z3
        go_wp2_with fail
        refine (toWeb_in _ a cap l hl2 hs2 ((hS.kept k0).kept K3)).mono ?_
        rintro e w4 ⟨bx, rfl, hI4, k4⟩
        have HI4 := hide hI4
        have kA : Kept w4 (w4.alloc (.cells #[.slice (some ⟨bx, 0, none⟩) l.length l.length] 50)) := (Kept.refl _).alloc _
        have K4 := (K3.trans k4).trans kA
        have z4 := k4.size
        clear hI4 b0 b1 b2 b3
        obtain ⟨b0, b1, b2, b3⟩ := HBox.out _ K4
        have y4 : w.heap.size + 1 < w4.heap.size := by omega
        go_wp2_with fail
        refine (toNodeIn_lit _ d an cn hd2 HD3.out ((hA.kept k0).kept K4)).mono ?_
        rintro e w5 ⟨bn, rfl, hI5, k5⟩
        have HI5 := hide hI5
        have kB : Kept w5 (w5.alloc (.cells #[.string d.name, .int .i64 d.cost, .slice (some ⟨bn, 0, none⟩) d.steps.length d.steps.length] 60)) := (Kept.refl _).alloc _
        have z5 := k5.size
        simp only [World.size_alloc] at z5
        have q0 := boxCell (k5.trans kB)
        have y5 : w4.heap.size < w5.heap.size := by omega
        clear hI5 b0 b1 b2 b3
        go_wp2_with fail
        refine (implPut_any _ bx 0 l.length l d (some ⟨bn, 0, none⟩) d.steps.length hl2 (Nat.le_refl _) hs HSm.out hd HDm.out (HI4.out.nodes.kept ((kA.trans k5).trans kB)) (HI5.out.steps.kept kB)).mono ?_
        rintro e w6 hEnd
        obtain ⟨a6, c6, cc', r', rfl, hPR', hI6, k6⟩ := hEnd
        obtain ⟨rfl, rfl⟩ := hPR'.unique HPR.out
        have hlr : r'.length ≤ maxLen := by have := hPR'.len; unfold maxLen; omega
        have hfr : ∀ s ∈ r', s.Fits := fun s h => by
          rcases hPR'.mem h with e | h
          · rw [e]; exact hd
          · exact hs s h
        have hcr : 1 + (r'.map cntNode).sum ≤ 4611686018427387904 := by
          have h1 := hPR'.sum cntNode
          have h2 := HCn.out
          have h3 := HD4.out
          have h4 : cntNode d = (d.steps.map cntStep).sum + 2 := rfl
          omega
        have HFr := hide hfr
        have HCr := hide hcr
        have HI6 := hide hI6
        clear hPR' hfr hI6 q0 hcr
        have kC : Kept w6 (w6.alloc (.cells #[.slice a6 r'.length c6] 50)) := (Kept.refl _).alloc _
        have k46 : Kept wc w6 := (((k4.trans kA).trans k5).trans kB).trans k6
        have z6 := k6.size
        simp only [World.size_alloc] at z6
        have cW := ((k46.trans kC).cell (o := 0) hol).trans cob
        have hNr6 := HNr.out.kept (k46.trans kC)
        have hNg6 := HI6.out.nodes.kept kC
        have yo : ob < w6.heap.size := by omega
        go_wp2_with fail
        refine (eqWeb_yes _ a6 a3 c6 c3 r' hlr HFr.out hNg6 hNr6).mono ?_
        rintro e w7 ⟨rfl, k7⟩
        have kC7 := kC.trans k7
        have K7 := ((K4.trans k5).trans kB).trans (k6.trans kC7)
        have k47 := k46.trans kC7
        have z7 := k7.size
        simp only [World.size_alloc] at z7
        have HX0 := hide (HI4.out.same ((((kA.trans k5).trans kB).trans (k6.trans kC7)).same _ _)).nodes
        have HX1 := hide (HI5.out.same ((kB.trans (k6.trans kC7)).same _ _)).steps
        clear cW hNr6 hNg6
        have HS7 : Hid (∀ w', Kept w7 w' → (fun w' => w'.cell? ⟨w.heap.size, 0, none⟩ = some (.slice a l.length cap) ∧ w'.cell? ⟨w4.heap.size, 0, none⟩ = some (.slice (some ⟨bx, 0, none⟩) l.length l.length)) w') := fun w' kk => ⟨(HBox.out w' (K7.trans kk)).1, boxCell ((k5.trans kB).trans ((k6.trans kC7).trans kk))⟩
        have HT7 : Hid (∀ w', Kept w7 w' → (fun w' => w'.cell? ⟨w.heap.size + 1, 0, none⟩ = some (.string d.name) ∧ w'.cell? ⟨w.heap.size + 1, 1, none⟩ = some (.int .i64 d.cost) ∧ w'.cell? ⟨w.heap.size + 1, 2, none⟩ = some (.slice an d.steps.length cn) ∧ w'.cell? ⟨w5.heap.size, 0, none⟩ = some (.string d.name) ∧ w'.cell? ⟨w5.heap.size, 1, none⟩ = some (.int .i64 d.cost) ∧ w'.cell? ⟨w5.heap.size, 2, none⟩ = some (.slice (some ⟨bn, 0, none⟩) d.steps.length d.steps.length)) w') := fun w' kk => by
          have h1 := (HBox.out w' (K7.trans kk)).2
          have h2 := boxCells3 ((k6.trans kC7).trans kk)
          exact ⟨h1.1, h1.2.1, h1.2.2, h2.1, h2.2.1, h2.2.2⟩
        have hS7 := HS7.out w7 (Kept.refl _)
        obtain ⟨s0, s1⟩ := hS7
        go_wp2
        go_region_held (fun w' => w'.cell? ⟨w.heap.size, 0, none⟩ = some (.slice a l.length cap) ∧ w'.cell? ⟨w4.heap.size, 0, none⟩ = some (.slice (some ⟨bx, 0, none⟩) l.length l.length)) (exact unhide HS7 _ (by repeat (first | (with_reducible exact Kept.refl _) | (with_reducible assumption) | apply Kept.drew | apply Kept.alloc))) ((first | (go_at_call 21; refine (toWeb_any _ a cap l hl2 hs2 (((hS.kept k0).kept K7).kept (by repeat (first | (with_reducible exact Kept.refl _) | (with_reducible assumption) | apply Kept.drew | apply Kept.alloc)))).mono ?_; rintro e w8 ⟨b8, rfl, hN8, kk8, hb8⟩; have k8 : Kept w7 w8 := Kept.trans (by repeat (first | (with_reducible exact Kept.refl _) | (with_reducible assumption) | apply Kept.drew | apply Kept.alloc)) kk8; have HN8 := hide hN8; clear hN8 hb8) | (go_at_call 23; refine (eqWeb_yes _ (some ⟨bx, 0, none⟩) (some ⟨b8, 0, none⟩) l.length l.length l hl hs (HX0.out.kept (k8.trans (by repeat (first | (with_reducible exact Kept.refl _) | (with_reducible assumption) | apply Kept.drew | apply Kept.alloc)))) (NodesNew.nodes (NodesNew.kept HN8.out (by repeat (first | (with_reducible exact Kept.refl _) | (with_reducible assumption) | apply Kept.drew | apply Kept.alloc))))).mono ?_; rintro e w9 ⟨rfl, kk9⟩; have k9 : Kept w7 w9 := Kept.trans (k8.trans (by repeat (first | (with_reducible exact Kept.refl _) | (with_reducible assumption) | apply Kept.drew | apply Kept.alloc))) kk9)))
        all_goals
          have hT9 := HT7.out w9 k9
          obtain ⟨t0, t1, t2, t3, t4, t5⟩ := hT9
          clear s0 s1
          have HT9 : Hid (∀ w', Kept w9 w' → (fun w' => w'.cell? ⟨w.heap.size + 1, 0, none⟩ = some (.string d.name) ∧ w'.cell? ⟨w.heap.size + 1, 1, none⟩ = some (.int .i64 d.cost) ∧ w'.cell? ⟨w.heap.size + 1, 2, none⟩ = some (.slice an d.steps.length cn) ∧ w'.cell? ⟨w5.heap.size, 0, none⟩ = some (.string d.name) ∧ w'.cell? ⟨w5.heap.size, 1, none⟩ = some (.int .i64 d.cost) ∧ w'.cell? ⟨w5.heap.size, 2, none⟩ = some (.slice (some ⟨bn, 0, none⟩) d.steps.length d.steps.length)) w') := fun w' kk => HT7.out w' (k9.trans kk)
          go_wp2
          go_region_held (fun w' => w'.cell? ⟨w.heap.size + 1, 0, none⟩ = some (.string d.name) ∧ w'.cell? ⟨w.heap.size + 1, 1, none⟩ = some (.int .i64 d.cost) ∧ w'.cell? ⟨w.heap.size + 1, 2, none⟩ = some (.slice an d.steps.length cn) ∧ w'.cell? ⟨w5.heap.size, 0, none⟩ = some (.string d.name) ∧ w'.cell? ⟨w5.heap.size, 1, none⟩ = some (.int .i64 d.cost) ∧ w'.cell? ⟨w5.heap.size, 2, none⟩ = some (.slice (some ⟨bn, 0, none⟩) d.steps.length d.steps.length)) (exact unhide HT9 _ (by repeat (first | (with_reducible exact Kept.refl _) | (with_reducible assumption) | apply Kept.drew | apply Kept.alloc))) ((first | (go_at_call 26; refine (toNode_lit _ d an cn hd2 HD3.out (((hA.kept k0).kept (K7.trans k9)).kept (by repeat (first | (with_reducible exact Kept.refl _) | (with_reducible assumption) | apply Kept.drew | apply Kept.alloc)))).mono ?_; rintro e w10 ⟨b10, rfl, hN10, kk10, hb10⟩; have k10 : Kept w9 w10 := Kept.trans (by repeat (first | (with_reducible exact Kept.refl _) | (with_reducible assumption) | apply Kept.drew | apply Kept.alloc)) kk10; have HN10 := hide hN10; clear hN10 hb10) | (go_at_call 28; refine (eqNode_yes _ d (some ⟨bn, 0, none⟩) (some ⟨b10, 0, none⟩) d.steps.length d.steps.length hd (HX1.out.kept (k9.trans (k10.trans (by repeat (first | (with_reducible exact Kept.refl _) | (with_reducible assumption) | apply Kept.drew | apply Kept.alloc))))) (StepsNew.steps (StepsNew.kept HN10.out (by repeat (first | (with_reducible exact Kept.refl _) | (with_reducible assumption) | apply Kept.drew | apply Kept.alloc))))).mono ?_; rintro e w11 ⟨rfl, kk11⟩; have k11 : Kept w9 w11 := Kept.trans (k10.trans (by repeat (first | (with_reducible exact Kept.refl _) | (with_reducible assumption) | apply Kept.drew | apply Kept.alloc))) kk11)))
          all_goals
            have K11 := K7.trans (k9.trans k11)
            have k711 := k9.trans k11
            have k411 := k47.trans k711
            have z11 := k711.size
            have hX11 := (HS7.out w11 k711).2
            have hY11 := (HT7.out w11 k711).2.2.2
            obtain ⟨x0, x1, x2⟩ := hY11
            have pG11 := boxCell (k7.trans k711)
            have pW11 := (k411.cell (o := 0) hol).trans cob
            have HI11 := hide (HI4.out.same ((((kA.trans k5).trans kB).trans ((k6.trans kC7).trans k711)).same _ _))
            have HJ11 := hide (HI5.out.same ((kB.trans ((k6.trans kC7).trans k711)).same _ _))
            have HG11 := hide (HI6.out.same ((kC7.trans k711).same _ _))
            clear t0 t1 t2 t3 t4 t5 HT9 HX0 HX1
            have v4 : w4.heap.size < w11.heap.size := by omega
            have v5 : w5.heap.size < w11.heap.size := by omega
            have v6 : w6.heap.size < w11.heap.size := by omega
            have vo : ob < w11.heap.size := by omega
            go_wp2_with fail
            refine (markWeb_any _ _ _ (some ⟨bx, 0, none⟩) l.length l 1 (by omega) (by have := HCn.out; omega) (HI11.out.same (Kept.same (by repeat (first | (with_reducible exact Kept.refl _) | apply Kept.drew | apply Kept.drewN)) _ _))).mono ?_
            rintro e w12 ⟨rfl, _, kb12⟩
            have kb12' : KeptBut wc.heap.size w4.heap.size w11 w12 := ⟨kb12.os, kb12.tape, kb12.output, kb12.size, kb12.block⟩
            have K12 := kb12'.kept K11 (by simp <;> omega)
            have KW12 := kb12'.kept k411 (by omega)
            have z12 := kb12'.size
            have e0 := ((kb12'.same (l2 := w5.heap.size) (h2 := w5.heap.size + 1) (by omega)).cell (o := 0) (Nat.le_refl _) (by omega) v5).trans x0
            have e1 := ((kb12'.same (l2 := w5.heap.size) (h2 := w5.heap.size + 1) (by omega)).cell (o := 1) (Nat.le_refl _) (by omega) v5).trans x1
            have e2 := ((kb12'.same (l2 := w5.heap.size) (h2 := w5.heap.size + 1) (by omega)).cell (o := 2) (Nat.le_refl _) (by omega) v5).trans x2
            have pG12 := ((kb12'.same (l2 := w6.heap.size) (h2 := w6.heap.size + 1) (by omega)).cell (o := 0) (Nat.le_refl _) (by omega) v6).trans pG11
            have HJ12 := hide (HJ11.out.same (kb12'.same (by simp <;> omega)))
            have HG12 := hide (HG11.out.same (kb12'.same (by simp <;> omega)))
            obtain ⟨m12, hm12⟩ : ∃ m12, m12 = 1 + (l.map cntNode).sum := ⟨_, rfl⟩
            rw [← hm12]
            have hm12' : m12 ≤ 8388609 := by have := HCn.out; omega
            have hm12p : 0 < m12 := by omega
            clear hm12 kb12 kb12' x0 x1 x2 pG11 pW11 hX11 HI11 HJ11 HG11
            have u5 : w5.heap.size < w12.heap.size := by omega
            have u6 : w6.heap.size < w12.heap.size := by omega
            go_wp2_with fail
            refine (markNode_any _ _ _ d (some ⟨bn, 0, none⟩) d.steps.length m12 hm12p (by have := HD4.out; omega) (HJ12.out.same (Kept.same (by repeat (first | (with_reducible exact Kept.refl _) | apply Kept.drew | apply Kept.drewN)) _ _))).mono ?_
            rintro e w13 ⟨rfl, kb13⟩
            simp only [World.size_alloc] at kb13
            have kb13' : KeptBut (w4.heap.size + 1) w5.heap.size w12 w13 := ⟨kb13.os, kb13.tape, kb13.output, kb13.size, kb13.block⟩
            have K13 := kb13'.kept K12 (by simp <;> omega)
            have KW13 := kb13'.kept KW12 (by omega)
            have z13 := kb13'.size
            have pG13 := ((kb13'.same (l2 := w6.heap.size) (h2 := w6.heap.size + 1) (by omega)).cell (o := 0) (Nat.le_refl _) (by omega) u6).trans pG12
            have pW13 := (KW13.cell (o := 0) hol).trans cob
            have HG13 := hide (HG12.out.same (kb13'.same (by simp <;> omega)))
            have hW13 := HNr.out.kept KW13
            obtain ⟨m13, hm13⟩ : ∃ m13, m13 = m12 + (d.steps.map cntStep).sum := ⟨_, rfl⟩
            rw [← hm13]
            clear hm13 kb13 kb13' e0 e1 e2 pG12 HJ12 HG12
            have r5 : w6.heap.size < w13.heap.size := by omega
            have r6 : ob < w13.heap.size := by omega
            go_wp2_with fail
            refine (eqWeb_yes _ a6 a3 c6 c3 r' hlr HFr.out (HG13.out.nodes.kept (by repeat (first | (with_reducible exact Kept.refl _) | apply Kept.drew | apply Kept.drewN))) (hW13.kept (by repeat (first | (with_reducible exact Kept.refl _) | apply Kept.drew | apply Kept.drewN)))).mono ?_
            rintro e w14 ⟨rfl, kk14⟩
            have k14 : Kept w13 w14 := Kept.trans (by repeat (first | (with_reducible exact Kept.refl _) | apply Kept.drew | apply Kept.drewN)) kk14
            have K14 := K13.trans k14
            have KW14 := KW13.trans k14
            have z14 := k14.size
            have pG14 := (k14.cell (o := 0) r5).trans pG13
            have HG14 := hide (HG13.out.same (k14.same _ _))
            clear pG13 pW13 HG13 hW13 k14 kk14
            have hcr := HCr.out
            go_wp2_with fail
            refine (markWeb_any _ _ _ a6 c6 r' 1 (by omega) hcr (HG14.out.same (Kept.same (by repeat (first | (with_reducible exact Kept.refl _) | apply Kept.drew | apply Kept.drewN)) _ _))).mono ?_
            rintro e w15 ⟨rfl, hM15, kb15⟩
            simp only [World.size_alloc] at kb15
            have kb15' : KeptBut (w5.heap.size + 1) w6.heap.size w14 w15 := ⟨kb15.os, kb15.tape, kb15.output, kb15.size, kb15.block⟩
            have K15 := kb15'.kept K14 (by simp <;> omega)
            have KW15 := kb15'.kept KW14 (by omega)
            have z15 := kb15'.size
            have pG15 := ((kb15'.same (l2 := w6.heap.size) (h2 := w6.heap.size + 1) (by omega)).cell (o := 0) (Nat.le_refl _) (by omega) (by omega)).trans pG14
            have HM15 := hide hM15
            obtain ⟨m15, hm15⟩ : ∃ m15, m15 = 1 + (r'.map cntNode).sum := ⟨_, rfl⟩
            rw [← hm15]
            have HMm := hide hm15
            clear hm15 kb15 kb15' pG14 HG14 hM15 hcr
            have o6 : w6.heap.size < w15.heap.size := by omega
            have hcr := HCr.out
            go_wp2_with fail
            refine (heldWeb_yes _ a6 c6 r' 1 (by omega) hcr (HM15.out.nodes.kept (by repeat (first | (with_reducible exact Kept.refl _) | apply Kept.drew | apply Kept.drewN)))).mono ?_
            rintro e w16 ⟨rfl, kk16⟩
            rw [← HMm.out]
            have k16 : Kept w15 w16 := Kept.trans (by repeat (first | (with_reducible exact Kept.refl _) | apply Kept.drew | apply Kept.drewN)) kk16
            have K16 := K15.trans k16
            have KW16 := KW15.trans k16
            have z16 := k16.size
            have pG16 := (k16.cell (o := 0) o6).trans pG15
            have HM16 := hide (HM15.out.nodes.kept k16)
            clear pG15 HM15 k16 kk16 hcr
            have HSO : Hid (∀ w', Kept w16 w' → (fun w' => w'.cell? ⟨w.heap.size, 0, none⟩ = some (.slice a l.length cap) ∧ w'.cell? ⟨w.heap.size + 1, 0, none⟩ = some (.string d.name) ∧ w'.cell? ⟨w.heap.size + 1, 1, none⟩ = some (.int .i64 d.cost) ∧ w'.cell? ⟨w.heap.size + 1, 2, none⟩ = some (.slice an d.steps.length cn)) w') := fun w' kk => HBox.out w' (K16.trans kk)
            obtain ⟨b0, b1, b2, b3⟩ := HBox.out _ K16
            go_upto_region 31 with fail
            go_cut [15, 16] from 94 to 101 (fun s15 s16 wx => LawAns l d w16 s15 s16 wx)
            case first =>
              go_region_held (fun w' => w'.cell? ⟨w.heap.size, 0, none⟩ = some (.slice a l.length cap) ∧ w'.cell? ⟨w.heap.size + 1, 0, none⟩ = some (.string d.name) ∧ w'.cell? ⟨w.heap.size + 1, 1, none⟩ = some (.int .i64 d.cost) ∧ w'.cell? ⟨w.heap.size + 1, 2, none⟩ = some (.slice an d.steps.length cn)) (exact unhide HSO _ (by repeat (first | (refine Kept.setCell ?_ (by simp <;> omega) _) | (with_reducible exact Kept.refl _) | (with_reducible assumption) | apply Kept.drew | apply Kept.alloc))) ((first | (go_at_call 21; refine (toWeb_any _ a cap l hl2 hs2 ((hS.kept k0).kept (K16.trans (by repeat (first | (with_reducible exact Kept.refl _) | (with_reducible assumption) | apply Kept.drew | apply Kept.alloc))))).mono ?_; rintro e w17 ⟨bw, rfl, hNw, kkw, hbw⟩; have kw : Kept w16 w17 := Kept.trans (by repeat (first | (with_reducible exact Kept.refl _) | (with_reducible assumption) | apply Kept.drew | apply Kept.alloc)) kkw; have zw := kw.size; have HNw := hide hNw; clear hNw hbw; (first | (have hrT := HRT.out.kept kkw; have HRT := hide hrT; clear hrT) | (have hrT := HRT.out.keptUn kkw; have HRT := hide hrT; clear hrT) | (have hrT := rowAlloc (t := 50) (c := #[.slice none 0 0]) kkw; have HRT := hide hrT; clear hrT) | (have hrT := rowDrawn (t := 50) (c := #[.slice none 0 0]) kkw; have HRT := hide hrT; clear hrT) | skip)) | (go_at_call 26; refine (toNode_lit _ d an cn hd2 HD3.out ((hA.kept k0).kept (K16.trans (by repeat (first | (with_reducible exact Kept.refl _) | (with_reducible assumption) | apply Kept.drew | apply Kept.alloc))))).mono ?_; rintro e w18 ⟨bn, rfl, hNn, kkn, hbn⟩; have kn : Kept w16 w18 := Kept.trans (by repeat (first | (with_reducible exact Kept.refl _) | (with_reducible assumption) | apply Kept.drew | apply Kept.alloc)) kkn; have kn3 : Kept w17 w18 := Kept.trans (by repeat (first | (with_reducible exact Kept.refl _) | (with_reducible assumption) | apply Kept.drew | apply Kept.alloc)) kkn; have zn := kn3.size; have HNn := hide hNn; clear hNn hbn; (first | (have hrT := HRT.out.kept kkn; have HRT := hide hrT; clear hrT) | (have hrT := HRT.out.keptUn kkn; have HRT := hide hrT; clear hrT) | (have hrT := rowAlloc (t := 50) (c := #[.slice none 0 0]) kkn; have HRT := hide hrT; clear hrT) | (have hrT := rowDrawn (t := 50) (c := #[.slice none 0 0]) kkn; have HRT := hide hrT; clear hrT) | skip)) | (go_at_call 27; refine (implPut_any _ bw 0 l.length l d (some ⟨bn, 0, none⟩) d.steps.length hl2 (Nat.le_refl _) hs HSm.out hd HDm.out (HNw.out.nodes.kept (kn3.trans (by repeat (first | (with_reducible exact Kept.refl _) | (with_reducible assumption) | apply Kept.drew | apply Kept.alloc)))) (HNn.out.steps.kept (by repeat (first | (with_reducible exact Kept.refl _) | (with_reducible assumption) | apply Kept.drew | apply Kept.alloc)))).mono ?_; rintro e w20 hEnd; obtain ⟨a20, c20, cc20, r20, rfl, hR20, hI20, kkp⟩ := hEnd; have k20 : Kept w16 w20 := Kept.trans (kn.trans (by repeat (first | (with_reducible exact Kept.refl _) | (with_reducible assumption) | apply Kept.drew | apply Kept.alloc))) kkp; have hb20 : w18.heap.size ≤ w20.heap.size := Nat.le_trans (Kept.size (w := w18) (by repeat (first | (with_reducible exact Kept.refl _) | (with_reducible assumption) | apply Kept.drew | apply Kept.alloc))) kkp.size; have HI20 := hide hI20; have HR20 := hide hR20; clear hI20 hR20; (first | (have hob := HRT.out.lt; have hrT := HRT.out.kept kkp; obtain ⟨⟨_, t0⟩, f0⟩ := hrT.row.at (i := 0) (by decide); have HRT := hide hrT; clear hrT) | (have hob := HRT.out.lt; have hrT := HRT.out.keptUn kkp; obtain ⟨⟨_, t0⟩, f0⟩ := hrT.row.at (i := 0) (by decide); have HRT := hide hrT; clear hrT) | (have hrT := rowAlloc (t := 50) (c := #[.slice none 0 0]) kkp; obtain ⟨⟨_, t0⟩, f0⟩ := hrT.row.at (i := 0) (by decide); have HRT := hide hrT; clear hrT) | (have hrT := rowDrawn (t := 50) (c := #[.slice none 0 0]) kkp; obtain ⟨⟨_, t0⟩, f0⟩ := hrT.row.at (i := 0) (by decide); have HRT := hide hrT; clear hrT) | skip))))
              · go_wp2_with fail
                go_meet
                exact lawAns_lateI k20 HR20.out HI20.out
              · go_wp2_with fail
                go_meet
                exact lawAns_earlyI k20 HR20.out HI20.out HRT.out (by omega) (by simp)
              · go_wp2_with fail
                go_meet
                exact lawAns_earlyI k20 HR20.out HI20.out HRT.out (by omega) hob
              · go_wp2_with fail
                go_meet
                exact lawAns_earlyI k20 HR20.out HI20.out HRT.out (by omega) hob
            case rest =>
              obtain ⟨hb, a20, c20, cc20, r20, rfl, rfl, hhb, hhl, chb, hPR20, hN20, k20⟩ := hcut
              obtain ⟨rfl, rfl⟩ := hPR20.unique HPR.out
              have KWf := KW16.trans k20
              have pWf := (KWf.cell (o := 0) hol).trans cob
              have pGf := (k20.cell (o := 0) (by omega : w6.heap.size < w16.heap.size)).trans pG16
              have hWf := HNr.out.kept KWf
              have HMf := hide (HM16.out.kept k20)
              have zf := k20.size
              have g6 : w6.heap.size < wc.heap.size := by omega
              have go : ob < wc.heap.size := by omega
              clear hPR20 pG16 b0 b1 b2 b3
              go_wp2_with fail
              refine (eqWeb_yes _ a20 a3 c20 c3 r20 hlr HFr.out (hN20.kept (by repeat (first | (with_reducible exact Kept.refl _) | apply Kept.drew | apply Kept.drewN))) (hWf.kept (by repeat (first | (with_reducible exact Kept.refl _) | apply Kept.drew | apply Kept.drewN)))).mono ?_
              rintro e w22 ⟨rfl, kk22⟩
              have k22 : Kept wc w22 := Kept.trans (by repeat (first | (with_reducible exact Kept.refl _) | apply Kept.drew | apply Kept.drewN)) kk22
              have pG22 := (k22.cell (o := 0) g6).trans pGf
              have HM22 := hide (HMf.out.kept k22)
              clear pGf pWf
              have hcr := HCr.out
              go_wp2_with fail
              refine (heldWeb_yes _ a6 c6 r20 1 (by omega) hcr (HM22.out.kept (by repeat (first | (with_reducible exact Kept.refl _) | apply Kept.drew | apply Kept.drewN)))).mono ?_
              rintro e w23 ⟨rfl, kk23⟩
              rw [← HMm.out]
              have k23 : Kept w22 w23 := Kept.trans (by repeat (first | (with_reducible exact Kept.refl _) | apply Kept.drew | apply Kept.drewN)) kk23
              go_wp2
              go_ret
              exact ⟨rfl, k0.trans (K16.trans (k20.trans (k22.trans k23)))⟩
    · rw [szL_neg (by omega)]
      go_wp2
      go_ret
      exact ⟨rfl, k0.trans K2⟩
  · rw [szL_neg (by omega)]
    go_wp2
    go_ret
    exact ⟨rfl, k0.trans K1⟩

end Go.Proofs.Ytfjbdapblmlneaa
