import Derived.Test.YtjhemildijapmaaGreatDoorKVAppr
import Derived.Test.YtjhemildijapmaaGreatDoorKOOrder
import Derived.Laws.IdiomStrings
import Derived.Deep.CutRange
namespace Go.Proofs.YtjhemildijapmaaGreatDoor
open Go.RowKit
theorem Tryz.xSizeAns : (Tryz.prog.info? 151).map (·.size) = some 2 := by kernel_rfl
theorem bodyPost_ret_c2 {P : Program} {fn : Func} {R : Ending → World → Prop} {a : Act} {w : World} {p q : Tmp} {ty : TypeId} {b : Nat} (cs : List Value) (d : TypeDesc) (v : Value) (h : fn.results = #[.cell p ty, .tmp q])
    (hp : a.tmps.getD p undef = .pointer (some ⟨b, 0, none⟩)) (hr : w.rangeAt b 0 cs) (hu : P.underlying ty = some d) (hd : d.isRow = true) (hi : (P.info? ty).map (·.size) = some cs.length)
    (hq : a.tmps.getD q undef = v) (hdef : a.defers = []) (hR : R (.returned (.tuple #[.agg cs.toArray, v])) w) : bodyPost P fn R .ret a w := by
  refine bodyPost_ret ?_ hdef hR
  have hp' : a.tmps[p]?.getD undef = .pointer (some ⟨b, 0, none⟩) := by simpa using hp
  have hq' : a.tmps[q]?.getD undef = v := by simpa using hq
  simp only [results, h]
  simp [hp', hq', asAddr, run_loadVar_mid w b 0 ty cs d hr hu hd hi]
theorem Kept.set_new {w w1 : World} (k : Kept w w1) {i : Nat} (v : Value) : Kept w (w1.setCell ⟨w.heap.size, i, none⟩ v) := Below.setCell k (p := ⟨w.heap.size, i, none⟩) (Nat.le_refl _) v
theorem cell_set_ne {w : World} {b c o p : Nat} (h : b ≠ c) {v : Value} : (w.setCell ⟨c, p, none⟩ v).cell? ⟨b, o, none⟩ = w.cell? ⟨b, o, none⟩ := World.cell?_setCell_other _ _ _ _ (fun e => h (congrArg Addr.block e).symm)
def AnsSaidO (webl : List NodeD) (l : List RunX) (n : ByteArray) (e : Ending) : Prop :=
  ∃ (f : Bool) (t : ByteArray) (ok : Bool), e = .returned (.tuple #[.agg #[.bool f, .string t], .bool ok]) ∧ ansOf (actsOf webl) (envOf l) n = (if ok = true then some ⟨f, t⟩ else none) ∧ (ok = false → f = false ∧ t = ⟨#[]⟩)
set_option maxRecDepth 100000 in
set_option maxHeartbeats 3200000 in
theorem answer_anyO (w : World) (kb : Nat) (a : Option Addr) (cap : Nat) (webl : List NodeD) (d : Option Addr) (dc : Nat) (l : List RunX) (n : ByteArray) (hwl : webl.length ≤ 1048576) (hll : l.length ≤ 1048576) (hn : n.size ≤ 1000) (hK : KnownX w kb a webl.length cap d l.length dc) (hN : Nodes w a webl) (hS : RunsX w d l) :
    Calls Tryz.prog 109 #[.pointer (some ⟨kb, 0, none⟩), .string n] w fun e w' => AnsSaidO webl l n e ∧ Kept w w' := by
  have k0 : Kept w (w.alloc (.cells #[.bool false, .string ⟨#[]⟩] 151)) := (Kept.refl _).alloc _
  have hkbl := hK.row.lt
  have q0 := (hK.kept k0).web
  have q1 := (hK.kept k0).row.lt
  go_enter Tryz.func109, Tryz.ntmps109
  go_wp2_with fail
  refine (l2At_place _ a cap webl n hwl (hN.kept k0)).mono ?_
  rintro e w1 ⟨⟨r, rfl, hr⟩, K1⟩
  have HRw : Hid (RowT w1 w.heap.size 151 2) := (RowT.made w #[.bool false, .string ⟨#[]⟩] 151).kept K1
  obtain ⟨⟨_, x0⟩, f0⟩ := HRw.out.row.at (i := 0) (by omega)
  obtain ⟨⟨_, x1⟩, f1⟩ := HRw.out.row.at (i := 1) (by omega)
  have xz := HRw.out.lt
  clear q0 q1
  rcases hr with ⟨k, hk, rfl, hact, _⟩ | ⟨rfl, hact⟩
  · have hk0 : ¬ (k : Int) < 0 := by omega
    have hK1 := (hK.kept k0).kept K1
    have hS1 := (hS.kept k0).kept K1
    have HAct := hide hact
    clear hact
    go_wp2_with fail
    refine (findX w1 kb a webl.length cap d dc l n hll hK1 hS1).mono ?_
    rintro e w2 ⟨⟨r2, rfl, hr2⟩, hw2⟩
    rw [hw2]
    clear hw2 w2
    rcases hr2 with ⟨j, hj, rfl, henv, _⟩ | ⟨rfl, henv⟩
    · have hj0 : ¬ (j : Int) < 0 := by omega
      have hjl : (j : Int) < (l.length : Int) := by omega
      obtain ⟨y, hy⟩ : ∃ y, y = l.getD j RunX.zero := ⟨_, rfl⟩
      rw [← hy] at henv
      obtain ⟨b, o, _, _, rfl, hb0, _⟩ := hS j hj
      obtain ⟨b1, o1, xa, xc, e1, hb, hc, _, _⟩ := hS1 j hj
      simp only [Option.some.injEq, Addr.mk.injEq, and_true] at e1
      obtain ⟨rfl, rfl⟩ := e1
      rw [← hy] at hc
      have c1 := hc 1 _ rfl
      have c2 := hc 2 _ rfl
      have c3 := hc 3 _ rfl
      have q1 := hK1.runs
      have qz := hK1.row.lt
      have HEnv := hide henv
      have HC := hide hc
      clear hy hc henv hS1
      cases ho : y.over
      · rw [ho] at c1
        go_wp2_with fail
        have hR := World.rangeAt_setCells_same w1 w.heap.size 0 [.bool false, .string ⟨#[]⟩] (HRw.out.row.there (o := 0) (m := 2) (Nat.le_refl _))
        refine bodyPost_ret_c2 [.bool false, .string ⟨#[]⟩] _ (.bool false) Tryz.results109 rfl hR Tryz.underlying151 rfl Tryz.xSizeAns rfl rfl ?_
        exact ⟨⟨false, ⟨#[]⟩, false, rfl, by unfold ansOf; rw [HAct.out, HEnv.out]; simp [ho], fun _ => ⟨rfl, rfl⟩⟩, ((k0.trans K1).set_new _).set_new _⟩
      · rw [ho] at c1
        go_upto_region 6 with fail
        refine UpTo.region (by kernel_rfl) (fun w' => w'.cell? ⟨kb, 1, none⟩ = some (.slice (some ⟨b, o, none⟩) l.length dc) ∧ w'.cell? ⟨b, o + j * 7 + 2, none⟩ = some (.bool y.fail) ∧ w'.cell? ⟨b, o + j * 7 + 3, none⟩ = some (.string y.text)) 18 ⟨q1, c2, c3⟩ (fun hHeld => ?_)
        have x0d : w1.drew.cell? ⟨w.heap.size, 0, none⟩ = some _ := x0
        have x1d : w1.drew.cell? ⟨w.heap.size, 1, none⟩ = some _ := x1
        have f0d : w1.drew.frozen? ⟨w.heap.size, 0, none⟩ = false := f0
        have f1d : w1.drew.frozen? ⟨w.heap.size, 1, none⟩ = false := f1
        have xzd : w.heap.size < w1.drew.heap.size := xz
        have Kd : Kept w1 w1.drew := (Kept.refl _).drew
        have HRd := hide (HRw.out.kept Kd)
        have K1d := K1.trans Kd
        generalize hwd : w1.drew = wd at hHeld x0d x1d f0d f1d xzd HRd K1d ⊢
        clear hwd Kd x0 x1 f0 f1 xz
        refine UpTo.tk 0 hHeld ?_
        refine UpTo.tk 1 hHeld ?_
        refine UpTo.tk 2 hHeld ?_
        refine UpTo.tk 3 hHeld ?_
        refine UpTo.tk 4 hHeld ?_
        refine UpTo.tk 5 hHeld ?_
        refine UpTo.tk 6 hHeld ?_
        refine UpTo.tk 7 hHeld ?_
        refine UpTo.tk 8 hHeld ?_
        refine UpTo.tk 9 hHeld ?_
        refine UpTo.tk 10 hHeld ?_
        refine UpTo.tk 11 hHeld ?_
        refine UpTo.tk 12 hHeld ?_
        refine UpTo.tk 13 hHeld ?_
        refine UpTo.tk 14 hHeld ?_
        refine UpTo.tk 15 hHeld ?_
        refine UpTo.tk 16 hHeld ?_
        have hkb : kb ≠ w.heap.size := by omega
        have hbb : b ≠ w.heap.size := by omega
        refine UpTo.nx 17 (fun K hK => ?_)
        go_simp
        refine hK.out _ _ (fun _ => ⟨by rw [cell_set_ne hkb, cell_set_ne hkb]; exact hHeld.1, by rw [cell_set_ne hbb, cell_set_ne hbb]; exact hHeld.2.1, by rw [cell_set_ne hbb, cell_set_ne hbb]; exact hHeld.2.2⟩) ?_
        clear hK K
        try simp only [Act.put, upA, upB, upC]
        refine UpTo.nx 18 (fun K hK => ?_)
        go_simp
        refine hK.out _ _ (fun h => absurd rfl h) ?_
        clear hK K
        try simp only [Act.put, upA, upB, upC]
        refine UpTo.dn ?_
        go_wp2_with fail
        have hR := World.rangeAt_setCells_same wd w.heap.size 0 [.bool y.fail, .string y.text] (HRd.out.row.there (o := 0) (m := 2) (Nat.le_refl _))
        refine bodyPost_ret_c2 [.bool y.fail, .string y.text] _ (.bool true) Tryz.results109 rfl hR Tryz.underlying151 rfl Tryz.xSizeAns rfl rfl ?_
        exact ⟨⟨y.fail, y.text, true, rfl, by unfold ansOf; rw [HAct.out, HEnv.out]; simp [ho], fun h => by cases h⟩, ((k0.trans K1d).set_new _).set_new _⟩
    · have HEnv := hide henv
      clear henv hS1
      go_wp2_with fail
      have hR := World.rangeAt_setCells_same w1 w.heap.size 0 [.bool false, .string ⟨#[]⟩] (HRw.out.row.there (o := 0) (m := 2) (Nat.le_refl _))
      refine bodyPost_ret_c2 [.bool false, .string ⟨#[]⟩] _ (.bool false) Tryz.results109 rfl hR Tryz.underlying151 rfl Tryz.xSizeAns rfl rfl ?_
      exact ⟨⟨false, ⟨#[]⟩, false, rfl, by unfold ansOf; rw [HAct.out, HEnv.out]; rfl, fun _ => ⟨rfl, rfl⟩⟩, ((k0.trans K1).set_new _).set_new _⟩
  · have HAct := hide hact
    clear hact
    have f3 : ¬ 9223372036854775807 < 3 + n.size := by omega
    go_wp2_with fail
    have hR := World.rangeAt_setCells_same w1 w.heap.size 0 [.bool true, .string ((⟨#[110, 111, 32]⟩ : ByteArray) ++ n)] (HRw.out.row.there (o := 0) (m := 2) (Nat.le_refl _))
    refine bodyPost_ret_c2 [.bool true, .string ((⟨#[110, 111, 32]⟩ : ByteArray) ++ n)] _ (.bool true) Tryz.results109 rfl hR Tryz.underlying151 rfl Tryz.xSizeAns rfl rfl ?_
    exact ⟨⟨true, noOf n, true, rfl, by unfold ansOf; rw [HAct.out]; rfl, fun h => by cases h⟩, ((k0.trans K1).set_new _).set_new _⟩
theorem answer_any (w : World) (kb : Nat) (a : Option Addr) (cap : Nat) (webl : List NodeD) (d : Option Addr) (dc : Nat) (l : List RunX) (n : ByteArray) (hwl : webl.length ≤ 1048576) (hll : l.length ≤ 1048576) (hn : n.size ≤ 1000) (hK : KnownX w kb a webl.length cap d l.length dc) (hN : Nodes w a webl) (hS : RunsX w d l) :
    Calls Tryz.prog 109 #[.pointer (some ⟨kb, 0, none⟩), .string n] w fun e w' => AnsSaid webl l n e ∧ Kept w w' := by
  refine (answer_anyO w kb a cap webl d dc l n hwl hll hn hK hN hS).mono ?_
  rintro e w' ⟨⟨f, t, ok, h1, h2, _⟩, k⟩
  exact ⟨⟨f, t, ok, h1, h2⟩, k⟩
end Go.Proofs.YtjhemildijapmaaGreatDoor
