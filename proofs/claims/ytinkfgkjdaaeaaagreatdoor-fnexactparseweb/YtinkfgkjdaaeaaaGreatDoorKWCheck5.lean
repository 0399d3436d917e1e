import Derived.Test.YtinkfgkjdaaeaaaGreatDoorKWCheck4
import Derived.Deep.RegionHeld
import Derived.Test.YtinkfgkjdaaeaaaGreatDoorKWLaw

namespace Go.Proofs.YtinkfgkjdaaeaaaGreatDoor
open Go.RowKit

theorem nodeName_any (w : World) (x y z : Value) (s : ByteArray) (hx : x = .string s) :
    Calls Tryz.prog 37 #[.agg #[x, y, z]] w fun e w' => e = .returned (.string s) ∧ Kept w w' := by
  subst hx
  go_enter Tryz.func37, Tryz.ntmps37
  go_wp2
  go_ret
  exact ⟨rfl, (Kept.refl _).alloc _⟩

theorem boxCells2 {w wi : World} {x y : Value} {t : TypeId} (K : Kept (w.alloc (.cells #[x, y] t)) wi) : wi.cell? ⟨w.heap.size, 0, none⟩ = some x ∧ wi.cell? ⟨w.heap.size, 1, none⟩ = some y := by
  constructor
  · rw [K.cell (by simp)]; simp
  · rw [K.cell (by simp)]; simp

theorem wrap_i64_in {m : Int} (h1 : -9223372036854775808 ≤ m) (h2 : m ≤ 9223372036854775807) : IntKind.i64.wrap m = m := by
  simp only [IntKind.wrap, IntKind.signed, IntKind.bits]
  first | omega | (simp; omega)

set_option maxRecDepth 100000 in
set_option maxHeartbeats 1600000 in
theorem ascending_any (w : World) (a : Option Addr) (cap : Nat) (l : List NodeD) (hl : l.length ≤ maxLen) (hS : Nodes w a l) :
    Calls Tryz.prog 33 #[.agg #[.slice a l.length cap, .func (.func 37) #[] #[]]] w fun e w' => Says e (¬ SomeFalls l) ∧ Kept w w' := by
  unfold maxLen at hl
  have k0 : Kept w (w.alloc (.cells #[.slice a l.length cap, .func (.func 37) #[] #[]] 43)) := (Kept.refl _).alloc _
  go_enter Tryz.func33, Tryz.ntmps33
  go_wp2
  go_loopw [3] (fun i wr => ∃ n : Nat, 1 ≤ n ∧ n ≤ l.length + 1 ∧ i = .int .i64 n ∧ Kept (w.alloc (.cells #[.slice a l.length cap, .func (.func 37) #[] #[]] 43)) wr ∧ RisesTo l n) (fun i _ => l.length + 2 - (intOf i).toNat)
  case atStart => exact ⟨1, by omega, by omega, rfl, Kept.refl _, fun j hj => absurd hj (by omega)⟩
  case round =>
    obtain ⟨n, hn1, hn2, rfl, hw, hg⟩ := hrel
    have HG := hide hg
    clear hg
    have hz1 := hw.size
    simp only [World.size_alloc] at hz1
    have z0 : w.heap.size < wr.heap.size := by omega
    obtain ⟨p0, p1⟩ := boxCells2 hw
    by_cases hlt : n < l.length
    · have k1 : Kept w wr := k0.trans hw
      obtain ⟨b, o, cs, rfl, hb, hc, aa, ca, rfl, hA⟩ := hS.kept k1 (n - 1) (by omega)
      obtain ⟨b', o', cs', e', hb', hc', ba, da, rfl, hA'⟩ := hS.kept k1 n hlt
      simp only [Option.some.injEq, Addr.mk.injEq, and_true] at e'
      obtain ⟨rfl, rfl⟩ := e'
      obtain ⟨x, hxk⟩ : ∃ x, x = (l.getD (n - 1) NodeD.zero) := ⟨_, rfl⟩
      obtain ⟨y, hyk⟩ : ∃ y, y = (l.getD n NodeD.zero) := ⟨_, rfl⟩
      rw [← hxk] at hc
      rw [← hyk] at hc'
      have HX : Hid (l.getD (n - 1) NodeD.zero = x) := hxk.symm
      have HYK : Hid (l.getD (n - 1 + 1) NodeD.zero = y) := by rw [hyk, show n - 1 + 1 = n by omega]; exact rfl
      clear hxk hyk hA hA'
      have c0 := hc 0 _ rfl
      have c1 := hc 1 _ rfl
      have c2 := hc 2 _ rfl
      have d0 := hc' 0 _ rfl
      have d1 := hc' 1 _ rfl
      have d2 := hc' 2 _ rfl
      simp only [Nat.add_zero] at c0 d0
      clear hc hc'
      have i0 : (0 : Int) ≤ (n : Int) - 1 := by omega
      have i1 : (n : Int) - 1 < (l.length : Int) := by omega
      have i2 : (n : Int) < (l.length : Int) := by omega
      have i5 : (1 : Int) ≤ (n : Int) := by omega
      have i6 : (n : Int) ≤ (l.length : Int) := by omega
      have i7 : n ≤ l.length := by omega
      have i3 : ((n : Int) - 1).toNat = n - 1 := by omega
      have i4 : IntKind.i64.wrap ((n : Int) - 1) = (n : Int) - 1 := wrap_i64_in (by omega) (by omega)
      have hSof : ∀ w', Kept wr w' → (fun w' => w'.cell? ⟨b, o + (n - 1) * 3, none⟩ = some (.string x.name) ∧ w'.cell? ⟨b, o + (n - 1) * 3 + 1, none⟩ = some (.int .i64 x.cost) ∧ w'.cell? ⟨b, o + (n - 1) * 3 + 2, none⟩ = some (.slice aa x.steps.length ca) ∧ w'.cell? ⟨b, o + n * 3, none⟩ = some (.string y.name) ∧ w'.cell? ⟨b, o + n * 3 + 1, none⟩ = some (.int .i64 y.cost) ∧ w'.cell? ⟨b, o + n * 3 + 2, none⟩ = some (.slice ba y.steps.length da) ∧ w'.cell? ⟨w.heap.size, 0, none⟩ = some (.slice (some ⟨b, o, none⟩) l.length cap) ∧ w'.cell? ⟨w.heap.size, 1, none⟩ = some (.func (.func 37) #[] #[])) w' := fun w' kk => ⟨(Kept.cell kk hb).trans c0, (Kept.cell kk hb).trans c1, (Kept.cell kk hb).trans c2, (Kept.cell kk hb).trans d0, (Kept.cell kk hb).trans d1, (Kept.cell kk hb).trans d2, (Kept.cell kk z0).trans p0, (Kept.cell kk z0).trans p1⟩
      have HSO := hide hSof
      clear hSof
      cases hbl : Op.bytesLess x.name.toList y.name.toList
      · go_wp2
        go_region_held (fun w' => w'.cell? ⟨b, o + (n - 1) * 3, none⟩ = some (.string x.name) ∧ w'.cell? ⟨b, o + (n - 1) * 3 + 1, none⟩ = some (.int .i64 x.cost) ∧ w'.cell? ⟨b, o + (n - 1) * 3 + 2, none⟩ = some (.slice aa x.steps.length ca) ∧ w'.cell? ⟨b, o + n * 3, none⟩ = some (.string y.name) ∧ w'.cell? ⟨b, o + n * 3 + 1, none⟩ = some (.int .i64 y.cost) ∧ w'.cell? ⟨b, o + n * 3 + 2, none⟩ = some (.slice ba y.steps.length da) ∧ w'.cell? ⟨w.heap.size, 0, none⟩ = some (.slice (some ⟨b, o, none⟩) l.length cap) ∧ w'.cell? ⟨w.heap.size, 1, none⟩ = some (.func (.func 37) #[] #[])) (exact unhide HSO _ (by repeat (first | apply Kept.drew | exact Kept.refl _ | assumption))) ((go_at_call 37; refine (nodeName_any _ _ _ _ _ rfl).mono ?_; rintro e w1 ⟨rfl, hw1⟩; have kk : Kept wr w1 := Kept.trans (by repeat (first | apply Kept.drew | exact Kept.refl _ | assumption)) hw1))
        all_goals
          have kf := hw.trans kk
          go_wp2
          go_ret
          exact ⟨Says.no fun h => h ⟨n - 1, by omega, by unfold FallsAt; rw [HX.out, HYK.out]; exact hbl⟩, k0.trans (by repeat (first | apply Kept.drew | exact kf))⟩
      · go_wp2
        go_region_held (fun w' => w'.cell? ⟨b, o + (n - 1) * 3, none⟩ = some (.string x.name) ∧ w'.cell? ⟨b, o + (n - 1) * 3 + 1, none⟩ = some (.int .i64 x.cost) ∧ w'.cell? ⟨b, o + (n - 1) * 3 + 2, none⟩ = some (.slice aa x.steps.length ca) ∧ w'.cell? ⟨b, o + n * 3, none⟩ = some (.string y.name) ∧ w'.cell? ⟨b, o + n * 3 + 1, none⟩ = some (.int .i64 y.cost) ∧ w'.cell? ⟨b, o + n * 3 + 2, none⟩ = some (.slice ba y.steps.length da) ∧ w'.cell? ⟨w.heap.size, 0, none⟩ = some (.slice (some ⟨b, o, none⟩) l.length cap) ∧ w'.cell? ⟨w.heap.size, 1, none⟩ = some (.func (.func 37) #[] #[])) (exact unhide HSO _ (by repeat (first | apply Kept.drew | exact Kept.refl _ | assumption))) ((go_at_call 37; refine (nodeName_any _ _ _ _ _ rfl).mono ?_; rintro e w1 ⟨rfl, hw1⟩; have kk : Kept wr w1 := Kept.trans (by repeat (first | apply Kept.drew | exact Kept.refl _ | assumption)) hw1))
        all_goals
          have kf := hw.trans kk
          go_wp2
          go_roundw
          case rel =>
            refine ⟨n + 1, by omega, by omega, by go_num, by repeat (first | apply Kept.drew | exact kf), fun j hj => ?_⟩
            by_cases e : j = n - 1
            · subst e
              unfold FallsAt
              rw [HX.out, HYK.out, hbl]
              simp
            · exact HG.out j (by omega)
          case measure => simp [intOf]; omega
    · go_wp2
      go_ret
      exact ⟨Says.yes fun ⟨i, hi, h⟩ => HG.out i (by omega) h, k0.trans hw⟩

theorem ascSaid : AscSaid := fun w a cap l hl hS => ascending_any w a cap l hl hS

end Go.Proofs.YtinkfgkjdaaeaaaGreatDoor

namespace Go.Proofs.YtinkfgkjdaaeaaaGreatDoor
open Go.RowKit

end Go.Proofs.YtinkfgkjdaaeaaaGreatDoor
