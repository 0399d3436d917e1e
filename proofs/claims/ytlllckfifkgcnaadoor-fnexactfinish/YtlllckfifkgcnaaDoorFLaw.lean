import Derived.Test.YtlllckfifkgcnaaDoorWStrs
import Derived.Test.YtlllckfifkgcnaaDoorFSpec2
import Derived.Test.YtlllckfifkgcnaaDoorFImpl2

/-
  THE WALK over laws.FnExactFinish.
-/
namespace Go.Proofs.YtlllckfifkgcnaaDoor
open Go.RowKit

set_option maxHeartbeats 1600000 in
theorem lawFinish (w : World) (give : ByteArray) (a : Option Addr) (cap : Nat) (l : List ByteArray) (hg : give.size ≤ maxLen) (hl : l.length ≤ maxLen) (hs : ∀ s ∈ l, s.size ≤ maxLen) (hS : Strs w a l) (hT : TabOk w) :
    Calls Tryd.prog 4 #[.string give, .slice a l.length cap] w fun e w' => e = .returned (.bool true) ∧ Kept w w' := by
  have hg' := hg
  unfold maxLen at hg
  by_cases h0 : (1048576 : Int) < give.size
  · go_enter Tryd.func4, Tryd.ntmps4
    go_wp2
    go_ret
    exact ⟨rfl, Kept.refl _⟩
  · go_enter Tryd.func4, Tryd.ntmps4
    go_wp2_with fail
    refine (szStringS_any _ a cap l 1048576 hl hs hS (by omega) (by omega)).mono ?_
    rintro e w1 ⟨rfl, rfl⟩
    by_cases hle : (szStrs l : Int) ≤ 1048576
    · rw [szL_pos hle]
      have hl2 : l.length ≤ 1048576 := by unfold szStrs at hle; omega
      go_wp2_with fail
      refine (toStringS_any _ a cap l hl2 hS).mono ?_
      rintro e w2 ⟨b1, rfl, hN1, k2, hb1⟩
      go_wp2_with fail
      refine (specFinish_any _ give (some ⟨b1, 0, none⟩) l.length l hg' hl hs hN1).mono ?_
      rintro e w3 ⟨rfl, k3⟩
      have K3 := Kept.trans k2 k3
      clear hN1 k2 k3 hb1
      go_wp2_with fail
      refine (toStringS_any _ a cap l hl2 (hS.kept K3)).mono ?_
      rintro e w4 ⟨b2, rfl, hN2, k4, hb2⟩
      have K4 := Kept.trans K3 k4
      clear K3 k4 hb2
      go_wp2_with fail
      refine (finish_any _ give (some ⟨b2, 0, none⟩) l.length l hg' hl hN2 (Nat.le_refl _) (hT.kept K4)).mono ?_
      rintro e w5 ⟨rfl, k5⟩
      have K5 := Kept.trans K4 k5
      have hN3 := hN2.kept k5
      clear K4 k5 hN2
      generalize finB give l = r
      go_wp2_with fail
      refine (toStringS_any _ a cap l hl2 (hS.kept K5)).mono ?_
      rintro e w6 ⟨b3, rfl, hN4, k6, hb3⟩
      have K6 := Kept.trans K5 k6
      have hN5 := hN3.kept k6
      clear K5 k6 hb3 hN3
      go_wp2_with fail
      refine (eqStringS_yes _ (some ⟨b2, 0, none⟩) (some ⟨b3, 0, none⟩) l.length l.length l hl hN5 hN4).mono ?_
      rintro e w7 ⟨rfl, k7⟩
      have K7 := Kept.trans K6 k7
      clear K6 k7
      go_wp2
      go_ret
      exact ⟨rfl, K7⟩
    · rw [szL_neg (by omega)]
      go_wp2
      go_ret
      exact ⟨rfl, Kept.refl _⟩

end Go.Proofs.YtlllckfifkgcnaaDoor
