import Derived.Test.YtmdckapiljhfdaaGreatWNode

/-
  WALKS over nodes: szNodeS.
-/
namespace Go.Proofs.YtmdckapiljhfdaaGreat
open Go.RowKit

/-- How much the nodes of a list weigh. -/
def szNodesD (l : List NodeD) : Nat := l.length + (l.map szNodeD).sum

set_option maxHeartbeats 800000 in
theorem szNodeS_any (w : World) (a : Option Addr) (cap : Nat) (l : List NodeD) (left : Int) (hl : l.length ≤ maxLen) (hs : ∀ s ∈ l, s.Fits)
    (hS : Nodes w a l) (h0 : 0 ≤ left) (h1 : left ≤ 1048576) :
    Calls Tryz.prog 17 #[.slice a l.length cap, .int .i64 left] w fun e w' => e = .returned (.int .i64 (szL (szNodesD l) left)) ∧ Kept w w' := by
  unfold maxLen at hl
  go_enter Tryz.func17, Tryz.ntmps17
  go_wp2
  · go_ret
    exact ⟨ret_int (szL_neg (by unfold szNodesD; omega)).symm, Kept.refl _⟩
  · go_loopw [1, 5] (fun x i wr => ∃ k : Nat, k ≤ l.length ∧ i = .int .i64 k ∧ x = .int .i64 (left - l.length - sumTo szNodeD l k) ∧ 0 ≤ left - l.length - sumTo szNodeD l k ∧ Kept w wr) (fun _ i _ => l.length - (intOf i).toNat)
    case atStart => exact ⟨0, Nat.zero_le _, rfl, by simp [sumTo_zero], by simp [sumTo_zero]; omega, Kept.refl _⟩
    case round =>
      obtain ⟨k, hk, rfl, rfl, hge, hw⟩ := hrel
      by_cases hlt : k < l.length
      · obtain ⟨b, o, cs, rfl, hb, hc, aa, ca, rfl, hA⟩ := hS.kept hw k hlt
        have hsz : (l.getD k NodeD.zero).Fits := hs _ (by simp [List.getD, hlt])
        have HS : Hid (sumTo szNodeD l (k + 1) = sumTo szNodeD l k + szNodeD (l.getD k NodeD.zero)) := sumTo_succ _ l _ k hlt
        have HT := sumTo_le szNodeD l (k + 1)
        generalize l.getD k NodeD.zero = s at *
        have c0 := hc 0 _ rfl
        have c1 := hc 1 _ rfl
        have c2 := hc 2 _ rfl
        simp only [Nat.add_zero] at c0
        clear hc
        go_wp2_with fail
        refine (szNode_any _ s aa ca _ hsz hA (by omega) (by omega)).mono ?_
        rintro e w1 ⟨rfl, hw1⟩
        have hw2 := hw.trans hw1
        by_cases hle : (szNodeD s : Int) ≤ left - l.length - sumTo szNodeD l k
        · rw [szL_pos hle]
          clear c0 c1 c2 hA hw hw1
          go_wp2
          go_roundw
          case rel => exact ⟨k + 1, by omega, by go_num, by rw [HS.out]; go_num, by rw [HS.out]; omega, hw2⟩
          case measure => simp [intOf]; omega
        · rw [szL_neg (by omega)]
          clear c0 c1 c2 hA hw hw1
          go_wp2
          go_ret
          exact ⟨ret_int (szL_neg (by unfold szNodesD; have := HS.out; omega)).symm, hw2⟩
      · go_wp2
        go_ret
        have : k = l.length := by omega
        subst this
        rw [sumTo_all] at hge ⊢
        exact ⟨ret_int (by rw [szL_pos (by unfold szNodesD; omega)]; unfold szNodesD; omega), hw⟩

end Go.Proofs.YtmdckapiljhfdaaGreat
