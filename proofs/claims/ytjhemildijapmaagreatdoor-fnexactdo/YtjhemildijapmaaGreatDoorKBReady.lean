import Derived.Test.YtjhemildijapmaaGreatDoorKBRange
import Derived.Shelf.Abstract
import Derived.Shelf.RegionOpen
import Derived.WalkKit
import Derived.OwnWalkIn
import Derived.TacticsInMore
import Derived.LoopNIn
import Derived.LoopIn
import Derived.Test.YtjhemildijapmaaGreatDoorKBEnd
namespace Go.Proofs.YtjhemildijapmaaGreatDoor
open Go.RowKit Go.Shelf
attribute [local go_sem] Oper.semAt_some
def SeesV (d : Option Addr) (tb : Nat → Nat) (i : Nat) (W : World) : Prop := ∃ g, d = some ⟨g, 0, none⟩ ∧ W.cell? ⟨g, i, none⟩ = some (.pointer (some ⟨tb i, 0, none⟩)) ∧ W.cell? ⟨tb i, 1, none⟩ = some (.bool false) ∧ W.cell? ⟨tb i, 9, none⟩ = some (.int .i64 0)
def SeesN (d : Option Addr) (tb : Nat → Nat) (i : Nat) (W : World) : Prop := ∃ g, d = some ⟨g, 0, none⟩ ∧ W.cell? ⟨g, i, none⟩ = some (.pointer (some ⟨tb i, 0, none⟩)) ∧ (W.cell? ⟨tb i, 1, none⟩ = some (.bool true) ∨ (W.cell? ⟨tb i, 1, none⟩ = some (.bool false) ∧ ∃ op : Nat, op ≠ 0 ∧ W.cell? ⟨tb i, 9, none⟩ = some (.int .i64 (op : Int))))
set_option maxRecDepth 100000 in
set_option maxHeartbeats 3200000 in
theorem ready_looks (bb : Nat) (d : Option Addr) (n dc : Nat) (tb : Nat → Nat) (hn : n ≤ 1048576) :
    Looks Tryz.prog 25 (.pointer (some ⟨bb, 0, none⟩)) (fun i => #[.pointer (some ⟨tb i, 0, none⟩)]) (SeesV d tb) (SeesN d tb) n (fun W => W.cell? ⟨bb, 3, none⟩ = some (.slice d n dc)) := by
  intro l J Jx W hok hstep h0
  refine callsIn_of_wp Tryz.func25 rfl trivial ?_ rfl
  simp only [Tryz.ntmps25, List.size_toArray, List.length_cons, List.length_nil, Nat.reduceAdd, Nat.reduceSub, Array.replicate_succ, Array.replicate_zero, List.push_toArray, List.append_toArray, List.nil_append, List.cons_append]
  have HS := hide hstep
  clear hstep
  gi_wp2
  gi_loopw [12] (fun x wr => ∃ i : Nat, i ≤ n ∧ x = .int .i64 i ∧ J i wr) (fun x _ => n - (intOf x).toNat)
  case atStart => exact ⟨0, Nat.zero_le _, rfl, h0⟩
  case round =>
    obtain ⟨i, hi, rfl, hJ⟩ := hrel
    by_cases hlt : i < n
    · rcases HS.out i wr hlt hJ with ⟨⟨g, rfl, c0, c1, c2⟩, fn, tmps, assign, body, hy, hR⟩ | ⟨⟨g, rfl, c0, hc⟩, hJ'⟩
      · gi_wp2
        refine hR.mono ?_
        rintro e W3 (⟨rfl, hJ3⟩ | ⟨rfl, hJx3⟩)
        · gi_wp2
          go_roundw
          case rel => exact ⟨i + 1, by omega, by go_num, hJ3⟩
          case measure => simp [intOf]; omega
        · gi_wp2
          refine bodyPost_ret (results_none rfl _ _ _) rfl ?_
          exact ⟨⟨_, rfl⟩, .inr hJx3⟩
      · rcases hc with c1 | ⟨c1, op, hop, c2⟩
        · gi_wp2
          refine ⟨fun _ h => (by cases h), ?_⟩
          gi_wp2
          go_roundw
          case rel => exact ⟨i + 1, by omega, by go_num, hJ'⟩
          case measure => simp [intOf]; omega
        · have hne : ((op : Int) == 0) = false := by simpa using hop
          gi_wp2
          refine ⟨fun _ h => (by cases h), ?_⟩
          gi_wp2
          go_roundw
          case rel => exact ⟨i + 1, by omega, by go_num, hJ'⟩
          case measure => simp [intOf]; omega
    · gi_wp2
      go_end0
      have : i = n := by omega
      subst this
      exact ⟨⟨_, rfl⟩, .inl hJ⟩
end Go.Proofs.YtjhemildijapmaaGreatDoor
