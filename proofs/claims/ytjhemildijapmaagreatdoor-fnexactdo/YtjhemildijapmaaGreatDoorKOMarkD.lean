import Derived.Test.YtjhemildijapmaaGreatDoorKDBase
namespace Go.Proofs.YtjhemildijapmaaGreatDoor
open Go.RowKit
def mdig (k : Nat) (acc : List UInt8) : List UInt8 := if k = 0 then acc else mdig (k / 10) (UInt8.ofNat (48 + k % 10) :: acc)
termination_by k
decreasing_by omega
theorem mdig_zero (acc : List UInt8) : mdig 0 acc = acc := by rw [mdig]; simp
theorem mdig_pos {k : Nat} (h : 0 < k) (acc : List UInt8) : mdig k acc = mdig (k / 10) (UInt8.ofNat (48 + k % 10) :: acc) := by rw [mdig, if_neg (by omega)]
def mtext (k : Nat) : ByteArray := ⟨(109 :: mdig k []).toArray⟩
def markStrs (l : List ByteArray) (k : Nat) : List ByteArray := l.mapIdx fun i _ => mtext (k + i)
def markCase (k : Nat) : CaseD := ⟨mtext k, ((k + 1 : Nat) : Int)⟩
def markCases (l : List CaseD) (k : Nat) : List CaseD := l.mapIdx fun i _ => markCase (k + i * 2)
def cntStep (s : StepD) : Nat := s.asks.length + s.cases.length * 2 + 6
def markStep (s : StepD) (k : Nat) : StepD :=
  { asks := markStrs s.asks k, on := ((k + s.asks.length : Nat) : Int), cases := markCases s.cases (k + s.asks.length + 1),
    els := ((k + s.asks.length + 1 + s.cases.length * 2 : Nat) : Int), fall := ((k + s.asks.length + 1 + s.cases.length * 2 + 1 : Nat) : Int),
    fin := decide ((k + s.asks.length + 1 + s.cases.length * 2 + 2) % 3 = 0), bad := decide ((k + s.asks.length + 1 + s.cases.length * 2 + 3) % 3 = 0),
    give := mtext (k + s.asks.length + 1 + s.cases.length * 2 + 4) }
def markSteps (l : List StepD) (k : Nat) : List StepD := l.mapIdx fun i s => markStep s (k + sumTo cntStep l i)
theorem markStrs_length (l : List ByteArray) (k : Nat) : (markStrs l k).length = l.length := by simp [markStrs]
theorem markCases_length (l : List CaseD) (k : Nat) : (markCases l k).length = l.length := by simp [markCases]
theorem markSteps_length (l : List StepD) (k : Nat) : (markSteps l k).length = l.length := by simp [markSteps]
theorem markStrs_getD (l : List ByteArray) (k i : Nat) (h : i < l.length) : (markStrs l k).getD i ByteArray.empty = mtext (k + i) := by simp [markStrs, List.getD, h]
theorem markCases_getD (l : List CaseD) (k i : Nat) (h : i < l.length) : (markCases l k).getD i CaseD.zero = markCase (k + i * 2) := by simp [markCases, List.getD, h]
theorem markSteps_getD (l : List StepD) (k i : Nat) (h : i < l.length) : (markSteps l k).getD i StepD.zero = markStep (l.getD i StepD.zero) (k + sumTo cntStep l i) := by simp [markSteps, List.getD, h]
end Go.Proofs.YtjhemildijapmaaGreatDoor
