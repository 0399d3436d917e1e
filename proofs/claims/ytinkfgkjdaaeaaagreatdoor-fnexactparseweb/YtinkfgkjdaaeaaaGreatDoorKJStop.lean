import Derived.Test.YtinkfgkjdaaeaaaGreatDoorKJAs
import Derived.Test.YtinkfgkjdaaeaaaGreatDoorKJAskO

namespace Go.Proofs.YtinkfgkjdaaeaaaGreatDoor
open Go.RowKit

theorem as_stop {W3 W : World} {fb sb : Nat} {line : Int} {u : Value} {po : Addr} (hne : fb ≠ sb) (hF : FaultAt W fb line u) (hT : RowT W sb 67 1) (hE : Env po W) (kW : Kept W3 W) :
    Calls Tryz.prog 48 #[.iface 67 (.pointer (some ⟨fb, 0, none⟩)), .iface 89 (.pointer (some ⟨sb, 0, none⟩))] W fun e w' => e = .returned (.bool true) ∧ w'.cell? ⟨sb, 0, none⟩ = some (.pointer (some ⟨fb, 0, none⟩)) ∧ FaultAt w' fb line u ∧ KeptBut sb (sb + 1) W3 w' := by
  obtain ⟨⟨v, t0⟩, tf⟩ := hT.row.at (i := 0) (by omega)
  refine (as_any ⟨fb, 0, none⟩ ⟨sb, 0, none⟩ v W hE t0 tf).mono ?_
  rintro e w' ⟨rfl, W4, k4, rfl⟩
  refine ⟨rfl, set_hit (hT.kept k4).row (by omega) _, ?_, ?_⟩
  · exact (Below.heap_setCell _ _ _ _ (fun e => hne e)).trans (hF.kept k4)
  · exact (KeptBut.of_kept (kW.trans k4)).setCell (p := ⟨sb, 0, none⟩) (Nat.le_refl sb) (Nat.lt_succ_self sb) _

theorem KeptBut.belowOf {w w' : World} {sb B : Nat} (h : KeptBut sb (sb + 1) w w') (hB : B ≤ sb) (hz : B ≤ w.heap.size) : Below B w w' := ⟨h.os, h.tape, h.output, h.size, fun k hk => h.block k (by omega) (by omega)⟩
theorem Tryz.compErr : (Tryz.prog.info? 211).map (·.comparable) = some true := by kernel_rfl
theorem Tryz.sizeErr : (Tryz.prog.info? 213).map (·.size) = some 1 := by kernel_rfl
theorem run_eql_types {P : Program} (w : World) {ti t1 t2 : TypeId} {ms : Array (String × TypeId)} (hi : P.underlying ti = some (.interface ms)) (hn : t1 ≠ t2) (v u : Value) :
    (binOp .eql ti (.iface t1 v) (.iface t2 u)).run P w = .ok (.bool false) w := by
  have h : ∀ d : Nat, (Op.equalIn (d + 1) ti (.iface t1 v) (.iface t2 u)).run P w = .ok false w := fun d => by simp [Op.equalIn, run_underlying hi, hn]
  simp only [binOp]
  simp [Op.equal, Op.maxDepth, h 9999]

end Go.Proofs.YtinkfgkjdaaeaaaGreatDoor
