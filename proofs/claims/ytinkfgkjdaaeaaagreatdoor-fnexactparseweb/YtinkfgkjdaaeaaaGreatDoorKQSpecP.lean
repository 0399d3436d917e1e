import Derived.Test.YtinkfgkjdaaeaaaGreatDoorKQLine
import Derived.Test.YtinkfgkjdaaeaaaGreatDoorKOOrder
import Derived.Test.YtinkfgkjdaaeaaaGreatDoorKWCheck4
import Derived.Test.YtinkfgkjdaaeaaaGreatDoorKWSpec
import Derived.Test.YtinkfgkjdaaeaaaGreatDoorKWCheck5
import Derived.Test.YtinkfgkjdaaeaaaGreatDoorKQSpecS

namespace Go.Proofs.YtinkfgkjdaaeaaaGreatDoor
open Go.RowKit

end Go.Proofs.YtinkfgkjdaaeaaaGreatDoor

namespace Go.Proofs.YtinkfgkjdaaeaaaGreatDoor
open Go.RowKit

end Go.Proofs.YtinkfgkjdaaeaaaGreatDoor

namespace Go.Proofs.YtinkfgkjdaaeaaaGreatDoor
open Go.RowKit

end Go.Proofs.YtinkfgkjdaaeaaaGreatDoor

namespace Go.Proofs.YtinkfgkjdaaeaaaGreatDoor
open Go.RowKit

def Printed (l : List NodeD) (e : Ending) : Prop := (∃ c, WebCode l c ∧ c ≠ 0 ∧ e = .returned (.string ⟨#[]⟩)) ∨ (WebCode l 0 ∧ e = .returned (.string ⟨(formL l).toArray⟩))

end Go.Proofs.YtinkfgkjdaaeaaaGreatDoor

namespace Go.Proofs.YtinkfgkjdaaeaaaGreatDoor
open Go.RowKit

section
variable {P : Program} (w : World)
theorem wp_append_str {o : Oper} {a : Act} {K : Act → World → Prop} {Q : Exit → Act → World → Prop} (sl x : Operand) (t u : TypeId)
    (ho : o.op = .call { callee := .builtin .append, args := #[sl, x], argTypes := #[t, u] })
    (base : Nat) (e : TypeId) (i : TypeInfo) (ht : P.underlying t = some (.slice e)) (hu : P.underlying u = some .string) (hi : P.info? e = some i) (hz : i.zero = some (.int .u8 0))
    (hsize : i.size = 1) (hby : i.bytes = 1)
    (v : Value) (n : Nat) (xs : List Value) (hs : a.eval sl = v) (hown : w.ownsRow base e 1 v n xs) (s : ByteArray) (hx : a.eval x = .string s)
    (h63 : n + s.size ≤ maxLen) (hbytes : n + s.size ≤ 140737488355328) (hbase : base ≤ w.heap.size)
    (h : ∀ v' w', w'.ownsRow base e 1 v' (n + s.size) (xs ++ Lib.strCells s) → w.grownBy w' v.ownBlock → K (a.put o.dst v') w') : o.wp P a w K Q := by
  obtain ⟨v', w', hr, h2, h3, h4⟩ := run_append_str_lies (P := P) w base t u o.type e i ht hu hi hz hsize hby v n xs hown s h63 hbytes hbase
  unfold Oper.wp execOp
  simp only [ho, resolve, invoke, builtin, Sem.run_bind, Sem.run_pure, Result.andThen_ok, List.map_toArray, List.map_cons, List.map_nil, hs, hx, hr]
  exact h v' w' h2 h3
end

theorem bytes_all {w : World} {B : Nat} {v : Value} {l : List UInt8} (h : w.ownsRow B 5 1 v l.length (Lib.byteCells l)) : (convert 63 9 v).run Tryz.prog w = .ok (.string ⟨l.toArray⟩) w := by
  rcases h.2 with ⟨rfl, h0⟩ | ⟨g, cap, cur, rfl, _⟩
  · rw [List.eq_nil_of_length_eq_zero h0]
    exact run_convert_bytes_nil w 63 5 Tryz.underlying63 Tryz.underlying5 0 0 9 Tryz.underlying9
  · refine run_convert_bytes_back w 63 9 5 ⟨g, 0, none⟩ cap l Tryz.underlying63 Tryz.underlying5 Tryz.underlying9 (fun j hj => ?_)
    exact h.cells (g := g) rfl j _ (by simp only [Lib.byteCells, List.getElem?_map, List.getElem?_eq_getElem hj, Option.map_some])

set_option maxRecDepth 100000 in
set_option maxHeartbeats 6400000 in
theorem specPrint_any (w : World) (a : Option Addr) (cap : Nat) (l : List NodeD) (hl : l.length ≤ maxLen) (hs : ∀ s ∈ l, s.Fits) (hS : Nodes w a l) :
    Calls Tryz.prog 11 #[.agg #[.slice a l.length cap]] w fun e w' => Printed l e ∧ Kept w w' := by
  obtain ⟨i0, hi, hy0, hy1, hy2⟩ := info_parts Tryz.infoU8
  obtain ⟨W0, hW0⟩ : ∃ W0, W0 = w.alloc (.cells #[.slice a l.length cap] 24) := ⟨_, rfl⟩
  have K0 : Hid (Kept w W0) := by rw [hW0]; exact (Kept.refl _).alloc _
  have q0 : W0.cell? ⟨w.heap.size, 0, none⟩ = some (.slice a l.length cap) := by rw [hW0]; exact range_made w #[.slice a l.length cap] 24 0 _ rfl
  have qz : w.heap.size < W0.heap.size := by rw [hW0]; simp
  have hl' := hl
  unfold maxLen at hl'
  go_enter Tryz.func11, Tryz.ntmps11
  go_wp2_with fail
  rw [← hW0]
  clear hW0
  refine (specCheckWeb_any W0 a cap l hl hs (hS.kept K0.out)).mono ?_
  rintro e W1 ⟨⟨c, rfl, hc⟩, k1⟩
  have HC := hide hc
  have K1 := hide (Kept.trans K0.out k1)
  have q1 : W1.cell? ⟨w.heap.size, 0, none⟩ = some (.slice a l.length cap) := (k1.cell qz).trans q0
  have hz1 : w.heap.size < W1.heap.size := Nat.lt_of_lt_of_le qz k1.size
  clear hc k1 K0 q0 qz
  by_cases h0 : c = 0
  · subst h0
    have hok := webOk_of_code HC.out
    have hl60 := hok.1
    have HOK := hide hok
    have Q1 := hide q1
    clear hok
    obtain ⟨W2, hW2⟩ : ∃ W2, W2 = W1.alloc (.cells #[] 5) := ⟨_, rfl⟩
    have HO2 : Hid (W2.ownsRow W1.heap.size 5 1 (.slice (some ⟨W1.heap.size, 0, none⟩) 0 0) (nodesL (l.take 0)).length (Lib.byteCells (nodesL (l.take 0)))) := by
      rw [hW2]
      exact ⟨rfl, .inr ⟨W1.heap.size, 0, _, rfl, Nat.le_refl _, heap_alloc_new W1 _, Nat.le_refl _, Nat.zero_le _, rfl, rfl⟩⟩
    have K2 : Hid (Kept W1 W2) := by rw [hW2]; exact (Kept.refl _).alloc _
    go_upto_region 4 with fail
    rw [← hW2]
    clear hW2 q1
    go_wp2
    go_loopw [3, 4] (fun x i wr => ∃ (k : Nat) (av : Option Addr) (cv : Nat), k ≤ l.length ∧ i = .int .i64 k ∧ x = .slice av (nodesL (l.take k)).length cv ∧ Hid (wr.ownsRow W1.heap.size 5 1 (.slice av (nodesL (l.take k)).length cv) (nodesL (l.take k)).length (Lib.byteCells (nodesL (l.take k)))) ∧ Hid (Kept W1 wr)) (fun _ i _ => l.length - (intOf i).toNat)
    case atStart => exact ⟨0, _, _, Nat.zero_le _, rfl, rfl, HO2, K2⟩
    case round =>
      obtain ⟨k, av, cv, hk, rfl, rfl, HO, Kr⟩ := hrel
      clear HO2 K2
      have hnl := nodesL_le HOK.out k
      have rb : wr.cell? ⟨w.heap.size, 0, none⟩ = some (.slice a l.length cap) := (Kr.out.cell hz1).trans Q1.out
      by_cases hlt : (k : Int) < (l.length : Int)
      · have hkl : k < l.length := by omega
        obtain ⟨nb, no, cs, rfl, hnb, hnc, sa, sc, rfl, hSt⟩ := (hS.kept K1.out) k hkl
        have hnok := HOK.out.2 k hkl
        have HTn := hide (nodesL_take_succ l k hkl)
        obtain ⟨d, hd⟩ : ∃ d, d = l.getD k NodeD.zero := ⟨_, rfl⟩
        rw [← hd] at hnc hnok HTn hSt
        have hcost := hnok.2.1
        have hnsz := hnok.1.2.1
        have h20 := hnok.2.2.1
        simp only at hcost h20
        have c0 := hnc 0 _ rfl
        have c1 := hnc 1 _ rfl
        have c2 := hnc 2 _ rfl
        rw [Nat.add_zero] at c0
        have r0 : True := trivial
        clear hnc hd
        obtain ⟨nl, hnl2⟩ : ∃ nl, nl = nodesL (l.take k) := ⟨_, rfl⟩
        rw [← hnl2] at HO HTn hnl ⊢
        clear hnl2
        have HTn : Hid (nodesL (l.take (k + 1)) = nl ++ (headL d ++ stepsL d.steps)) := HTn
        go_wp2
        have HH : Hid (∀ u, Kept W1 u → (u.cell? ⟨w.heap.size, 0, none⟩ = some (.slice (some ⟨nb, no, none⟩) l.length cap) ∧ u.cell? ⟨nb, no + k * 3, none⟩ = some (.string d.name) ∧ u.cell? ⟨nb, no + k * 3 + 1, none⟩ = some (.int .i64 d.cost))) := fun u kk => ⟨(kk.cell hz1).trans Q1.out, (kk.cell hnb).trans c0, (kk.cell hnb).trans c1⟩
        have C2 := hide c2
        clear r0 rb c0 c1 c2
        refine UpTo.region (by kernel_rfl) (fun u => u.cell? ⟨w.heap.size, 0, none⟩ = some (.slice (some ⟨nb, no, none⟩) l.length cap) ∧ u.cell? ⟨nb, no + k * 3, none⟩ = some (.string d.name) ∧ u.cell? ⟨nb, no + k * 3 + 1, none⟩ = some (.int .i64 d.cost)) 20 (HH.out _ (Kept.trans Kr.out (Kept.refl wr).drew)) (fun hHeld => ?_)
        have HOd := hide (ownsRow_kept0 HO.out (Kept.refl wr).drew)
        have KD : Hid (Kept W1 wr.drew) := Kept.trans Kr.out (Kept.refl wr).drew
        generalize hwd : wr.drew = wd at KD HOd hHeld ⊢
        clear hwd
        refine UpTo.take 0 [19, 20] (v := ?_) (by (simp only [List.getElem?_toArray, List.getElem?_cons_zero]; rfl)) (by kernel_rfl) (by kernel_rfl) (by kernel_rfl) (by kernel_rfl) (by exact fun _ _ _ h => h) (Or.inl ⟨by rfl, ?_⟩) hHeld ?_
        rotate_left
        · intro u hu
          try dsimp only at hu
          go_simp
          try with_reducible rfl
        try simp only [Act.put, List.setIfInBounds_toArray, List.set_cons_zero, List.set_cons_succ]
        refine UpTo.take 1 [2, 4, 5, 6, 7, 8, 17, 18, 19, 20] (v := ?_) (by (simp only [List.getElem?_toArray, List.getElem?_cons_succ, List.getElem?_cons_zero]; rfl)) (by kernel_rfl) (by kernel_rfl) (by kernel_rfl) (by kernel_rfl) (by exact fun _ _ _ h => h) (Or.inl ⟨by rfl, ?_⟩) hHeld ?_
        rotate_left
        · intro u hu
          try dsimp only at hu
          go_simp
          try with_reducible rfl
        try simp only [Act.put, List.setIfInBounds_toArray, List.set_cons_zero, List.set_cons_succ]
        refine UpTo.take 2 [4, 5, 6, 7, 8, 17, 18, 19, 20] (v := ?_) (by (simp only [List.getElem?_toArray, List.getElem?_cons_succ, List.getElem?_cons_zero]; rfl)) (by kernel_rfl) (by kernel_rfl) (by kernel_rfl) (by kernel_rfl) (by exact fun _ _ _ h => h) (Or.inl ⟨by rfl, ?_⟩) hHeld ?_
        rotate_left
        · intro u hu
          try dsimp only at hu
          go_simp
          try with_reducible rfl
        try simp only [Act.put, List.setIfInBounds_toArray, List.set_cons_zero, List.set_cons_succ]
        refine UpTo.take 3 [4, 5, 6, 7, 8, 17, 18, 19, 20] (v := ?_) (by (simp only [List.getElem?_toArray, List.getElem?_cons_succ, List.getElem?_cons_zero]; rfl)) (by kernel_rfl) (by kernel_rfl) (by kernel_rfl) (by kernel_rfl) (by exact fun _ _ _ h => h) (Or.inl ⟨by rfl, ?_⟩) hHeld ?_
        rotate_left
        · intro u hu
          try dsimp only at hu
          go_simp
          try with_reducible rfl
        try simp only [Act.put, List.setIfInBounds_toArray, List.set_cons_zero, List.set_cons_succ]
        refine UpTo.take 4 [5, 6, 7, 8, 17, 18, 19, 20] (v := ?_) (by (simp only [List.getElem?_toArray, List.getElem?_cons_succ, List.getElem?_cons_zero]; rfl)) (by kernel_rfl) (by kernel_rfl) (by kernel_rfl) (by kernel_rfl) (by exact fun _ _ _ h => h) (Or.inl ⟨by rfl, ?_⟩) hHeld ?_
        rotate_left
        · intro u hu
          try dsimp only at hu
          go_simp
          try with_reducible rfl
        try simp only [Act.put, List.setIfInBounds_toArray, List.set_cons_zero, List.set_cons_succ]
        refine UpTo.take 5 [6, 7, 8, 17, 18, 19, 20] (v := ?_) (by (simp only [List.getElem?_toArray, List.getElem?_cons_succ, List.getElem?_cons_zero]; rfl)) (by kernel_rfl) (by kernel_rfl) (by kernel_rfl) (by kernel_rfl) (by exact fun _ _ _ h => h) (Or.inl ⟨by rfl, ?_⟩) hHeld ?_
        rotate_left
        · intro u hu
          try dsimp only at hu
          go_simp
          try with_reducible rfl
        try simp only [Act.put, List.setIfInBounds_toArray, List.set_cons_zero, List.set_cons_succ]
        refine UpTo.take 6 [7, 8, 17, 18, 19, 20] (v := ?_) (by (simp only [List.getElem?_toArray, List.getElem?_cons_succ, List.getElem?_cons_zero]; rfl)) (by kernel_rfl) (by kernel_rfl) (by kernel_rfl) (by kernel_rfl) (by exact fun _ _ _ h => h) (Or.inl ⟨by rfl, ?_⟩) hHeld ?_
        rotate_left
        · intro u hu
          try dsimp only at hu
          go_simp
          try with_reducible rfl
        try simp only [Act.put, List.setIfInBounds_toArray, List.set_cons_zero, List.set_cons_succ]
        refine UpTo.take 7 [8, 17, 18, 19, 20] (v := ?_) (by (simp only [List.getElem?_toArray, List.getElem?_cons_succ, List.getElem?_cons_zero]; rfl)) (by kernel_rfl) (by kernel_rfl) (by kernel_rfl) (by kernel_rfl) (by exact fun _ _ _ h => h) (Or.inl ⟨by rfl, ?_⟩) hHeld ?_
        rotate_left
        · intro u hu
          try dsimp only at hu
          go_simp
          rw [if_neg (by omega)]
          try with_reducible rfl
        try simp only [Act.put, List.setIfInBounds_toArray, List.set_cons_zero, List.set_cons_succ]
        refine UpTo.take 8 [17, 18, 19, 20] (v := ?_) (by (simp only [List.getElem?_toArray, List.getElem?_cons_succ, List.getElem?_cons_zero]; rfl)) (by kernel_rfl) (by kernel_rfl) (by kernel_rfl) (by kernel_rfl) (by exact fun _ _ _ h => h) (Or.inl ⟨by rfl, ?_⟩) hHeld ?_
        rotate_left
        · intro u hu
          try dsimp only at hu
          go_simp
          rw [if_neg (by omega)]
          try with_reducible rfl
        try simp only [Act.put, List.setIfInBounds_toArray, List.set_cons_zero, List.set_cons_succ]
        refine UpTo.take 9 [10, 12, 13, 14, 15, 16, 17, 18, 19, 20] (v := ?_) (by (simp only [List.getElem?_toArray, List.getElem?_cons_succ, List.getElem?_cons_zero]; rfl)) (by kernel_rfl) (by kernel_rfl) (by kernel_rfl) (by kernel_rfl) (by exact fun _ _ _ h => h) (Or.inl ⟨by rfl, ?_⟩) hHeld ?_
        rotate_left
        · intro u hu
          try dsimp only at hu
          go_simp
          try with_reducible rfl
        try simp only [Act.put, List.setIfInBounds_toArray, List.set_cons_zero, List.set_cons_succ]
        refine UpTo.take 10 [12, 13, 14, 15, 16, 17, 18, 19, 20] (v := ?_) (by (simp only [List.getElem?_toArray, List.getElem?_cons_succ, List.getElem?_cons_zero]; rfl)) (by kernel_rfl) (by kernel_rfl) (by kernel_rfl) (by kernel_rfl) (by exact fun _ _ _ h => h) (Or.inl ⟨by rfl, ?_⟩) hHeld ?_
        rotate_left
        · intro u hu
          try dsimp only at hu
          go_simp
          try with_reducible rfl
        try simp only [Act.put, List.setIfInBounds_toArray, List.set_cons_zero, List.set_cons_succ]
        refine UpTo.take 11 [12, 13, 14, 15, 16, 17, 18, 19, 20] (v := ?_) (by (simp only [List.getElem?_toArray, List.getElem?_cons_succ, List.getElem?_cons_zero]; rfl)) (by kernel_rfl) (by kernel_rfl) (by kernel_rfl) (by kernel_rfl) (by exact fun _ _ _ h => h) (Or.inl ⟨by rfl, ?_⟩) hHeld ?_
        rotate_left
        · intro u hu
          try dsimp only at hu
          go_simp
          try with_reducible rfl
        try simp only [Act.put, List.setIfInBounds_toArray, List.set_cons_zero, List.set_cons_succ]
        refine UpTo.take 12 [13, 14, 15, 16, 17, 18, 19, 20] (v := ?_) (by (simp only [List.getElem?_toArray, List.getElem?_cons_succ, List.getElem?_cons_zero]; rfl)) (by kernel_rfl) (by kernel_rfl) (by kernel_rfl) (by kernel_rfl) (by exact fun _ _ _ h => h) (Or.inl ⟨by rfl, ?_⟩) hHeld ?_
        rotate_left
        · intro u hu
          try dsimp only at hu
          go_simp
          try with_reducible rfl
        try simp only [Act.put, List.setIfInBounds_toArray, List.set_cons_zero, List.set_cons_succ]
        refine UpTo.take 13 [14, 15, 16, 17, 18, 19, 20] (v := ?_) (by (simp only [List.getElem?_toArray, List.getElem?_cons_succ, List.getElem?_cons_zero]; rfl)) (by kernel_rfl) (by kernel_rfl) (by kernel_rfl) (by kernel_rfl) (by exact fun _ _ _ h => h) (Or.inl ⟨by rfl, ?_⟩) hHeld ?_
        rotate_left
        · intro u hu
          try dsimp only at hu
          go_simp
          try with_reducible rfl
        try simp only [Act.put, List.setIfInBounds_toArray, List.set_cons_zero, List.set_cons_succ]
        refine UpTo.take 14 [15, 16, 17, 18, 19, 20] (v := ?_) (by (simp only [List.getElem?_toArray, List.getElem?_cons_succ, List.getElem?_cons_zero]; rfl)) (by kernel_rfl) (by kernel_rfl) (by kernel_rfl) (by kernel_rfl) (by exact fun _ _ _ h => h) (Or.inl ⟨by rfl, ?_⟩) hHeld ?_
        rotate_left
        · intro u hu
          try dsimp only at hu
          go_simp
          try with_reducible rfl
        try simp only [Act.put, List.setIfInBounds_toArray, List.set_cons_zero, List.set_cons_succ]
        refine UpTo.take 15 [16, 17, 18, 19, 20] (v := ?_) (by (simp only [List.getElem?_toArray, List.getElem?_cons_succ, List.getElem?_cons_zero]; rfl)) (by kernel_rfl) (by kernel_rfl) (by kernel_rfl) (by kernel_rfl) (by exact fun _ _ _ h => h) (Or.inl ⟨by rfl, ?_⟩) hHeld ?_
        rotate_left
        · intro u hu
          try dsimp only at hu
          go_simp
          try with_reducible rfl
        try simp only [Act.put, List.setIfInBounds_toArray, List.set_cons_zero, List.set_cons_succ]
        generalize ha1 : (⟨#[110, 111, 100, 101, 32]⟩ ++ d.name ++ ⟨#[32]⟩ : ByteArray) = a1
        have hs_a1 : a1.size ≤ 26 := by rw [← ha1]; simp only [ByteArray.size_append]; show 5 + d.name.size + 1 ≤ 26; omega
        have HL_a1 : Hid (a1.data.toList = [110, 111, 100, 101, 32] ++ d.name.data.toList ++ [32]) := by show _ = _; rw [← ha1]; simp only [ba_append]; skip
        clear ha1
        refine UpTo.next 16 (by kernel_rfl) (by (simp only [List.getElem?_toArray, List.getElem?_cons_succ, List.getElem?_cons_zero]; rfl)) (fun K hK => ?_)
        rw [if_pos (by rfl)]
        go_simp
        go_at_call 26
        refine (dec_any _ d.cost (by omega) (by omega)).mono ?_
        rintro e w16 ⟨⟨d16, rfl, hd16, hs16⟩, k16⟩
        dsimp only
        have HD16 := hide hd16
        have K16 := hide (Kept.trans KD.out k16)
        have HOA := hide (ownsRow_kept0 HOd.out k16)
        clear hd16 k16
        refine hK.out _ _ (fun _ => HH.out _ K16.out) ?_
        clear hK K hHeld
        have hHeld := HH.out _ K16.out
        try simp only [Act.put, List.setIfInBounds_toArray, List.set_cons_zero, List.set_cons_succ]
        refine UpTo.next 17 (by kernel_rfl) (by (simp only [List.getElem?_toArray, List.getElem?_cons_succ, List.getElem?_cons_zero]; rfl)) (fun K hK => ?_)
        rw [if_pos (by rfl)]
        go_simp
        rw [if_neg (by omega), Oper.upon_value]
        refine hK.out _ _ (fun _ => HH.out _ K16.out) ?_
        clear hK K hHeld
        have hHeld := HH.out _ K16.out
        try simp only [Act.put, List.setIfInBounds_toArray, List.set_cons_zero, List.set_cons_succ]
        refine UpTo.next 18 (by kernel_rfl) (by (simp only [List.getElem?_toArray, List.getElem?_cons_succ, List.getElem?_cons_zero]; rfl)) (fun K hK => ?_)
        rw [if_pos (by rfl)]
        go_simp
        rw [if_neg (by have e1 : (a1 ++ d16).size = a1.size + d16.size := ByteArray.size_append; have e2 : (⟨#[10]⟩ : ByteArray).size = 1 := rfl; omega), Oper.upon_value]
        refine hK.out _ _ (fun _ => HH.out _ K16.out) ?_
        clear hK K hHeld
        have hHeld := HH.out _ K16.out
        try simp only [Act.put, List.setIfInBounds_toArray, List.set_cons_zero, List.set_cons_succ]
        generalize ha2 : (a1 ++ d16 ++ ⟨#[10]⟩ : ByteArray) = a2
        have hs_a2 : a2.size ≤ 40 := by rw [← ha2]; simp only [ByteArray.size_append]; show a1.size + d16.size + 1 ≤ 40; omega
        have HL_a2 : Hid (a2.data.toList = headL d) := by show _ = _; rw [← ha2]; simp only [ba_append]; rw [HL_a1.out, HD16.out]; rfl
        clear ha2
        have hzA : W1.heap.size ≤ w16.heap.size := K16.out.size
        refine UpTo.next 19 (by kernel_rfl) (by (simp only [List.getElem?_toArray, List.getElem?_cons_succ, List.getElem?_cons_zero]; rfl)) (fun K hK => ?_)
        rw [if_pos (by rfl)]
        refine wp_append_str _ (.tmp 17) (.tmp 35) 63 9 rfl W1.heap.size 5 i0 Tryz.underlying63 Tryz.underlying9 hi hy0 hy1 hy2 (.slice av nl.length cv) nl.length (Lib.byteCells nl) rfl HOA.out a2 rfl (by unfold maxLen; omega) (by omega) hzA ?_
        intro v7 w7 hown7 hgr7
        have HO7 : Hid (w7.ownsRow W1.heap.size 5 1 v7 (nl ++ headL d).length (Lib.byteCells (nl ++ headL d))) := by
          show w7.ownsRow _ _ _ _ _ _
          rw [List.length_append, ← HL_a2.out, show a2.data.toList.length = a2.size by simp, Lib.byteCells_append, ← Lib.strCells_eq]
          exact hown7
        have K7 := hide (kept_grown0 K16.out hgr7 HOA.out)
        clear hown7 hgr7
        obtain ⟨av7, cv7, rfl⟩ := own_slice0 HO7.out (Nat.zero_le _)
        refine hK.out _ _ (fun _ => HH.out _ K7.out) ?_
        clear hK K hHeld
        have hHeld := HH.out _ K7.out
        try simp only [Act.put, List.setIfInBounds_toArray, List.set_cons_zero, List.set_cons_succ]
        refine UpTo.next 20 (by kernel_rfl) (by (simp only [List.getElem?_toArray, List.getElem?_cons_succ, List.getElem?_cons_zero]; rfl)) (fun K hK => ?_)
        go_simp
        refine hK.out _ _ (fun h => absurd rfl h) ?_
        clear hK K
        try simp only [Act.put, List.setIfInBounds_toArray, List.set_cons_zero, List.set_cons_succ]
        refine UpTo.done (by kernel_rfl) ?_
        clear HH hHeld HOd HOA KD K16 HL_a1 HD16 HL_a2 HO Kr
        have hcb : w7.cell? ⟨w.heap.size, 0, none⟩ = some (.slice (some ⟨nb, no, none⟩) l.length cap) := (K7.out.cell hz1).trans Q1.out
        have hc2 : w7.cell? ⟨nb, no + k * 3 + 2, none⟩ = some (.slice sa d.steps.length sc) := (K7.out.cell hnb).trans C2.out
        go_wp2
        clear hcb hc2
        go_loopw [3, 5] (fun x j wr => ∃ (m : Nat) (av2 : Option Addr) (cv2 : Nat), m ≤ d.steps.length ∧ j = .int .i64 m ∧ x = .slice av2 (nl ++ (headL d ++ stepsL (d.steps.take m))).length cv2 ∧ Hid (wr.ownsRow W1.heap.size 5 1 (.slice av2 (nl ++ (headL d ++ stepsL (d.steps.take m))).length cv2) (nl ++ (headL d ++ stepsL (d.steps.take m))).length (Lib.byteCells (nl ++ (headL d ++ stepsL (d.steps.take m))))) ∧ Hid (Kept W1 wr)) (fun _ j _ => d.steps.length - (intOf j).toNat)
        case atStart => exact ⟨0, av7, cv7, Nat.zero_le _, rfl, by rw [List.take_zero, show stepsL [] = [] from rfl, List.append_nil, List.length_append], hide (by rw [List.take_zero, show stepsL [] = [] from rfl, List.append_nil]; exact HO7.out), K7⟩
        case round =>
          obtain ⟨m, av2, cv2, hm, rfl, rfl, HO, Kr⟩ := hrel
          clear HO7 K7
          have hsl : (stepsL (d.steps.take m)).length ≤ 74000 := stepsL_le hnok.2.2.2 hnok.2.2.1.2 m
          have hhl := headL_le hnok
          have hcb : wr.cell? ⟨w.heap.size, 0, none⟩ = some (.slice (some ⟨nb, no, none⟩) l.length cap) := (Kr.out.cell hz1).trans Q1.out
          have hc2 : wr.cell? ⟨nb, no + k * 3 + 2, none⟩ = some (.slice sa d.steps.length sc) := (Kr.out.cell hnb).trans C2.out
          have hzr : W1.heap.size ≤ wr.heap.size := Kr.out.size
          by_cases hlt2 : (m : Int) < (d.steps.length : Int)
          · have hml : m < d.steps.length := by omega
            obtain ⟨sb, so, cs, rfl, hsb, hsc, aa, ca, ac, cc, rfl, hA, hC, _⟩ := hSt m hml
            have hsok := hnok.2.2.2 m hml
            have HTk := hide (stepsL_take_succ d.steps m hml)
            have hrg := Kr.out.range hsb hsc
            obtain ⟨s, hsk⟩ : ∃ s, s = d.steps.getD m StepD.zero := ⟨_, rfl⟩
            rw [← hsk] at hrg hsok HTk hA hC
            have hstl := stepL_le hsok
            have e0 := hrg 0 _ rfl
            have e1 := hrg 1 _ rfl
            have e2 := hrg 2 _ rfl
            have e3 := hrg 3 _ rfl
            have e4 := hrg 4 _ rfl
            have e5 := hrg 5 _ rfl
            have e6 := hrg 6 _ rfl
            have e7 := hrg 7 _ rfl
            rw [Nat.add_zero] at e0
            clear hrg hsc hsk
            obtain ⟨ml, hml2⟩ : ∃ ml, ml = nl ++ (headL d ++ stepsL (d.steps.take m)) := ⟨_, rfl⟩
            have HT2 : Hid (nl ++ (headL d ++ stepsL (d.steps.take (m + 1))) = ml ++ stepL s) := by show _ = _; rw [HTk.out, hml2]; simp
            have hmll : ml.length ≤ 10000000 := by rw [hml2, List.length_append, List.length_append]; omega
            rw [← hml2] at HO ⊢
            clear hml2 HTk
            have HCall : Hid (Calls Tryz.prog 27 #[.agg #[.slice aa s.asks.length ca, .int .i64 s.on, .slice ac s.cases.length cc, .int .i64 s.els, .int .i64 s.fall, .bool s.fin, .bool s.bad, .string s.give]] wr fun e w' => (∃ dd : ByteArray, e = .returned (.string dd) ∧ dd.data.toList = stepL s) ∧ Kept wr w') := by
              cases hfin : s.fin
              · have hAO := hsok.2 hfin
                refine (l8StepAsk_any wr s aa ac ca cc d.steps.length (by omega) hAO.1 hAO.2 (hA.kept Kr.out) (hC.kept Kr.out)).mono ?_
                rintro e w' ⟨⟨dd, rfl, hd⟩, kk⟩
                exact ⟨⟨dd, rfl, by rw [hd]; unfold stepL; simp [hfin]⟩, kk⟩
              · have hEO := (hsok.1 hfin).2.2.2.2.2
                cases hbad : s.bad
                · refine (l8StepGood_any wr s aa ac ca cc hEO).mono ?_
                  rintro e w' ⟨⟨dd, rfl, hd⟩, kk⟩
                  exact ⟨⟨dd, rfl, by rw [hd]; unfold stepL; simp [hfin, hbad]⟩, kk⟩
                · refine (l8StepBad_any wr s aa ac ca cc hEO).mono ?_
                  rintro e w' ⟨⟨dd, rfl, hd⟩, kk⟩
                  exact ⟨⟨dd, rfl, by rw [hd]; unfold stepL; simp [hfin, hbad]⟩, kk⟩
            go_wp2_with fail
            clear e0 e1 e2 e3 e4 e5 e6 e7
            refine HCall.out.mono ?_
            rintro e w8 ⟨⟨dd, rfl, hd⟩, k8⟩
            have hdz : dd.size ≤ 3700 := by have h1 := congrArg List.length hd; rw [show dd.data.toList.length = dd.size by simp] at h1; omega
            have HD := hide hd
            have HO8 := hide (ownsRow_kept0 HO.out k8)
            have K8 := hide (Kept.trans Kr.out k8)
            have hz8 : W1.heap.size ≤ w8.heap.size := K8.out.size
            clear hd k8 HCall hcb hc2
            go_wp2_with (at_builtin; refine Lib.wpList_append_own_string _ rfl (.tmp 49) (.tmp 60) 63 9 rfl W1.heap.size 5 i0 Tryz.underlying63 Tryz.underlying9 hi hy0 hy1 hy2 (.slice av2 ml.length cv2) ml.length (Lib.byteCells ml) rfl HO8.out dd rfl (by unfold maxLen; omega) (by omega) hz8 ?_; intro v9 w9 hown9 hgr9 _; have HO9 : Hid (w9.ownsRow W1.heap.size 5 1 v9 (ml ++ stepL s).length (Lib.byteCells (ml ++ stepL s))) := hide (by rw [List.length_append, ← HD.out, show dd.data.toList.length = dd.size by simp, Lib.byteCells_append, ← Lib.strCells_eq]; exact hown9); have K9 := hide (kept_grown0 K8.out hgr9 HO8.out); clear hown9 hgr9; obtain ⟨av9, cv9, rfl⟩ := own_slice0 HO9.out (Nat.zero_le _))
            go_roundw
            case rel => exact ⟨m + 1, av9, cv9, by omega, by go_num, by rw [HT2.out, List.length_append], hide (by rw [HT2.out]; exact HO9.out), K9⟩
            case measure => simp [intOf]; omega
          · obtain rfl : m = d.steps.length := by omega
            rw [List.take_length] at HO ⊢
            go_wp2
            go_roundw
            case rel => exact ⟨k + 1, av2, cv2, by omega, by go_num, by rw [HTn.out], hide (by rw [HTn.out]; exact HO.out), Kr⟩
            case measure => simp [intOf]; omega
      · obtain rfl : k = l.length := by omega
        rw [List.take_length] at HO hnl ⊢
        have hcv := bytes_all HO.out
        by_cases h1 : (100000 : Int) < ((nodesL l).length : Int)
        · have HF : Hid (formL l = []) := if_pos (by omega)
          go_wp2
          go_ret
          exact ⟨.inr ⟨HC.out, by rw [HF.out]; rfl⟩, Kept.trans K1.out Kr.out⟩
        · have HF : Hid (formL l = nodesL l) := if_neg (by omega)
          go_wp2
          go_ret
          exact ⟨.inr ⟨HC.out, by rw [HF.out]; rfl⟩, Kept.trans K1.out Kr.out⟩
  · have h0' : (c != 0) = true := by simpa using h0
    have H0 := hide h0
    clear h0
    go_wp2
    go_ret
    exact ⟨.inl ⟨c, HC.out, H0.out, rfl⟩, K1.out⟩

end Go.Proofs.YtinkfgkjdaaeaaaGreatDoor
