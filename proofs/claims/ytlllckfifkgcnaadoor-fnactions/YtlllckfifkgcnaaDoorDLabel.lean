import Derived.Test.YtlllckfifkgcnaaDoorDOpen
import Derived.Test.YtlllckfifkgcnaaDoorOOrder

/-
  THE WALK over spec.l1Label: the name of thing number i.
-/
namespace Go.Proofs.YtlllckfifkgcnaaDoor
open Go.RowKit

/-- What l1Label gives: a short name; nothing old is written. -/
def Labelled (w w' : World) (e : Ending) : Prop :=
  ∃ s : ByteArray, e = .returned (.string s) ∧ s.size ≤ 2 ∧ Kept w w'

set_option maxRecDepth 100000 in
set_option maxHeartbeats 1600000 in
theorem label_any (w : World) (i : Nat) (hi : i ≤ 100000) :
    Calls Tryd.prog 37 #[.int .i64 (i : Int)] w fun e w' => Labelled w w' e := by
  obtain ⟨q, hq⟩ : ∃ q, q = i % 26 := ⟨_, rfl⟩
  obtain ⟨q2, hq2⟩ : ∃ q, q = i / 26 % 3 := ⟨_, rfl⟩
  obtain ⟨d, hd⟩ : ∃ d, d = i / 26 := ⟨_, rfl⟩
  have e1 : (i : Int).tmod 26 = (q : Int) := by rw [Int.tmod_eq_emod_of_nonneg (by omega)]; omega
  have e3 : (i : Int).tdiv 26 = (d : Int) := by rw [Int.tdiv_eq_ediv_of_nonneg (by omega)]; omega
  have e2 : (d : Int).tmod 3 = (q2 : Int) := by rw [Int.tmod_eq_emod_of_nonneg (by omega)]; omega
  have b1 : q < 26 := by omega
  have b2 : q2 < 3 := by omega
  have e4 : IntKind.i64.wrap (d : Int) = (d : Int) := by simp [IntKind.wrap, IntKind.bits, IntKind.signed]; omega
  clear hq hq2 hd
  obtain ⟨S1, hS1, hz1⟩ : ∃ S1 : ByteArray, (∀ w : World, (Instr.slice 9 (.string ⟨#[97, 98, 99, 100, 101, 102, 103, 104, 105, 106, 107, 108, 109, 110, 111, 112, 113, 114, 115, 116, 117, 118, 119, 120, 121, 122]⟩) (some (.int .i64 (q : Int))) none none).run Tryd.prog w = .ok (.string S1) w) ∧ (1 : Int) ≤ S1.size :=
    ⟨_, fun w => run_slice_string_l w 9 ⟨#[97, 98, 99, 100, 101, 102, 103, 104, 105, 106, 107, 108, 109, 110, 111, 112, 113, 114, 115, 116, 117, 118, 119, 120, 121, 122]⟩ Tryd.underlying9 .i64 (q : Int) (by omega) (by show (q : Int) ≤ ((26 : Nat) : Int); omega), by
      rw [ByteArray.size_extract]; show (1 : Int) ≤ ((min 26 26 - (q : Int).toNat : Nat) : Int); omega⟩
  obtain ⟨S2, hS2, hz2⟩ : ∃ S2 : ByteArray, (∀ w : World, (Instr.slice 9 (.string S1) none (some (.int .i64 1)) none).run Tryd.prog w = .ok (.string S2) w) ∧ S2.size = 1 :=
    ⟨_, fun w => run_slice_string_h w 9 S1 Tryd.underlying9 .i64 1 (by omega) hz1, by
      rw [ByteArray.size_extract]; show min 1 S1.size - 0 = 1; omega⟩
  go_enter Tryd.func37, Tryd.ntmps37
  go_wp2
  refine UpTo.region (by kernel_rfl) (fun w' => Kept w w') 11 (Kept.refl w).drew (fun hHeld => ?_)
  refine UpTo.take 0 [1, 2, 3, 10, 11] (v := ?_) (by (simp only [List.getElem?_toArray, List.getElem?_cons_zero]; rfl)) (by kernel_rfl) (by kernel_rfl) (by kernel_rfl) (by kernel_rfl) (by exact fun _ _ _ h => h) (Or.inl ⟨by rfl, ?_⟩) hHeld ?_
  rotate_left
  · intro u hu
    try dsimp only at hu
    go_simp
    try with_reducible rfl
  try simp only [Act.put, List.setIfInBounds_toArray, List.set_cons_zero, List.set_cons_succ]
  refine UpTo.take 1 [2, 3, 10, 11] (v := .int .i64 (q : Int)) (by (simp only [List.getElem?_toArray, List.getElem?_cons_succ, List.getElem?_cons_zero]; rfl)) (by kernel_rfl) (by kernel_rfl) (by kernel_rfl) (by kernel_rfl) (by exact fun _ _ _ h => h) (Or.inl ⟨by rfl, ?_⟩) hHeld ?_
  · intro u hu
    try dsimp only at hu
    go_simp
    try with_reducible rfl
  try simp only [Act.put, List.setIfInBounds_toArray, List.set_cons_zero, List.set_cons_succ]
  refine UpTo.take 2 [3, 10, 11] (v := .string S1) (by (simp only [List.getElem?_toArray, List.getElem?_cons_succ, List.getElem?_cons_zero]; rfl)) (by kernel_rfl) (by kernel_rfl) (by kernel_rfl) (by kernel_rfl) (by exact fun _ _ _ h => h) (Or.inl ⟨by rfl, ?_⟩) hHeld ?_
  · intro u hu
    try dsimp only at hu
    go_simp
    try with_reducible rfl
  try simp only [Act.put, List.setIfInBounds_toArray, List.set_cons_zero, List.set_cons_succ]
  refine UpTo.take 3 [10, 11] (v := .string S2) (by (simp only [List.getElem?_toArray, List.getElem?_cons_succ, List.getElem?_cons_zero]; rfl)) (by kernel_rfl) (by kernel_rfl) (by kernel_rfl) (by kernel_rfl) (by exact fun _ _ _ h => h) (Or.inl ⟨by rfl, ?_⟩) hHeld ?_
  · intro u hu
    try dsimp only at hu
    go_simp
    try with_reducible rfl
  try simp only [Act.put, List.setIfInBounds_toArray, List.set_cons_zero, List.set_cons_succ]
  refine UpTo.take 5 [6, 7, 8, 9, 10, 11] (v := ?_) (by (simp only [List.getElem?_toArray, List.getElem?_cons_succ, List.getElem?_cons_zero]; rfl)) (by kernel_rfl) (by kernel_rfl) (by kernel_rfl) (by kernel_rfl) (by exact fun _ _ _ h => h) (Or.inl ⟨by rfl, ?_⟩) hHeld ?_
  rotate_left
  · intro u hu
    try dsimp only at hu
    go_simp
    try with_reducible rfl
  try simp only [Act.put, List.setIfInBounds_toArray, List.set_cons_zero, List.set_cons_succ]
  refine UpTo.take 6 [7, 8, 9, 10, 11] (v := .int .i64 (d : Int)) (by (simp only [List.getElem?_toArray, List.getElem?_cons_succ, List.getElem?_cons_zero]; rfl)) (by kernel_rfl) (by kernel_rfl) (by kernel_rfl) (by kernel_rfl) (by exact fun _ _ _ h => h) (Or.inl ⟨by rfl, ?_⟩) hHeld ?_
  · intro u hu
    try dsimp only at hu
    go_simp
    try with_reducible rfl
  try simp only [Act.put, List.setIfInBounds_toArray, List.set_cons_zero, List.set_cons_succ]
  refine UpTo.take 7 [8, 9, 10, 11] (v := .int .i64 (q2 : Int)) (by (simp only [List.getElem?_toArray, List.getElem?_cons_succ, List.getElem?_cons_zero]; rfl)) (by kernel_rfl) (by kernel_rfl) (by kernel_rfl) (by kernel_rfl) (by exact fun _ _ _ h => h) (Or.inl ⟨by rfl, ?_⟩) hHeld ?_
  · intro u hu
    try dsimp only at hu
    go_simp
    try with_reducible rfl
  try simp only [Act.put, List.setIfInBounds_toArray, List.set_cons_zero, List.set_cons_succ]
  refine UpTo.next 4 (by kernel_rfl) (by (simp only [List.getElem?_toArray, List.getElem?_cons_succ, List.getElem?_cons_zero]; rfl)) (fun K hK => ?_)
  rw [if_pos (by rfl)]
  go_simp
  refine hK.out _ _ (fun _ => (by repeat (first | apply Kept.drew | apply Kept.alloc | exact Kept.refl _ | assumption))) ?_
  clear hK K
  try simp only [Act.put, List.setIfInBounds_toArray, List.set_cons_zero, List.set_cons_succ]
  have b3 : q2 = 0 ∨ q2 = 1 ∨ q2 = 2 := by omega
  obtain rfl | rfl | rfl := b3
  all_goals
    refine UpTo.next 8 (by kernel_rfl) (by (simp only [List.getElem?_toArray, List.getElem?_cons_succ, List.getElem?_cons_zero]; rfl)) (fun K hK => ?_)
    rw [if_pos (by rfl)]
    go_simp
    refine hK.out _ _ (fun _ => (by repeat (first | apply Kept.drew | apply Kept.alloc | exact Kept.refl _ | assumption))) ?_
    clear hK K
    try simp only [Act.put, List.setIfInBounds_toArray, List.set_cons_zero, List.set_cons_succ]
    refine UpTo.next 9 (by kernel_rfl) (by (simp only [List.getElem?_toArray, List.getElem?_cons_succ, List.getElem?_cons_zero]; rfl)) (fun K hK => ?_)
    rw [if_pos (by rfl)]
    go_simp
    refine hK.out _ _ (fun _ => (by repeat (first | apply Kept.drew | apply Kept.alloc | exact Kept.refl _ | assumption))) ?_
    clear hK K
    try simp only [Act.put, List.setIfInBounds_toArray, List.set_cons_zero, List.set_cons_succ]
    refine UpTo.next 10 (by kernel_rfl) (by (simp only [List.getElem?_toArray, List.getElem?_cons_succ, List.getElem?_cons_zero]; rfl)) (fun K hK => ?_)
    rw [if_pos (by rfl)]
    go_simp
    refine hK.out _ _ (fun _ => (by repeat (first | apply Kept.drew | apply Kept.alloc | exact Kept.refl _ | assumption))) ?_
    clear hK K
    try simp only [Act.put, List.setIfInBounds_toArray, List.set_cons_zero, List.set_cons_succ]
    refine UpTo.next 11 (by kernel_rfl) (by (simp only [List.getElem?_toArray, List.getElem?_cons_succ, List.getElem?_cons_zero]; rfl)) (fun K hK => ?_)
    go_simp
    refine hK.out _ _ (fun h => absurd rfl h) ?_
    clear hK K
    try simp only [Act.put, List.setIfInBounds_toArray, List.set_cons_zero, List.set_cons_succ]
    refine UpTo.done (by kernel_rfl) ?_
    go_wp2
    go_ret
    exact ⟨_, rfl, by rw [ByteArray.size_append, hz2]; decide, ((Kept.refl w).alloc _).drew⟩

end Go.Proofs.YtlllckfifkgcnaaDoor
