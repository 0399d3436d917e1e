import Derived.Test.YtmdckapiljhfdaaGreatWStep2

/-
  THE WALK over toStepS.
-/
namespace Go.Proofs.YtmdckapiljhfdaaGreat
open Go.RowKit

theorem Tryz.infoStep : (Tryz.prog.info? 108).map (fun i => (i.zero, i.size, i.bytes)) = some (some (.agg #[.slice none 0 0, .int .i64 0, .slice none 0 0, .int .i64 0, .int .i64 0, .bool false, .bool false, .string ⟨#[]⟩]), 8, 96) := by kernel_rfl

/-- Element j of the row in block B is a step whose lists lie in blocks behind B. -/
def StepNew (w : World) (B j : Nat) (s : StepD) : Prop :=
  ∃ b1 b2, B < b1 ∧ B < b2 ∧ w.rangeAt B (j * 8) (s.cells (some ⟨b1, 0, none⟩) s.asks.length (some ⟨b2, 0, none⟩) s.cases.length) ∧ Strs w (some ⟨b1, 0, none⟩) s.asks ∧ Cases w (some ⟨b2, 0, none⟩) s.cases

theorem StepNew.kept {w w' : World} {B j : Nat} {s : StepD} (h : StepNew w B j s) (k : Kept w w') (hB : B < w.heap.size) : StepNew w' B j s := by
  obtain ⟨b1, b2, h1, h2, h3, h4, h5⟩ := h
  exact ⟨b1, b2, h1, h2, k.range hB h3, h4.kept k, h5.kept k⟩

theorem StepNew.setCells {w : World} {B j o : Nat} {s : StepD} {vs : List Value} (h : StepNew w B j s) (ho : j * 8 + 8 ≤ o ∨ o + vs.length ≤ j * 8) : StepNew (w.setCells B o vs) B j s := by
  obtain ⟨b1, b2, h1, h2, h3, h4, h5⟩ := h
  exact ⟨b1, b2, h1, h2, World.rangeAt_setCells_apart h3 _ _ _ (by right; simpa [StepD.cells] using ho), Strs.setCells (by omega) _ _ h4, Cases.setCells (by omega) _ _ h5⟩

theorem StepNew.setCell {w : World} {B j : Nat} {s : StepD} (h : StepNew w B j s) {p : Addr} (hp : p.block < B) (v : Value) : StepNew (w.setCell p v) B j s := by
  obtain ⟨b1, b2, h1, h2, h3, h4, h5⟩ := h
  exact ⟨b1, b2, h1, h2, fun i u hu => by rw [World.cell?_setCell_other _ _ _ _ (fun e => by rw [e] at hp; simp at hp)]; exact h3 i u hu, Strs.setCell h4 (by omega) v, Cases.setCell h5 (by omega) v⟩

/-- The row in block B holds these steps, all their lists behind it. -/
def StepsNew (w : World) (B : Nat) (l : List StepD) : Prop := B < w.heap.size ∧ ∀ j, j < l.length → StepNew w B j (l.getD j StepD.zero)

theorem StepsNew.setCell {w : World} {B : Nat} {l : List StepD} (h : StepsNew w B l) {p : Addr} (hp : p.block < B) (v : Value) : StepsNew (w.setCell p v) B l :=
  ⟨by rw [size_setCell]; exact h.1, fun j hj => (h.2 j hj).setCell hp v⟩
theorem StepsNew.kept {w w' : World} {B : Nat} {l : List StepD} (h : StepsNew w B l) (k : Kept w w') : StepsNew w' B l :=
  ⟨Nat.lt_of_lt_of_le h.1 k.size, fun j hj => (h.2 j hj).kept k h.1⟩
theorem StepsNew.steps {w : World} {B : Nat} {l : List StepD} (h : StepsNew w B l) : Steps w (some ⟨B, 0, none⟩) l := by
  intro j hj
  obtain ⟨b1, b2, _, _, g1, g2, g3⟩ := h.2 j hj
  exact ⟨B, 0, _, rfl, h.1, by rw [Nat.zero_add]; exact g1, _, _, _, _, rfl, g2, g3, Nat.le_refl _⟩

set_option maxHeartbeats 800000 in
theorem toStepS_any (w : World) (a : Option Addr) (cap : Nat) (l : List StepD) (hl : l.length ≤ 1048576) (hs : ∀ s ∈ l, s.asks.length ≤ 1048576 ∧ s.cases.length ≤ 1048576)
    (hS : Steps w a l) :
    Calls Tryz.prog 70 #[.slice a l.length cap] w fun e w' => ∃ b, e = .returned (.slice (some ⟨b, 0, none⟩) l.length l.length) ∧ StepsNew w' b l ∧ Kept w w' ∧ w.heap.size ≤ b := by
  have hmk := run_make_many (P := Tryz.prog) 68 108 _ _ _ Tryz.underlying68 Tryz.infoStep .i64 .i64 l.length (by omega) (by omega)
  go_enter Tryz.func70, Tryz.ntmps70
  go_wp2
  clear hmk
  have hrow := Row.made w (madeCells #[.slice none 0 0, .int .i64 0, .slice none 0 0, .int .i64 0, .int .i64 0, .bool false, .bool false, .string ⟨#[]⟩] (l.length * 8)) 108
  rw [size_madeCells] at hrow
  have hkept : Kept w (w.alloc (.cells (madeCells #[.slice none 0 0, .int .i64 0, .slice none 0 0, .int .i64 0, .int .i64 0, .bool false, .bool false, .string ⟨#[]⟩] (l.length * 8)) 108)) := (Kept.refl _).alloc _
  go_loopw [4] (fun i wr => ∃ k : Nat, k ≤ l.length ∧ i = .int .i64 k ∧ Kept w wr ∧ Row wr w.heap.size (l.length * 8) ∧ ∀ j, j < k → StepNew wr w.heap.size j (l.getD j StepD.zero)) (fun i _ => l.length - (intOf i).toNat)
  case atStart => exact ⟨0, Nat.zero_le _, rfl, hkept, hrow, fun j hj => absurd hj (Nat.not_lt_zero _)⟩
  case round =>
    obtain ⟨k, hk, rfl, hw, hr, hf⟩ := hrel
    clear hrow hkept
    by_cases hlt : k < l.length
    · obtain ⟨b, o, cs, rfl, hb, hc, aa, ca, ac, cc, rfl, hA, hC, hca⟩ := hS.kept hw k hlt
      have hsz := hs (l.getD k StepD.zero) (by simp [List.getD, hlt])
      have HF := hide hf
      clear hf
      generalize hs : l.getD k StepD.zero = s at *
      have HSs := hide hs
      clear hs
      have c0 := hc 0 _ rfl
      have c1 := hc 1 _ rfl
      have c2 := hc 2 _ rfl
      have c3 := hc 3 _ rfl
      have c4 := hc 4 _ rfl
      have c5 := hc 5 _ rfl
      have c6 := hc 6 _ rfl
      have c7 := hc 7 _ rfl
      simp only [Nat.add_zero] at c0
      clear hc
      go_wp2_with fail
      refine (toStep_any _ s aa ac ca cc hsz.1 hsz.2 hA hC).mono ?_
      rintro e w1 ⟨b1, b2, rfl, ⟨g1, g2, g3, g4⟩, hw1⟩
      have hrl := hr.lt
      have hw2 := hw.trans hw1
      have hr1 := hr.kept hw1
      generalize hcs : s.cells (some ⟨b1, 0, none⟩) s.asks.length (some ⟨b2, 0, none⟩) s.cases.length = cs
      have hlen : cs.length = 8 := by rw [← hcs]; rfl
      have hone : cs.toArray.all (·.oneCell') = true := by rw [← hcs]; exact StepD.one s _ _ _ _
      have hth : w1.there w.heap.size (k * 8) cs.toArray.size := by simpa [hlen] using hr1.there (o := k * 8) (m := 8) (by omega)
      have hsize : (Tryz.prog.info? 108).map (·.size) = some cs.toArray.size := by rw [Tryz.sizeStep]; simp [hlen]
      have HCS := hide hcs
      have HLEN := hide hlen
      have HSZ := hide hsize
      clear hcs hlen hsize
      have HR : Hid (Row w1 w.heap.size (l.length * 8)) := hr1
      have HF1 : Hid (∀ j, j < k → StepNew w1 w.heap.size j (l.getD j StepD.zero)) := fun j hj => (HF.out j hj).kept hw1 hr.lt
      clear HF c0 c1 c2 c3 c4 c5 c6 c7 hw hw1 hr hr1 hA hC
      go_wp2_with (refine wpList_store_mid rfl 108 _ _ rfl w.heap.size (k * 8) cs.toArray rfl rfl hth (unhide HSZ) hone ?_)
      go_roundw
      case rel =>
        refine ⟨k + 1, by omega, by go_num, Kept.setCells (Nat.le_refl _) _ _ hw2, Row.setCells _ _ HR.out, fun j hj => ?_⟩
        by_cases e : j = k
        · subst e
          rw [unhide HSs]
          exact ⟨b1, b2, by omega, by omega, by rw [HCS.out]; exact World.rangeAt_setCells_same _ _ _ _ (by simpa using hth), Strs.setCells (by omega) _ _ g1, Cases.setCells (by omega) _ _ g2⟩
        · exact (HF1.out j (by omega)).setCells (by rw [HLEN.out]; omega)
      case measure => simp [intOf]; omega
    · go_wp2
      go_ret
      have : k = l.length := by omega
      subst this
      exact ⟨w.heap.size, rfl, ⟨hr.lt, hf⟩, hw, Nat.le_refl _⟩

end Go.Proofs.YtmdckapiljhfdaaGreat
