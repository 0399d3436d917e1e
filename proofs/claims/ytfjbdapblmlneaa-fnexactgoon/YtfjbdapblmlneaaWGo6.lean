import Derived.Test.YtfjbdapblmlneaaWGo5
import Derived.Test.YtfjbdapblmlneaaWSpec5

/-
  THE WALK over the specification's GoOn: what it refuses.
-/
namespace Go.Proofs.Ytfjbdapblmlneaa
open Go.RowKit

set_option maxRecDepth 100000 in
set_option maxHeartbeats 3200000 in
theorem specGoOn_no (w : World) (cost at' : Int) (a d : Option Addr) (cap dcap : Nat) (l : List StepD) (ans : List AnswerD) (hl : l.length ≤ maxLen) (hs : ∀ s ∈ l, s.Fits) (hS : Steps w a l)
    (hal : ans.length ≤ maxLen) (_has : ∀ c ∈ ans, c.text.size ≤ maxLen) (_hD : Answers w d ans)
    (hF : Hid (¬ (FrontGo cost l at' ∧ ans.length = (stepAt l at').asks.length))) :
    Calls Try.prog 14 #[.agg #[.int .i64 cost, .slice a l.length cap], .int .i64 at', .slice d ans.length dcap] w fun e w' => (∃ g, e = .returned (.agg g.cells.toArray) ∧ WentOn cost l at' ans g) ∧ Kept w w' := by
  have hl' := hl
  have hal' := hal
  unfold maxLen at hl' hal'
  have k0 : Kept w ((w.alloc (.cells #[.int .i64 cost, .slice a l.length cap] 29)).alloc (.cells #[.int .i64 0, .bool false, .int .i64 0, .string ⟨#[]⟩] 36)) := ((Kept.refl _).alloc _).alloc _
  go_enter Try.func14, Try.ntmps14
  go_wp2_with fail
  refine (specValidAction_any _ cost a cap l hl hs (hS.kept k0)).mono ?_
  rintro e w1 ⟨hsay, k1⟩
  have K1 := k0.trans k1
  have hrow1 : Row w1 (w.heap.size + 1) 4 := Row.kept (by have := Row.made (w.alloc (.cells #[.int .i64 cost, .slice a l.length cap] 29)) #[.int .i64 0, .bool false, .int .i64 0, .string ⟨#[]⟩] 36; simpa using this) k1
  have HROW := hide hrow1
  clear hrow1
  obtain ⟨hc1, hf1⟩ := k1.rules
  have hz1 := k1.size
  simp only [World.size_alloc] at hz1
  have x0 : w.heap.size < w1.heap.size := by omega
  have x1 : w.heap.size + 1 < w1.heap.size := by omega
  rcases hsay.cases with ⟨rfl, hyes⟩ | ⟨rfl, hno⟩
  · have HV := hide hyes
    clear hyes hsay k0 k1
    by_cases p1 : 0 ≤ at'
    · cases p2 : decide (at' ≤ (l.length : Int) - 1)
      · have p2' : (l.length : Int) - 1 < at' := by simpa using p2
        go_wp2
        have hR := World.rangeAt_setCells_same w1 (w.heap.size + 1) 0 GoneD.none.cells (HROW.out.there (o := 0) (m := 4) (Nat.le_refl _))
        exact bodyPost_ret_cell GoneD.none.cells _ Try.results14 rfl hR Try.underlying36 rfl Try.sizeGone rfl ⟨⟨_, rfl, Or.inl ⟨fun h => (by have := h.2.1; omega), rfl⟩⟩, Kept.setCells (g := w.heap.size + 1) (by omega) GoneD.none.cells 0 K1⟩
      · have p2' : at' ≤ (l.length : Int) - 1 := by simpa using p2
        obtain ⟨n, rfl⟩ := Int.eq_ofNat_of_zero_le p1
        have hlt : n < l.length := by omega
        obtain ⟨b, o, cs, rfl, hb, hc, aa, ca, ac, cc, rfl, hA, hC, hca⟩ := hS.kept K1 n hlt
        have hsz := hs (l.getD n StepD.zero) (by simp [List.getD, hlt])
        obtain ⟨s, hsk⟩ : ∃ s, s = l.getD n StepD.zero := ⟨_, rfl⟩
        rw [← hsk] at hc hsz hA hC hca
        have HSK : Hid (stepAt l n = s) := by rw [hsk]; show Hid (l.getD (n : Int).toNat StepD.zero = _); rw [Int.toNat_natCast]; exact rfl
        have HOK : Hid (StepOk s l.length) := by rw [hsk]; exact HV.out.2.2 n hlt
        clear hsk
        have c0 := hc 0 _ rfl
        have c1 := hc 1 _ rfl
        have c2 := hc 2 _ rfl
        have c3 := hc 3 _ rfl
        have c4 := hc 4 _ rfl
        have c5 := hc 5 _ rfl
        have c6 := hc 6 _ rfl
        have c7 := hc 7 _ rfl
        simp only [Nat.add_zero] at c0
        clear hc
        cases hfin : s.fin
        · rw [hfin] at c5
          have HF : Hid (FrontGo cost l n) := ⟨HV.out, ⟨by omega, by omega⟩, by rw [HSK.out]; exact hfin⟩
          have hne : ans.length ≠ s.asks.length := fun h => hF.out ⟨HF.out, by rw [HSK.out]; exact h⟩
          have hneq : ((ans.length : Int) != (s.asks.length : Int)) = true := by simp; omega
          have HNE := hide hne
          clear hne
          go_wp2
          have hR := World.rangeAt_setCells_same w1 (w.heap.size + 1) 0 GoneD.none.cells (HROW.out.there (o := 0) (m := 4) (Nat.le_refl _))
          exact bodyPost_ret_cell GoneD.none.cells _ Try.results14 rfl hR Try.underlying36 rfl Try.sizeGone rfl ⟨⟨_, rfl, Or.inr ⟨HF.out, Or.inl ⟨fun h => HNE.out (by have := h.1; rw [HSK.out] at this; exact this), rfl⟩⟩⟩, Kept.setCells (g := w.heap.size + 1) (by omega) GoneD.none.cells 0 K1⟩
        · rw [hfin] at c5
          go_wp2
          have hR := World.rangeAt_setCells_same w1 (w.heap.size + 1) 0 GoneD.none.cells (HROW.out.there (o := 0) (m := 4) (Nat.le_refl _))
          exact bodyPost_ret_cell GoneD.none.cells _ Try.results14 rfl hR Try.underlying36 rfl Try.sizeGone rfl ⟨⟨_, rfl, Or.inl ⟨fun h => (by have := h.2.2; rw [HSK.out, hfin] at this; cases this), rfl⟩⟩, Kept.setCells (g := w.heap.size + 1) (by omega) GoneD.none.cells 0 K1⟩
    · skip
      go_wp2
      have hR := World.rangeAt_setCells_same w1 (w.heap.size + 1) 0 GoneD.none.cells (HROW.out.there (o := 0) (m := 4) (Nat.le_refl _))
      exact bodyPost_ret_cell GoneD.none.cells _ Try.results14 rfl hR Try.underlying36 rfl Try.sizeGone rfl ⟨⟨_, rfl, Or.inl ⟨fun h => (by have := h.2.1; omega), rfl⟩⟩, Kept.setCells (g := w.heap.size + 1) (by omega) GoneD.none.cells 0 K1⟩
  · have HV := hide hno
    clear hno hsay k0 k1
    go_wp2
    have hR := World.rangeAt_setCells_same w1 (w.heap.size + 1) 0 GoneD.none.cells (HROW.out.there (o := 0) (m := 4) (Nat.le_refl _))
    exact bodyPost_ret_cell GoneD.none.cells _ Try.results14 rfl hR Try.underlying36 rfl Try.sizeGone rfl ⟨⟨_, rfl, Or.inl ⟨fun h => HV.out h.1, rfl⟩⟩, Kept.setCells (g := w.heap.size + 1) (by omega) GoneD.none.cells 0 K1⟩

end Go.Proofs.Ytfjbdapblmlneaa
