import Derived.Test.YtfjbdapblmlneaaWGo4
import Derived.Test.YtfjbdapblmlneaaWImpl5

/-
  THE WALK over the program's GoOn.
-/
namespace Go.Proofs.Ytfjbdapblmlneaa
open Go.RowKit

/-- The step at which it stands. -/
def stepAt (l : List StepD) (at' : Int) : StepD := l.getD at'.toNat StepD.zero

def FrontGo (cost : Int) (l : List StepD) (at' : Int) : Prop := ActionOk ⟨cost, l⟩ ∧ (0 ≤ at' ∧ at' < l.length) ∧ (stepAt l at').fin = false

/-- What follows. -/
def WentOn (cost : Int) (l : List StepD) (at' : Int) (ans : List AnswerD) (g : GoneD) : Prop :=
  (¬ FrontGo cost l at' ∧ g = GoneD.none) ∨ (FrontGo cost l at' ∧ Followed (stepAt l at') ans g)

theorem WentOn.unique {cost : Int} {l : List StepD} {at' : Int} {ans : List AnswerD} {g g' : GoneD} (h : WentOn cost l at' ans g) (h' : WentOn cost l at' ans g') : g = g' := by
  rcases h with ⟨h0, rfl⟩ | ⟨h0, h1⟩ <;> rcases h' with ⟨g0, rfl⟩ | ⟨g0, g1⟩
  · rfl
  · exact absurd g0 h0
  · exact absurd h0 g0
  · exact h1.unique g1

theorem isPlace_yes (w : World) (n size : Int) (h1 : 0 ≤ n) (h2 : n < size) :
    Calls Try.prog 42 #[.int .i64 n, .int .i64 size] w fun e w' => e = .returned (.bool true) ∧ w' = w := by
  go_enter Try.func42, Try.ntmps42
  go_wp2
  go_ret
  exact ⟨rfl, rfl⟩

set_option maxRecDepth 100000 in
set_option maxHeartbeats 3200000 in
theorem implGoOn_any (w : World) (cost at' : Int) (a d : Option Addr) (cap dcap : Nat) (l : List StepD) (ans : List AnswerD) (hl : l.length ≤ maxLen) (hs : ∀ s ∈ l, s.Fits) (hS : Steps w a l)
    (hal : ans.length ≤ maxLen) (has : ∀ c ∈ ans, c.text.size ≤ maxLen) (hD : Answers w d ans) :
    Calls Try.prog 16 #[.agg #[.int .i64 cost, .slice a l.length cap], .int .i64 at', .slice d ans.length dcap] w fun e w' => (∃ g, e = .returned (.agg g.cells.toArray) ∧ WentOn cost l at' ans g) ∧ Kept w w' := by
  have hl' := hl
  unfold maxLen at hl'
  have k0 : Kept w ((w.alloc (.cells #[.int .i64 cost, .slice a l.length cap] 29)).alloc (.cells #[.int .i64 0, .bool false, .int .i64 0, .string ⟨#[]⟩] 36)) := ((Kept.refl _).alloc _).alloc _
  go_enter Try.func16, Try.ntmps16
  go_wp2_with fail
  refine (implValidAction_any _ cost a cap l hl hs (hS.kept k0)).mono ?_
  rintro e w1 ⟨hsay, k1⟩
  have K1 := k0.trans k1
  have hrow1 : Row w1 (w.heap.size + 1) 4 := Row.kept (by have := Row.made (w.alloc (.cells #[.int .i64 cost, .slice a l.length cap] 29)) #[.int .i64 0, .bool false, .int .i64 0, .string ⟨#[]⟩] 36; simpa using this) k1
  have HROW := hide hrow1
  clear hrow1
  obtain ⟨hc1, hf1⟩ := k1.rules
  have hz1 := k1.size
  simp only [World.size_alloc] at hz1
  have x0 : w.heap.size < w1.heap.size := by omega
  have x1 : w.heap.size + 1 < w1.heap.size := by omega
  rcases hsay.cases with ⟨rfl, hyes⟩ | ⟨rfl, hno⟩
  · have HV := hide hyes
    clear hyes hsay k0 k1
    by_cases p1 : 0 ≤ at'
    · cases p2 : decide (at' < (l.length : Int))
      · have p2' : (l.length : Int) ≤ at' := by simpa using p2
        go_wp2
        have hR := World.rangeAt_setCells_same w1 (w.heap.size + 1) 0 GoneD.none.cells (HROW.out.there (o := 0) (m := 4) (Nat.le_refl _))
        exact bodyPost_ret_cell GoneD.none.cells _ Try.results16 rfl hR Try.underlying36 rfl Try.sizeGone rfl ⟨⟨_, rfl, Or.inl ⟨fun h => (by have := h.2.1; omega), rfl⟩⟩, Kept.setCells (g := w.heap.size + 1) (by omega) GoneD.none.cells 0 K1⟩
      · have p2' : at' < (l.length : Int) := by simpa using p2
        obtain ⟨n, rfl⟩ := Int.eq_ofNat_of_zero_le p1
        have hlt : n < l.length := by omega
        obtain ⟨b, o, cs, rfl, hb, hc, aa, ca, ac, cc, rfl, hA, hC, hca⟩ := hS.kept K1 n hlt
        have hsz := hs (l.getD n StepD.zero) (by simp [List.getD, hlt])
        obtain ⟨s, hsk⟩ : ∃ s, s = l.getD n StepD.zero := ⟨_, rfl⟩
        rw [← hsk] at hc hsz hA hC hca
        have HSK : Hid (stepAt l n = s) := by rw [hsk]; show Hid (l.getD (n : Int).toNat StepD.zero = _); rw [Int.toNat_natCast]; exact rfl
        have HOK : Hid (StepOk s l.length) := by rw [hsk]; exact HV.out.2.2 n hlt
        clear hsk
        have c0 := hc 0 _ rfl
        have c1 := hc 1 _ rfl
        have c2 := hc 2 _ rfl
        have c3 := hc 3 _ rfl
        have c4 := hc 4 _ rfl
        have c5 := hc 5 _ rfl
        have c6 := hc 6 _ rfl
        have c7 := hc 7 _ rfl
        simp only [Nat.add_zero] at c0
        clear hc
        cases hfin : s.fin
        · rw [hfin] at c5
          have HF : Hid (FrontGo cost l n) := ⟨HV.out, ⟨by omega, by omega⟩, by rw [HSK.out]; exact hfin⟩
          go_wp2_with fail
          refine (isPlace_yes _ _ _ (by omega) (by omega)).mono ?_
          rintro e w' ⟨rfl, rfl⟩
          go_wp2_with fail
          refine (kindOf_ask _ s aa ac ca cc).mono ?_
          rintro e w2 ⟨rfl, k2⟩
          have K2 := K1.trans k2
          have hrow2 := HROW.out.kept k2
          obtain ⟨hc2, hf2⟩ := k2.rules
          have hz2 := k2.size
          have y0 : w.heap.size < w2.heap.size := by omega
          have y1 : w.heap.size + 1 < w2.heap.size := by omega
          clear HROW
          have HROW := hide hrow2
          clear hrow2
          go_wp2_with fail
          refine (follow_ask _ s hfin aa ac d ca cc dcap ans hsz (hA.kept k2) (hC.kept k2) hal has (hD.kept K2) (fun h => by have := (HOK.out.2 hfin).1.2.2.2.2.2.2.2; omega) (fun i hi => ((HOK.out.2 hfin).1.2.2.2.1 i hi).1.2.1)).mono ?_
          rintro e w3 ⟨⟨g, rfl, hg⟩, k3⟩
          have K3 := K2.trans k3
          have hrow3 := HROW.out.kept k3
          have hz3 := k3.size
          obtain ⟨hc3, hf3⟩ := k3.rules
          clear HROW
          have HROW := hide hrow3
          obtain ⟨gc, go, gt, gx⟩ := g
          have HG := hide hg
          clear hrow3 k2 k3 K2 hg hA hC
          have hcells : (GoneD.mk gc go gt gx).cells.toArray = #[.int .i64 gc, .bool go, .int .i64 gt, .string gx] := rfl
          rw [hcells]
          clear hcells
          go_wp2
          have hR := World.rangeAt_setCells_same w3 (w.heap.size + 1) 0 (GoneD.mk gc go gt gx).cells (HROW.out.there (o := 0) (m := 4) (Nat.le_refl _))
          exact bodyPost_ret_cell (GoneD.mk gc go gt gx).cells _ Try.results16 rfl hR Try.underlying36 rfl Try.sizeGone rfl ⟨⟨_, rfl, Or.inr ⟨HF.out, by rw [HSK.out]; exact HG.out⟩⟩, Kept.setCells (g := w.heap.size + 1) (by omega) (GoneD.mk gc go gt gx).cells 0 K3⟩
        · cases hbad : s.bad
          · rw [hfin] at c5
            rw [hbad] at c6
            go_wp2_with fail
            refine (isPlace_yes _ _ _ (by omega) (by omega)).mono ?_
            rintro e w' ⟨rfl, rfl⟩
            go_wp2_with fail
            refine (kindOf_good _ s aa ac ca cc).mono ?_
            rintro e w2 ⟨rfl, k2⟩
            have K2 := K1.trans k2
            have hrow2 := HROW.out.kept k2
            obtain ⟨hc2, hf2⟩ := k2.rules
            have hz2 := k2.size
            have y0 : w.heap.size < w2.heap.size := by omega
            have y1 : w.heap.size + 1 < w2.heap.size := by omega
            clear HROW
            have HROW := hide hrow2
            clear hrow2
            go_wp2_with fail
            refine (follow_good _ _ _).mono ?_
            rintro e w3 ⟨rfl, k3⟩
            have K3 := K2.trans k3
            have hrow3 := HROW.out.kept k3
            have hz3 := k3.size
            obtain ⟨hc3, hf3⟩ := k3.rules
            clear HROW
            have HROW := hide hrow3
            clear hrow3 k2 k3 K2
            have hcells : GoneD.none.cells.toArray = #[.int .i64 1, .bool false, .int .i64 0, .string ⟨#[]⟩] := rfl
            rw [hcells]
            clear hcells
            go_wp2
            have hR := World.rangeAt_setCells_same w3 (w.heap.size + 1) 0 GoneD.none.cells (HROW.out.there (o := 0) (m := 4) (Nat.le_refl _))
            exact bodyPost_ret_cell GoneD.none.cells _ Try.results16 rfl hR Try.underlying36 rfl Try.sizeGone rfl ⟨⟨_, rfl, Or.inl ⟨fun h => (by have := h.2.2; rw [HSK.out, hfin] at this; cases this), rfl⟩⟩, Kept.setCells (g := w.heap.size + 1) (by omega) GoneD.none.cells 0 K3⟩
          · rw [hfin] at c5
            rw [hbad] at c6
            go_wp2_with fail
            refine (isPlace_yes _ _ _ (by omega) (by omega)).mono ?_
            rintro e w' ⟨rfl, rfl⟩
            go_wp2_with fail
            refine (kindOf_bad _ s aa ac ca cc).mono ?_
            rintro e w2 ⟨rfl, k2⟩
            have K2 := K1.trans k2
            have hrow2 := HROW.out.kept k2
            obtain ⟨hc2, hf2⟩ := k2.rules
            have hz2 := k2.size
            have y0 : w.heap.size < w2.heap.size := by omega
            have y1 : w.heap.size + 1 < w2.heap.size := by omega
            clear HROW
            have HROW := hide hrow2
            clear hrow2
            go_wp2_with fail
            refine (follow_bad _ _ _).mono ?_
            rintro e w3 ⟨rfl, k3⟩
            have K3 := K2.trans k3
            have hrow3 := HROW.out.kept k3
            have hz3 := k3.size
            obtain ⟨hc3, hf3⟩ := k3.rules
            clear HROW
            have HROW := hide hrow3
            clear hrow3 k2 k3 K2
            have hcells : GoneD.none.cells.toArray = #[.int .i64 1, .bool false, .int .i64 0, .string ⟨#[]⟩] := rfl
            rw [hcells]
            clear hcells
            go_wp2
            have hR := World.rangeAt_setCells_same w3 (w.heap.size + 1) 0 GoneD.none.cells (HROW.out.there (o := 0) (m := 4) (Nat.le_refl _))
            exact bodyPost_ret_cell GoneD.none.cells _ Try.results16 rfl hR Try.underlying36 rfl Try.sizeGone rfl ⟨⟨_, rfl, Or.inl ⟨fun h => (by have := h.2.2; rw [HSK.out, hfin] at this; cases this), rfl⟩⟩, Kept.setCells (g := w.heap.size + 1) (by omega) GoneD.none.cells 0 K3⟩
    · skip
      go_wp2
      have hR := World.rangeAt_setCells_same w1 (w.heap.size + 1) 0 GoneD.none.cells (HROW.out.there (o := 0) (m := 4) (Nat.le_refl _))
      exact bodyPost_ret_cell GoneD.none.cells _ Try.results16 rfl hR Try.underlying36 rfl Try.sizeGone rfl ⟨⟨_, rfl, Or.inl ⟨fun h => (by have := h.2.1; omega), rfl⟩⟩, Kept.setCells (g := w.heap.size + 1) (by omega) GoneD.none.cells 0 K1⟩
  · have HV := hide hno
    clear hno hsay k0 k1
    go_wp2
    have hR := World.rangeAt_setCells_same w1 (w.heap.size + 1) 0 GoneD.none.cells (HROW.out.there (o := 0) (m := 4) (Nat.le_refl _))
    exact bodyPost_ret_cell GoneD.none.cells _ Try.results16 rfl hR Try.underlying36 rfl Try.sizeGone rfl ⟨⟨_, rfl, Or.inl ⟨fun h => HV.out h.1, rfl⟩⟩, Kept.setCells (g := w.heap.size + 1) (by omega) GoneD.none.cells 0 K1⟩

end Go.Proofs.Ytfjbdapblmlneaa
